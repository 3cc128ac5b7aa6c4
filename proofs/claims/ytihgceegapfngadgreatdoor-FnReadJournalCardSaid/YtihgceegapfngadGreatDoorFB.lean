/-
  The framework: regions, functions, laws. Conditions: none.
-/
import Derived.Test.YtihgceegapfngadGreatDoorFC
import Derived.LoopN
import Derived.KernelRfl
import Derived.Lib.Bytealg
import Derived.Lib.ItoaNum
import Derived.Lib.AtoiAll
import Derived.Lib.Join
import Derived.Below
import Derived.WideKeyArgs
import Derived.ChangeSlices
import Derived.WideShapes
import Derived.ChangeSame
import Derived.Lib.LaidTab
import Derived.Stop.LaidErr
import Derived.Shelf.Strings.Search2
import Derived.Shelf.Strconv.Itoa3
import Derived.Shelf.Strconv.AtoiAll
import Derived.Shelf.SlicesE.Clone
import Derived.Shelf.Strings.BuilderK
import Derived.WalkKit
import Derived.Deep.LoopGhost
import Derived.Lib.Walk
set_option linter.unusedSimpArgs false
set_option linter.unusedVariables false
namespace Go.Rv
section
variable {β : Type}
theorem abin_nat (ib:Bool) (op:BinOp) (x y:AV) (k:AV→Option β):abin (optAlg β) ib op x y k=(abin (optAlg AV) ib op x y some).bind k:=by
 unfold abin
 split
 ·split
  ·simp[optAlg,Option.bind_assoc]
  ·simp[optAlg,Option.bind_assoc]
  ·split
   ·split<;>simp[optAlg,Option.bind_assoc]
   ·rfl
 ·split<;>simp[optAlg,Option.bind_assoc]
 ·split
  ·split<;>rfl
  ·rfl
 ·rfl
theorem aun_nat (op:UnOp) (x:AV) (k:AV→Option β):aun (optAlg β) op x k=(aun (optAlg AV) op x some).bind k:=by
 unfold aun
 split<;>rfl
theorem acut_nat {γ:Type} (lo hi:Option AV) (L:Nat) (k:Nat→Nat→Option γ) (j:γ→Option β):acut (optAlg β) lo hi L (fun a b=>(k a b).bind j)=(acut (optAlg γ) lo hi L k).bind j:=by
 unfold acut
 split<;>simp[optAlg,Option.bind_assoc]
theorem aslice_nat (T:TT) (s:St) (t:TypeId) (x:AV) (lo hi:Option AV) (k:AV→Option β):aslice (optAlg β) T s t x lo hi k=(aslice (optAlg AV) T s t x lo hi some).bind k:=by
 have h: ∀(L:Nat) (f:Nat→Nat→AV),acut (optAlg β) lo hi L (fun q r=>k (f q r))=(acut (optAlg AV) lo hi L (fun q r=>some (f q r))).bind k:=fun L f=>by
  rw[←acut_nat];rfl
 unfold aslice
 split
 ·split
  ·split
   ·split
    ·split
     ·exact h _ _
     ·rfl
    ·split
     ·split
      ·exact h _ _
      ·rfl
     ·rfl
    ·split
     ·split
      ·exact h _ _
      ·rfl
     ·rfl
    ·rfl
   ·rfl
  ·split
   ·exact h _ _
   ·rfl
  ·split
   ·split
    ·split
     ·simp only[optAlg,Option.bind_assoc]
      congr 1
      funext x
      exact h _ _
     ·rfl
    ·rfl
   ·rfl
  ·rfl
 ·rfl
theorem aindexAddr_nat (T:TT) (s:St) (t:TypeId) (x i:AV) (k:AV→Option β):aindexAddr (optAlg β) T s t x i k=(aindexAddr (optAlg AV) T s t x i some).bind k:=by
 unfold aindexAddr
 split
 ·split
  ·split
   ·split
    ·split
     ·split<;>simp[optAlg,Option.bind_assoc]
     ·split
      ·split<;>simp[optAlg,Option.bind_assoc]
      ·rfl
     ·split
      ·split<;>simp[optAlg,Option.bind_assoc]
      ·rfl
     ·rfl
    ·rfl
   ·split
    ·split
     ·split
      ·split
       ·simp[optAlg,Option.bind_assoc]
       ·split
        ·split<;>simp[optAlg,Option.bind_assoc]
        ·rfl
      ·split<;>simp[optAlg,Option.bind_assoc]
      ·rfl
     ·split
      ·split<;>simp[optAlg,Option.bind_assoc]
      ·rfl
     ·split
      ·simp[optAlg,Option.bind_assoc]
      ·split
       ·split<;>simp[optAlg,Option.bind_assoc]
       ·rfl
     ·rfl
    ·rfl
   ·rfl
  ·rfl
 ·rfl
theorem fin_nat (b:Bool) (n:Nat) (cs:List AV) (off:Nat) (k:AV→Option β):
  (if b then(if off+n≤cs.length then k (.agg ((cs.drop off).take n)) else(optAlg β).fail) else match cs[off]? with|some a=>k a|none=>(optAlg β).fail)=
  (if b then(if off+n≤cs.length then some (.agg ((cs.drop off).take n)) else(optAlg AV).fail) else match cs[off]? with|some a=>some a|none=>(optAlg AV).fail).bind k:=by
 split
 ·split<;>rfl
 ·split<;>rfl
theorem aload_nat (T:TT) (s:St) (t:TypeId) (p:AV) (k:AV→Option β):aload (optAlg β) T s t p k=(aload (optAlg AV) T s t p some).bind k:=by
 unfold aload
 split
 ·rfl
 ·simp only
  split
  ·exact fin_nat _ _ _ _ _
  ·exact fin_nat _ _ _ _ _
  ·split
   ·simp only[optAlg,Option.bind_assoc]
    congr 1
    funext x
    exact fin_nat _ _ _ _ _
   ·split
    ·simp only[optAlg,Option.bind_assoc]
     congr 1
     funext x
     exact fin_nat _ _ _ _ _
    ·rfl
   ·rfl
  ·split
   ·exact fin_nat _ _ _ _ _
   ·split
    ·simp only[optAlg,Option.bind_assoc]
     congr 1
    ·rfl
   ·rfl
  ·split
   ·simp only[optAlg,Option.bind_assoc]
    congr 1
   ·rfl
  ·rfl
theorem afieldAddr_nat (T:TT) (t:TypeId) (x:AV) (f:Nat) (k:AV→Option β):afieldAddr (optAlg β) T t x f k=(afieldAddr (optAlg AV) T t x f some).bind k:=by
 unfold afieldAddr
 split
 ·split
  ·split
   ·split
    ·split
     ·rfl
     ·split<;>rfl
    ·rfl
   ·rfl
  ·rfl
 ·rfl
theorem afield_nat (T:TT) (t:TypeId) (x:AV) (f:Nat) (k:AV→Option β):afield (optAlg β) T t x f k=(afield (optAlg AV) T t x f some).bind k:=by
 unfold afield
 split
 ·split
  ·split
   ·split
    ·split
     ·split<;>rfl
     ·split<;>rfl
    ·rfl
   ·rfl
  ·rfl
 ·rfl
end
def RowsIn (s t:St):Prop:= ∀(h:Nat) (r:Row),s.heap[h]? =some (some r)→t.heap[h]? =some (some r)
theorem alook_or {β:Type} {k:AV} {hit:Go.Fn→Option β} {miss:Option β} {r:β}: ∀(kvs:List (Value×Go.Fn)),alook (optAlg β) k hit miss kvs=some r→(∃f,hit f=some r)∨miss=some r
 |[],h=> .inr h
 |(c,f)::kvs,h=>by
  unfold alook at h
  split at h
  ·split at h
   ·rename_i n _ m _
    cases hc:(n==m) with
    |true=>rw[hc] at h;exact .inl ⟨f,h⟩
    |false=>rw[hc] at h;exact alook_or kvs h
   ·cases h
  ·rename_i x y
   cases hc:(x==y) with
   |true=>rw[hc] at h;exact .inl ⟨f,h⟩
   |false=>rw[hc] at h;exact alook_or kvs h
  ·cases h
theorem RowsIn.row {s t:St} (h:RowsIn s t) {g:Nat} {r:Row} (hr:s.row g=some r):t.row g=some r:=by
 have:=h g r (row_eq hr)
 simp[St.row,this]
def RowsAt (x:AV) (s t:St):Prop:= ∀g∈x.ids,∀r,s.heap[g]? =some (some r)→t.heap[g]? =some (some r)
theorem RowsAt.row {x:AV} {s t:St} (h:RowsAt x s t) {g:Nat} (hg:g∈x.ids) {r:Row} (hr:s.row g=some r):t.row g=some r:=by
 have:=h g hg r (row_eq hr)
 simp[St.row,this]
def Sees (o:Oper) (s t:St):Prop:= ∀x∈o.op.operands.toList,∀a,evalO s x=some a→RowsAt a s t
theorem RowsIn.sees {s t:St} (h:RowsIn s t) (o:Oper):Sees o s t:=fun _ _ _ _ g _ r hr=>h g r hr
theorem alen_rows {s t:St} {x:AV} {n:Nat} (h:RowsAt x s t) (hn:alen s x=some n):alen t x=some n:=by
 unfold alen at*
 split at hn<;>try exact hn
 ·rename_i g
  split at hn
  ·rename_i u xs hr
   simp only[h.row (by simp[AV.ids]) hr]
   exact hn
  ·cases hn
theorem aslice_rows {T:TT} {s t:St} {ty:TypeId} {x:AV} {lo hi:Option AV} {a:AV} (h:RowsAt x s t) (ha:aslice (optAlg AV) T s ty x lo hi some=some a):aslice (optAlg AV) T t ty x lo hi some=some a:=by
 unfold aslice at*
 split at ha
 ·split at ha
  ·split at ha
   ·split at ha
    ·exact ha
    ·split at ha
     ·rename_i hr
      simp only[h.row (by simp[AV.ids]) hr]
      exact ha
     ·cases ha
    ·split at ha
     ·rename_i hr
      simp only[h.row (by simp[AV.ids]) hr]
      exact ha
     ·cases ha
    ·cases ha
   ·cases ha
  ·exact ha
  ·exact ha
  ·cases ha
 ·cases ha
theorem aindexAddr_rows {T:TT} {s t:St} {ty:TypeId} {x i:AV} {a:AV} (h:RowsAt x s t) (ha:aindexAddr (optAlg AV) T s ty x i some=some a):aindexAddr (optAlg AV) T t ty x i some=some a:=by
 unfold aindexAddr at*
 split at ha
 ·split at ha
  ·split at ha
   ·split at ha
    ·split at ha
     ·exact ha
     ·split at ha
      ·rename_i hr
       simp only[h.row (by simp[AV.ids]) hr]
       exact ha
      ·cases ha
     ·split at ha
      ·rename_i hr
       simp only[h.row (by simp[AV.ids]) hr]
       exact ha
      ·cases ha
     ·cases ha
    ·cases ha
   ·split at ha
    ·split at ha
     ·split at ha
      ·rename_i hr
       simp only[h.row (by simp[AV.ids]) hr]
       exact ha
      ·rename_i hr
       simp only[h.row (by simp[AV.ids]) hr]
       exact ha
      ·cases ha
     ·split at ha
      ·rename_i hr
       simp only[h.row (by simp[AV.ids]) hr]
       exact ha
      ·cases ha
     ·exact ha
     ·cases ha
    ·cases ha
   ·cases ha
  ·cases ha
 ·cases ha
theorem aload_rows {T:TT} {s t:St} {ty:TypeId} {p:AV} {a:AV} (h:RowsAt p s t) (ha:aload (optAlg AV) T s ty p some=some a):aload (optAlg AV) T t ty p some=some a:=by
 unfold aload at*
 split at ha
 ·cases ha
 ·simp only at ha⊢
  split at ha
  ·exact ha
  ·exact ha
  ·split at ha
   ·rename_i hr
    simp only[h.row (by simp[AV.ids]) hr]
    exact ha
   ·rename_i hr
    simp only[h.row (by simp[AV.ids]) hr]
    exact ha
   ·cases ha
  ·split at ha
   ·rename_i hr
    simp only[h.row (by simp[AV.ids]) hr]
    exact ha
   ·rename_i hr
    simp only[h.row (by simp[AV.ids]) hr]
    exact ha
   ·cases ha
  ·exact ha
  ·cases ha
theorem alen_plain {s t:St} {x:AV} (h:x.ids=[]):alen t x=alen s x:=by
 cases x<;>simp[AV.ids] at h<;>first|rfl|(rename_i u y;cases u<;>rfl)
theorem aslice_plain {T:TT} {s t:St} {ty:TypeId} {x:AV} {lo hi:Option AV} (h:x.ids=[]):aslice (optAlg AV) T t ty x lo hi some=aslice (optAlg AV) T s ty x lo hi some:=by
 cases x<;>simp[AV.ids] at h<;>first|rfl|(rename_i u y;cases u<;>rfl)
theorem aindexAddr_plain {T:TT} {s t:St} {ty:TypeId} {x i:AV} (h:x.ids=[]):aindexAddr (optAlg AV) T t ty x i some=aindexAddr (optAlg AV) T s ty x i some:=by
 cases x<;>simp[AV.ids] at h<;>first|rfl|(rename_i u y;cases u<;>rfl)
theorem aload_plain {T:TT} {s t:St} {ty:TypeId} {p:AV} (h:p.ids=[]):aload (optAlg AV) T t ty p some=aload (optAlg AV) T s ty p some:=by
 cases p<;>simp[AV.ids] at h<;>first|rfl|(rename_i u y;cases u<;>rfl)
theorem plain_get {o:Oper} {s:St} (h:plainOps o s=true) {x:Operand} (hx:x∈o.op.operands.toList) {a:AV} (ha:evalO s x=some a):a.ids=[]:=by
 have:=List.all_eq_true.1 h x hx
 rw[ha] at this
 simpa using this
end Go.Rv
set_option linter.unusedSimpArgs false
set_option linter.unusedVariables false
namespace Go.Rv
theorem bind_some_opt {α β:Type} {o:Option α} {f:α→Option β} {r:β} (h:o.bind f=some r): ∃a,o=some a∧f a=some r:=by
 cases o with
 |none=>simp at h
 |some a=>exact⟨a,rfl,by simpa using h⟩
theorem evalOp_same {s t:St} {x:Option Operand} (h: ∀y,x=some y→evalO t y=evalO s y):evalOp t x=evalOp s x:=by
 cases x with
 |none=>rfl
 |some y=>simp only[evalOp,h y rfl]
theorem argsAV_same {s t:St}: ∀{xs:List Operand},(∀x∈xs,evalO t x=evalO s x)→argsAV t xs=argsAV s xs
 |[],_=>rfl
 |x::r,h=>by simp only[argsAV,h x (by simp),argsAV_same (fun y hy=>h y (List.mem_cons_of_mem _ hy))]
theorem partsAV_same {s t:St}: ∀{xs:List (Nat×Operand)},(∀x∈xs.map (·.2),evalO t x=evalO s x)→partsAV t xs=partsAV s xs
 |[],_=>rfl
 |x::r,h=>by
  obtain⟨i,y⟩:=x
  simp only[partsAV,h y (by simp),partsAV_same (xs:=r) (fun y hy=>h y (by simp at hy⊢;exact .inr hy))]
theorem pure_step {C:Ctx} {base:Nat} {o:Oper} {s s1:St} (hp:pureOp o.op=true) (h:cstep (optAlg St) C base o s some=some s1):
  ∃a,s1=s.put o.dst a∧ ∀(base':Nat) (t:St),(∀x∈o.op.operands.toList,evalO t x=evalO s x)→(heapFree o.op=true∨plainOps o s=true∨Sees o s t)→cstep (optAlg St) C base' o t some=some (t.put o.dst a):=by
 obtain⟨odst,oop,otype,opos,oafter,oguard⟩:=o
 simp only at hp⊢
 unfold cstep at h⊢
 cases oop<;>(try cases hp)<;>simp only[Op.operands,Array.toList,List.mem_cons,List.not_mem_nil,or_false,forall_eq_or_imp,forall_eq] at h⊢
 case move x=>
  obtain⟨a,ha,h⟩:=lift_opt h
  cases h
  refine⟨a,rfl,fun _ t ht _=> ?_⟩
  rw[ht,ha];rfl
 case pick c x y=>
  obtain⟨c1,hc,h⟩:=lift_opt h
  split at h
  ·rename_i g
   obtain⟨x1,hx,h⟩:=lift_opt h
   obtain⟨y1,hy,h⟩:=lift_opt h
   cases h
   refine⟨_,rfl,fun _ t ht _=> ?_⟩
   rw[ht.1,ht.2.1,ht.2.2,hc,hx,hy];rfl
  ·cases h
 case build ty ps=>
  split at h
  ·rename_i ti l hti hl
   split at h
   ·rename_i fs hk
    split at h
    ·rename_i hall
     obtain⟨cs,hcs,h⟩:=lift_opt h
     cases h
     refine⟨_,rfl,fun _ t ht _=> ?_⟩
     have e:partsAV t ps.toList=some l:=by
      rw[←hl];exact partsAV_same (fun x hx=>ht x hx)
     simp only[hti,e,hk,hall,if_true,hcs,lift]
    ·cases h
   ·cases h
  ·cases h
 case load ty p=>
  obtain⟨p1,hp1,h⟩:=lift_opt h
  rw[aload_nat] at h
  obtain⟨a,ha,h⟩:=bind_some_opt h
  cases h
  refine⟨a,rfl,fun _ t ht hr=> ?_⟩
  rw[ht,hp1]
  simp only[lift]
  have hl:aload (optAlg AV) C.T t ty p1 some=some a:=by
   rcases hr.resolve_left (by simp[heapFree]) with hpl|hr
   ·rw[aload_plain (s:=s) (plain_get hpl (x:=p) (by simp[Op.operands]) hp1)];exact ha
   ·exact aload_rows (hr p (by simp[Op.operands]) _ hp1) ha
  rw[aload_nat,hl]
  rfl
 case nilCheck x=>
  obtain⟨a,ha,h⟩:=lift_opt h
  split at h
  all_goals first
   |(cases h
     refine⟨_,rfl,fun _ t ht _=> ?_⟩
     rw[ht,ha];rfl)
   |cases h
 case binOp op ty x y yt=>
  obtain⟨x1,hx,h⟩:=lift_opt h
  obtain⟨y1,hy,h⟩:=lift_opt h
  rw[abin_nat] at h
  obtain⟨a,ha,h⟩:=bind_some_opt h
  cases h
  refine⟨a,rfl,fun _ t ht _=> ?_⟩
  rw[ht.1,ht.2,hx,hy]
  simp only[lift]
  rw[abin_nat,ha]
  rfl
 case unOp op ty x=>
  obtain⟨x1,hx,h⟩:=lift_opt h
  rw[aun_nat] at h
  obtain⟨a,ha,h⟩:=bind_some_opt h
  cases h
  refine⟨a,rfl,fun _ t ht _=> ?_⟩
  rw[ht,hx]
  simp only[lift]
  rw[aun_nat,ha]
  rfl
 case convert st dt x=>
  obtain⟨x1,hx,h⟩:=lift_opt h
  split at h
  ·rename_i t1 ti k n h1 h2
   split at h
   ·rename_i k' hk'
    cases h
    refine⟨_,rfl,fun _ t ht _=> ?_⟩
    rw[ht,hx]
    simp only[lift,h1,h2,hk']
   ·cases h
  ·rename_i si ti ys h1 h2
   split at h
   ·rename_i e hsk htk
    split at h
    ·rename_i ie hie
     split at h
     ·rename_i hik
      cases h
      refine⟨_,rfl,fun _ t ht _=> ?_⟩
      rw[ht,hx]
      simp only[lift,h1,h2,hsk,htk,hie,hik]
     ·cases h
    ·cases h
   ·cases h
  ·cases h
 case makeFunc fn first caps=>
  cases fn<;>(try simp only at h)<;>(try cases h)
  case func f=>
   split at h
   ·rename_i xa xb hfa hfb
    cases h
    refine⟨_,rfl,fun _ t ht _=> ?_⟩
    have e1:argsAV t first.toList=some xa:=by rw[←hfa];exact argsAV_same (fun x hx=>ht x (by simp;exact .inl (by simpa using hx)))
    have e2:argsAV t caps.toList=some xb:=by rw[←hfb];exact argsAV_same (fun x hx=>ht x (by simp;exact .inr (by simpa using hx)))
    simp only[e1,e2]
   ·cases h
 case slice ty x lo hi mx=>
  cases mx with
  |some m=>cases h
  |none=>
   simp only at h
   split at h
   ·rename_i b l hh hx hl hh'
    rw[aslice_nat] at h
    obtain⟨a,ha,h⟩:=bind_some_opt h
    cases h
    refine⟨a,rfl,fun _ t ht hr=> ?_⟩
    have e1:evalO t x=some b:=by rw[←hx];exact ht x (by simp)
    have e2:evalOp t lo=some l:=by rw[←hl];exact evalOp_same (fun y hy=>ht y (by subst hy;simp))
    have e3:evalOp t hi=some hh:=by rw[←hh'];exact evalOp_same (fun y hy=>ht y (by subst hy;simp))
    simp only[e1,e2,e3]
    have hsl:aslice (optAlg AV) C.T t ty b l hh some=some a:=by
     rcases hr.resolve_left (by simp[heapFree]) with hpl|hr
     ·rw[aslice_plain (s:=s) (plain_get hpl (x:=x) (by simp[Op.operands]) hx)];exact ha
     ·exact aslice_rows (hr x (by simp[Op.operands]) _ hx) ha
    rw[aslice_nat,hsl]
    rfl
   ·cases h
 case fieldAddr ty x f=>
  obtain⟨x1,hx,h⟩:=lift_opt h
  rw[afieldAddr_nat] at h
  obtain⟨a,ha,h⟩:=bind_some_opt h
  cases h
  refine⟨a,rfl,fun _ t ht _=> ?_⟩
  rw[ht,hx]
  simp only[lift]
  rw[afieldAddr_nat,ha]
  rfl
 case field ty x f=>
  obtain⟨x1,hx,h⟩:=lift_opt h
  rw[afield_nat] at h
  obtain⟨a,ha,h⟩:=bind_some_opt h
  cases h
  refine⟨a,rfl,fun _ t ht _=> ?_⟩
  rw[ht,hx]
  simp only[lift]
  rw[afield_nat,ha]
  rfl
 case indexAddr ty x i=>
  obtain⟨x1,hx,h⟩:=lift_opt h
  obtain⟨i1,hi,h⟩:=lift_opt h
  rw[aindexAddr_nat] at h
  obtain⟨a,ha,h⟩:=bind_some_opt h
  cases h
  refine⟨a,rfl,fun _ t ht hr=> ?_⟩
  rw[ht.1,ht.2,hx,hi]
  simp only[lift]
  have hil:aindexAddr (optAlg AV) C.T t ty x1 i1 some=some a:=by
   rcases hr.resolve_left (by simp[heapFree]) with hpl|hr
   ·rw[aindexAddr_plain (s:=s) (plain_get hpl (x:=x) (by simp[Op.operands]) hx)];exact ha
   ·exact aindexAddr_rows (hr x (by simp[Op.operands]) _ hx) ha
  rw[aindexAddr_nat,hil]
  rfl
 case index ty x i=>
  split at h
  ·rename_i ti b k n hti hx hi
   split at h
   ·rename_i hks
    obtain⟨m,hm,h⟩:=bind_some_opt h
    cases h
    refine⟨_,rfl,fun _ t ht _=> ?_⟩
    rw[ht.1,ht.2]
    simp only[hti,hx,hi,hks,optAlg,hm]
    rfl
   ·cases h
  ·rename_i ti cs k n hti hx hi
   split at h
   ·rename_i c e hks
    obtain⟨q,hq,h⟩:=lift_opt h
    obtain⟨m,hm,h⟩:=bind_some_opt h
    cases h
    refine⟨_,rfl,fun _ t ht _=> ?_⟩
    rw[ht.1,ht.2]
    simp only[hti,hx,hi,hks,optAlg,hq,lift,hm]
    rfl
   ·cases h
  ·cases h
 case extract x i=>
  obtain⟨x1,hx,h⟩:=lift_opt h
  split at h
  ·rename_i cs
   obtain⟨y,hy,h⟩:=lift_opt h
   cases h
   refine⟨_,rfl,fun _ t ht _=> ?_⟩
   rw[ht,hx]
   simp only[lift,hy]
  ·cases h
 case call c=>
  obtain⟨callee,cargs,ctypes⟩:=c
  cases callee<;>(try cases hp)
  case builtin b=>
   cases b<;>(try cases hp)
   case len=>
    simp only at h⊢
    split at h
    ·rename_i x tt hxs hts
     obtain⟨x1,hx,h⟩:=lift_opt h
     have hx': ∀t:St,(∀y∈(Call.operands ⟨.builtin .len,cargs,ctypes⟩).toList,evalO t y=evalO s y)→evalO t x=some x1:=fun t ht=>by
      rw[←hx]
      refine ht x ?_
      have e1:=arr1 hxs
      subst e1
      simp[Call.operands]
     have hlen: ∀(t:St) (n:Nat),(heapFree (.call ⟨.builtin .len,cargs,ctypes⟩)=true∨plainOps ⟨odst,.call ⟨.builtin .len,cargs,ctypes⟩,otype,opos,oafter,oguard⟩ s=true∨Sees ⟨odst,.call ⟨.builtin .len,cargs,ctypes⟩,otype,opos,oafter,oguard⟩ s t)→alen s x1=some n→alen t x1=some n:=fun t n hr hn=>by
      rcases hr.resolve_left (by simp[heapFree]) with hpl|hr
      ·rw[alen_plain (s:=s) (plain_get hpl (x:=x) (by
        have e1:=arr1 hxs
        subst e1
        simp[Op.operands,Call.operands]) hx)];exact hn
      ·exact alen_rows (hr x (by
        have e1:=arr1 hxs
        subst e1
        simp[Op.operands,Call.operands]) _ hx) hn
     split at h
     ·rename_i ti hti
      split at h
      ·cases h
      ·cases h
      ·rename_i hks
       obtain⟨n,hn,h⟩:=lift_opt h
       cases h
       refine⟨_,rfl,fun _ t ht hr=> ?_⟩
       simp only[hxs,hts,hx' t ht,lift,hti,hks,hlen t n hr hn]
      ·rename_i hks hne
       obtain⟨n,hn,h⟩:=lift_opt h
       cases h
       refine⟨_,rfl,fun _ t ht hr=> ?_⟩
       simp only[hxs,hts,hx' t ht,lift,hti,hks,hlen t n hr hn]
      ·cases h
     ·cases h
    ·cases h
   case max=>
    simp only at h⊢
    split at h
    ·rename_i k n r hargs
     obtain⟨m,hm,h⟩:=lift_opt h
     cases h
     refine⟨_,rfl,fun _ t ht hr=> ?_⟩
     have e:argsAV t cargs.toList=some (.dat (.int k) n::r):=by
      rw[←hargs];exact argsAV_same (fun x hx=>ht x (by simpa[Call.operands] using hx))
     simp only[e,hm,lift]
    ·cases h
   case min=>
    simp only at h⊢
    split at h
    ·rename_i k n r hargs
     obtain⟨m,hm,h⟩:=lift_opt h
     cases h
     refine⟨_,rfl,fun _ t ht hr=> ?_⟩
     have e:argsAV t cargs.toList=some (.dat (.int k) n::r):=by
      rw[←hargs];exact argsAV_same (fun x hx=>ht x (by simpa[Call.operands] using hx))
     simp only[e,hm,lift]
    ·cases h
end Go.Rv
set_option linter.unusedSimpArgs false
set_option linter.unusedVariables false
namespace Go.Rv
theorem put_row (s:St) (d:Option Tmp) (a:AV) (h:Nat):(s.put d a).row h=s.row h:=by cases d<;>rfl
theorem put_heap (s:St) (d:Option Tmp) (a:AV):(s.put d a).heap=s.heap:=by cases d<;>rfl
theorem put_comm {s:St} {d e:Option Tmp} {a b:AV} (h: ∀t,d=some t→e≠some t):(s.put d a).put e b=(s.put e b).put d a:=by
 cases d with
 |none=>rfl
 |some t=>
  cases e with
  |none=>rfl
  |some u=>
   have hne:t≠u:=fun hh=>h t rfl (by rw[hh])
   simp only[St.put]
   rw[List.set_comm _ _ hne]
theorem evalO_put {s:St} {d:Option Tmp} {a:AV} {x:Operand} (h: ∀t,d=some t→x≠ .tmp t):evalO (s.put d a) x=evalO s x:=by
 cases d with
 |none=>rfl
 |some t=>
  cases x with
  |tmp u=>
   have hne:t≠u:=fun hh=>h t rfl (by rw[hh])
   simp[evalO,St.put,List.getElem?_set_ne hne]
  |_=>rfl
section
variable {β : Type} {s : St} {d : Option Tmp} {a : AV}
theorem alen_put (x:AV):alen (s.put d a) x=alen s x:=by
 unfold alen
 simp only[put_row]
theorem elems_put (u:Ty) (x:AV):elems (s.put d a) u x=elems s u x:=by
 unfold elems
 simp only[put_row]
theorem aslice_put (A:Alg (Option β)) (T:TT) (t:TypeId) (x:AV) (lo hi:Option AV) (k:AV→Option β):aslice A T (s.put d a) t x lo hi k=aslice A T s t x lo hi k:=by
 unfold aslice
 simp only[put_row]
theorem aindexAddr_put (A:Alg (Option β)) (T:TT) (t:TypeId) (x i:AV) (k:AV→Option β):aindexAddr A T (s.put d a) t x i k=aindexAddr A T s t x i k:=by
 unfold aindexAddr
 simp only[put_row]
theorem aload_put (A:Alg (Option β)) (T:TT) (t:TypeId) (p:AV) (k:AV→Option β):aload A T (s.put d a) t p k=aload A T s t p k:=by
 unfold aload
 simp only[put_row]
theorem setRow_put (h:Nat) (r:Row):(s.put d a).setRow h r=(s.setRow h r).put d a:=by cases d<;>rfl
theorem allocRow_put (base:Nat) (r:Row) (k:St→Option β):allocRow (optAlg β) (s.put d a) base r k=allocRow (optAlg β) s base r (fun s'=>k (s'.put d a)):=by
 unfold allocRow
 rw[put_heap]
 split
 ·rw[setRow_put]
 ·rfl
theorem astore_put (T:TT) (t:TypeId) (p v:AV) (k:St→Option β):astore (optAlg β) T (s.put d a) t p v k=astore (optAlg β) T s t p v (fun s'=>k (s'.put d a)):=by
 unfold astore
 simp only[put_row,setRow_put]
theorem acopy_put (T:TT) (t:TypeId) (x y:AV) (k:AV→St→Option β):acopy (optAlg β) T (s.put d a) t x y k=acopy (optAlg β) T s t x y (fun n s'=>k n (s'.put d a)):=by
 unfold acopy
 simp only[put_row,setRow_put,elems_put]
theorem handArg0_put (T:TT) (io:Bool) (t:TypeId) (x:AV):handArg0 (s.put d a) T io t x=handArg0 s T io t x:=by
 unfold handArg0
 simp only[put_row]
theorem handCells_put: ∀(cs:List AV),handCells (s.put d a) cs=handCells s cs
 |[]=>rfl
 |x::r=>by
  have e:handCell (s.put d a) x=handCell s x:=by
   unfold handCell
   split
   ·exact handArg0_put _ _ _ _
   ·exact handArg0_put _ _ _ _
   ·rfl
  simp only[handCells,e,handCells_put r]
theorem handArg_put (T:TT) (io:Bool) (t:TypeId) (x:AV):handArg (s.put d a) T io t x=handArg s T io t x:=by
 unfold handArg
 split
 ·rw[handCells_put]
 ·exact handArg0_put _ _ _ _
theorem handArgs_put (T:TT) (io:Nat→Bool): ∀(xs:List AV) (n:Nat) (ts:List TypeId),handArgs (s.put d a) T io n ts xs=handArgs s T io n ts xs
 |[],_,_=>by simp[handArgs]
 |x::r,n,[]=>by simp[handArgs]
 |x::r,n,t::ts=>by
  have e0: ∀x:AV,capAV (s.put d a) x=capAV s x:=fun x=>by
   unfold capAV
   simp only[put_row]
  have e1: ∀xs:List AV,capsAV (s.put d a) xs=capsAV s xs:=fun xs=>by
   induction xs with
   |nil=>rfl
   |cons x r ih=>simp only[capsAV,e0,ih]
  have e:tabArg (s.put d a) x=tabArg s x:=by
   unfold tabArg
   simp only[put_row,e1]
  simp only[handArgs,handArg_put,e,handArgs_put T io r]
theorem acall_put (C:Ctx) (base:Nat) (f:FuncId) (args:List AV) (types:List TypeId) (k:AV→St→Option β):
  acall (optAlg β) C base (s.put d a) f args types k=acall (optAlg β) C base s f args types (fun v s'=>k v (s'.put d a)):=by
 cases d with
 |none=>rfl
 |some t=>
  unfold acall
  rw[handArgs_put]
  rfl
theorem lift_same {α:Type} {x y:Option α} {k j:α→Option β} (h:x=y) (hk: ∀b,k b=j b):lift (optAlg β) x k=lift (optAlg β) y j:=by
 subst h
 cases x with
 |none=>rfl
 |some b=>exact hk b
theorem opt_same {α:Type} {x:Option α} {k j:α→Option β} (hk: ∀b,k b=j b):(optAlg β).bind x k=(optAlg β).bind x j:=by
 have:k=j:=funext hk
 rw[this]
theorem cstep_put {C:Ctx} {base:Nat} {o:Oper} (k:St→Option β) (hap:isAppend o.op=true→nilAppend o s=true) (h1: ∀t,d=some t→Operand.tmp t∉o.op.operands.toList) (h2: ∀t,d=some t→o.dst≠some t):
  cstep (optAlg β) C base o (s.put d a) k=cstep (optAlg β) C base o s (fun s'=>k (s'.put d a)):=by
 have hev: ∀x∈o.op.operands.toList,evalO (s.put d a) x=evalO s x:=fun x hx=>evalO_put (fun t ht e=>h1 t ht (e▸hx))
 have hout: ∀(s':St) (v:AV),(s'.put d a).put o.dst v=(s'.put o.dst v).put d a:=fun s' v=>put_comm h2
 obtain⟨odst,oop,otype,opos,oafter,oguard⟩:=o
 simp only at hap hev hout
 unfold cstep
 cases oop<;>simp only[Op.operands,Array.toList,List.mem_cons,List.not_mem_nil,or_false,forall_eq_or_imp,forall_eq] at hev⊢
 case move x=>exact lift_same hev (fun v=>by rw[hout])
 case assign x=>
  refine lift_same hev (fun v=> ?_)
  split
  ·split
   ·split
    ·rw[allocRow_put]
     simp only[hout]
    ·rfl
   ·rfl
  ·rw[hout]
 case pick c x y=>
  refine lift_same hev.1 (fun v=> ?_)
  split
  ·exact lift_same hev.2.1 (fun _=>lift_same hev.2.2 (fun _=>by rw[hout]))
  ·rfl
 case alloc e=>
  split
  ·split
   ·split
    ·split
     ·split
      ·rw[allocRow_put]
       simp only[hout]
      ·rfl
     ·rfl
    ·rfl
   ·split
    ·rw[allocRow_put]
     simp only[hout]
    ·rfl
  ·rfl
 case box e x=>
  refine lift_same hev (fun v=> ?_)
  split
  ·split
   ·rw[allocRow_put]
    simp only[hout]
   ·rfl
  ·split
   ·rw[allocRow_put]
    simp only[hout]
   ·rfl
 case build t ps=>
  have e:partsAV (s.put d a) ps.toList=partsAV s ps.toList:=partsAV_same (fun x hx=>hev x hx)
  rw[e]
  split
  ·split
   ·split
    ·exact lift_same rfl (fun _=>by rw[hout])
    ·rfl
   ·rfl
  ·rfl
 case buildSlice t n ps=>
  have e:partsAV (s.put d a) ps.toList=partsAV s ps.toList:=partsAV_same (fun x hx=>hev x hx)
  rw[e]
  split
  ·split
   ·split
    ·split
     ·have eh:(s.put d a).heap=s.heap:=by cases d<;>rfl
      rw[allocRow_put,eh]
      simp only[hout]
     ·rfl
    ·rfl
   ·rfl
  ·rfl
 case makeSlice t l c=>
  rw[hev.1,hev.2]
  split
  ·split
   ·split
    ·refine opt_same (fun q=> ?_)
     rw[allocRow_put]
     simp only[hout]
    ·rfl
   ·rfl
  ·rfl
 case load t p=>exact lift_same hev (fun v=>by rw[aload_put];simp only[hout])
 case store t p v=>exact lift_same hev.1 (fun _=>lift_same hev.2 (fun _=>by rw[astore_put];simp only[hout]))
 case nilCheck x=>
  refine lift_same hev (fun v=> ?_)
  split<;>first|(rw[hout])|rfl
 case binOp op t x y yt=>exact lift_same hev.1 (fun _=>lift_same hev.2 (fun _=>by simp only[hout]))
 case unOp op t x=>exact lift_same hev (fun _=>by simp only[hout])
 case convert st dt x=>
  refine lift_same hev (fun v=> ?_)
  split
  ·split
   ·rw[hout]
   ·rfl
  ·split
   ·split
    ·split
     ·rw[hout]
     ·rfl
    ·rfl
   ·rfl
  ·rfl
 case lookup t x kx ok=>
  exact lift_same hev.1 (fun _=>lift_same hev.2 (fun _=>by simp only[hout]))
 case makeFunc fn first caps=>
  cases fn<;>(try rfl)
  simp only
  have e1:argsAV (s.put d a) first.toList=argsAV s first.toList:=argsAV_same (fun x hx=>hev x (by simp;exact .inl (by simpa using hx)))
  have e2:argsAV (s.put d a) caps.toList=argsAV s caps.toList:=argsAV_same (fun x hx=>hev x (by simp;exact .inr (by simpa using hx)))
  rw[e1,e2]
  split
  ·rw[hout]
  ·rfl
 case slice t x lo hi mx=>
  cases mx with
  |some m=>rfl
  |none=>
   simp only
   have e1:evalO (s.put d a) x=evalO s x:=hev x (by simp)
   have e2:evalOp (s.put d a) lo=evalOp s lo:=evalOp_same (fun y hy=>hev y (by subst hy;simp))
   have e3:evalOp (s.put d a) hi=evalOp s hi:=evalOp_same (fun y hy=>hev y (by subst hy;simp))
   rw[e1,e2,e3]
   split
   ·rw[aslice_put]
    simp only[hout]
   ·rfl
 case fieldAddr t x f=>exact lift_same hev (fun _=>by simp only[hout])
 case field t x f=>exact lift_same hev (fun _=>by simp only[hout])
 case indexAddr t x i=>exact lift_same hev.1 (fun _=>lift_same hev.2 (fun _=>by rw[aindexAddr_put];simp only[hout]))
 case index t x i=>
  rw[hev.1,hev.2]
  split
  ·split
   ·exact opt_same (fun _=>by rw[hout])
   ·rfl
  ·split
   ·exact lift_same rfl (fun _=>opt_same (fun _=>by rw[hout]))
   ·rfl
  ·rfl
 case extract x i=>
  refine lift_same hev (fun v=> ?_)
  split
  ·exact lift_same rfl (fun _=>by rw[hout])
  ·rfl
 case call c=>
  obtain⟨callee,cargs,ctypes⟩:=c
  cases callee<;>(try rfl)
  case value f=>
   have e0:evalO (s.put d a) f=evalO s f:=hev f (by simp[Call.operands])
   have e1:argsAV (s.put d a) cargs.toList=argsAV s cargs.toList:=argsAV_same (fun x hx=>hev x (by simp[Call.operands];exact .inr (by simpa using hx)))
   refine lift_same e0 (fun v=> ?_)
   split
   ·rw[e1]
    show(match argsAV s cargs.toList with|some args=>_|none=>_)=(match argsAV s cargs.toList with|some args=>_|none=>_)
    cases argsAV s cargs.toList with
    |none=>rfl
    |some args=>
     simp only
     rw[acall_put]
     simp only[hout]
   ·rfl
  case builtin b=>
   have e1: ∀x∈cargs.toList,evalO (s.put d a) x=evalO s x:=fun x hx=>hev x (by simpa[Call.operands] using hx)
   cases b<;>(try rfl)
   case len=>
    simp only
    split
    ·rename_i x t hxs hts
     refine lift_same (e1 x (by rw[hxs];simp)) (fun v=> ?_)
     split
     ·split<;>first|rfl|exact lift_same (alen_put _) (fun _=>by rw[hout])
     ·rfl
    ·rfl
   case append=>
    have hn:=hap rfl
    simp only[nilAppend] at hn
    simp only
    split
    ·rename_i x y t t2 hxs hts
     rw[hxs] at hn
     simp only at hn
     have ex:evalO s x=some .nils:=by
      split at hn
      ·assumption
      ·cases hn
     rw[e1 x (by rw[hxs];simp),e1 y (by rw[hxs];simp),ex]
     split
     ·simp only[lift]
      cases evalO s y with
      |none=>rfl
      |some y=>
       simp only[aappend]
       split
       ·split
        ·split
         ·rw[elems_put]
          split
          ·exact opt_same (fun _=>by rw[allocRow_put];simp only[hout])
          ·rfl
         ·rfl
        ·rfl
       ·rfl
     ·rfl
    ·rfl
   case copy=>
    simp only
    split
    ·rename_i x y t t2 hxs hts
     refine lift_same (e1 x (by rw[hxs];simp)) (fun v=>lift_same (e1 y (by rw[hxs];simp)) (fun u=> ?_))
     rw[acopy_put]
     simp only[hout]
    ·rfl
   case max=>
    simp only
    rw[argsAV_same e1]
    split
    ·exact lift_same rfl (fun _=>by rw[hout])
    ·rfl
   case min=>
    simp only
    rw[argsAV_same e1]
    split
    ·exact lift_same rfl (fun _=>by rw[hout])
    ·rfl
 all_goals rfl
end
end Go.Rv
set_option linter.unusedSimpArgs false
set_option linter.unusedVariables false
namespace Go.Rv
def RowsIn' (H H':Heap):Prop:= ∀(h:Nat) (r:Row),H[h]? =some (some r)→H'[h]? =some (some r)
theorem RowsIn'.refl (H:Heap):RowsIn' H H:=fun _ _ h=>h
theorem rows_set {H:Heap} {base:Nat} {r:Row} (h:H[base]? =some none):RowsIn' H (H.set base (some r)):=fun g r0 hg=>by
 have hne:base≠g:=fun e=>by subst e;rw[h] at hg;simp at hg
 rw[List.getElem?_set_ne hne];exact hg
theorem step_shape {C:Ctx} {base:Nat} {o:Oper} {s s1:St} (hap:isAppend o.op=true→nilAppend o s=true) (h:cstep (optAlg St) C base o s some=some s1):
  ∃(v:AV) (H:Heap),s1=(⟨s.env,H⟩:St).put o.dst v∧ ∀(calm:List Nat) (i:Nat),calmKind calm i o.op=true→calmNow C calm i o s=true→RowsIn' s.heap H:=by
 obtain⟨odst,oop,otype,opos,oafter,oguard⟩:=o
 simp only at hap⊢
 have hout: ∀{v:AV} {s1:St},some (s.put odst v)=some s1→ ∃(v:AV) (H:Heap),s1=(⟨s.env,H⟩:St).put odst v∧ ∀(calm:List Nat) (i:Nat),calmKind calm i oop=true→calmNow C calm i ⟨odst,oop,otype,opos,oafter,oguard⟩ s=true→RowsIn' s.heap H:=fun {v s1} e=>by
  cases e
  exact⟨v,s.heap,rfl,fun _ _ _ _=>RowsIn'.refl _⟩
 have halloc: ∀{r:Row} {v:AV} {s1:St},allocRow (optAlg St) s base r (fun s'=>some (s'.put odst v))=some s1→ ∃(v:AV) (H:Heap),s1=(⟨s.env,H⟩:St).put odst v∧ ∀(calm:List Nat) (i:Nat),calmKind calm i oop=true→calmNow C calm i ⟨odst,oop,otype,opos,oafter,oguard⟩ s=true→RowsIn' s.heap H:=fun {r v s1} e=>by
  obtain⟨hfree,e⟩:=allocRow_opt e
  cases e
  exact⟨v,_,rfl,fun _ _ _ _=>rows_set hfree⟩
 unfold cstep at h
 cases oop<;>simp only at h
 case move x=>obtain⟨a,_,h⟩:=lift_opt h;exact hout h
 case assign x=>
  obtain⟨a,_,h⟩:=lift_opt h
  split at h
  ·split at h
   ·split at h
    ·exact halloc h
    ·cases h
   ·cases h
  ·exact hout h
 case pick c x y=>
  obtain⟨a,_,h⟩:=lift_opt h
  split at h
  ·obtain⟨_,_,h⟩:=lift_opt h
   obtain⟨_,_,h⟩:=lift_opt h
   exact hout h
  ·cases h
 case alloc e=>
  split at h
  ·split at h
   ·split at h
    ·split at h
     ·split at h
      ·exact halloc h
      ·cases h
     ·cases h
    ·cases h
   ·split at h
    ·exact halloc h
    ·cases h
  ·cases h
 case box e x=>
  obtain⟨a,_,h⟩:=lift_opt h
  split at h
  ·split at h
   ·exact halloc h
   ·cases h
  ·split at h
   ·exact halloc h
   ·cases h
 case build t ps=>
  split at h
  ·split at h
   ·split at h
    ·obtain⟨_,_,h⟩:=lift_opt h;exact hout h
    ·cases h
   ·cases h
  ·cases h
 case buildSlice t n ps=>
  split at h
  ·split at h
   ·split at h
    ·split at h
     ·split at h
      ·exact hout h
      ·exact halloc h
     ·cases h
    ·cases h
   ·cases h
  ·cases h
 case makeSlice t l c=>
  split at h
  ·split at h
   ·split at h
    ·obtain⟨_,_,h⟩:=bind_some_opt h
     exact halloc h
    ·cases h
   ·cases h
  ·cases h
 case load t p=>
  obtain⟨_,_,h⟩:=lift_opt h
  rw[aload_nat] at h
  obtain⟨_,_,h⟩:=bind_some_opt h
  exact hout h
 case store t p v=>
  obtain⟨p1,_,h⟩:=lift_opt h
  obtain⟨v1,_,h⟩:=lift_opt h
  have hk: ∀(r:Row) (g:Nat),some ((s.setRow g r).put odst .undef)=some s1→ ∃(u:AV) (H:Heap),s1=(⟨s.env,H⟩:St).put odst u∧ ∀(calm:List Nat) (i:Nat),calmKind calm i (.store t p v)=true→calmNow C calm i ⟨odst,.store t p v,otype,opos,oafter,oguard⟩ s=true→RowsIn' s.heap H:=fun r g e=>by
   cases e
   exact⟨_,_,rfl,fun _ _ hh _=>by simp[calmKind] at hh⟩
  unfold astore at h
  split at h
  ·cases h
  ·split at h
   ·split at h
    ·split at h
     ·split at h
      ·exact hk _ _ h
      ·cases h
     ·split at h
      ·obtain⟨_,_,h⟩:=bind_some_opt h
       exact hk _ _ h
      ·cases h
     ·cases h
    ·cases h
   ·split at h
    ·split at h
     ·split at h
      ·split at h
       ·split at h
        ·exact hk _ _ h
        ·cases h
       ·cases h
      ·split at h
       ·split at h
        ·obtain⟨_,_,h⟩:=bind_some_opt h
         exact hk _ _ h
        ·cases h
       ·cases h
      ·cases h
     ·split at h
      ·split at h
       ·exact hk _ _ h
       ·cases h
      ·cases h
     ·cases h
    ·cases h
 case nilCheck x=>
  obtain⟨a,_,h⟩:=lift_opt h
  split at h<;>first|exact hout h|cases h
 case binOp op t x y yt=>
  obtain⟨_,_,h⟩:=lift_opt h
  obtain⟨_,_,h⟩:=lift_opt h
  rw[abin_nat] at h
  obtain⟨_,_,h⟩:=bind_some_opt h
  exact hout h
 case unOp op t x=>
  obtain⟨_,_,h⟩:=lift_opt h
  rw[aun_nat] at h
  obtain⟨_,_,h⟩:=bind_some_opt h
  exact hout h
 case convert st dt x=>
  obtain⟨_,_,h⟩:=lift_opt h
  split at h
  ·split at h
   ·exact hout h
   ·cases h
  ·split at h
   ·split at h
    ·split at h
     ·exact hout h
     ·cases h
    ·cases h
   ·cases h
  ·cases h
 case lookup t x kx ok=>
  obtain⟨_,_,h⟩:=lift_opt h
  obtain⟨_,_,h⟩:=lift_opt h
  split at h
  ·split at h
   ·split at h
    ·split at h
     ·rcases alook_or _ h with⟨f,h⟩|h
      ·exact hout h
      ·exact hout h
     ·cases h
    ·cases h
   ·cases h
  ·cases h
 case makeFunc fn first caps=>
  cases fn<;>(try simp only at h)<;>(try cases h)
  split at h
  ·exact hout h
  ·cases h
 case slice t x lo hi mx=>
  cases mx with
  |some m=>cases h
  |none=>
   simp only at h
   split at h
   ·rw[aslice_nat] at h
    obtain⟨_,_,h⟩:=bind_some_opt h
    exact hout h
   ·cases h
 case fieldAddr t x f=>
  obtain⟨_,_,h⟩:=lift_opt h
  rw[afieldAddr_nat] at h
  obtain⟨_,_,h⟩:=bind_some_opt h
  exact hout h
 case field t x f=>
  obtain⟨_,_,h⟩:=lift_opt h
  rw[afield_nat] at h
  obtain⟨_,_,h⟩:=bind_some_opt h
  exact hout h
 case indexAddr t x i=>
  obtain⟨_,_,h⟩:=lift_opt h
  obtain⟨_,_,h⟩:=lift_opt h
  rw[aindexAddr_nat] at h
  obtain⟨_,_,h⟩:=bind_some_opt h
  exact hout h
 case index t x i=>
  split at h
  ·split at h
   ·obtain⟨_,_,h⟩:=bind_some_opt h
    exact hout h
   ·cases h
  ·split at h
   ·obtain⟨_,_,h⟩:=lift_opt h
    obtain⟨_,_,h⟩:=bind_some_opt h
    exact hout h
   ·cases h
  ·cases h
 case extract x i=>
  obtain⟨_,_,h⟩:=lift_opt h
  split at h
  ·obtain⟨_,_,h⟩:=lift_opt h
   exact hout h
  ·cases h
 case call c=>
  obtain⟨callee,cargs,ctypes⟩:=c
  cases callee<;>(try simp only at h)<;>(try cases h)
  case value f=>
   obtain⟨f1,hf,h⟩:=lift_opt h
   split at h
   ·rename_i g first caps
    split at h
    ·rename_i args hargs
     unfold acall at h
     split at h
     ·cases h
     ·rename_i avs havs
      simp only at h
      generalize hre:reach s.heap (s.heap.length+1) 0 (addNew [] (idsL avs))=ids at h
      split at h
      ·rename_i hchk
       simp only[Bool.and_eq_true] at hchk
       obtain⟨x,hx,h⟩:=bind_some_opt h
       rw[withAns_eq] at h
       split at h
       ·rename_i hchk2
        simp only[Bool.and_eq_true,decide_eq_true_eq] at hchk2
        cases h
        refine⟨_,_,rfl,fun calm i hc hn=> ?_⟩
        simp only[calmKind] at hc
        simp only[calmNow,hc,Bool.not_true,Bool.false_or,Bool.and_eq_true] at hn
        have hids:idsL avs=[]:=by
         have hn1:=hn.1.1.1.1
         simp only[callIds,hf,hargs,havs] at hn1
         simpa using hn1
        have hnil:ids=[]:=by
         rw[←hre,hids]
         simp[addNew,reach]
        subst hnil
        intro g r hg
        rw[putRows_miss]
        ·exact hg
        ·intro j r' hj e
         have hjl:=(List.getElem?_eq_some_iff.1 hj).1
         have h1:=fresh_get hchk.2 (j:=j) (by have:=hchk2.1.1;simp only[List.length_nil] at this;omega)
         simp[backTo] at e
         rw[e,hg] at h1
         simp at h1
       ·cases h
      ·cases h
    ·cases h
   ·cases h
  case builtin b=>
   cases b<;>(try simp only at h)<;>(try cases h)
   case len=>
    split at h
    ·obtain⟨x1,hx,h⟩:=lift_opt h
     split at h
     ·split at h
      ·cases h
      ·cases h
      ·obtain⟨_,_,h⟩:=lift_opt h
       exact hout h
      ·obtain⟨_,_,h⟩:=lift_opt h
       exact hout h
      ·cases h
     ·cases h
    ·cases h
   case append=>
    have hn:=hap rfl
    simp only[nilAppend] at hn
    split at h
    ·rename_i x y t t2 hxs hts
     rw[hxs] at hn
     simp only at hn
     have ex:evalO s x=some .nils:=by
      split at hn
      ·assumption
      ·cases hn
     split at h
     ·obtain⟨x1,hx1,h⟩:=lift_opt h
      obtain⟨y1,_,h⟩:=lift_opt h
      rw[ex] at hx1
      cases hx1
      simp only[aappend] at h
      split at h
      ·split at h
       ·split at h
        ·split at h
         ·obtain⟨_,_,h⟩:=bind_some_opt h
          exact halloc h
         ·cases h
        ·cases h
       ·cases h
      ·cases h
     ·cases h
    ·cases h
   case copy=>
    have hk: ∀(v:AV) (r:Row) (g:Nat),some ((s.setRow g r).put odst v)=some s1→ ∃(u:AV) (H:Heap),s1=(⟨s.env,H⟩:St).put odst u∧ ∀(calm:List Nat) (i:Nat),calmKind calm i (.call ⟨.builtin .copy,cargs,ctypes⟩)=true→calmNow C calm i ⟨odst,.call ⟨.builtin .copy,cargs,ctypes⟩,otype,opos,oafter,oguard⟩ s=true→RowsIn' s.heap H:=fun v r g e=>by
     cases e
     exact⟨_,_,rfl,fun _ _ hh _=>by simp[calmKind] at hh⟩
    split at h
    ·obtain⟨_,_,h⟩:=lift_opt h
     obtain⟨_,_,h⟩:=lift_opt h
     unfold acopy at h
     split at h
     ·split at h
      ·split at h
       ·split at h
        ·split at h
         ·split at h
          ·exact hk _ _ _ h
          ·cases h
         ·cases h
        ·cases h
       ·split at h
        ·split at h
         ·split at h
          ·exact hk _ _ _ h
          ·cases h
         ·cases h
        ·cases h
       ·cases h
      ·cases h
     ·cases h
    ·cases h
   case max=>
    split at h
    ·obtain⟨_,_,h⟩:=lift_opt h
     exact hout h
    ·cases h
   case min=>
    split at h
    ·obtain⟨_,_,h⟩:=lift_opt h
     exact hout h
    ·cases h
 all_goals cases h
end Go.Rv
set_option linter.unusedSimpArgs false
set_option linter.unusedVariables false
namespace Go.Rv
section
variable {β : Type} {Kf : β → Prop}
theorem cps_bind {α:Type} (o:Option α) (f:α→Option β) (g:α→Prop) (h: ∀a,g a=wpO (f a) Kf):propAlg.bind o g=wpO ((optAlg β).bind o f) Kf:=by
 cases o with
 |none=>exact(wpO_none _).trans (wpO_none _).symm
 |some a=>exact(wpO_some a g).trans (h a)
theorem cps_fail:propAlg.fail=wpO ((optAlg β).fail) Kf:=(wpO_none _).symm
theorem lift_cps {α:Type} (x:Option α) (k:α→Option β) (g:α→Prop) (h: ∀a,g a=wpO (k a) Kf):lift propAlg x g=wpO (lift (optAlg β) x k) Kf:=by
 cases x with
 |none=>first|exact cps_fail|rfl
 |some a=>exact h a
theorem abin_cps (ib:Bool) (op:BinOp) (x y:AV) (k:AV→Option β) (g:AV→Prop) (h: ∀a,g a=wpO (k a) Kf):abin propAlg ib op x y g=wpO (abin (optAlg β) ib op x y k) Kf:=by
 unfold abin
 split
 ·split
  ·exact cps_bind _ _ _ (fun _=>h _)
  ·exact cps_bind _ _ _ (fun _=>h _)
  ·split
   ·split<;>first|exact h _|exact cps_bind _ _ _ (fun _=>h _)|exact cps_fail|rfl
   ·first|exact cps_fail|rfl
 ·split<;>first|exact h _|exact cps_bind _ _ _ (fun _=>h _)|exact cps_fail|rfl
 ·split
  ·split<;>first|exact h _|exact cps_fail|rfl
  ·first|exact cps_fail|rfl
 ·first|exact cps_fail|rfl
theorem aun_cps (op:UnOp) (x:AV) (k:AV→Option β) (g:AV→Prop) (h: ∀a,g a=wpO (k a) Kf):aun propAlg op x g=wpO (aun (optAlg β) op x k) Kf:=by
 unfold aun
 split<;>first|exact h _|exact cps_fail|rfl
theorem acut_cps (lo hi:Option AV) (L:Nat) (k:Nat→Nat→Option β) (g:Nat→Nat→Prop) (h: ∀a b,g a b=wpO (k a b) Kf):acut propAlg lo hi L g=wpO (acut (optAlg β) lo hi L k) Kf:=by
 unfold acut
 split
 ·exact h _ _
 ·exact cps_bind _ _ _ (fun _=>h _ _)
 ·exact cps_bind _ _ _ (fun _=>h _ _)
 ·exact cps_bind _ _ _ (fun _=>cps_bind _ _ _ (fun _=>h _ _))
 ·first|exact cps_fail|rfl
theorem ite_cps {c:Prop} [Decidable c] (x y:Option β) (a b:Prop) (h1:a=wpO x Kf) (h2:b=wpO y Kf):(if c then a else b)=wpO (if c then x else y) Kf:=by
 split<;>assumption
theorem aslice_cps (T:TT) (s:St) (t:TypeId) (x:AV) (lo hi:Option AV) (k:AV→Option β) (g:AV→Prop) (h: ∀a,g a=wpO (k a) Kf):aslice propAlg T s t x lo hi g=wpO (aslice (optAlg β) T s t x lo hi k) Kf:=by
 unfold aslice
 split
 ·split
  ·split
   ·split
    ·exact ite_cps _ _ _ _ (acut_cps _ _ _ _ _ (fun _ _=>h _)) cps_fail
    ·split
     ·exact ite_cps _ _ _ _ (acut_cps _ _ _ _ _ (fun _ _=>h _)) cps_fail
     ·first|exact cps_fail|rfl
    ·split
     ·exact ite_cps _ _ _ _ (acut_cps _ _ _ _ _ (fun _ _=>h _)) cps_fail
     ·first|exact cps_fail|rfl
    ·first|exact cps_fail|rfl
   ·first|exact cps_fail|rfl
  ·split
   ·exact acut_cps _ _ _ _ _ (fun _ _=>h _)
   ·first|exact cps_fail|rfl
  ·split
   ·split
    ·exact ite_cps _ _ _ _ (cps_bind _ _ _ (fun _=>acut_cps _ _ _ _ _ (fun _ _=>h _))) cps_fail
    ·first|exact cps_fail|rfl
   ·first|exact cps_fail|rfl
  ·first|exact cps_fail|rfl
 ·first|exact cps_fail|rfl
theorem aindexAddr_cps (T:TT) (s:St) (t:TypeId) (x i:AV) (k:AV→Option β) (g:AV→Prop) (h: ∀a,g a=wpO (k a) Kf):aindexAddr propAlg T s t x i g=wpO (aindexAddr (optAlg β) T s t x i k) Kf:=by
 unfold aindexAddr
 split
 ·split
  ·split
   ·split
    ·split
     ·exact ite_cps _ _ _ _ (cps_bind _ _ _ (fun _=>h _)) cps_fail
     ·split
      ·exact ite_cps _ _ _ _ (cps_bind _ _ _ (fun _=>h _)) cps_fail
      ·first|exact cps_fail|rfl
     ·split
      ·exact ite_cps _ _ _ _ (cps_bind _ _ _ (fun _=>h _)) cps_fail
      ·first|exact cps_fail|rfl
     ·first|exact cps_fail|rfl
    ·first|exact cps_fail|rfl
   ·split
    ·split
     ·split
      ·refine ite_cps _ _ _ _ (cps_bind _ _ _ (fun _=>cps_bind _ _ _ (fun _=>h _))) ?_
       split
       ·exact ite_cps _ _ _ _ (cps_bind _ _ _ (fun _=>cps_bind _ _ _ (fun _=>h _))) cps_fail
       ·first|exact cps_fail|rfl
      ·exact ite_cps _ _ _ _ (cps_bind _ _ _ (fun _=>h _)) cps_fail
      ·first|exact cps_fail|rfl
     ·split
      ·exact ite_cps _ _ _ _ (cps_bind _ _ _ (fun _=>cps_bind _ _ _ (fun _=>h _))) cps_fail
      ·first|exact cps_fail|rfl
     ·refine ite_cps _ _ _ _ (cps_bind _ _ _ (fun _=>cps_bind _ _ _ (fun _=>h _))) ?_
      split
      ·exact ite_cps _ _ _ _ (cps_bind _ _ _ (fun _=>cps_bind _ _ _ (fun _=>h _))) cps_fail
      ·first|exact cps_fail|rfl
     ·first|exact cps_fail|rfl
    ·first|exact cps_fail|rfl
   ·first|exact cps_fail|rfl
  ·first|exact cps_fail|rfl
 ·first|exact cps_fail|rfl
theorem fin_cps (ti:TI) (cs:List AV) (off:Nat) (k:AV→Option β) (g:AV→Prop) (h: ∀a,g a=wpO (k a) Kf):
  (if isStruct ti.kind then(if off+ti.size≤cs.length then g (.agg ((cs.drop off).take ti.size)) else propAlg.fail) else match cs[off]? with|some a=>g a|none=>propAlg.fail)=
  wpO (if isStruct ti.kind then(if off+ti.size≤cs.length then k (.agg ((cs.drop off).take ti.size)) else(optAlg β).fail) else match cs[off]? with|some a=>k a|none=>(optAlg β).fail) Kf:=by
 refine ite_cps _ _ _ _ (ite_cps _ _ _ _ (h _) cps_fail) ?_
 split<;>first|exact h _|exact cps_fail|rfl
theorem aload_cps (T:TT) (s:St) (t:TypeId) (p:AV) (k:AV→Option β) (g:AV→Prop) (h: ∀a,g a=wpO (k a) Kf):aload propAlg T s t p g=wpO (aload (optAlg β) T s t p k) Kf:=by
 unfold aload
 split
 ·first|exact cps_fail|rfl
 ·simp only
  split
  ·exact fin_cps _ _ _ _ _ h
  ·exact fin_cps _ _ _ _ _ h
  ·split
   ·exact cps_bind _ _ _ (fun _=>fin_cps _ _ _ _ _ h)
   ·split
    ·exact cps_bind _ _ _ (fun _=>fin_cps _ _ _ _ _ h)
    ·first|exact cps_fail|rfl
   ·first|exact cps_fail|rfl
  ·split
   ·exact fin_cps _ _ _ _ _ h
   ·exact ite_cps _ _ _ _ (cps_bind _ _ _ (fun _=>h _)) cps_fail
   ·first|exact cps_fail|rfl
  ·exact ite_cps _ _ _ _ (cps_bind _ _ _ (fun _=>h _)) cps_fail
  ·first|exact cps_fail|rfl
theorem afieldAddr_cps (T:TT) (t:TypeId) (x:AV) (f:Nat) (k:AV→Option β) (g:AV→Prop) (h: ∀a,g a=wpO (k a) Kf):afieldAddr propAlg T t x f g=wpO (afieldAddr (optAlg β) T t x f k) Kf:=by
 unfold afieldAddr
 split
 ·split
  ·split
   ·split
    ·refine ite_cps _ _ _ _ cps_fail ?_
     split<;>first|exact h _|exact cps_fail|rfl
    ·first|exact cps_fail|rfl
   ·first|exact cps_fail|rfl
  ·first|exact cps_fail|rfl
 ·first|exact cps_fail|rfl
theorem afield_cps (T:TT) (t:TypeId) (x:AV) (f:Nat) (k:AV→Option β) (g:AV→Prop) (h: ∀a,g a=wpO (k a) Kf):afield propAlg T t x f g=wpO (afield (optAlg β) T t x f k) Kf:=by
 unfold afield
 split
 ·split
  ·split
   ·split
    ·refine ite_cps _ _ _ _ (ite_cps _ _ _ _ (h _) cps_fail) ?_
     split<;>first|exact h _|exact cps_fail|rfl
    ·first|exact cps_fail|rfl
   ·first|exact cps_fail|rfl
  ·first|exact cps_fail|rfl
 ·first|exact cps_fail|rfl
theorem astore_cps (T:TT) (s:St) (t:TypeId) (p v:AV) (k:St→Option β) (g:St→Prop) (h: ∀a,g a=wpO (k a) Kf):astore propAlg T s t p v g=wpO (astore (optAlg β) T s t p v k) Kf:=by
 unfold astore
 split
 ·first|exact cps_fail|rfl
 ·refine ite_cps _ _ _ _ ?_ (ite_cps _ _ _ _ ?_ cps_fail)
  ·split
   ·split
    ·exact ite_cps _ _ _ _ (h _) cps_fail
    ·exact ite_cps _ _ _ _ (cps_bind _ _ _ (fun _=>h _)) cps_fail
    ·first|exact cps_fail|rfl
   ·first|exact cps_fail|rfl
  ·split
   ·split
    ·split
     ·exact ite_cps _ _ _ _ (h _) cps_fail
     ·first|exact cps_fail|rfl
    ·split
     ·split
      ·exact cps_bind _ _ _ (fun _=>h _)
      ·first|exact cps_fail|rfl
     ·first|exact cps_fail|rfl
    ·first|exact cps_fail|rfl
   ·split
    ·exact ite_cps _ _ _ _ (h _) cps_fail
    ·first|exact cps_fail|rfl
   ·first|exact cps_fail|rfl
theorem allocRow_cps (s:St) (base:Nat) (r:Row) (k:St→Option β) (g:St→Prop) (h: ∀a,g a=wpO (k a) Kf):allocRow propAlg s base r g=wpO (allocRow (optAlg β) s base r k) Kf:=by
 unfold allocRow
 split<;>first|exact h _|exact cps_fail|rfl
theorem acopy_cps (T:TT) (s:St) (t:TypeId) (x y:AV) (k:AV→St→Option β) (g:AV→St→Prop) (h: ∀a b,g a b=wpO (k a b) Kf):acopy propAlg T s t x y g=wpO (acopy (optAlg β) T s t x y k) Kf:=by
 unfold acopy
 split
 ·refine ite_cps _ _ _ _ ?_ cps_fail
  split
  ·split
   ·refine ite_cps _ _ _ _ ?_ cps_fail
    split
    ·exact h _ _
    ·first|exact cps_fail|rfl
   ·first|exact cps_fail|rfl
  ·split
   ·refine ite_cps _ _ _ _ ?_ cps_fail
    split
    ·exact h _ _
    ·first|exact cps_fail|rfl
   ·first|exact cps_fail|rfl
  ·first|exact cps_fail|rfl
 ·first|exact cps_fail|rfl
theorem aappend_cps (C:Ctx) (base:Nat) (s:St) (t:TypeId) (x y:AV) (k:AV→St→Option β) (g:AV→St→Prop) (h: ∀a b,g a b=wpO (k a b) Kf):aappend propAlg C base s t x y g=wpO (aappend (optAlg β) C base s t x y k) Kf:=by
 unfold aappend
 split
 ·split
  ·refine ite_cps _ _ _ _ ?_ cps_fail
   split
   ·split
    ·exact cps_bind _ _ _ (fun _=>allocRow_cps _ _ _ _ _ (fun _=>h _ _))
    ·split
     ·split
      ·exact ite_cps _ _ _ _ (cps_bind _ _ _ (fun _=>h _ _)) cps_fail
      ·first|exact cps_fail|rfl
     ·first|exact cps_fail|rfl
    ·split
     ·split
      ·exact ite_cps _ _ _ _ (cps_bind _ _ _ (fun _=>h _ _)) cps_fail
      ·first|exact cps_fail|rfl
     ·first|exact cps_fail|rfl
    ·first|exact cps_fail|rfl
   ·first|exact cps_fail|rfl
  ·first|exact cps_fail|rfl
 ·first|exact cps_fail|rfl
theorem acall_cps (C:Ctx) (base:Nat) (s:St) (f:FuncId) (args:List AV) (types:List TypeId) (k:AV→St→Option β) (g:AV→St→Prop) (h: ∀a b,g a b=wpO (k a b) Kf):acall propAlg C base s f args types g=wpO (acall (optAlg β) C base s f args types k) Kf:=by
 unfold acall
 split
 ·first|exact cps_fail|rfl
 ·simp only
  refine ite_cps _ _ _ _ (cps_bind _ _ _ (fun _=> ?_)) cps_fail
  rw[withAns_eq,withAns_eq]
  exact ite_cps _ _ _ _ (h _ _) cps_fail
theorem cond_cps {β:Type} {Kf:β→Prop} (c:Bool) {x:Prop} {y:Option β} (h1:x=wpO y Kf) (h2:False=wpO (none:Option β) Kf):cond c x False=wpO (cond c y none) Kf:=by
 cases c
 ·exact h2
 ·exact h1
theorem cond2_cps {β:Type} {Kf:β→Prop} (c:Bool) {x x':Prop} {y y':Option β} (h1:x=wpO y Kf) (h2:x'=wpO y' Kf):cond c x x'=wpO (cond c y y') Kf:=by
 cases c
 ·exact h2
 ·exact h1
theorem alook_cps (k:AV) (hit:Go.Fn→Option β) (miss:Option β) (g:Go.Fn→Prop) (m:Prop) (h: ∀f,g f=wpO (hit f) Kf) (hm:m=wpO miss Kf): ∀(kvs:List (Value×Go.Fn)),
  alook propAlg k g m kvs=wpO (alook (optAlg β) k hit miss kvs) Kf
 |[]=>hm
 |(c,f)::kvs=>by
  unfold alook
  split
  ·exact ite_cps _ _ _ _ (cond2_cps _ (h f) (alook_cps _ hit miss g m h hm kvs)) cps_fail
  ·exact cond2_cps _ (h f) (alook_cps _ hit miss g m h hm kvs)
  ·exact cps_fail
theorem cstep_cps (C:Ctx) (base:Nat) (o:Oper) (s:St) (k:St→Option β) (g:St→Prop) (h: ∀a,g a=wpO (k a) Kf):cstep propAlg C base o s g=wpO (cstep (optAlg β) C base o s k) Kf:=by
 unfold cstep
 obtain⟨odst,oop,otype,opos,oafter,oguard⟩:=o
 cases oop<;>simp only
 case move x=>exact lift_cps _ _ _ (fun _=>h _)
 case assign x=>
  refine lift_cps _ _ _ (fun a=> ?_)
  split
  ·split
   ·split
    ·exact allocRow_cps _ _ _ _ _ (fun _=>h _)
    ·first|exact cps_fail|rfl
   ·first|exact cps_fail|rfl
  ·exact h _
 case pick c x y=>
  refine lift_cps _ _ _ (fun a=> ?_)
  split
  ·exact lift_cps _ _ _ (fun _=>lift_cps _ _ _ (fun _=>h _))
  ·first|exact cps_fail|rfl
 case alloc e=>
  split
  ·split
   ·split
    ·split
     ·exact ite_cps _ _ _ _ (allocRow_cps _ _ _ _ _ (fun _=>h _)) cps_fail
     ·first|exact cps_fail|rfl
    ·first|exact cps_fail|rfl
   ·exact ite_cps _ _ _ _ (allocRow_cps _ _ _ _ _ (fun _=>h _)) cps_fail
  ·first|exact cps_fail|rfl
 case box e x=>
  refine lift_cps _ _ _ (fun a=> ?_)
  split
  ·exact ite_cps _ _ _ _ (allocRow_cps _ _ _ _ _ (fun _=>h _)) cps_fail
  ·exact ite_cps _ _ _ _ (allocRow_cps _ _ _ _ _ (fun _=>h _)) cps_fail
 case build t ps=>
  split
  ·split
   ·exact ite_cps _ _ _ _ (lift_cps _ _ _ (fun _=>h _)) cps_fail
   ·first|exact cps_fail|rfl
  ·first|exact cps_fail|rfl
 case buildSlice t n ps=>
  split
  ·split
   ·split
    ·refine ite_cps _ _ _ _ ?_ cps_fail
     split
     ·exact h _
     ·exact allocRow_cps _ _ _ _ _ (fun _=>h _)
    ·first|exact cps_fail|rfl
   ·first|exact cps_fail|rfl
  ·first|exact cps_fail|rfl
 case makeSlice t l c=>
  split
  ·split
   ·exact ite_cps _ _ _ _ (cps_bind _ _ _ (fun _=>allocRow_cps _ _ _ _ _ (fun _=>h _))) cps_fail
   ·first|exact cps_fail|rfl
  ·first|exact cps_fail|rfl
 case load t p=>exact lift_cps _ _ _ (fun _=>aload_cps _ _ _ _ _ _ (fun _=>h _))
 case store t p v=>exact lift_cps _ _ _ (fun _=>lift_cps _ _ _ (fun _=>astore_cps _ _ _ _ _ _ _ (fun _=>h _)))
 case nilCheck x=>
  refine lift_cps _ _ _ (fun a=> ?_)
  split<;>first|exact h _|exact cps_fail|rfl
 case binOp op t x y yt=>exact lift_cps _ _ _ (fun _=>lift_cps _ _ _ (fun _=>abin_cps _ _ _ _ _ _ (fun _=>h _)))
 case unOp op t x=>exact lift_cps _ _ _ (fun _=>aun_cps _ _ _ _ (fun _=>h _))
 case convert st dt x=>
  refine lift_cps _ _ _ (fun a=> ?_)
  split
  ·split<;>first|exact h _|exact cps_fail|rfl
  ·split
   ·split
    ·split<;>first|exact h _|exact cps_fail|rfl
    ·first|exact cps_fail|rfl
   ·first|exact cps_fail|rfl
  ·first|exact cps_fail|rfl
 case lookup t x kx ok=>
  refine lift_cps _ _ _ (fun a=>lift_cps _ _ _ (fun b=> ?_))
  split
  ·split
   ·split
    ·exact ite_cps _ _ _ _ (alook_cps _ _ _ _ _ (fun _=>h _) (h _) _) cps_fail
    ·first|exact cps_fail|rfl
   ·first|exact cps_fail|rfl
  ·first|exact cps_fail|rfl
 case makeFunc fn first caps=>
  cases fn<;>(try exact cps_fail)
  simp only
  split<;>first|exact h _|exact cps_fail|rfl
 case slice t x lo hi mx=>
  cases mx with
  |some m=>first|exact cps_fail|rfl
  |none=>
   simp only
   split
   ·exact aslice_cps _ _ _ _ _ _ _ _ (fun _=>h _)
   ·first|exact cps_fail|rfl
 case fieldAddr t x f=>exact lift_cps _ _ _ (fun _=>afieldAddr_cps _ _ _ _ _ _ (fun _=>h _))
 case field t x f=>exact lift_cps _ _ _ (fun _=>afield_cps _ _ _ _ _ _ (fun _=>h _))
 case indexAddr t x i=>exact lift_cps _ _ _ (fun _=>lift_cps _ _ _ (fun _=>aindexAddr_cps _ _ _ _ _ _ _ (fun _=>h _)))
 case index t x i=>
  split
  ·split
   ·exact cps_bind _ _ _ (fun _=>h _)
   ·first|exact cps_fail|rfl
  ·split
   ·exact lift_cps _ _ _ (fun _=>cps_bind _ _ _ (fun _=>h _))
   ·first|exact cps_fail|rfl
  ·first|exact cps_fail|rfl
 case extract x i=>
  refine lift_cps _ _ _ (fun a=> ?_)
  split
  ·exact lift_cps _ _ _ (fun _=>h _)
  ·first|exact cps_fail|rfl
 case call c=>
  obtain⟨callee,cargs,ctypes⟩:=c
  cases callee<;>(try exact cps_fail)
  case value f=>
   refine lift_cps _ _ _ (fun a=> ?_)
   split
   ·split
    ·exact acall_cps _ _ _ _ _ _ _ _ (fun _ _=>h _)
    ·first|exact cps_fail|rfl
   ·first|exact cps_fail|rfl
  case builtin b=>
   cases b<;>(try exact cps_fail)
   case len=>
    simp only
    split
    ·refine lift_cps _ _ _ (fun a=> ?_)
     split
     ·split<;>first|exact cps_fail|rfl|exact lift_cps _ _ _ (fun _=>h _)
     ·first|exact cps_fail|rfl
    ·first|exact cps_fail|rfl
   case append=>
    simp only
    split
    ·exact ite_cps _ _ _ _ (lift_cps _ _ _ (fun _=>lift_cps _ _ _ (fun _=>aappend_cps _ _ _ _ _ _ _ _ (fun _ _=>h _)))) cps_fail
    ·first|exact cps_fail|rfl
   case copy=>
    simp only
    split
    ·exact lift_cps _ _ _ (fun _=>lift_cps _ _ _ (fun _=>acopy_cps _ _ _ _ _ _ _ (fun _ _=>h _)))
    ·first|exact cps_fail|rfl
   case max=>
    simp only
    split
    ·exact lift_cps _ _ _ (fun _=>h _)
    ·first|exact cps_fail|rfl
   case min=>
    simp only
    split
    ·exact lift_cps _ _ _ (fun _=>h _)
    ·first|exact cps_fail|rfl
 all_goals exact cps_fail
end
theorem cstep_wpO {C:Ctx} {base:Nat} {o:Oper} {s:St} {K:St→Prop} (h:cstep propAlg C base o s K):wpO (cstep (optAlg St) C base o s some) K:=by
 rw[←cstep_cps C base o s some K (fun a=>(wpO_some a K).symm)]
 exact h
theorem dstep0_cps {β:Type} {Kf:β→Prop} (C:Ctx) (base:Nat) (o:Oper) (s:St) (k:St→Option β) (g:St→Prop) (h: ∀a,g a=wpO (k a) Kf):dstep0 propAlg C base o s g=wpO (dstep0 (optAlg β) C base o s k) Kf:=by
 have hc:=cstep_cps C base o s k g h
 unfold dstep0
 cases C.deep with
 |false=>exact hc
 |true=>
  simp only[cond_true]
  obtain⟨odst,oop,otype,opos,oafter,oguard⟩:=o
  cases oop<;>simp only
  case load t p=>
   split
   ·split
    ·refine cond_cps _ (cps_bind _ _ _ (fun _=> ?_)) cps_fail
     split
     ·exact h _
     ·exact cps_fail
    ·exact hc
   ·exact hc
  case store t p v=>
   split
   ·split
    ·unfold deepStore
     split
     ·split
      ·refine cond_cps _ (cps_bind _ _ _ (fun _=> ?_)) cps_fail
       unfold lentThen
       split
       ·exact h _
       ·exact cps_bind _ _ _ (fun _=>h _)
      ·exact cps_fail
     ·exact cps_fail
    ·exact hc
   ·split
    ·unfold deepStoreW
     split
     ·split
      ·refine cond_cps _ (cps_bind _ _ _ (fun _=> ?_)) cps_fail
       unfold lentThen
       split
       ·exact h _
       ·exact cps_bind _ _ _ (fun _=>h _)
      ·exact cps_fail
     ·exact cps_fail
    ·exact hc
   ·exact hc
  case slice t x lo hi mx=>
   cases mx with
   |some q=>exact hc
   |none=>
    simp only
    split
    ·split
     ·refine cond_cps _ (acut_cps _ _ _ _ _ (fun _ _=> ?_)) cps_fail
      unfold outThen
      split
      ·exact h _
      ·exact cps_bind _ _ _ (fun _=>h _)
      ·exact cps_fail
     ·exact hc
    ·exact hc
  case assign x=>
   split
   ·split
    ·exact allocRow_cps _ _ _ _ _ (fun _=>h _)
    ·exact hc
   ·exact hc
  case makeSlice t l c=>
   split
   ·split
    ·exact cond_cps _ (cps_bind _ _ _ (fun _=>allocRow_cps _ _ _ _ _ (fun _=>h _))) cps_fail
    ·exact hc
   ·exact hc
  case buildSlice t n ps=>
   split
   ·split
    ·split
     ·exact cond_cps _ (allocRow_cps _ _ _ _ _ (fun _=>h _)) cps_fail
     ·split
      ·exact cond_cps _ (allocRow_cps _ _ _ _ _ (fun _=>h _)) cps_fail
      ·exact hc
     ·exact hc
    ·exact hc
   ·exact hc
  case indexAddr t x i=>
   split
   ·split
    ·split
     ·exact cond_cps _ (cps_bind _ _ _ (fun _=>h _)) cps_fail
     ·exact cps_fail
    ·exact hc
   ·exact hc
  case call c=>
   split
   ·split
    ·split
     ·exact h _
     ·exact hc
    ·exact hc
   ·split
    ·split
     ·unfold deepAppend
      split
      ·refine cond_cps _ ?_ cps_fail
       split
       ·split
        ·exact h _
        ·exact cps_fail
       ·split
        ·split
         ·exact cond_cps _ (cps_bind _ _ _ (fun _=>h _)) cps_fail
         ·exact cps_fail
        ·exact cps_fail
       ·exact cps_fail
      ·exact cps_fail
     ·exact hc
    ·exact hc
   ·exact hc
  all_goals exact hc
theorem aodd_cps {β:Type} {Kf:β→Prop} (base:Nat) (o:Oper) (s:St) (q:Odd) (k:St→Option β) (g:St→Prop) (h: ∀a,g a=wpO (k a) Kf):aodd propAlg base o s g q=wpO (aodd (optAlg β) base o s k q) Kf:=by
 cases q with
 |val b a=>exact cps_bind _ _ _ (fun _=>h _)
 |zeros u n=>exact cps_bind _ _ _ (fun _=>allocRow_cps _ _ _ _ _ (fun _=>h _))
 |arr u n=>exact allocRow_cps s base (.seq u (List.replicate n u.zero)) _ _ (fun _=>h _)
theorem dstep1_cps {β:Type} {Kf:β→Prop} (C:Ctx) (base:Nat) (o:Oper) (s:St) (k:St→Option β) (g:St→Prop) (h: ∀a,g a=wpO (k a) Kf):dstep1 propAlg C base o s g=wpO (dstep1 (optAlg β) C base o s k) Kf:=by
 unfold dstep1
 split
 ·exact cond_cps _ (acall_cps _ _ _ _ _ _ _ _ (fun _ _=>h _)) cps_fail
 ·split
  ·unfold aput
   refine cond_cps _ (cps_bind _ _ _ (fun _=> ?_)) cps_fail
   split
   ·exact h _
   ·exact cps_fail
  ·split
   ·exact h _
   ·split
    ·exact aodd_cps base o s _ k g h
    ·exact dstep0_cps C base o s k g h
theorem dstep_cps {β:Type} {Kf:β→Prop} (C:Ctx) (base:Nat) (o:Oper) (s:St) (k:St→Option β) (g:St→Prop) (h: ∀a,g a=wpO (k a) Kf):dstep propAlg C base o s g=wpO (dstep (optAlg β) C base o s k) Kf:=by
 unfold dstep
 cases stepOk C o s with
 |true=>exact dstep1_cps C base o s k g h
 |false=>
 simp only[cond_false]
 split
 ·split
  ·split
   ·split
    ·unfold bcall
     exact cond_cps _ (acall_cps _ _ _ _ _ _ _ _ (fun _ _=>h _)) cps_fail
    ·exact cps_fail
   ·exact cps_fail
  ·exact cps_fail
 ·exact cps_fail
theorem dstep_wpO {C:Ctx} {base:Nat} {o:Oper} {s:St} {K:St→Prop} (h:dstep propAlg C base o s K):wpO (dstep (optAlg St) C base o s some) K:=by
 rw[←dstep_cps C base o s some K (fun a=>(wpO_some a K).symm)]
 exact h
theorem estep_cps {β:Type} {Kf:β→Prop} (C:Ctx) (calm:List Nat) (i base:Nat) (o:Oper) (s:St) (k:St→Option β) (g:St→Prop) (h: ∀a,g a=wpO (k a) Kf):estep propAlg C calm i base o s g=wpO (estep (optAlg β) C calm i base o s k) Kf:=by
 unfold estep
 cases calm.contains (i+wildAt) with
 |true=>exact dstep_cps C base o s k g h
 |false=>
  simp only[cond_false]
  cases C.deep with
  |false=>exact cstep_cps C base o s k g h
  |true=>
   simp only[cond_true]
   split
   ·exact allocRow_cps _ _ _ _ _ (fun _=>h _)
   ·exact cstep_cps C base o s k g h
theorem estep_wpO {C:Ctx} {calm:List Nat} {i base:Nat} {o:Oper} {s:St} {K:St→Prop} (h:estep propAlg C calm i base o s K):wpO (estep (optAlg St) C calm i base o s some) K:=by
 rw[←estep_cps C calm i base o s some K (fun a=>(wpO_some a K).symm)]
 exact h
theorem set_self {l:List AV} {t:Nat} {x:AV} (h:l[t]? =some x):l.set t x=l:=by
 obtain⟨hlt,rfl⟩:=List.getElem?_eq_some_iff.1 h
 simp
theorem crun_orun (C:Ctx) (ops:List Oper) (fr:List Turn) (B0:Nat) (K:St→Prop): ∀(r:List Oper) (i:Nat) (s:St),crun C ops fr B0 i r s K→wpO (orun C ops fr B0 i r s) K
 |[],_,_,h=>show wpO (some _) K from .mk h
 |o::r,i,s0,h=>by
  have step: ∀s:St,dstep propAlg C (B0+i*width) o s (fun s'=>crun C ops fr B0 (i+1) r s' K)→wpO ((dstep (optAlg St) C (B0+i*width) o s some).bind (orun C ops fr B0 (i+1) r)) K:=fun s h=>by
   rw[wpO_bind]
   exact wpO_mono (fun s' h'=>crun_orun C ops fr B0 K r (i+1) s' h') (dstep_wpO h)
  unfold crun at h
  unfold orun
  simp only at h⊢
  generalize freezeAt C.k i fr s0=s at h⊢
  cases hgd:o.guard with
  |none=>
   simp only[hgd] at h⊢
   exact step s h
  |some jw=>
   obtain⟨j,want⟩:=jw
   simp only[hgd] at h⊢
   cases ht:(ops[j]?).bind (·.dst) with
   |none=>simp only[ht] at h
   |some t=>
    simp only[ht] at h⊢
    split at h
    ·rename_i g hg
     cases g with
     |true=>
      have e:({s with env:=s.env.set t (.dat .bool true)}:St)=s:=by rw[set_self hg]
      rw[e] at h
      cases want with
      |true=>simp only[cond_true] at h;simp only[if_true];exact step s h
      |false=>simp only[cond_true,cond_false] at h;rw[if_neg (by simp)];exact crun_orun C ops fr B0 K r (i+1) _ h
     |false=>
      have e:({s with env:=s.env.set t (.dat .bool false)}:St)=s:=by rw[set_self hg]
      rw[e] at h
      cases want with
      |true=>simp only[cond_true,cond_false] at h;rw[if_neg (by simp)];exact crun_orun C ops fr B0 K r (i+1) _ h
      |false=>simp only[cond_false] at h;simp only[if_true];exact step s h
    ·exact crun_orun C ops fr B0 K r (i+1) _ h
    ·cases h
end Go.Rv
set_option linter.unusedSimpArgs false
set_option linter.unusedVariables false
namespace Go.Rv
theorem cstep_bind {C:Ctx} {base:Nat} {o:Oper} {s:St} {k:St→Option St} {r:St} (h:cstep (optAlg St) C base o s k=some r): ∃s0,cstep (optAlg St) C base o s some=some s0∧k s0=some r:=by
 have h1:wpO (cstep (optAlg St) C base o s k) (fun x=>x=r):=by rw[h];exact .mk rfl
 rw[←cstep_cps C base o s k (fun a=>wpO (k a) (fun x=>x=r)) (fun _=>rfl)] at h1
 have h2:=cstep_wpO h1
 obtain⟨s0,h3,h4⟩:=wpO_iff.1 h2
 obtain⟨x,h5,h6⟩:=wpO_iff.1 h4
 exact⟨s0,h3,by rw[h5,h6]⟩
theorem crunS_orunS (C:Ctx) (ops:List Oper) (calm:List Nat) (B0:Nat) (K:St→Prop): ∀(r:List Nat) (s:St),crunS C ops calm B0 r s K→wpO (orunS C ops calm B0 r s) K
 |[],_,h=>show wpO (some _) K from .mk h
 |i::r,s,h=>by
  unfold crunS at h
  unfold orunS
  rw[wpO_bind]
  unfold stepAt
  cases ho:ops[i]? with
  |none=>simp only[ho] at h
  |some o=>
   simp only[ho] at h⊢
   have step: ∀s:St,cond (calmNow C calm i o s) (estep propAlg C calm i (baseAt calm B0 i o s) o s fun s'=>crunS C ops calm B0 r s' K) False→
     wpO (if calmNow C calm i o s=true then estep (optAlg St) C calm i (baseAt calm B0 i o s) o s some else none) (fun s'=>wpO (orunS C ops calm B0 r s') K):=fun s h=>by
    cases hc:calmNow C calm i o s with
    |false=>rw[hc] at h;exact h.elim
    |true=>
     rw[hc] at h
     simp only[if_true]
     exact wpO_mono (fun s' h'=>crunS_orunS C ops calm B0 K r s' h') (estep_wpO h)
   cases hgd:o.guard with
   |none=>
    simp only[hgd] at h⊢
    exact step s h
   |some jw=>
    obtain⟨j,want⟩:=jw
    simp only[hgd] at h⊢
    cases ht:(ops[j]?).bind (·.dst) with
    |none=>simp only[ht] at h
    |some t=>
     simp only[ht] at h⊢
     split at h
     ·rename_i g hg
      cases g with
      |true=>
       have e:({s with env:=s.env.set t (.dat .bool true)}:St)=s:=by rw[set_self hg]
       rw[e] at h
       cases want with
       |true=>simp only[cond_true] at h;simp only[if_true];exact step s h
       |false=>simp only[cond_true,cond_false] at h;rw[if_neg (by simp)];exact .mk (crunS_orunS C ops calm B0 K r _ h)
      |false=>
       have e:({s with env:=s.env.set t (.dat .bool false)}:St)=s:=by rw[set_self hg]
       rw[e] at h
       cases want with
       |true=>simp only[cond_true,cond_false] at h;rw[if_neg (by simp)];exact .mk (crunS_orunS C ops calm B0 K r _ h)
       |false=>simp only[cond_false] at h;simp only[if_true];exact step s h
     ·first|exact crunS_orunS C ops calm B0 K r _ h|exact .mk (crunS_orunS C ops calm B0 K r _ h)
     ·cases h
section
variable {C : Ctx} {ops : Array Oper} {calm : List Nat} {B0 : Nat}
theorem not_operand {o:Oper} {d:Tmp} (h:d∉o.looksAt ops):Operand.tmp d∉o.op.operands.toList:=fun hm=>h (by
 simp only[Oper.looksAt,List.mem_append,List.mem_filterMap]
 exact .inl ⟨_,hm,rfl⟩)
theorem not_guard {o:Oper} {d t:Tmp} {j:Nat} {w:Bool} (h:d∉o.looksAt ops) (hg:o.guard=some (j,w)) (ht:(ops.toList[j]?).bind (·.dst)=some t):d≠t:=fun e=>h (by
 subst e
 simp only[Oper.looksAt,List.mem_append,hg]
 right
 have:(ops[j]?).bind (·.dst)=some d:=by simpa using ht
 rw[this];simp)
theorem callIds_put {o:Oper} {s:St} {d:Option Tmp} {a:AV} (h1: ∀t,d=some t→Operand.tmp t∉o.op.operands.toList):callIds C o (s.put d a)=callIds C o s:=by
 have hev: ∀x∈o.op.operands.toList,evalO (s.put d a) x=evalO s x:=fun x hx=>evalO_put (fun t ht e=>h1 t ht (e▸hx))
 unfold callIds
 split
 ·rename_i c hc
  split
  ·rename_i f hf
   have e0:evalO (s.put d a) f=evalO s f:=hev f (by rw[hc];simp[Op.operands,Call.operands,hf])
   have e1:argsAV (s.put d a) c.args.toList=argsAV s c.args.toList:=argsAV_same (fun x hx=>hev x (by rw[hc];simp[Op.operands,Call.operands,hf];exact .inr (by simpa using hx)))
   rw[e0,e1]
   simp only[handArgs_put]
  ·rfl
 ·rfl
theorem stillOk_put {o:Oper} {s:St} {d:Option Tmp} {a:AV} (h1: ∀t,d=some t→Operand.tmp t∉o.op.operands.toList):stillOk C o (s.put d a)=stillOk C o s:=by
 obtain⟨odst,oop,otype,opos,oafter,oguard⟩:=o
 unfold stillOk
 cases oop<;>try rfl
 rename_i c
 obtain⟨callee,cargs,ctypes⟩:=c
 cases callee<;>try rfl
 rename_i f
 have hev: ∀x∈Operand.tmp 0::[],True:=fun _ _=>trivial
 have e1:evalO (s.put d a) f=evalO s f:=evalO_put (fun t ht e=>h1 t ht (e▸by simp[Op.operands,Call.operands]))
 have e2:argsAV (s.put d a) cargs.toList=argsAV s cargs.toList:=argsAV_same (fun x hx=>evalO_put (fun t ht e=>h1 t ht (e▸by simp[Op.operands,Call.operands];exact .inr (by simpa using hx))))
 simp only[e1,e2]
 split
 ·split
  ·unfold mvNo
   rw[handArgs_put,put_heap]
  ·rfl
 ·rfl
theorem stillOk_nil {o:Oper} {s:St} (h:callIds C o s=[]):stillOk C o s=true:=by
 unfold stillOk
 unfold callIds at h
 split
 ·rename_i c hc
  rw[hc] at h
  simp only at h
  split
  ·rename_i f hf
   rw[hf] at h
   simp only at h
   split
   ·rename_i g first caps hg
    rw[hg] at h
    simp only at h
    split
    ·rename_i args ha
     rw[ha] at h
     simp only at h
     unfold mvNo
     split
     ·rfl
     ·rename_i avs havs
      rw[havs] at h
      simp only at h⊢
      rw[h]
      rfl
    ·rfl
   ·rfl
  ·rfl
 ·rfl
theorem nilAppend_put {o:Oper} {s:St} {d:Option Tmp} {a:AV} (h1: ∀t,d=some t→Operand.tmp t∉o.op.operands.toList):nilAppend o (s.put d a)=nilAppend o s:=by
 have hev: ∀x∈o.op.operands.toList,evalO (s.put d a) x=evalO s x:=fun x hx=>evalO_put (fun t ht e=>h1 t ht (e▸hx))
 unfold nilAppend
 split
 ·rename_i c hc
  split
  ·rename_i hb
   split
   ·rename_i x y hxs
    have e0:evalO (s.put d a) x=evalO s x:=hev x (by rw[hc];simp[Op.operands,Call.operands,hb,hxs])
    rw[e0]
   ·rfl
  ·rfl
 ·rfl
theorem plainOps_same {o:Oper} {s t:St} (h: ∀x∈o.op.operands.toList,evalO t x=evalO s x):plainOps o t=plainOps o s:=by
 unfold plainOps
 generalize o.op.operands.toList=l at h
 induction l with
 |nil=>rfl
 |cons x r ih=>simp only[List.all_cons,h x List.mem_cons_self,ih (fun y hy=>h y (List.mem_cons_of_mem _ hy))]
theorem plainOps_put {o:Oper} {s:St} {d:Option Tmp} {a:AV} (h1: ∀t,d=some t→Operand.tmp t∉o.op.operands.toList):plainOps o (s.put d a)=plainOps o s:=
 plainOps_same fun x hx=>evalO_put (fun t ht e=>h1 t ht (e▸hx))
theorem baseAt_put {i:Nat} {o:Oper} {s:St} {d:Option Tmp} {a:AV}:baseAt calm B0 i o (s.put d a)=baseAt calm B0 i o s:=by
 unfold baseAt
 rw[put_heap]
theorem calm_nil {j:Nat} {oj:Oper} {s:St} (hna:isAppend oj.op=true→calm.contains j=true) (hc:calmNow C calm j oj s=true):isAppend oj.op=true→nilAppend oj s=true:=fun ha=>by
 have h1:=hna ha
 simp only[calmNow,h1,ha,Bool.not_true,Bool.false_or,Bool.and_eq_true] at hc
 exact hc.1.1.1.2
theorem callReach_put {o:Oper} {s:St} {d:Option Tmp} {a:AV} (h1: ∀t,d=some t→Operand.tmp t∉o.op.operands.toList):callReach C o (s.put d a)=callReach C o s:=by
 unfold callReach
 rw[callIds_put h1,put_heap]
theorem keepsNow_put {o:Oper} {s:St} {d:Option Tmp} {a:AV} (h1: ∀t,d=some t→Operand.tmp t∉o.op.operands.toList):keepsNow C calm o (s.put d a)=keepsNow C calm o s:=by
 unfold keepsNow
 split
 ·rfl
 ·split
  ·rename_i t x v hop
   rw[evalO_put (fun t ht e=>h1 t ht (e▸by rw[hop];simp[Op.operands]))]
  ·rw[callReach_put h1]
  ·rfl
theorem seesNow_same {i:Nat} {o:Oper} {s t:St} (h: ∀x∈o.op.operands.toList,evalO t x=evalO s x):seesNow calm i o t=seesNow calm i o s:=by
 unfold seesNow
 congr 1
 generalize o.op.operands.toList=l at h
 induction l with
 |nil=>rfl
 |cons x r ih=>simp only[List.all_cons,h x List.mem_cons_self,ih (fun y hy=>h y (List.mem_cons_of_mem _ hy))]
theorem keepsNow_idle {o:Oper} {s:St} (h1: ∀t x v,o.op≠ .store t x v) (h3: ∀c,o.op= .call c→isCopy c.callee=false) (h2:callIds C o s=[]):keepsNow C calm o s=true:=by
 unfold keepsNow
 split
 ·rfl
 ·split
  ·rename_i t x v hop
   exact absurd hop (h1 t x v)
  ·rename_i c hop
   unfold callReach
   rw[h2,h3 c hop]
   simp[addNew,reach]
  ·rfl
theorem seesNow_off {i:Nat} {o:Oper} {s:St} (h:pureOp o.op=false):seesNow calm i o s=true:=by
 unfold seesNow
 rw[h]
 simp
def PrivIn (calm:List Nat) (s t:St):Prop:= ∀g∈privL calm,∀r,s.heap[g]? =some (some r)→t.heap[g]? =some (some r)
theorem fresh_of {H:Heap} {base:Nat}: ∀{n:Nat},(∀j,j<n→H[base+j]? =some none)→freshB H base n=true
 |0,_=>rfl
 |n+1,h=>by
  simp only[freshB,Bool.and_eq_true]
  exact⟨by rw[h n (by omega)],fresh_of (fun j hj=>h j (by omega))⟩
theorem handArg0_rows {T:TT} {s t:St} (h:RowsIn s t) {io:Bool} {ty:TypeId} {x a:AV} (ha:handArg0 s T io ty x=some a):handArg0 t T io ty x=some a:=by
 unfold handArg0 at*
 split at ha
 ·split at ha
  ·rename_i hio
   rw[if_pos hio]
   exact ha
  ·rename_i hio
   rw[if_neg hio]
   split at ha
   ·rename_i hr
    simp only[h.row hr]
    exact ha
   ·rename_i hr
    simp only[h.row hr]
    exact ha
   ·cases ha
 ·split at ha
  ·cases ha
  ·rename_i hio
   rw[if_neg hio]
   split at ha
   ·rename_i hr
    simp only[h.row hr]
    exact ha
   ·cases ha
 all_goals exact ha
theorem handCells_rows {s t:St} (h:RowsIn s t): ∀(cs l:List AV),handCells s cs=some l→handCells t cs=some l
 |[],_,hl=>hl
 |x::r,l,hl=>by
  simp only[handCells] at hl⊢
  split at hl
  ·rename_i a l' ha hl'
   have e:handCell t x=some a:=by
    unfold handCell at ha⊢
    split at ha
    ·exact handArg0_rows h ha
    ·exact handArg0_rows h ha
    ·exact ha
   rw[e,handCells_rows h r l' hl']
   exact hl
  ·cases hl
theorem handArg_rows {T:TT} {s t:St} (h:RowsIn s t) {io:Bool} {ty:TypeId} {x a:AV} (ha:handArg s T io ty x=some a):handArg t T io ty x=some a:=by
 unfold handArg at ha⊢
 split at ha
 ·cases io with
  |true=>exact ha
  |false=>
   simp only[cond_false] at ha⊢
   obtain⟨l,hl,rfl⟩:=Option.map_eq_some_iff.1 ha
   rw[handCells_rows h _ _ hl]
   rfl
 ·exact handArg0_rows h ha
theorem capsAV_rows {s t:St} (h:RowsIn s t): ∀(cs l:List AV),capsAV s cs=some l→capsAV t cs=some l
 |[],_,hl=>hl
 |x::r,l,hl=>by
  simp only[capsAV] at hl⊢
  split at hl
  ·rename_i a l' ha hl'
   have e:capAV t x=some a:=by
    unfold capAV at ha⊢
    split at ha
    ·split at ha
     ·rename_i hr
      simp only[h.row hr]
      exact ha
     ·cases ha
    ·exact ha
    ·cases ha
   rw[e,capsAV_rows h r l' hl']
   exact hl
  ·cases hl
theorem handArgs_rows {T:TT} {s t:St} (h:RowsIn s t) {io:Nat→Bool}: ∀(xs:List AV) (n:Nat) (ts:List TypeId) (l:List AV),handArgs s T io n ts xs=some l→handArgs t T io n ts xs=some l
 |[],_,_,_,hl=>by
  simp only[handArgs] at hl⊢
  exact hl
 |x::r,n,[],_,hl=>by simp[handArgs] at hl
 |x::r,n,ty::ts,l,hl=>by
  simp only[handArgs] at hl⊢
  split at hl
  ·rename_i a l' ha hl'
   have e:cond (io (n+tabAt)) (tabArg t x) (handArg t T (io n) ty x)=some a:=by
    cases hio:io (n+tabAt) with
    |true=>
     rw[hio] at ha
     simp only[cond_true] at ha⊢
     unfold tabArg at ha⊢
     split at ha
     ·split at ha
      ·rename_i l hl
       rw[capsAV_rows h _ l hl]
       exact ha
      ·cases ha
     ·split at ha
      ·rename_i hr
       simp only[h.row hr]
       exact ha
      ·cases ha
     ·exact ha
     ·cases ha
    |false=>rw[hio] at ha;exact handArg_rows h ha
   rw[e,handArgs_rows h r (n+1) ts l' hl']
   exact hl
  ·cases hl
theorem call_step {o:Oper} (hc:isValueCall o.op=true) {base:Nat} {s s1:St} (hid:callIds C o s=[]) (h:cstep (optAlg St) C base o s some=some s1):
  ∃(a:AV) (H':Heap),H'.length≤width∧(∀n,n<width→s.heap[base+n]? =some none)∧s1=(⟨s.env,putRows (backTo [] base) 0 H' s.heap⟩:St).put o.dst a∧
   ∀t:St,(∀x∈o.op.operands.toList,evalO t x=evalO s x)→RowsIn s t→(∀n,n<width→t.heap[base+n]? =some none)→
    callIds C o t=[]∧cstep (optAlg St) C base o t some=some ((⟨t.env,putRows (backTo [] base) 0 H' t.heap⟩:St).put o.dst a):=by
 obtain⟨odst,oop,otype,opos,oafter,oguard⟩:=o
 cases oop<;>(try cases hc)
 rename_i c
 obtain⟨callee,cargs,ctypes⟩:=c
 cases callee<;>(try cases hc)
 rename_i f
 simp only[cstep] at h⊢
 obtain⟨f1,hf,h⟩:=lift_opt h
 split at h
 ·rename_i g first caps
  split at h
  ·rename_i args hargs
   unfold acall at h
   split at h
   ·cases h
   ·rename_i avs havs
    have hids:idsL avs=[]:=by
     simp only[callIds,hf,hargs,havs] at hid
     exact hid
    have hre: ∀t:St,reach t.heap (t.heap.length+1) 0 (addNew [] (idsL avs))=[]:=fun t=>by
     rw[hids]
     simp[addNew,reach]
    simp only at h
    generalize hge:reach s.heap (s.heap.length+1) 0 (addNew [] (idsL avs))=ids at h
    have hnil:ids=[]:=by rw[←hge];exact hre s
    subst hnil
    split at h
    ·rename_i hchk
     simp only[Bool.and_eq_true] at hchk
     obtain⟨x,hx,h⟩:=bind_some_opt h
     rw[withAns_eq] at h
     split at h
     ·rename_i hchk2
      cases h
      have hw:((C.orc g (renL (place []) avs) (subHeap s.heap [])).dec x).2.length≤width:=by
       simp only[Bool.and_eq_true,decide_eq_true_eq] at hchk2
       simpa using hchk2.1.1
      refine⟨_,_,hw,fun n hn=>fresh_get hchk.2 hn,rfl,fun t ht hrows hfr=> ?_⟩
      have e0:evalO t f=some (.fn g first caps):=by
       rw[ht f (by simp[Op.operands,Call.operands]),hf]
      have e1:argsAV t cargs.toList=some args:=by
       rw[←hargs]
       exact argsAV_same (fun x hx=>ht x (by simp[Op.operands,Call.operands];exact .inr (by simpa using hx)))
      have e2:=handArgs_rows hrows _ _ _ _ havs
      refine⟨?_,?_⟩
      ·simp only[callIds,e0,e1,e2]
       exact hids
      ·rw[e0]
       simp only[lift,e1]
       unfold acall
       rw[e2]
       simp only
       generalize hgt:reach t.heap (t.heap.length+1) 0 (addNew [] (idsL avs))=ids
       have hnil:ids=[]:=by rw[←hgt];exact hre t
       subst hnil
       have hck:(nodupB []&&closedB t.heap [] []&&(idsL avs).all (fun g=>([]:List Nat).contains g)&&(roIds (first++args++caps) avs).all (fun h=> !([]:List Nat).contains h)&&freshB t.heap base width)=true:=by
        rw[fresh_of hfr]
        simp only[Bool.and_eq_true]
        exact⟨⟨⟨⟨rfl,rfl⟩,hchk.1.1.2⟩,hchk.1.2⟩,trivial⟩
       rw[if_pos hck]
       rw[show subHeap t.heap []=subHeap s.heap [] from rfl,hx]
       simp only[optAlg,Option.bind_some]
       rw[withAns_eq]
       exact(if_pos hchk2).trans rfl
     ·cases h
    ·cases h
  ·cases h
 ·cases h
theorem mem_addNew {x:Nat}: ∀{l acc:List Nat},x∈acc→x∈addNew acc l
 |[],acc,h=>h
 |y::l,acc,h=>by
  unfold addNew
  split
  ·exact mem_addNew h
  ·exact mem_addNew (List.mem_append_left _ h)
theorem reach_mem {H:Heap} {x:Nat}: ∀{n i:Nat} {acc:List Nat},x∈acc→x∈reach H n i acc
 |0,i,acc,h=>h
 |n+1,i,acc,h=>by
  unfold reach
  split
  ·exact h
  ·split
   ·exact reach_mem (mem_addNew h)
   ·exact reach_mem h
theorem reach_same {H H':Heap} (R: ∀(h:Nat) (r:Row),H[h]? =some (some r)→H'[h]? =some (some r)): ∀(n i:Nat) (acc:List Nat),(∀h∈reach H n i acc,∃r,H[h]? =some (some r))→reach H' n i acc=reach H n i acc
 |0,i,acc,_=>rfl
 |n+1,i,acc,hall=>by
  unfold reach at hall⊢
  cases hi:acc[i]? with
  |none=>rfl
  |some g=>
   simp only[hi] at hall⊢
   have hg: ∃r,H[g]? =some (some r):=by
    refine hall g ?_
    have:=List.mem_of_getElem? hi
    split
    ·exact reach_mem (mem_addNew this)
    ·exact reach_mem this
   obtain⟨r,hr⟩:=hg
   simp only[hr] at hall
   simp only[hr,R g r hr]
   exact reach_same R n (i+1) _ hall
theorem closedB_rows {H H':Heap} (R: ∀(h:Nat) (r:Row),H[h]? =some (some r)→H'[h]? =some (some r)) {ids:List Nat}: ∀{l:List Nat},closedB H ids l=true→closedB H' ids l=true
 |[],_=>rfl
 |h::l,hc=>by
  simp only[closedB,Bool.and_eq_true] at hc⊢
  refine⟨?_,closedB_rows R hc.2⟩
  have h1:=hc.1
  split at h1
  ·rename_i x hx
   rw[R h x hx]
   exact h1
  ·cases h1
theorem subHeap_rows {H H':Heap} (R: ∀(h:Nat) (r:Row),H[h]? =some (some r)→H'[h]? =some (some r)) {ids:List Nat} (hall: ∀g∈ids,∃r,H[g]? =some (some r)):subHeap H' ids=subHeap H ids:=by
 unfold subHeap
 refine List.map_congr_left fun g hg=> ?_
 obtain⟨r,hr⟩:=hall g hg
 rw[hr,R g r hr]
theorem putRows_keep (f:Nat→Nat) {g:Nat}: ∀(Hs:Heap) (n:Nat) (H:Heap),(∃r,H[g]? =some (some r))→ ∃r,(putRows f n Hs H)[g]? =some (some r)
 |[],n,H,h=>h
 |r::rest,n,H,h=>by
  unfold putRows
  refine putRows_keep f rest (n+1) _ ?_
  cases r with
  |none=>exact h
  |some x=>
   simp only
   by_cases e:f n=g
   ·rw[e]
    obtain⟨r,hr⟩:=h
    exact⟨_,List.getElem?_set_self (List.getElem?_eq_some_iff.1 hr).1⟩
   ·rw[List.getElem?_set_ne e]
    exact h
theorem call_rows {o:Oper} (hc:isValueCall o.op=true) {base:Nat} {s s1:St} (hst:stillOk C o s=true) (h:cstep (optAlg St) C base o s some=some s1):
  ∃(a:AV) (H':Heap) (ids:List Nat),callReach C o s=ids∧(∀g∈ids,∃r,s.heap[g]? =some (some r))∧H'.length≤ids.length+width∧(∀n,n<width→s.heap[base+n]? =some none)∧s1=(⟨s.env,putRows (backTo ids base) 0 H' s.heap⟩:St).put o.dst a∧
   ∀t:St,(∀x∈o.op.operands.toList,evalO t x=evalO s x)→RowsIn s t→t.heap.length=s.heap.length→(∀n,n<width→t.heap[base+n]? =some none)→
    stillOk C o t=true∧callReach C o t=ids∧cstep (optAlg St) C base o t some=some ((⟨t.env,putRows (backTo ids base) 0 H' t.heap⟩:St).put o.dst a):=by
 obtain⟨odst,oop,otype,opos,oafter,oguard⟩:=o
 cases oop<;>(try cases hc)
 rename_i c
 obtain⟨callee,cargs,ctypes⟩:=c
 cases callee<;>(try cases hc)
 rename_i f
 simp only[cstep] at h⊢
 obtain⟨f1,hf,h⟩:=lift_opt h
 split at h
 ·rename_i g first caps
  split at h
  ·rename_i args hargs
   simp only[stillOk,hf,hargs] at hst
   unfold acall at h
   unfold mvNo at hst
   split at h
   ·cases h
   ·rename_i avs havs
    rw[havs] at hst
    simp only at h hst
    generalize hge:reach s.heap (s.heap.length+1) 0 (addNew [] (idsL avs))=ids at h hst
    split at h
    ·rename_i hchk
     simp only[Bool.and_eq_true] at hchk
     obtain⟨x,hx,h⟩:=bind_some_opt h
     rw[withAns_eq] at h
     split at h
     ·rename_i hchk2
      cases h
      have hrow: ∀g∈ids,∃r,s.heap[g]? =some (some r):=fun g hg=>by
       obtain⟨r,hr,_⟩:=closed_get hchk.1.1.1.2 hg
       exact⟨r,hr⟩
      have hw:((C.orc g (renL (place ids) avs) (subHeap s.heap ids)).dec x).2.length≤ids.length+width:=by
       simp only[Bool.and_eq_true,decide_eq_true_eq] at hchk2
       exact hchk2.1.1
      have hcr:callReach C ⟨odst,.call ⟨.value f,cargs,ctypes⟩,otype,opos,oafter,oguard⟩ s=ids:=by
       simp only[callReach,callIds,hf,hargs,havs]
       exact hge
      refine⟨_,_,ids,hcr,hrow,hw,fun n hn=>fresh_get hchk.2 hn,rfl,fun t ht hrows hlen hfr=> ?_⟩
      have e0:evalO t f=some (.fn g first caps):=by
       rw[ht f (by simp[Op.operands,Call.operands]),hf]
      have e1:argsAV t cargs.toList=some args:=by
       rw[←hargs]
       exact argsAV_same (fun x hx=>ht x (by simp[Op.operands,Call.operands];exact .inr (by simpa using hx)))
      have e2:=handArgs_rows hrows _ _ _ _ havs
      have e3:reach t.heap (t.heap.length+1) 0 (addNew [] (idsL avs))=ids:=by
       rw[hlen,←hge]
       exact reach_same hrows _ _ _ (by rw[hge];exact hrow)
      have e4:subHeap t.heap ids=subHeap s.heap ids:=subHeap_rows hrows hrow
      have e5:callReach C ⟨odst,.call ⟨.value f,cargs,ctypes⟩,otype,opos,oafter,oguard⟩ t=ids:=by
       simp only[callReach,callIds,e0,e1,e2]
       exact e3
      refine⟨?_,e5,?_⟩
      ·simp only[stillOk,e0,e1]
       unfold mvNo
       rw[e2]
       simp only[e3,e4]
       exact hst
      ·rw[e0]
       simp only[lift,e1]
       unfold acall
       rw[e2]
       simp only
       generalize hgt:reach t.heap (t.heap.length+1) 0 (addNew [] (idsL avs))=ids2
       rw[e3] at hgt
       subst hgt
       rw[e4]
       have hck:(nodupB ids&&closedB t.heap ids ids&&(idsL avs).all (fun g=>ids.contains g)&&(roIds (first++args++caps) avs).all (fun h=> !ids.contains h)&&freshB t.heap base width)=true:=by
        rw[fresh_of hfr,closedB_rows hrows hchk.1.1.1.2]
        simp only[Bool.and_eq_true]
        exact⟨⟨⟨⟨hchk.1.1.1.1,trivial⟩,hchk.1.1.2⟩,hchk.1.2⟩,trivial⟩
       rw[if_pos hck,hx]
       simp only[optAlg,Option.bind_some]
       rw[withAns_eq]
       exact(if_pos hchk2).trans rfl
     ·cases h
    ·cases h
  ·cases h
 ·cases h
theorem astore_keeps {T:TT} {s:St} {t:TypeId} {p v:AV} {K:St→Option St} {s1:St} (h:astore (optAlg St) T s t p v K=some s1): ∃g r,g∈p.ids∧K (s.setRow g r)=some s1:=by
 unfold astore at h
 split at h
 ·cases h
 ·split at h
  ·split at h
   ·split at h
    ·split at h
     ·exact⟨_,_,by simp[AV.ids],h⟩
     ·cases h
    ·split at h
     ·obtain⟨_,_,h⟩:=bind_some_opt h
      exact⟨_,_,by simp[AV.ids],h⟩
     ·cases h
    ·cases h
   ·cases h
  ·split at h
   ·split at h
    ·split at h
     ·split at h
      ·split at h
       ·exact⟨_,_,by simp[AV.ids],h⟩
       ·cases h
      ·cases h
     ·split at h
      ·split at h
       ·obtain⟨_,_,h⟩:=bind_some_opt h
        exact⟨_,_,by simp[AV.ids],h⟩
       ·cases h
      ·cases h
     ·cases h
    ·split at h
     ·split at h
      ·exact⟨_,_,by simp[AV.ids],h⟩
      ·cases h
     ·cases h
    ·cases h
   ·cases h
theorem boxOf_same {o:Oper} {s t:St} (h: ∀x∈o.op.operands.toList,evalO t x=evalO s x):boxOf C o t=boxOf C o s:=by
 obtain⟨odst,oop,otype,opos,oafter,oguard⟩:=o
 unfold boxOf
 cases oop<;>simp only
 rename_i ty n ps
 split
 ·split
  ·rename_i x hu hps
   have hm:x∈(Op.buildSlice ty 1 ps).operands.toList:=by
    have e:ps= #[(0,x)]:=by apply Array.ext';simpa using hps
    subst e
    simp[Op.operands]
   have e2:evalO t x=evalO s x:=h x (by simpa using hm)
   rw[e2]
  ·rfl
 ·rfl
theorem boxOf_none {o:Oper} {s:St} (h:isBuild o.op=false):boxOf C o s=none:=by
 obtain⟨odst,oop,otype,opos,oafter,oguard⟩:=o
 cases oop<;>first|rfl|cases h
theorem estep_plain {β:Type} {i base:Nat} {o:Oper} {s:St} {k:St→Option β} (hw:calm.contains (i+wildAt)=false) (hb:isBuild o.op=false):estep (optAlg β) C calm i base o s k=cstep (optAlg β) C base o s k:=by
 unfold estep
 rw[hw,boxOf_none hb]
 cases C.deep<;>rfl
theorem estep_tame {β:Type} {i base:Nat} {o:Oper} {s:St} {k:St→Option β} (hw:calm.contains (i+wildAt)=false):
  estep (optAlg β) C calm i base o s k=match(cond C.deep (boxOf C o s) none) with
   |some g=>allocRow (optAlg β) s base (.box [.slc g]) fun s'=>k (s'.put o.dst (.slc base))
   |none=>cstep (optAlg β) C base o s k:=by
 unfold estep
 rw[hw]
 cases C.deep<;>rfl
theorem estep_put {β:Type} {j base:Nat} {o:Oper} {s:St} {d:Option Tmp} {a:AV} (k:St→Option β) (hw:calm.contains (j+wildAt)=false) (hap:isAppend o.op=true→nilAppend o s=true) (h1: ∀t,d=some t→Operand.tmp t∉o.op.operands.toList) (h2: ∀t,d=some t→o.dst≠some t):
  estep (optAlg β) C calm j base o (s.put d a) k=estep (optAlg β) C calm j base o s (fun s'=>k (s'.put d a)):=by
 rw[estep_tame hw,estep_tame hw,boxOf_same (s:=s) (t:=s.put d a) (fun x hx=>evalO_put (fun t ht e=>h1 t ht (e▸hx)))]
 cases cond C.deep (boxOf C o s) none with
 |none=>exact cstep_put k hap h1 h2
 |some g=>
  simp only
  rw[allocRow_put]
  congr 1
  funext s'
  rw[put_comm h2]
theorem estep_bind {j base:Nat} {o:Oper} {s:St} {k:St→Option St} {r:St} (hw:calm.contains (j+wildAt)=false) (h:estep (optAlg St) C calm j base o s k=some r): ∃s0,estep (optAlg St) C calm j base o s some=some s0∧k s0=some r:=by
 rw[estep_tame hw] at h⊢
 cases hc:cond C.deep (boxOf C o s) none with
 |none=>
  rw[hc] at h
  exact cstep_bind h
 |some g=>
  rw[hc] at h
  simp only at h⊢
  obtain⟨hf,h⟩:=allocRow_opt h
  refine⟨_,?_,h⟩
  unfold allocRow
  rw[hf]
theorem stepAt_put {i j:Nat} {oi oj:Oper} {a:AV} {s s1:St} (hj:ops[j]? =some oj) (hap:oi.apart ops oj=true) (hna:isAppend oj.op=true→calm.contains j=true) (hw:calm.contains (j+wildAt)=false) (h:stepAt C ops.toList calm B0 j (s.put oi.dst a)=some s1):
  ∃s0,stepAt C ops.toList calm B0 j s=some s0∧s1=s0.put oi.dst a:=by
 obtain⟨h1,h2,h3⟩:=Oper.apart_spec hap
 have hj':ops.toList[j]? =some oj:=by simpa using hj
 have hcalm:calmNow C calm j oj (s.put oi.dst a)=calmNow C calm j oj s:=by
  unfold calmNow
  rw[callIds_put (fun t ht=>not_operand (h1 t ht)),nilAppend_put (fun t ht=>not_operand (h1 t ht)),plainOps_put (fun t ht=>not_operand (h1 t ht)),stillOk_put (fun t ht=>not_operand (h1 t ht)),keepsNow_put (fun t ht=>not_operand (h1 t ht)),seesNow_same (s:=s) (t:=s.put oi.dst a) (fun x hx=>evalO_put (fun t ht e=>not_operand (h1 t ht) (e▸hx)))]
 have hstep: ∀{s1},(if calmNow C calm j oj (s.put oi.dst a)=true then estep (optAlg St) C calm j (baseAt calm B0 j oj (s.put oi.dst a)) oj (s.put oi.dst a) some else none)=some s1→
   ∃s0,(if calmNow C calm j oj s=true then estep (optAlg St) C calm j (baseAt calm B0 j oj s) oj s some else none)=some s0∧s1=s0.put oi.dst a:=fun {s1} h=>by
  rw[hcalm,baseAt_put] at h
  split at h
  ·rename_i hc
   rw[estep_put some hw (calm_nil hna hc) (fun t ht=>not_operand (h1 t ht)) h2] at h
   obtain⟨s0,h4,h5⟩:=estep_bind hw h
   cases h5
   exact⟨s0,by rw[if_pos hc];exact h4,rfl⟩
  ·cases h
 unfold stepAt at h⊢
 simp only[hj'] at h⊢
 split at h
 ·rename_i hg
  exact hstep h
 ·rename_i g want hg
  split at h
  ·cases h
  ·rename_i t ht
   have he:(s.put oi.dst a).env[t]? =s.env[t]? :=by
    cases hd:oi.dst with
    |none=>rfl
    |some d=>
     have hne:d≠t:=not_guard (h1 d hd) hg ht
     simp[St.put,List.getElem?_set_ne hne]
   rw[he] at h
   split at h
   ·rename_i b hb
    split at h
    ·rename_i hbw
     rw[if_pos hbw]
     exact hstep h
    ·rename_i hbw
     rw[if_neg hbw]
     cases h
     exact⟨_,rfl,put_comm h2⟩
   ·cases h
    exact⟨_,rfl,put_comm h2⟩
   ·cases h
theorem estep_shape {j base:Nat} {o:Oper} {s s1:St} (hw:calm.contains (j+wildAt)=false) (hap:isAppend o.op=true→nilAppend o s=true) (h:estep (optAlg St) C calm j base o s some=some s1):
  ∃(v:AV) (H:Heap),s1=(⟨s.env,H⟩:St).put o.dst v∧ ∀(calm:List Nat) (i:Nat),calmKind calm i o.op=true→calmNow C calm i o s=true→RowsIn' s.heap H:=by
 rw[estep_tame hw] at h
 cases hc:cond C.deep (boxOf C o s) none with
 |none=>
  rw[hc] at h
  exact step_shape hap h
 |some g=>
  rw[hc] at h
  obtain⟨hf,h⟩:=allocRow_opt h
  cases h
  exact⟨_,_,rfl,fun _ _ _ _=>rows_set hf⟩
theorem estep_keeps {j base:Nat} {o:Oper} {s s1:St} (hw:calm.contains (j+wildAt)=false) (hna:isAppend o.op=true→calm.contains j=true) (hc:calmNow C calm j o s=true) (h:estep (optAlg St) C calm j base o s some=some s1):PrivIn calm s s1:=fun g hg r hr=>by
 obtain⟨v,H,rfl,hk⟩:=estep_shape hw (calm_nil hna hc) h
 rw[put_heap]
 cases hck:calmKind calm j o.op with
 |true=>exact hk calm j hck hc g r hr
 |false=>
  have hkeep:keepsNow C calm o s=true:=by
   simp only[calmNow,Bool.and_eq_true] at hc
   exact hc.2.1
  have hst:stillOk C o s=true:=by
   simp only[calmNow,hw,Bool.or_false,Bool.and_eq_true] at hc
   exact hc.1.2
  have hne:privL calm≠ []:=fun e=>by rw[e] at hg;cases hg
  have hb:isBuild o.op=false:=by
   cases hbb:isBuild o.op with
   |false=>rfl
   |true=>
    unfold isBuild at hbb
    split at hbb
    ·rename_i e
     rw[e] at hck
     simp[calmKind] at hck
    ·cases hbb
  rw[estep_plain hw hb] at h
  obtain⟨odst,oop,otype,opos,oafter,oguard⟩:=o
  cases oop<;>(try (simp[calmKind] at hck;done))
  case store t x v0=>
   simp only[cstep] at h
   obtain⟨p1,hp1,h⟩:=lift_opt h
   obtain⟨v1,hv1,h⟩:=lift_opt h
   obtain⟨g',r',hm,h⟩:=astore_keeps h
   have hH:H=(s.setRow g' r').heap:=by
    have:=congrArg St.heap (Option.some.inj h)
    rw[put_heap,put_heap] at this
    exact this.symm
   rw[hH]
   have hng:g'≠g:=fun e=>by
    unfold keepsNow at hkeep
    split at hkeep
    ·rename_i e0
     exact hne e0
    ·simp only[hp1] at hkeep
     have:=List.all_eq_true.1 hkeep g' hm
     rw[e] at this
     have h2:(privL calm).contains g=true:=by simpa using hg
     rw[h2] at this
     cases this
   simp only[St.setRow]
   rw[List.getElem?_set_ne hng]
   exact hr
  case call c=>
   have hvc:isValueCall (.call c)=true:=by
    obtain⟨callee,cargs,ctypes⟩:=c
    cases callee with
    |value f=>rfl
    |builtin b=>
     exfalso
     cases b<;>(try (simp[calmKind] at hck;done))
     ·simp only[calmKind] at hck
      have:=hna (by simp[isAppend])
      rw[this] at hck
      cases hck
     ·unfold keepsNow at hkeep
      split at hkeep
      ·rename_i e0
       exact hne e0
      ·simp[isCopy] at hkeep
    |_=>simp[calmKind] at hck
   obtain⟨a,H',ids,hcr,hin,hwd,hfr,he,_⟩:=call_rows hvc hst h
   have hH:H=putRows (backTo ids base) 0 H' s.heap:=by
    have:=congrArg St.heap he
    rw[put_heap,put_heap] at this
    exact this
   have hni:g∉ids:=fun hm=>by
    unfold keepsNow at hkeep
    split at hkeep
    ·rename_i e0
     exact hne e0
    ·simp only[hcr,Bool.and_eq_true] at hkeep
     have:=List.all_eq_true.1 hkeep.2 g hm
     have h2:(privL calm).contains g=true:=by simpa using hg
     rw[h2] at this
     cases this
   rw[hH,putRows_miss]
   ·exact hr
   ·intro k r' hk' e
    have hkl:=(List.getElem?_eq_some_iff.1 hk').1
    rw[Nat.zero_add] at e
    unfold backTo at e
    cases hgk:ids[k]? with
    |some g2=>
     rw[hgk] at e
     simp only at e
     exact hni (e▸List.mem_of_getElem? hgk)
    |none=>
     rw[hgk] at e
     simp only at e
     have:=List.getElem?_eq_none_iff.1 hgk
     have h1:=hfr (k-ids.length) (by omega)
     rw[e,hr] at h1
     cases h1
theorem stepAt_shape {j:Nat} {oj:Oper} {s s0:St} (hj:ops[j]? =some oj) (hna:isAppend oj.op=true→calm.contains j=true) (hw:calm.contains (j+wildAt)=false) (h:stepAt C ops.toList calm B0 j s=some s0):
  (∀t,oj.dst≠some t→s0.env[t]? =s.env[t]?)∧(calmKind calm j oj.op=true→RowsIn s s0)∧PrivIn calm s s0:=by
 have hj':ops.toList[j]? =some oj:=by simpa using hj
 have hput: ∀(v:AV) (H:Heap) (t:Tmp),oj.dst≠some t→((⟨s.env,H⟩:St).put oj.dst v).env[t]? =s.env[t]? :=fun v H t ht=>by
  cases hd:oj.dst with
  |none=>rfl
  |some d=>
   have hne:d≠t:=fun e=>ht (by rw[hd,e])
   simp[St.put,List.getElem?_set_ne hne]
 have hstep:(if calmNow C calm j oj s=true then estep (optAlg St) C calm j (baseAt calm B0 j oj s) oj s some else none)=some s0→
   (∀t,oj.dst≠some t→s0.env[t]? =s.env[t]?)∧(calmKind calm j oj.op=true→RowsIn s s0)∧PrivIn calm s s0:=fun h=>by
  split at h
  ·rename_i hc
   have hpr:=estep_keeps hw hna hc h
   obtain⟨v,H,rfl,hr⟩:=estep_shape hw (calm_nil hna hc) h
   refine⟨fun t ht=>hput v H t ht,fun hk g r hg=> ?_,hpr⟩
   rw[put_heap]
   exact hr calm j hk hc g r hg
  ·cases h
 unfold stepAt at h
 simp only[hj'] at h
 split at h
 ·exact hstep h
 ·split at h
  ·cases h
  ·split at h
   ·split at h
    ·exact hstep h
    ·cases h
     exact⟨fun t ht=>hput _ _ t ht,fun _ g r hg=>by rw[put_heap];exact hg,fun g _ r hg=>by rw[put_heap];exact hg⟩
   ·cases h
    exact⟨fun t ht=>hput _ _ t ht,fun _ g r hg=>by rw[put_heap];exact hg,fun g _ r hg=>by rw[put_heap];exact hg⟩
   ·cases h
theorem build_step {o:Oper} {s s1:St} (hb:isBuild o.op=true) (h:cstep (optAlg St) C s.heap.length o s some=some s1):
  ∃a,s1=s.put o.dst a∧ ∀t:St,(∀x∈o.op.operands.toList,evalO t x=evalO s x)→cstep (optAlg St) C t.heap.length o t some=some (t.put o.dst a):=by
 obtain⟨odst,oop,otype,opos,oafter,oguard⟩:=o
 cases oop<;>(try cases hb)
 rename_i ty n ps
 have hnone: ∀t:St,t.heap[t.heap.length]? =none:=fun t=>by simp
 simp only[cstep,hnone] at h⊢
 split at h
 ·rename_i ie l hie hl
  split at h
  ·rename_i u hu
   split at h
   ·rename_i xs hxs
    split at h
    ·rename_i hc
     cases h
     refine⟨_,rfl,fun t ht=> ?_⟩
     have e:partsAV t ps.toList=partsAV s ps.toList:=partsAV_same (fun x hx=>ht x (by simpa[Op.operands] using hx))
     rw[hie,e,hl]
     simp only[hu,hxs]
     rw[if_pos hc]
    ·cases h
   ·cases h
  ·cases h
 ·cases h
def oneValue (calm:List Nat) (i:Nat) (o:Op):Bool:=pureOp o||(isBuild o&&calm.contains i)
theorem one_step {i:Nat} {o:Oper} {s s1:St} (hw:calm.contains (i+wildAt)=false) (hp:oneValue calm i o.op=true) (h:estep (optAlg St) C calm i (baseAt calm B0 i o s) o s some=some s1):
  ∃a,s1=s.put o.dst a∧ ∀t:St,(∀x∈o.op.operands.toList,evalO t x=evalO s x)→(heapFree o.op=true∨plainOps o s=true∨Sees o s t)→estep (optAlg St) C calm i (baseAt calm B0 i o t) o t some=some (t.put o.dst a):=by
 simp only[oneValue,Bool.or_eq_true,Bool.and_eq_true] at hp
 have hpb:pureOp o.op=true→isBuild o.op=false:=fun hp=>by
  obtain⟨odst,oop,otype,opos,oafter,oguard⟩:=o
  cases oop<;>first|rfl|cases hp
 rcases hp with hp|⟨hb,hc⟩
 ·rw[estep_plain hw (hpb hp)] at h
  obtain⟨a,h1,h2⟩:=pure_step hp h
  exact⟨a,h1,fun t ht hr=>by rw[estep_plain hw (hpb hp)];exact h2 _ t ht hr⟩
 ·have hbase: ∀t:St,baseAt calm B0 i o t=t.heap.length:=fun t=>by
   unfold baseAt
   split
   ·rw[hc];rfl
   ·rename_i hne
    unfold isBuild at hb
    split at hb
    ·rename_i e;exact absurd e (hne _ _ _)
    ·cases hb
  rw[hbase,estep_tame hw] at h
  cases hcb:cond C.deep (boxOf C o s) none with
  |some g=>
   rw[hcb] at h
   obtain⟨hf,_⟩:=allocRow_opt h
   simp at hf
  |none=>
   rw[hcb] at h
   obtain⟨a,h1,h2⟩:=build_step hb h
   exact⟨a,h1,fun t ht _=>by rw[hbase,estep_tame hw,boxOf_same ht,hcb];exact h2 t ht⟩
theorem stepAt_pure {i:Nat} {oi:Oper} {s s1:St} (hi:ops[i]? =some oi) (hw:calm.contains (i+wildAt)=false) (hp:oneValue calm i oi.op=true) (h:stepAt C ops.toList calm B0 i s=some s1):
  ∃a,s1=s.put oi.dst a∧ ∀t:St,(∀x∈oi.looksAt ops,t.env[x]? =s.env[x]?)→(heapFree oi.op=true∨calm.contains i=true∨(calm.contains (i+seeAt)=true∧PrivIn calm s t)∨RowsIn s t)→stepAt C ops.toList calm B0 i t=some (t.put oi.dst a):=by
 have hi':ops.toList[i]? =some oi:=by simpa using hi
 have hna:isAppend oi.op=false:=by
  simp only[oneValue,Bool.or_eq_true,Bool.and_eq_true] at hp
  unfold isAppend
  split
  ·rename_i c hc
   rw[hc] at hp
   simp only[pureOp,isBuild] at hp
   split
   ·rename_i hb
    rw[hb] at hp
    simp at hp
   ·rfl
  ·rfl
 have hcall: ∀t,callIds C oi t=[]:=fun t=>by
  unfold callIds
  split
  ·rename_i c hc
   split
   ·rename_i f hf
    simp only[oneValue,Bool.or_eq_true,Bool.and_eq_true] at hp
    rw[hc] at hp
    simp[pureOp,isBuild,hf] at hp
   ·rfl
  ·rfl
 have hns: ∀t x v,oi.op≠ .store t x v:=fun t x v e=>by
  simp only[oneValue,Bool.or_eq_true,Bool.and_eq_true] at hp
  rw[e] at hp
  simp[pureOp,isBuild] at hp
 have hnc: ∀c,oi.op= .call c→isCopy c.callee=false:=fun c e=>by
  simp only[oneValue,Bool.or_eq_true,Bool.and_eq_true] at hp
  rw[e] at hp
  obtain⟨callee,cargs,ctypes⟩:=c
  cases callee with
  |builtin b=>cases b<;>first|rfl|simp[pureOp,isBuild] at hp
  |_=>rfl
 have hnow: ∀t,calmNow C calm i oi t=((!calm.contains i||(!pureOp oi.op||plainOps oi t))&&seesNow calm i oi t):=fun t=>by
  unfold calmNow
  rw[stillOk_nil (hcall t),hna,hcall,keepsNow_idle hns hnc (hcall t)]
  simp
 have hops: ∀t:St,(∀x∈oi.looksAt ops,t.env[x]? =s.env[x]?)→ ∀x∈oi.op.operands.toList,evalO t x=evalO s x:=fun t ht x hx=>by
  cases x with
  |tmp u=>
   refine ht u ?_
   simp only[Oper.looksAt,List.mem_append,List.mem_filterMap]
   exact .inl ⟨_,hx,rfl⟩
  |_=>rfl
 have hdo:(if calmNow C calm i oi s=true then estep (optAlg St) C calm i (baseAt calm B0 i oi s) oi s some else none)=some s1→
   ∃a,s1=s.put oi.dst a∧ ∀t:St,(∀x∈oi.looksAt ops,t.env[x]? =s.env[x]?)→(heapFree oi.op=true∨calm.contains i=true∨(calm.contains (i+seeAt)=true∧PrivIn calm s t)∨RowsIn s t)→
    (if calmNow C calm i oi t=true then estep (optAlg St) C calm i (baseAt calm B0 i oi t) oi t some else none)=some (t.put oi.dst a):=fun h=>by
  split at h
  ·rename_i hc
   obtain⟨a,h1,h2⟩:=one_step hw hp h
   refine⟨a,h1,fun t ht hr=> ?_⟩
   rw[hnow] at hc
   have hpl:=plainOps_same (hops t ht)
   rw[hnow,hpl,seesNow_same (hops t ht),if_pos hc]
   simp only[Bool.and_eq_true] at hc
   obtain⟨hc,hse⟩:=hc
   refine h2 t (hops t ht) ?_
   rcases hr with hr|hr|⟨hr,hpi⟩|hr
   rotate_left 2
   ·unfold seesNow at hse
    rw[hr] at hse
    cases hpo:pureOp oi.op with
    |true=>
     rw[hpo] at hse
     simp only[Bool.not_true,Bool.false_or] at hse
     refine .inr (.inr fun x hx a ha g hg r hgr=>hpi g ?_ r hgr)
     have h5:=List.all_eq_true.1 hse x hx
     rw[ha] at h5
     have h6:=List.all_eq_true.1 h5 g hg
     simpa using h6
    |false=>
     simp only[oneValue,hpo,Bool.false_or,Bool.and_eq_true] at hp
     unfold isBuild at hp
     split at hp
     ·rename_i e
      rw[e];exact .inl rfl
     ·cases hp.1
   ·exact .inr (.inr (hr.sees oi))
   ·exact .inl hr
   ·rw[hr] at hc
    cases hpo:pureOp oi.op with
    |true=>rw[hpo] at hc;exact .inr (.inl (by simpa using hc))
    |false=>
     simp only[oneValue,hpo,Bool.false_or,Bool.and_eq_true] at hp
     unfold isBuild at hp
     split at hp
     ·rename_i e
      rw[e];exact .inl rfl
     ·cases hp.1
  ·cases h
 unfold stepAt at h⊢
 simp only[hi'] at h⊢
 split at h
 ·rename_i hg
  exact hdo h
 ·rename_i g want hg
  split at h
  ·cases h
  ·rename_i t0 ht0
   have hlook: ∀t:St,(∀x∈oi.looksAt ops,t.env[x]? =s.env[x]?)→t.env[t0]? =s.env[t0]? :=fun t ht=>ht t0 (by
    simp only[Oper.looksAt,List.mem_append,hg]
    right
    have:(ops[g]?).bind (·.dst)=some t0:=by simpa using ht0
    rw[this];simp)
   split at h
   ·rename_i b hb
    split at h
    ·rename_i hbw
     obtain⟨a,h1,h2⟩:=hdo h
     refine⟨a,h1,fun t ht hr=> ?_⟩
     simp only[hg,ht0,hlook t ht,hb]
     rw[if_pos hbw]
     exact h2 t ht hr
    ·rename_i hbw
     cases h
     refine⟨.tup [],rfl,fun t ht hr=> ?_⟩
     simp only[hg,ht0,hlook t ht,hb]
     rw[if_neg hbw]
   ·rename_i hb
    cases h
    refine⟨.tup [],rfl,fun t ht hr=> ?_⟩
    simp only[hg,ht0,hlook t ht,hb]
   ·cases h
def oAny (C:Ctx) (ops:Array Oper) (calm:List Nat) (B0:Nat) (s':St):Nat→Array Bool→St→Prop
 |0,listed,s=>Region.ready .any ops listed=[]∧s=s'
 |n+1,listed,s=>(Region.ready .any ops listed=[]→s=s')∧ ∀i∈Region.ready .any ops listed,∃s1,stepAt C ops.toList calm B0 i s=some s1∧oAny C ops calm B0 s' n (listed.setIfInBounds i true) s1
structure FreeP (ops:Array Oper) (calm:List Nat) (listed:Array Bool) (i:Nat) (oi:Oper) (l:List Nat):Prop where
 off: ∀b∈l,listed.getD b true=false
 wait: ∀b∈l,∃ob,ops[b]? =some ob∧ ∃e∈ob.after,Region.binds .any e=true∧(e.on=i∨e.on∈l)
 free: ∀(j:Nat) (oj:Oper),ops[j]? =some oj→j≠i→listed.getD j true=false→j∉l→
  oi.apart ops oj=true∧(heapFree oi.op=true∨calm.contains i=true∨calm.contains (i+seeAt)=true∨calmKind calm j oj.op=true)∧(isAppend oj.op=true→calm.contains j=true∨moveB calm i oi=true)∧calm.contains (j+wildAt)=false
theorem freeP_of {listed:Array Bool} {i:Nat} {oi:Oper} (h:freeB ops calm listed i oi=true):FreeP ops calm listed i oi (waitL ops listed i):=by
 simp only[freeB,Bool.and_eq_true] at h
 obtain⟨hw,hf⟩:=h
 refine⟨fun b hb=> ?_,fun b hb=> ?_,fun j oj hj hne hl hjl=> ?_⟩
 ·have h1:=List.all_eq_true.1 hw b hb
  simp only[Bool.and_eq_true,Bool.not_eq_true'] at h1
  exact h1.1
 ·have h1:=List.all_eq_true.1 hw b hb
  simp only[Bool.and_eq_true] at h1
  have h2:=h1.2
  cases ho:ops[b]? with
  |none=>rw[ho] at h2;cases h2
  |some ob=>
   rw[ho] at h2
   simp only[waits,Array.any_eq_true',Bool.and_eq_true,Bool.or_eq_true,beq_iff_eq] at h2
   obtain⟨e,he,hb',ho'⟩:=h2
   exact⟨ob,rfl,e,he,hb',ho'.imp id (fun x=>by simpa using x)⟩
 ·have hlt:j<ops.size:=(Array.getElem?_eq_some_iff.1 hj).1
  have h1:=List.all_eq_true.1 hf j (List.mem_range.2 hlt)
  have hjl':(waitL ops listed i).contains j=false:=by simpa using hjl
  simp only[hj,hl,hjl',Bool.or_false,Bool.or_eq_true,beq_iff_eq,hne,false_or,Bool.and_eq_true,Bool.not_eq_true'] at h1
  refine⟨h1.1.1.1,h1.1.1.2.elim (fun h=>h.elim (fun h=>h.elim .inl (fun h=> .inr (.inl h))) (fun h=> .inr (.inr (.inl h)))) (fun h=> .inr (.inr (.inr h))),fun ha=> ?_,h1.2⟩
  rcases h1.1.2 with h2|h2
  ·rw[ha] at h2;cases h2
  ·exact h2
theorem stepAt_move {i j:Nat} {oi oj:Oper} (hi:ops[i]? =some oi) (hm:moveB calm i oi=true) (hwi:calm.contains (i+wildAt)=false) (hj:ops[j]? =some oj) (hap:oi.apart ops oj=true) (hw:calm.contains (j+wildAt)=false)
  (hja:isAppend oj.op=true) {s s1 s2:St} (h:stepAt C ops.toList calm B0 i s=some s1) (h':stepAt C ops.toList calm B0 j s1=some s2):
  ∃s0,stepAt C ops.toList calm B0 j s=some s0∧stepAt C ops.toList calm B0 i s0=some s2:=by
 obtain⟨p1,p2,p3⟩:=Oper.apart_spec hap
 have hi':ops.toList[i]? =some oi:=by simpa using hi
 have hj':ops.toList[j]? =some oj:=by simpa using hj
 unfold moveB at hm
 split at hm
 ·rename_i u hop
  simp only[Bool.and_eq_true,Bool.not_eq_true'] at hm
  obtain⟨⟨hg,hci⟩,hsi⟩:=hm
  have hg:oi.guard=none:=by simpa using hg
  have hbi:isBuild oi.op=false:=by rw[hop];rfl
  have hui:u∈oi.looksAt ops:=by
   simp only[Oper.looksAt,List.mem_append,List.mem_filterMap]
   exact .inl ⟨.tmp u,by rw[hop];simp[Op.operands],rfl⟩
  have huj:oj.dst≠some u:=fun e=>p3 u e hui
  have hnow: ∀t,calmNow C calm i oi t=true:=fun t=>by
   have:callIds C oi t=[]:=by unfold callIds;rw[hop]
   unfold calmNow
   rw[stillOk_nil this,hci,keepsNow_idle (fun t x v e=>by rw[hop] at e;cases e) (fun c e=>by rw[hop] at e;cases e) this]
   unfold seesNow
   rw[hsi]
   rfl
  have hstep: ∀t:St,stepAt C ops.toList calm B0 i t=(t.env[u]?).map (fun a=>t.put oi.dst a):=fun t=>by
   unfold stepAt
   simp only[hi',hg,hnow t,if_true]
   rw[estep_plain hwi hbi]
   unfold cstep
   simp only[hop]
   cases hu:t.env[u]? with
   |none=>simp[lift,evalO,hu,optAlg]
   |some a=>simp[lift,evalO,hu]
  rw[hstep] at h
  simp only[Option.map_eq_some_iff] at h
  obtain⟨a,ha,rfl⟩:=h
  simp only[hstep]
  have hset: ∀(t:St) (d:Option Tmp) (b:AV),d≠some u→(t.put d b).env[u]? =t.env[u]? :=fun t d b hd=>by
   cases d with
   |none=>rfl
   |some x=>simp[St.put,List.getElem?_set_ne (show x≠u by rintro rfl;exact hd rfl)]
  have hbj:isBuild oj.op=false:=by
   revert hja
   cases oj.op<;>intro hja<;>first|rfl|cases hja
  have hcore: ∀{s2:St},cstep (optAlg St) C (B0+j*width) oj (s.put oi.dst a) some=some s2→ ∃s0,cstep (optAlg St) C (B0+j*width) oj s some=some s0∧(s0.env[u]?).map (fun a=>s0.put oi.dst a)=some s2:=fun {s2} h=>by
   have hev: ∀x∈oj.op.operands.toList,evalO (s.put oi.dst a) x=evalO s x:=fun x hx=>evalO_put (fun t ht e=>not_operand (p1 t ht) (e▸hx))
   obtain⟨odst,oop,otype,opos,oafter,oguard⟩:=oj
   simp only at hja hev huj p2
   unfold cstep at h⊢
   cases oop<;>(try cases hja)
   rename_i c
   obtain⟨callee,cargs,ctypes⟩:=c
   cases callee<;>(try cases hja)
   rename_i b
   cases b<;>(try cases hja)
   simp only at h⊢
   have fin: ∀{t:St} {v:AV} {s2:St},t.env[u]? =some a→some ((t.put oi.dst a).put odst v)=some s2→ ∃s0,some (t.put odst v)=some s0∧(s0.env[u]?).map (fun a=>s0.put oi.dst a)=some s2:=fun {t v s2} ht e=>by
    cases e
    refine⟨_,rfl,?_⟩
    rw[hset t odst v huj,ht,put_comm (fun x hx=>p2 x hx)]
    rfl
   have grown: ∀{g:Nat} {r:Row} {s2:St},some ((((s.put oi.dst a).scrub g).setRow g r).put odst (.slc g))=some s2→ ∃s0,some (((s.scrub g).setRow g r).put odst (.slc g))=some s0∧(s0.env[u]?).map (fun a=>s0.put oi.dst a)=some s2:=fun {g r s2} e=>by
    cases e
    refine⟨_,rfl,?_⟩
    rw[hset _ odst _ huj]
    have e1:((s.scrub g).setRow g r).env[u]? =some (scrub g a):=by simp[St.setRow,St.scrub,ha]
    rw[e1,Option.map_some]
    congr 1
    have e2:((s.put oi.dst a).scrub g).setRow g r=((s.scrub g).setRow g r).put oi.dst (scrub g a):=by
     cases oi.dst with
     |none=>rfl
     |some d=>simp[St.put,St.scrub,St.setRow,List.map_set]
    rw[e2,put_comm (fun x hx=>p2 x hx)]
   split at h
   ·rename_i x y t t2 hxs hts
    try simp only[hxs,hts]
    split at h
    ·rename_i htt
     try rw[if_pos htt]
     obtain⟨x1,hx,h⟩:=lift_opt h
     obtain⟨y1,hy,h⟩:=lift_opt h
     rw[hev x (by simp[Op.operands,Call.operands,hxs])] at hx
     rw[hev y (by simp[Op.operands,Call.operands,hxs])] at hy
     rw[hx,hy]
     simp only[lift]
     unfold aappend at h⊢
     split at h
     ·rename_i ie hie
      try simp only[hie]
      split at h
      ·rename_i q hq
       try simp only[hq]
       split at h
       ·rename_i hc
        try rw[if_pos hc]
        rw[elems_put] at h
        split at h
        ·rename_i ys hys
         try simp only[hys]
         split at h
         ·obtain⟨_,hr,h⟩:=bind_some_opt h
          rw[hr]
          simp only[optAlg,Option.bind_some]
          rw[allocRow_put] at h
          obtain⟨hf,h⟩:=allocRow_opt h
          unfold allocRow
          rw[hf]
          exact fin (by simpa[St.setRow] using ha) h
         ·rename_i g
          rw[put_row] at h
          split at h
          ·rename_i u' xs hrow
           try simp only[hrow]
           split at h
           ·rename_i xs' hcast
            try simp only[hcast]
            split at h
            ·rename_i hkg
             try rw[if_pos hkg]
             obtain⟨_,hr,h⟩:=bind_some_opt h
             rw[hr]
             simp only[optAlg,Option.bind_some]
             exact grown h
            ·cases h
           ·cases h
          ·cases h
         ·rename_i g off len
          rw[put_row] at h
          split at h
          ·rename_i u' xs hrow
           try simp only[hrow]
           split at h
           ·rename_i xs' hcast
            try simp only[hcast]
            split at h
            ·rename_i hkg
             try rw[if_pos hkg]
             obtain⟨_,hr,h⟩:=bind_some_opt h
             rw[hr]
             simp only[optAlg,Option.bind_some]
             exact grown h
            ·cases h
           ·cases h
          ·cases h
         ·cases h
        ·cases h
       ·cases h
      ·cases h
     ·cases h
    ·cases h
   ·cases h
  have hcalm:calmNow C calm j oj (s.put oi.dst a)=calmNow C calm j oj s:=by
   unfold calmNow
   rw[callIds_put (fun t ht=>not_operand (p1 t ht)),nilAppend_put (fun t ht=>not_operand (p1 t ht)),plainOps_put (fun t ht=>not_operand (p1 t ht)),stillOk_put (fun t ht=>not_operand (p1 t ht)),keepsNow_put (fun t ht=>not_operand (p1 t ht)),seesNow_same (s:=s) (t:=s.put oi.dst a) (fun x hx=>evalO_put (fun t ht e=>not_operand (p1 t ht) (e▸hx)))]
  have hbase: ∀t:St,baseAt calm B0 j oj t=B0+j*width:=fun t=>by
   unfold baseAt
   split
   ·rename_i e;rw[e] at hbj;cases hbj
   ·rfl
  have hst: ∀{s2},(if calmNow C calm j oj (s.put oi.dst a)=true then estep (optAlg St) C calm j (baseAt calm B0 j oj (s.put oi.dst a)) oj (s.put oi.dst a) some else none)=some s2→
    ∃s0,(if calmNow C calm j oj s=true then estep (optAlg St) C calm j (baseAt calm B0 j oj s) oj s some else none)=some s0∧(s0.env[u]?).map (fun a=>s0.put oi.dst a)=some s2:=fun {s2} h=>by
   rw[hcalm,hbase,estep_plain hw hbj] at h
   rw[hbase,estep_plain hw hbj]
   split at h
   ·rename_i hc
    rw[if_pos hc]
    exact hcore h
   ·cases h
  have hskip: ∀{s2:St},some ((s.put oi.dst a).put oj.dst (.tup []))=some s2→ ∃s0,some (s.put oj.dst (.tup []))=some s0∧(s0.env[u]?).map (fun a=>s0.put oi.dst a)=some s2:=fun {s2} e=>by
   cases e
   refine⟨_,rfl,?_⟩
   rw[hset s oj.dst _ huj,ha,put_comm p2]
   rfl
  unfold stepAt at h'⊢
  simp only[hj'] at h'⊢
  split at h'
  ·rename_i hgj
   exact hst h'
  ·rename_i g want hgj
   split at h'
   ·cases h'
   ·rename_i t ht
    have he:(s.put oi.dst a).env[t]? =s.env[t]? :=by
     cases hd:oi.dst with
     |none=>rfl
     |some d=>
      have hne:d≠t:=not_guard (p1 d hd) hgj ht
      simp[St.put,List.getElem?_set_ne hne]
    rw[he] at h'
    split at h'
    ·rename_i b hb
     split at h'
     ·rename_i hbw
      rw[if_pos hbw]
      exact hst h'
     ·rename_i hbw
      rw[if_neg hbw]
      exact hskip h'
    ·exact hskip h'
    ·cases h'
 ·cases hm
theorem oAny_first {s':St} {i:Nat} {oi:Oper} (hi:ops[i]? =some oi) (hwi:calm.contains (i+wildAt)=false) (hp:oneValue calm i oi.op=true):
  ∀(fuel:Nat) (listed:Array Bool) (s s1:St) (l:List Nat),FreeP ops calm listed i oi l→i∈Region.ready .any ops listed→stepAt C ops.toList calm B0 i s=some s1→
   oAny C ops calm B0 s' fuel (listed.setIfInBounds i true) s1→oAny C ops calm B0 s' (fuel+1) listed s:=by
 intro fuel
 induction fuel with
 |zero=>
  intro listed s s1 l _ hr hy H
  refine⟨fun h=>(by rw[h] at hr;cases hr),fun j hj=> ?_⟩
  by_cases hji:j=i
  ·subst hji;exact⟨s1,hy,H⟩
  ·have:=ready_mono hj hji
   rw[H.1] at this
   cases this
 |succ fuel ih=>
  intro listed s s1 l hfree hr hy H
  refine⟨fun h=>(by rw[h] at hr;cases hr),fun j hj=> ?_⟩
  by_cases hji:j=i
  ·subst hji;exact⟨s1,hy,H⟩
  ·obtain⟨s2,h1,h2⟩:=H.2 j (ready_mono hj hji)
   obtain⟨hjun,oj,hoj,hall⟩:=mem_ready.1 hj
   have hion:listed.getD i true=false:=(mem_ready.1 hr).1
   have hjl:j∉l:=fun hm=>by
    obtain⟨ob,hob,e,he,hb,ho⟩:=hfree.wait j hm
    rw[hoj] at hob
    cases hob
    have h1:=hall e he hb
    have h0:listed.getD e.on true=false:=by
     rcases ho with ho|ho
     ·rw[ho];exact hion
     ·exact hfree.off _ ho
    rcases Nat.lt_or_ge e.on listed.size with h'|h'
    ·simp[h'] at h0 h1;rw[h0] at h1;cases h1
    ·simp[Array.getElem?_eq_none h'] at h1
   obtain⟨hap,hcalm,hna,hwj⟩:=hfree.free j oj hoj hji hjun hjl
   obtain⟨s0,h3,h4⟩: ∃s0,stepAt C ops.toList calm B0 j s=some s0∧stepAt C ops.toList calm B0 i s0=some s2:=by
    by_cases hja:isAppend oj.op=true∧calm.contains j=false
    ·exact stepAt_move hi ((hna hja.1).resolve_left (by rw[hja.2];simp)) hwi hoj hap hwj hja.1 hy h1
    ·have hna:isAppend oj.op=true→calm.contains j=true:=fun h=>by
      cases hc:calm.contains j with
      |true=>rfl
      |false=>exact absurd ⟨h,hc⟩ hja
     obtain⟨a,rfl,hP⟩:=stepAt_pure hi hwi hp hy
     obtain⟨s0,h3,rfl⟩:=stepAt_put (i:=i) hoj hap hna hwj h1
     obtain⟨henv,hrows,hpriv⟩:=stepAt_shape hoj hna hwj h3
     exact⟨s0,h3,hP s0 (fun x hx=>henv x (fun e=>(Oper.apart_spec hap).2.2 x e hx)) (hcalm.imp id (Or.imp id (Or.imp (fun h=>⟨h,hpriv⟩) hrows)))⟩
   refine⟨s0,h3,?_⟩
   have hfree':FreeP ops calm (listed.setIfInBounds j true) i oi l:=by
    refine⟨fun b hb=> ?_,hfree.wait,fun k ok hk hki hun hno=>hfree.free k ok hk hki ?_ hno⟩
    ·rw[getD_set_ne true (show j≠b by rintro rfl;exact hjl hb)]
     exact hfree.off b hb
    ·by_cases hjk:j=k
     ·subst hjk;exact hjun
     ·rw[getD_set_ne true hjk] at hun;exact hun
   refine ih (listed.setIfInBounds j true) s0 _ l hfree' (ready_mono hr (Ne.symm hji)) h4 ?_
   rw[Array.setIfInBounds_comm _ _ hji]
   exact h2
theorem isAlloc_op {o:Op} (h:isAlloc o=true):(∃e,o= .alloc e)∨ ∃t l c,o= .makeSlice t l c:=by
 cases o<;>first|exact .inl ⟨_,rfl⟩|exact .inr ⟨_,_,_,rfl⟩|cases h
theorem alloc_step {o:Oper} (ha:isAlloc o.op=true) {base:Nat} {s s1:St} (h:cstep (optAlg St) C base o s some=some s1):
  ∃(R:Row) (v:AV),s.heap[base]? =some none∧s1=(s.setRow base R).put o.dst v∧
   ∀t:St,(∀x∈o.op.operands.toList,evalO t x=evalO s x)→t.heap[base]? =some none→cstep (optAlg St) C base o t some=some ((t.setRow base R).put o.dst v):=by
 obtain⟨odst,oop,otype,opos,oafter,oguard⟩:=o
 have hal: ∀(v:AV) (t:St),t.heap[base]? =some none→ ∀r:Row,allocRow (optAlg St) t base r (fun s'=>some (s'.put odst v))=some ((t.setRow base r).put odst v):=fun v t ht r=>by
  unfold allocRow
  rw[ht]
 cases oop<;>(try cases ha)
 case alloc e=>
  simp only[cstep] at h⊢
  split at h
  ·rename_i ti hti
   split at h
   ·rename_i n e' hk
    split at h
    ·rename_i ie hie
     split at h
     ·rename_i u hu
      split at h
      ·rename_i hc
       obtain⟨h1,h2⟩:=allocRow_opt h
       cases h2
       refine⟨_,_,h1,rfl,fun t _ ht=> ?_⟩
       rw[if_pos hc,hal _ t ht]
      ·cases h
     ·cases h
    ·cases h
   ·rename_i hk
    split at h
    ·rename_i hc
     obtain⟨h1,h2⟩:=allocRow_opt h
     cases h2
     refine⟨_,_,h1,rfl,fun t _ ht=> ?_⟩
     rw[if_pos hc,hal _ t ht]
    ·cases h
  ·cases h
 case makeSlice ty l c=>
  simp only[cstep] at h⊢
  split at h
  ·rename_i ie k1 n k2 m hie hl hc'
   split at h
   ·rename_i u hu
    split at h
    ·rename_i hc
     simp only[optAlg] at h
     cases hq:mk n m with
     |none=>rw[hq] at h;cases h
     |some q=>
      rw[hq] at h
      simp only[Option.bind_some] at h
      obtain⟨h1,h2⟩:=allocRow_opt h
      cases h2
      refine⟨_,_,h1,rfl,fun t ho ht=> ?_⟩
      rw[ho l (by simp[Op.operands]),ho c (by simp[Op.operands]),hl,hc',hie]
      simp only[hu]
      rw[if_pos hc]
      simp only[optAlg,hq,Option.bind_some]
      exact hal _ t ht _
    ·cases h
   ·cases h
  ·cases h
theorem astore_rows {T:TT} {s:St} {ty:TypeId} {p v:AV} {d:Option Tmp} {s1:St} (h:astore (optAlg St) T s ty p v (fun s'=>some (s'.put d .undef))=some s1):
  ∃g r,(∃r0,s.heap[g]? =some (some r0))∧s1=(s.setRow g r).put d .undef∧ ∀t:St,RowsIn s t→astore (optAlg St) T t ty p v (fun s'=>some (s'.put d .undef))=some ((t.setRow g r).put d .undef):=by
 unfold astore at h⊢
 split at h
 ·cases h
 ·split at h
  ·rename_i hst
   split at h
   ·split at h
    ·rename_i hrow
     split at h
     ·rename_i hc
      cases h
      refine⟨_,_,⟨_,row_eq hrow⟩,rfl,fun t ht=> ?_⟩
      rw[if_pos hst]
      simp only[ht.row hrow]
      rw[if_pos hc]
     ·cases h
    ·rename_i hrow
     split at h
     ·rename_i hc
      obtain⟨y,hy,h⟩:=bind_some_opt h
      cases h
      refine⟨_,_,⟨_,row_eq hrow⟩,rfl,fun t ht=> ?_⟩
      rw[if_pos hst]
      simp only[ht.row hrow]
      rw[if_pos hc]
      simp only[optAlg,hy,Option.bind_some]
     ·cases h
    ·cases h
   ·cases h
  ·rename_i hst
   split at h
   ·rename_i hsz
    split at h
    ·split at h
     ·rename_i hrow
      split at h
      ·rename_i x hx
       split at h
       ·rename_i hc
        cases h
        refine⟨_,_,⟨_,row_eq hrow⟩,rfl,fun t ht=> ?_⟩
        rw[if_neg hst,if_pos hsz]
        simp only[ht.row hrow,hx]
        rw[if_pos hc]
       ·cases h
      ·cases h
     ·rename_i hrow
      split at h
      ·rename_i u hu
       split at h
       ·rename_i x hx
        obtain⟨y,hy,h⟩:=bind_some_opt h
        cases h
        refine⟨_,_,⟨_,row_eq hrow⟩,rfl,fun t ht=> ?_⟩
        rw[if_neg hst,if_pos hsz]
        simp only[ht.row hrow,hu,hx,optAlg,hy,Option.bind_some]
       ·cases h
      ·cases h
     ·cases h
    ·split at h
     ·rename_i hrow
      split at h
      ·rename_i hc
       cases h
       refine⟨_,_,⟨_,row_eq hrow⟩,rfl,fun t ht=> ?_⟩
       rw[if_neg hst,if_pos hsz]
       simp only[ht.row hrow]
       rw[if_pos hc]
      ·cases h
     ·cases h
    ·cases h
   ·cases h
theorem stepAt_store {i:Nat} {oi:Oper} {s s1:St} (hi:ops[i]? =some oi) (hw:calm.contains (i+wildAt)=false) (hc:isStore oi.op=true) (hg:oi.guard=none) (h:stepAt C ops.toList calm B0 i s=some s1):
  ∃g r,(∃r0,s.heap[g]? =some (some r0))∧s1=(s.setRow g r).put oi.dst .undef∧ ∀t:St,(∀x∈oi.op.operands.toList,evalO t x=evalO s x)→RowsIn s t→stepAt C ops.toList calm B0 i t=some ((t.setRow g r).put oi.dst .undef):=by
 have hi':ops.toList[i]? =some oi:=by simpa using hi
 obtain⟨ty,p,v,hop⟩: ∃ty p v,oi.op= .store ty p v:=by
  revert hc
  cases oi.op<;>intro hc<;>first|exact⟨_,_,_,rfl⟩|cases hc
 have hb: ∀t,baseAt calm B0 i oi t=B0+i*width:=fun t=>by simp[baseAt,hop]
 have hn: ∀t,calmNow C calm i oi t=keepsNow C calm oi t:=fun t=>by
  unfold calmNow
  rw[seesNow_off (by rw[hop];rfl)]
  simp[callIds,hop,isAppend,pureOp,stillOk]
 have hbu:isBuild oi.op=false:=by rw[hop];rfl
 unfold stepAt at h⊢
 simp only[hi',hg,hb,hn,estep_plain hw hbu] at h⊢
 split at h
 ·rename_i hk
  have hst: ∀t:St,cstep (optAlg St) C (B0+i*width) oi t some=lift (optAlg St) (evalO t p) fun p=>lift (optAlg St) (evalO t v) fun v=>astore (optAlg St) C.T t ty p v fun s'=>some (s'.put oi.dst .undef):=fun t=>by
   obtain⟨odst,oop,otype,opos,oafter,oguard⟩:=oi
   simp only at hop
   subst hop
   rfl
  rw[hst] at h
  obtain⟨p1,hp,h⟩:=lift_opt h
  obtain⟨v1,hv,h⟩:=lift_opt h
  obtain⟨g,r,hr0,rfl,hall⟩:=astore_rows h
  refine⟨g,r,hr0,rfl,fun t ht hrows=> ?_⟩
  have ep:evalO t p=some p1:=by rw[ht p (by rw[hop];simp[Op.operands]),hp]
  have ev:evalO t v=some v1:=by rw[ht v (by rw[hop];simp[Op.operands]),hv]
  have hkt:keepsNow C calm oi t=true:=by
   unfold keepsNow at hk⊢
   split
   ·rfl
   ·rename_i q hq
    rw[hop] at hk⊢
    simp only[ep]
    split at hk
    ·rename_i e0
     exact absurd e0 hq
    ·simp only[hp] at hk
     exact hk
  rw[if_pos hkt,hst,ep,ev]
  exact hall t hrows
 ·cases h
theorem putRows_set (f:Nat→Nat) (b:Nat) (z:Option Row): ∀(Hs:Heap) (n:Nat) (H:Heap),(∀(j:Nat) r,Hs[j]? =some (some r)→f (n+j)≠b)→putRows f n Hs (H.set b z)=(putRows f n Hs H).set b z
 |[],_,_,_=>rfl
 |r::rest,n,H,h=>by
  simp only[putRows]
  have ih:=fun H=>putRows_set f b z rest (n+1) H (fun j x hx=>by
   have:=h (j+1) x (by simpa using hx)
   rw[show n+1+j=n+(j+1) by omega];exact this)
  cases r with
  |none=>exact ih H
  |some x=>
   have hne:f n≠b:=by
    have:=h 0 x rfl
    simpa using this
   simp only
   rw[List.set_comm _ _ (Ne.symm hne)]
   exact ih _
theorem stepAt_alloc {j:Nat} {oj:Oper} {s:St} (hj:ops[j]? =some oj) (hw:calm.contains (j+wildAt)=false) (ha:isAlloc oj.op=true) (hg:oj.guard=none):
  stepAt C ops.toList calm B0 j s=cstep (optAlg St) C (B0+j*width) oj s some:=by
 have hj':ops.toList[j]? =some oj:=by simpa using hj
 rcases isAlloc_op ha with⟨e,he⟩|⟨t,l,c,he⟩
 ·have hn:calmNow C calm j oj s=true:=by
   unfold calmNow
   rw[keepsNow_idle (fun t x v e=>by rw[he] at e;cases e) (fun c e=>by rw[he] at e;cases e) (by simp[callIds,he]),seesNow_off (by rw[he];rfl)]
   simp[callIds,he,isAppend,pureOp,stillOk]
  have hb:baseAt calm B0 j oj s=B0+j*width:=by simp[baseAt,he]
  unfold stepAt
  simp only[hj',hg,hn,hb,if_true]
  exact estep_plain hw (by rw[he];rfl)
 ·have hn:calmNow C calm j oj s=true:=by
   unfold calmNow
   rw[keepsNow_idle (fun t x v e=>by rw[he] at e;cases e) (fun c e=>by rw[he] at e;cases e) (by simp[callIds,he]),seesNow_off (by rw[he];rfl)]
   simp[callIds,he,isAppend,pureOp,stillOk]
  have hb:baseAt calm B0 j oj s=B0+j*width:=by simp[baseAt,he]
  unfold stepAt
  simp only[hj',hg,hn,hb,if_true]
  exact estep_plain hw (by rw[he];rfl)
theorem stepAt_call {i:Nat} {oi:Oper} {s s1:St} (hi:ops[i]? =some oi) (hw:calm.contains (i+wildAt)=false) (hc:isValueCall oi.op=true) (hcm:calm.contains i=true) (hg:oi.guard=none) (h:stepAt C ops.toList calm B0 i s=some s1):
  callIds C oi s=[]∧cstep (optAlg St) C (B0+i*width) oi s some=some s1∧ ∀t:St,callIds C oi t=[]→stepAt C ops.toList calm B0 i t=cstep (optAlg St) C (B0+i*width) oi t some:=by
 have hi':ops.toList[i]? =some oi:=by simpa using hi
 have hop: ∃c,oi.op= .call c∧ ∃f,c.callee= .value f:=by
  revert hc
  cases oi.op<;>intro hc<;>(try cases hc)
  rename_i c
  refine⟨c,rfl,?_⟩
  obtain⟨callee,cargs,ctypes⟩:=c
  cases callee<;>(try cases hc)
  exact⟨_,rfl⟩
 obtain⟨c,hop,f,hf⟩:=hop
 have hap:isAppend oi.op=false:=by rw[hop];simp[isAppend,hf]
 have hpu:pureOp oi.op=false:=by rw[hop];simp[pureOp,hf]
 have hb: ∀t,baseAt calm B0 i oi t=B0+i*width:=fun t=>by simp[baseAt,hop]
 have hn: ∀t,calmNow C calm i oi t=(callIds C oi t).isEmpty:=fun t=>by
  unfold calmNow
  rw[hcm,hap,hpu,seesNow_off hpu]
  cases hcd:callIds C oi t with
  |nil=>rw[stillOk_nil hcd,keepsNow_idle (fun t x v e=>by rw[hop] at e;cases e) (fun c e=>by rw[hop] at e;cases e;rw[hf];rfl) hcd];rfl
  |cons x r=>rfl
 have hbu:isBuild oi.op=false:=by rw[hop];rfl
 unfold stepAt at h⊢
 simp only[hi',hg,hb,hn,estep_plain hw hbu] at h⊢
 split at h
 ·rename_i hc
  refine⟨by simpa using hc,h,fun t ht=> ?_⟩
  rw[ht]
  rfl
 ·cases h
theorem stepAt_rows {i:Nat} {oi:Oper} {s s1:St} (hi:ops[i]? =some oi) (hw:calm.contains (i+wildAt)=false) (hc:isValueCall oi.op=true) (hcm:calm.contains i=false) (hg:oi.guard=none) (h:stepAt C ops.toList calm B0 i s=some s1):
  stillOk C oi s=true∧keepsNow C calm oi s=true∧cstep (optAlg St) C (B0+i*width) oi s some=some s1∧ ∀t:St,stillOk C oi t=true→keepsNow C calm oi t=true→stepAt C ops.toList calm B0 i t=cstep (optAlg St) C (B0+i*width) oi t some:=by
 have hi':ops.toList[i]? =some oi:=by simpa using hi
 have hop: ∃c,oi.op= .call c∧ ∃f,c.callee= .value f:=by
  revert hc
  cases oi.op<;>intro hc<;>(try cases hc)
  rename_i c
  refine⟨c,rfl,?_⟩
  obtain⟨callee,cargs,ctypes⟩:=c
  cases callee<;>(try cases hc)
  exact⟨_,rfl⟩
 obtain⟨c,hop,f,hf⟩:=hop
 have hb: ∀t,baseAt calm B0 i oi t=B0+i*width:=fun t=>by simp[baseAt,hop]
 have hn: ∀t,calmNow C calm i oi t=(stillOk C oi t&&keepsNow C calm oi t):=fun t=>by
  unfold calmNow
  rw[hcm,hw,seesNow_off (by rw[hop];simp[pureOp,hf])]
  simp
 have hbu:isBuild oi.op=false:=by rw[hop];rfl
 unfold stepAt at h⊢
 simp only[hi',hg,hb,hn,estep_plain hw hbu] at h⊢
 split at h
 ·rename_i hc
  simp only[Bool.and_eq_true] at hc
  refine⟨hc.1,hc.2,h,fun t ht hk=> ?_⟩
  rw[ht,hk]
  rfl
 ·cases h
theorem base_ne {i j n:Nat} (hne:i≠j) (hn:n<width):B0+i*width+n≠B0+j*width:=by
 unfold width at*
 omega
theorem lone_comm {i j:Nat} {oi oj:Oper} {s s1 s2:St} (hwi:calm.contains (i+wildAt)=false) (hwj:calm.contains (j+wildAt)=false) (hi:ops[i]? =some oi) (hj:ops[j]? =some oj) (hne:i≠j) (hli:loneOp calm i oi.op=true) (hgi:oi.guard=none)
  (haj:isAlloc oj.op=true) (hgj0:oj.guard=none) (hap:oi.apart ops oj=true) (h1:stepAt C ops.toList calm B0 i s=some s1) (h2:stepAt C ops.toList calm B0 j s1=some s2):
  ∃s0,stepAt C ops.toList calm B0 j s=some s0∧stepAt C ops.toList calm B0 i s0=some s2:=by
 obtain⟨hp1,hp2,hp3⟩:=Oper.apart_spec hap
 rw[stepAt_alloc hj hwj haj hgj0] at h2
 obtain⟨R,vj,hfr,rfl,hR⟩:=alloc_step haj h2
 have hop: ∀(u:St) (v:AV) (x:Operand),x∈oj.op.operands.toList→evalO (u.put oi.dst v) x=evalO u x:=fun u v x hx=>by
  rw[evalO_put (fun t ht e=> ?_)]
  subst e
  refine hp1 t ht ?_
  simp only[Oper.looksAt,List.mem_append,List.mem_filterMap]
  exact .inl ⟨_,hx,rfl⟩
 have hoi: ∀(u:St) (v:AV) (x:Operand),x∈oi.op.operands.toList→evalO (u.put oj.dst v) x=evalO u x:=fun u v x hx=>by
  rw[evalO_put (fun t ht e=> ?_)]
  subst e
  refine hp3 t ht ?_
  simp only[Oper.looksAt,List.mem_append,List.mem_filterMap]
  exact .inl ⟨_,hx,rfl⟩
 have hrow: ∀(u:St) (b:Nat) (r:Row) (x:Operand),evalO (u.setRow b r) x=evalO u x:=fun u b r x=>by cases x<;>rfl
 have hdd: ∀t,oj.dst=some t→oi.dst≠some t:=fun t ht he=>hp2 t he ht
 simp only[loneOp,Bool.or_eq_true] at hli
 rcases hli with(hai|hci)|hsi
 rotate_right
 ·obtain⟨g,r,⟨r0,hr0⟩,rfl,hst⟩:=stepAt_store hi hwi hsi hgi h1
  have hgj:g≠B0+j*width:=fun e=>by
   rw[put_heap] at hfr
   simp only[St.setRow] at hfr
   rw[←e,List.getElem?_set_self (List.getElem?_eq_some_iff.1 hr0).1] at hfr
   cases hfr
  have hfs:s.heap[B0+j*width]? =some none:=by
   rw[put_heap] at hfr
   simp only[St.setRow] at hfr
   rw[List.getElem?_set_ne hgj] at hfr
   exact hfr
  refine⟨_,(stepAt_alloc hj hwj haj hgj0).trans (hR s (fun x hx=>by rw[hop _ _ x hx,hrow]) hfs),?_⟩
  rw[hst _ (fun x hx=>by rw[hoi _ _ x hx,hrow]) (fun g' r' hg'=>by
   rw[put_heap]
   exact rows_set hfs g' r' hg')]
  rw[setRow_put,setRow_put,put_comm hdd]
  congr 3
  simp only[St.setRow]
  rw[List.set_comm _ _ (Ne.symm hgj)]
 ·rw[stepAt_alloc hi hwi hai hgi] at h1
  obtain⟨Q,vi,hfr1,rfl,hQ⟩:=alloc_step hai h1
  have hbn:B0+i*width≠B0+j*width:=base_ne (n:=0) hne (by unfold width;omega)
  have hfs:s.heap[B0+j*width]? =some none:=by
   rw[put_heap] at hfr
   simp only[St.setRow] at hfr
   rw[List.getElem?_set_ne hbn] at hfr
   exact hfr
  refine⟨_,(stepAt_alloc hj hwj haj hgj0).trans (hR s (fun x hx=>by rw[hop _ _ x hx,hrow]) hfs),?_⟩
  rw[stepAt_alloc hi hwi hai hgi,hQ _ (fun x hx=>by rw[hoi _ _ x hx,hrow]) (by
   rw[put_heap]
   simp only[St.setRow]
   rw[List.getElem?_set_ne (Ne.symm hbn)]
   exact hfr1)]
  rw[setRow_put,setRow_put,put_comm hdd]
  congr 3
  simp only[St.setRow]
  rw[List.set_comm _ _ (Ne.symm hbn)]
 ·cases hcm:calm.contains i with
  |true=>
   obtain⟨hid,hcs,hst⟩:=stepAt_call hi hwi hci hcm hgi h1
   obtain⟨a,H',hw,hfi,rfl,hcall⟩:=call_step hci hid hcs
   have hmiss: ∀(k:Nat) r,H'[k]? =some (some r)→backTo [] (B0+i*width) (0+k)≠B0+j*width:=fun k r hk=>by
    have hkl:=(List.getElem?_eq_some_iff.1 hk).1
    simp only[backTo,List.getElem?_nil,List.length_nil,Nat.zero_add,Nat.sub_zero]
    exact base_ne hne (by omega)
   have hfs:s.heap[B0+j*width]? =some none:=by
    rw[put_heap] at hfr
    simp only at hfr
    rw[putRows_miss _ _ _ _ _ hmiss] at hfr
    exact hfr
   have hs0:=hR s (fun x hx=>by rw[hop _ _ x hx];cases x<;>rfl) hfs
   refine⟨_,(stepAt_alloc hj hwj haj hgj0).trans hs0,?_⟩
   have hev: ∀x∈oi.op.operands.toList,evalO ((s.setRow (B0+j*width) R).put oj.dst vj) x=evalO s x:=fun x hx=>by
    rw[evalO_put (fun t ht e=> ?_)]
    ·cases x<;>rfl
    ·subst e
     refine hp3 t ht ?_
     simp only[Oper.looksAt,List.mem_append,List.mem_filterMap]
     exact .inl ⟨_,hx,rfl⟩
   have hrows:RowsIn s ((s.setRow (B0+j*width) R).put oj.dst vj):=fun g r hg=>by
    rw[put_heap]
    exact rows_set hfs g r hg
   obtain⟨h3,h4⟩:=hcall _ hev hrows (fun n hn=>by
    rw[put_heap]
    simp only[St.setRow]
    rw[List.getElem?_set_ne (Ne.symm (base_ne hne hn))]
    exact hfi n hn)
   rw[hst _ h3,h4]
   rw[put_heap,setRow_put]
   simp only[St.setRow]
   rw[putRows_set _ _ _ _ _ _ hmiss]
   congr 1
   cases hdi:oi.dst with
   |none=>cases oj.dst<;>rfl
   |some d=>
    cases hdj:oj.dst with
    |none=>rfl
    |some e=>
     have hde:e≠d:=fun h=>hdd e hdj (by rw[hdi,h])
     simp only[St.put]
     rw[List.set_comm _ _ hde]
  |false=>
   obtain⟨hok,hkeep,hcs,hst⟩:=stepAt_rows hi hwi hci hcm hgi h1
   obtain⟨a,H',ids,hcr,hin,hw,hfi,rfl,hcall⟩:=call_rows hci hok hcs
   have hno:B0+j*width∉ids:=fun hm=>by
    obtain⟨r,hr⟩:=putRows_keep (backTo ids (B0+i*width)) H' 0 s.heap (hin _ hm)
    rw[put_heap] at hfr
    simp only at hfr
    rw[hr] at hfr
    cases hfr
   have hmiss: ∀(k:Nat) r,H'[k]? =some (some r)→backTo ids (B0+i*width) (0+k)≠B0+j*width:=fun k r hk=>by
    have hkl:=(List.getElem?_eq_some_iff.1 hk).1
    rw[Nat.zero_add]
    unfold backTo
    cases hg:ids[k]? with
    |some g=>exact fun e=>hno (e▸List.mem_of_getElem? hg)
    |none=>
     have:=List.getElem?_eq_none_iff.1 hg
     exact base_ne hne (by omega)
   have hfs:s.heap[B0+j*width]? =some none:=by
    rw[put_heap] at hfr
    simp only at hfr
    rw[putRows_miss _ _ _ _ _ hmiss] at hfr
    exact hfr
   have hs0:=hR s (fun x hx=>by rw[hop _ _ x hx];cases x<;>rfl) hfs
   refine⟨_,(stepAt_alloc hj hwj haj hgj0).trans hs0,?_⟩
   have hev: ∀x∈oi.op.operands.toList,evalO ((s.setRow (B0+j*width) R).put oj.dst vj) x=evalO s x:=fun x hx=>by
    rw[hoi _ _ x hx,hrow]
   have hrows:RowsIn s ((s.setRow (B0+j*width) R).put oj.dst vj):=fun g r hg=>by
    rw[put_heap]
    exact rows_set hfs g r hg
   obtain⟨h3,h5,h4⟩:=hcall _ hev hrows (by rw[put_heap];simp[St.setRow]) (fun n hn=>by
    rw[put_heap]
    simp only[St.setRow]
    rw[List.getElem?_set_ne (Ne.symm (base_ne hne hn))]
    exact hfi n hn)
   have hkt:keepsNow C calm oi ((s.setRow (B0+j*width) R).put oj.dst vj)=true:=by
    have hns: ∀t x v,oi.op≠ .store t x v:=fun t x v e=>by rw[e] at hci;cases hci
    unfold keepsNow at hkeep⊢
    split
    ·rfl
    ·rename_i p hp
     split
     ·rename_i t x v e
      exact absurd e (hns t x v)
     ·rename_i c e
      rw[h5,←hcr]
      split at hkeep
      ·rename_i e0
       exact absurd e0 hp
      ·rw[e] at hkeep
       exact hkeep
     ·rfl
   rw[hst _ h3 hkt,h4]
   rw[put_heap,setRow_put]
   simp only[St.setRow]
   rw[putRows_set _ _ _ _ _ _ hmiss]
   congr 1
   cases hdi:oi.dst with
   |none=>cases oj.dst<;>rfl
   |some d=>
    cases hdj:oj.dst with
    |none=>rfl
    |some e=>
     have hde:e≠d:=fun h=>hdd e hdj (by rw[hdi,h])
     simp only[St.put]
     rw[List.set_comm _ _ hde]
theorem oAny_lone {s':St} {i:Nat} {oi:Oper} (hi:ops[i]? =some oi) (hwi:calm.contains (i+wildAt)=false) (hp:loneOp calm i oi.op=true) (hg:oi.guard=none):
  ∀(fuel:Nat) (listed:Array Bool) (s s1:St) (l:List Nat),(∀b∈l,listed.getD b true=false)→(∀b∈l,∃ob,ops[b]? =some ob∧ ∃e∈ob.after,Region.binds .any e=true∧(e.on=i∨e.on∈l))→
   (∀(j:Nat) (oj:Oper),ops[j]? =some oj→j≠i→listed.getD j true=false→j∉l→oi.apart ops oj=true∧isAlloc oj.op=true∧oj.guard=none∧calm.contains (j+wildAt)=false)→
   i∈Region.ready .any ops listed→stepAt C ops.toList calm B0 i s=some s1→
   oAny C ops calm B0 s' fuel (listed.setIfInBounds i true) s1→oAny C ops calm B0 s' (fuel+1) listed s:=by
 intro fuel
 induction fuel with
 |zero=>
  intro listed s s1 l _ _ _ hr hy H
  refine⟨fun h=>(by rw[h] at hr;cases hr),fun j hj=> ?_⟩
  by_cases hji:j=i
  ·subst hji;exact⟨s1,hy,H⟩
  ·have:=ready_mono hj hji
   rw[H.1] at this
   cases this
 |succ fuel ih=>
  intro listed s s1 l hoff hwait hfree hr hy H
  refine⟨fun h=>(by rw[h] at hr;cases hr),fun j hj=> ?_⟩
  by_cases hji:j=i
  ·subst hji;exact⟨s1,hy,H⟩
  ·obtain⟨s2,h1,h2⟩:=H.2 j (ready_mono hj hji)
   obtain⟨hjun,oj,hoj,hall⟩:=mem_ready.1 hj
   have hion:listed.getD i true=false:=(mem_ready.1 hr).1
   have hjl:j∉l:=fun hm=>by
    obtain⟨ob,hob,e,he,hb,ho⟩:=hwait j hm
    rw[hoj] at hob
    cases hob
    have h1:=hall e he hb
    have h0:listed.getD e.on true=false:=by
     rcases ho with ho|ho
     ·rw[ho];exact hion
     ·exact hoff _ ho
    rcases Nat.lt_or_ge e.on listed.size with h'|h'
    ·simp[h'] at h0 h1;rw[h0] at h1;cases h1
    ·simp[Array.getElem?_eq_none h'] at h1
   obtain⟨hap,haj,hgj,hwj⟩:=hfree j oj hoj hji hjun hjl
   obtain⟨s0,h3,h4⟩:=lone_comm hwi hwj hi hoj (Ne.symm hji) hp hg haj hgj hap hy h1
   refine⟨s0,h3,?_⟩
   refine ih (listed.setIfInBounds j true) s0 _ l (fun b hb=> ?_) hwait (fun k ok hk hki hun hno=>hfree k ok hk hki ?_ hno) (ready_mono hr (Ne.symm hji)) h4 ?_
   ·rw[getD_set_ne true (show j≠b by rintro rfl;exact hjl hb)]
    exact hoff b hb
   ·by_cases hjk:j=k
    ·subst hjk;exact hjun
    ·rw[getD_set_ne true hjk] at hun;exact hun
   ·rw[Array.setIfInBounds_comm _ _ hji]
    exact h2
theorem lone_of {listed:Array Bool} {i:Nat} {oi:Oper} (h:loneB ops calm listed i oi=true):
  (∀b∈waitL ops listed i,listed.getD b true=false)∧(∀b∈waitL ops listed i,∃ob,ops[b]? =some ob∧ ∃e∈ob.after,Region.binds .any e=true∧(e.on=i∨e.on∈waitL ops listed i))∧
   (∀(j:Nat) (oj:Oper),ops[j]? =some oj→j≠i→listed.getD j true=false→j∉waitL ops listed i→oi.apart ops oj=true∧isAlloc oj.op=true∧oj.guard=none∧calm.contains (j+wildAt)=false):=by
 simp only[loneB,Bool.and_eq_true] at h
 obtain⟨hw,hf⟩:=h
 refine⟨fun b hb=> ?_,fun b hb=> ?_,fun j oj hj hne hl hjl=> ?_⟩
 ·have h1:=List.all_eq_true.1 hw b hb
  simp only[Bool.and_eq_true,Bool.not_eq_true'] at h1
  exact h1.1
 ·have h1:=List.all_eq_true.1 hw b hb
  simp only[Bool.and_eq_true] at h1
  have h2:=h1.2
  cases ho:ops[b]? with
  |none=>rw[ho] at h2;cases h2
  |some ob=>
   rw[ho] at h2
   simp only[waits,Array.any_eq_true',Bool.and_eq_true,Bool.or_eq_true,beq_iff_eq] at h2
   obtain⟨e,he,hb',ho'⟩:=h2
   exact⟨ob,rfl,e,he,hb',ho'.imp id (fun x=>by simpa using x)⟩
 ·have hlt:j<ops.size:=(Array.getElem?_eq_some_iff.1 hj).1
  have h1:=List.all_eq_true.1 hf j (List.mem_range.2 hlt)
  have hjl':(waitL ops listed i).contains j=false:=by simpa using hjl
  simp only[hj,hl,hjl',Bool.or_false,Bool.or_eq_true,beq_iff_eq,hne,false_or,Bool.and_eq_true,Bool.not_eq_true'] at h1
  exact⟨h1.1.1,h1.1.2.1,by simpa using h1.1.2.2,h1.2⟩
theorem oAny_sched {s':St}: ∀(order:List Nat) (listed:Array Bool) (s:St),schedFrom ops calm order listed=true→orunS C ops.toList calm B0 order s=some s'→oAny C ops calm B0 s' order.length listed s
 |[],listed,s,hB,h=>by
  simp only[orunS,Option.some.injEq] at h
  simp only[schedFrom,List.isEmpty_iff] at hB
  exact⟨hB,h⟩
 |i::r,listed,s,hB,h=>by
  simp only[orunS] at h
  obtain⟨s1,h1,h2⟩:=bind_some_opt h
  simp only[schedFrom,Bool.and_eq_true,Bool.or_eq_true,beq_iff_eq] at hB
  obtain⟨⟨hr,hor⟩,hB'⟩:=hB
  have H:=oAny_sched r _ s1 hB' h2
  have hr':i∈Region.ready .any ops listed:=by simpa using hr
  rcases hor with(hor|hor)|hor
  rotate_right
  ·cases ho:ops[i]? with
   |none=>rw[ho] at hor;cases hor
   |some oi=>
    rw[ho] at hor
    simp only[Bool.and_eq_true] at hor
    have hwi:calm.contains (i+wildAt)=false:=by simpa using hor.2
    obtain⟨hl1,hl2,hl3⟩:=lone_of hor.1.2
    exact oAny_lone ho hwi hor.1.1.1 (by simpa using hor.1.1.2) r.length listed s s1 _ hl1 hl2 hl3 hr' h1 H
  ·refine⟨fun h0=>(by rw[h0] at hr';cases hr'),fun j hj=> ?_⟩
   rw[hor] at hj
   have:j=i:=by simpa using hj
   subst this
   exact⟨s1,h1,H⟩
  ·cases ho:ops[i]? with
   |none=>rw[ho] at hor;cases hor
   |some oi=>
    rw[ho] at hor
    simp only[Bool.and_eq_true] at hor
    have hwi:calm.contains (i+wildAt)=false:=by simpa using hor.2
    exact oAny_first ho hwi hor.1.1 r.length listed s s1 _ (freeP_of hor.1.2) hr' h1 H
end
section
variable {P : Program} {B : Base} {C : Ctx}
theorem guard_value {s:St} {a:Act} {w:World} {ops:Array Oper} {j:Nat} {t:Tmp} {g:Bool} (hR:Rep B s a w) (ht:(ops.toList[j]?).bind (·.dst)=some t) (hg:s.env[t]? =some (.dat .bool g)):yielded ops a.tmps j=some g:=by
 obtain⟨_,ι,hI⟩:=hR
 obtain⟨v,hv,hr⟩:=hI.env t _ hg
 have e:=dat_bool hr
 subst e
 have ht':(ops[j]?).bind (·.dst)=some t:=by simpa using ht
 simp[yielded,ht',hv]
theorem put_undef {s:St} {a:Act} {w:World} (hR:Rep B s a w) (d:Option Tmp):Rep B (s.put d (.tup [])) (a.put d undef) w:=by
 obtain⟨hd,ι,hI⟩:=hR
 exact⟨by cases d<;>exact hd,ι,hI.put d (a:= .tup []) (v:=undef) ⟨[],rfl,rfl⟩ a.defers⟩
theorem guard_none {s:St} {a:Act} {w:World} {ops:Array Oper} {j:Nat} {t:Tmp} (hR:Rep B s a w) (ht:(ops.toList[j]?).bind (·.dst)=some t) (hg:s.env[t]? =some (.tup [])):yielded ops a.tmps j=none:=by
 obtain⟨_,ι,hI⟩:=hR
 obtain⟨v,hv,vs,e,hvs⟩:=hI.env t _ hg
 have e2:vs=[]:=hvs
 subst e2
 subst e
 have ht':(ops[j]?).bind (·.dst)=some t:=by simpa using ht
 simp[yielded,ht',hv]
theorem Rep.drew {s:St} {a:Act} {w:World} (h:Rep B s a w):Rep B s a {w with drawn:=w.drawn+1}:=by
 obtain⟨hd,ι,hI⟩:=h
 exact⟨hd,ι,hI.drew _⟩
theorem stepAt_wp (hC:COk P C) (hk:C.k=B.k) (hmv: ∀g,C.mv.contains g=true→B.mv g=true) {ops:Array Oper} {calm:List Nat} {B0 i:Nat} {s s1:St} {a:Act} {w:World} (h:stepAt C ops.toList calm B0 i s=some s1) (hR:Rep B s a w) (Q:Exit→Act→World→Prop):
  wpOp P ops Q i (fun a' w'=>Rep B s1 a' w') a w:=by
 unfold stepAt at h
 cases ho:ops[i]? with
 |none=>
  have:ops.toList[i]? =none:=by simpa using ho
  simp[this] at h
 |some o=>
  have ho':ops.toList[i]? =some o:=by simpa using ho
  simp only[ho'] at h
  unfold wpOp
  simp only[ho]
  have step:(if calmNow C calm i o s=true then estep (optAlg St) C calm i (baseAt calm B0 i o s) o s some else none)=some s1→o.wp P a w (fun a' w'=>Rep B s1 a' w') Q:=fun h=>by
   split at h
   ·rename_i hcn
    simp only[calmNow,Bool.and_eq_true] at hcn
    exact estep_sound hC hk hmv hR (by
     have:=hcn.1.2
     simp only[Bool.or_eq_true] at this
     exact this.elim (fun h=> .inr (stepOk_of h)) .inl) h Q
   ·cases h
  split at h
  ·rename_i hg
   simp only[Region.wanted,hg,if_true]
   exact .inl (step h)
  ·rename_i j want hg
   split at h
   ·cases h
   ·rename_i t ht
    split at h
    ·rename_i g hgv
     have hy:=guard_value hR ht hgv
     simp only[Region.wanted,hg,hy]
     split at h
     ·rename_i hgw
      subst hgw
      simp only[beq_self_eq_true,if_true]
      exact .inl (step h)
     ·rename_i hgw
      have hne:(some g==some want)=false:=by simpa using hgw
      rw[hne]
      simp only[Bool.false_eq_true,if_false]
      cases h
      exact put_undef hR o.dst
    ·rename_i hgv
     have hy:=guard_none hR ht hgv
     simp only[Region.wanted,hg,hy]
     have hne:((none:Option Bool)==some want)=false:=by simp
     rw[hne]
     simp only[Bool.false_eq_true,if_false]
     cases h
     exact put_undef hR o.dst
    ·cases h
theorem oAny_wp (hC:COk P C) (hk:C.k=B.k) (hmv: ∀g,C.mv.contains g=true→B.mv g=true) {ops:Array Oper} {calm:List Nat} {B0:Nat} {s':St} (Q:Exit→Act→World→Prop) (hQ: ∀a w,Rep B s' a w→Q .normal a w):
  ∀(fuel:Nat) (listed:Array Bool) (s:St) (a:Act) (w:World),oAny C ops calm B0 s' fuel listed s→Rep B s a w→wpAny P .any ops Q fuel listed a w
 |0,listed,s,a,w,h,hR=>⟨h.1,hQ a w (h.2▸hR)⟩
 |n+1,listed,s,a,w,h,hR=>⟨fun h0=>hQ a w (h.1 h0▸hR),fun i hi=>by
   obtain⟨s1,h1,h2⟩:=h.2 i hi
   exact wpOp_mono (fun a' w' hR'=>oAny_wp hC hk hmv Q hQ n _ s1 a' w' h2 hR') (stepAt_wp hC hk hmv h1 hR Q)⟩
theorem draw_wp (hC:COk P C) (hk:C.k=B.k) (hmv: ∀g,C.mv.contains g=true→B.mv g=true) {ops:Array Oper} {calm order:List Nat} {B0:Nat} {s s':St} {a:Act} {w:World} (hB:schedB ops calm order=true)
  (h:orunS C ops.toList calm B0 order s=some s') (hR:Rep B s a w) (Q:Exit→Act→World→Prop) (hQ: ∀a w,Rep B s' a w→Q .normal a w):wpAny P .any ops Q ops.size (Array.replicate ops.size false) a w:=by
 simp only[schedB,Bool.and_eq_true,beq_iff_eq] at hB
 have H:=oAny_sched order _ s hB.2 h
 rw[hB.1.2] at H
 exact oAny_wp hC hk hmv Q hQ _ _ s a w H hR
end
end Go.Rv
set_option linter.unusedSimpArgs false
set_option linter.unusedVariables false
namespace Go.Rv
section
variable {P : Program} {B : Base} {C : Ctx}
theorem orun_wp (hC:COk P C) (hk:C.k=B.k) (hmv: ∀g,C.mv.contains g=true→B.mv g=true) (ops:Array Oper) (fr:List Turn) (B0:Nat) (Q:Exit→Act→World→Prop) (s':St) (hQ: ∀a w,Rep B s' a w→Q .normal a w):
  ∀(r:List Oper) (i:Nat) (s:St) (a:Act) (w:World),(∀j,r[j]? =ops[i+j]?)→orun C ops.toList fr B0 i r s=some s'→Rep B s a w→wpOps P ops Q (List.range' i r.length) a w
 |[],i,s,a,w,_,h,hR=>by
  simp only[orun] at h;cases h
  exact hQ a w (hk▸hR.freezeAt i fr)
 |o::r,i,s0,a,w,hr,h,hR0=>by
  have ho:ops[i]? =some o:=by simpa using(hr 0).symm
  have hrest: ∀j,r[j]? =ops[i+1+j]? :=fun j=>by
   have:=hr (j+1)
   simp only[List.getElem?_cons_succ] at this
   rw[this];congr 1;omega
  simp only[List.length_cons,List.range'_succ]
  rw[wpOps_cons]
  unfold wpOp
  simp only[ho]
  have step: ∀{s:St},Rep B s a w→(dstep (optAlg St) C (B0+i*width) o s some).bind (orun C ops.toList fr B0 (i+1) r)=some s'→o.wp P a w (wpOps P ops Q (List.range' (i+1) r.length)) Q:=fun {s} hR h=>by
   cases hs:dstep (optAlg St) C (B0+i*width) o s some with
   |none=>rw[hs] at h;simp at h
   |some s1=>
    rw[hs] at h
    simp only[Option.bind_some] at h
    exact Oper.wp_mono (fun a' w' hR'=>orun_wp hC hk hmv ops fr B0 Q s' hQ r (i+1) s1 a' w' hrest h hR') (dstep_sound hC hk hmv hR hs Q)
  unfold orun at h
  simp only at h
  have hR:Rep B (freezeAt C.k i fr s0) a w:=hk▸hR0.freezeAt i fr
  generalize freezeAt C.k i fr s0=s at h hR
  split at h
  ·rename_i hg
   simp only[Region.wanted,hg,if_true]
   exact .inl (step hR h)
  ·rename_i j want hg
   split at h
   ·cases h
   ·rename_i t ht
    split at h
    ·rename_i g hgv
     have hy:=guard_value hR ht hgv
     simp only[Region.wanted,hg,hy]
     split at h
     ·rename_i hgw
      subst hgw
      simp only[beq_self_eq_true,if_true]
      exact .inl (step hR h)
     ·rename_i hgw
      have hne:(some g==some want)=false:=by simpa using hgw
      rw[hne]
      simp only[Bool.false_eq_true,if_false]
      exact orun_wp hC hk hmv ops fr B0 Q s' hQ r (i+1) _ _ w hrest h (put_undef hR o.dst)
    ·rename_i hgv
     have hy:=guard_none hR ht hgv
     simp only[Region.wanted,hg,hy]
     have hne:((none:Option Bool)==some want)=false:=by simp
     rw[hne]
     simp only[Bool.false_eq_true,if_false]
     exact orun_wp hC hk hmv ops fr B0 Q s' hQ r (i+1) _ _ w hrest h (put_undef hR o.dst)
    ·cases h
theorem mask_get (live:List Nat): ∀(l:List AV) (n i:Nat) (a:AV),(mask live n l)[i]? =some a→ ∃a0,l[i]? =some a0∧(a=a0∨a= .undef)
 |[],_,_,_,h=>by simp[mask] at h
 |b::r,n,0,a,h=>by
  simp only[mask,List.getElem?_cons_zero,Option.some.injEq] at h
  refine⟨b,rfl,?_⟩
  split at h
  ·exact .inl h.symm
  ·exact .inr h.symm
 |b::r,n,i+1,a,h=>by
  simp only[mask,List.getElem?_cons_succ] at h
  simpa using mask_get live r (n+1) i a h
theorem refs_in_env: ∀{l:List AV} {i:Nat} {a:AV},l[i]? =some a→ ∀g,a.refs g=true→g∈idsL l:=fun {l i a} h g hg=>refsL_ids l g (refsL_get h hg)
theorem norm_sound {s s':St} {a:Act} {w:World} (live:List Nat) (hR:Rep B s a w) (h:normO B.k live s=some s'):Rep B s' a w:=by
 obtain⟨hd,ι,hI⟩:=hR
 unfold normO at h
 simp only at h
 split at h
 ·rename_i hchk
  generalize hids:reach s.heap (s.heap.length+1) 0 (addNew (List.range B.k) (idsL (mask live 0 s.env)))=ids at h hchk
  simp only[Bool.and_eq_true,beq_iff_eq] at hchk
  obtain⟨⟨⟨hnd,hcl⟩,hall⟩,hk⟩:=hchk
  simp only[Option.some.injEq] at h
  subst h
  let ιs:Plc:=⟨fun j=>match ids[j]? with|some g=>ι g|none=>none,fun j=>match ids[j]? with|some g=>ι.inn g|none=>fun _=>none⟩
  have hoccs: ∀{j b:Nat},Occ ιs (subHeap s.heap ids) j b→ ∃g,ids[j]? =some g∧Occ ι s.heap g b:=fun {j b} o=>by
   cases o with
   |out r p hr hp e=>
    obtain⟨g,r0,hi,hg,_⟩:=sub_get hr
    simp only[ιs,hi] at hp
    exact⟨g,hi,.out r0 p hg hp e⟩
   |inn t xss m cs i p hr hx hp e=>
    obtain⟨g,r0,hi,hg,h3⟩:=sub_get hr
    simp only[ιs,hi] at hp
    obtain⟨cs0,rfl,_⟩:=Row.ren_nest h3.symm
    exact⟨g,hi,.inn t xss m cs0 i p hg hx hp e⟩
  have hidx: ∀g,g∈ids→ids[place ids g]? =some g:=fun g hg=>place_get hg
  have hsumj: ∀(j:Nat) g,ids[j]? =some g→sumOf ιs (subHeap s.heap ids) j=sumOf ι s.heap g:=fun j g hj=>by
   obtain⟨r0,hr0,_⟩:=closed_get hcl (List.mem_of_getElem? hj)
   have:=sub_of hj hr0
   simp[sumOf,this,hr0,ιs,hj,Row.ren_cells,Row.ren_len]
  have hsum: ∀g,g∈ids→sumOf ιs (subHeap s.heap ids) (place ids g)=sumOf ι s.heap g:=fun g hg=>hsumj _ _ (hidx g hg)
  have hstab: ∀b,stab w ι s.heap b→stab w ιs (subHeap s.heap ids) b:=fun b hb=>by
   refine⟨hb.1,fun j o=> ?_⟩
   obtain⟨g,_,o'⟩:=hoccs o
   exact hb.2 g o'
  have hdst: ∀b,dst B.D w ι s.heap b→dst B.D w ιs (subHeap s.heap ids) b:=fun b hb=>⟨hb.1,hstab b hb.2⟩
  refine⟨hd,ιs,hI.kept,⟨fun j r hj=> ?_,fun j1 j2 b o1 o2=> ?_,fun j b o=> ?_,fun j u xss m cs hj=> ?_⟩,fun b hb=>hstab b (hI.stay b hb),fun g hg=> ?_,fun i x hx=> ?_,hI.glob.mono (Nat.le_refl _) (fun b hb _=>⟨hdst b hb,rfl⟩)⟩
  ·obtain⟨g,r0,hi,hg,rfl⟩:=sub_get hj
   have hι:ιs j=ι g:=by simp[ιs,hi]
   rw[hι]
   refine RowRep.ren (.inl hdst) (fun x hx=> ?_) (hI.hrep.rows g r0 hg)
   obtain⟨r1,hr1,hin⟩:=closed_get hcl (List.mem_of_getElem? hi)
   have:r1=r0:=by rw[hg] at hr1;simpa using hr1.symm
   subst this
   exact hsum x (hin x (Row.refs_ids hx))
  ·obtain⟨g1,hi1,o1'⟩:=hoccs o1
   obtain⟨g2,hi2,o2'⟩:=hoccs o2
   have:=hI.hrep.one g1 g2 b o1' o2'
   exact nodup_inj hnd hi1 (this▸hi2)
  ·obtain⟨g,hi,o'⟩:=hoccs o
   exact hI.hrep.has g b o'
  ·obtain⟨g,r0,hi,hg,h3⟩:=sub_get hj
   obtain⟨cs0,rfl,hl⟩:=Row.ren_nest h3.symm
   have e1:ιs j=ι g:=by simp[ιs,hi]
   have e2:ιs.inn j=ι.inn g:=by simp[ιs,hi]
   rw[e1,e2]
   exact(NestRep.ren (.inl hdst) (hI.hrep.nest g u xss m cs0 hg)).like hl
  ·have hj:ids[g]? =some g:=by
    have h1:(ids.take B.k)[g]? =some g:=by rw[hk];simp[hg]
    rw[List.getElem?_take,if_pos hg] at h1
    exact h1
   obtain⟨h1,r0,hr0⟩:=hI.io g hg
   exact⟨h1.imp id (hsumj g g hj).trans,_,sub_of hj hr0⟩
  ·obtain⟨x0,hx0,rfl⟩:=renL_get hx
   obtain⟨y,hy,hor⟩:=mask_get live s.env 0 i x0 hx0
   obtain⟨v,hv,hr⟩:=hI.env i y hy
   refine⟨v,hv,?_⟩
   rcases hor with rfl|rfl
   ·exact AVRep.ren x0 v (.inl hdst) (fun g hg=>hsum g (by
     have:=List.all_eq_true.1 hall g (refs_in_env hx0 g hg)
     simpa using this)) hr
   ·trivial
 ·cases h
theorem withNorm_sound {k:Nat} {s:St} {a:Act} {w:World} {live:List Nat} {K:St→Prop} (hk:k=B.k) (hR:Rep B s a w) (h:withNorm k live s K): ∃s',K s'∧Rep B s' a w:=by
 unfold withNorm at h
 split at h
 ·rename_i s' hs
  subst hk
  exact⟨s',h,norm_sound live hR hs⟩
 ·cases h
theorem Rep.more {s:St} {a:Act} {w:World} (hR:Rep B s a w) (n:Nat):Rep B {s with heap:=s.heap++List.replicate n none} a w:=by
 obtain⟨hd,ι,hI⟩:=hR
 have hget: ∀(g:Nat) (r:Row),(s.heap++List.replicate n none)[g]? =some (some r)↔s.heap[g]? =some (some r):=fun g r=>by
  by_cases hg:g<s.heap.length
  ·rw[List.getElem?_append_left hg]
  ·rw[List.getElem?_append_right (by omega),List.getElem?_eq_none (l:=s.heap) (by omega)]
   simp[List.getElem?_replicate]
 have hsum:sumOf ι (s.heap++List.replicate n none)=sumOf ι s.heap:=by
  funext g
  unfold sumOf
  cases h:s.heap[g]? with
  |none=>
   cases h2:(s.heap++List.replicate n none)[g]? with
   |none=>rfl
   |some x=>
    cases x with
    |none=>rfl
    |some r=>rw[hget] at h2;rw[h] at h2;simp at h2
  |some x=>
   have hlt:=(List.getElem?_eq_some_iff.1 h).1
   rw[List.getElem?_append_left hlt,h]
 have hocc: ∀{g b:Nat},Occ ι (s.heap++List.replicate n none) g b↔Occ ι s.heap g b:=fun {g b}=>by
  constructor
  ·intro o
   cases o with
   |out r p hr hp e=>exact .out r p ((hget g r).1 hr) hp e
   |inn u xss m cs i p hr hi hp e=>exact .inn u xss m cs i p ((hget g _).1 hr) hi hp e
  ·intro o
   cases o with
   |out r p hr hp e=>exact .out r p ((hget g r).2 hr) hp e
   |inn u xss m cs i p hr hi hp e=>exact .inn u xss m cs i p ((hget g _).2 hr) hi hp e
 have hst: ∀b,stab w ι (s.heap++List.replicate n none) b↔stab w ι s.heap b:=fun b=>by
  constructor
  ·exact fun hb=>⟨hb.1,fun g o=>hb.2 g (hocc.2 o)⟩
  ·exact fun hb=>⟨hb.1,fun g o=>hb.2 g (hocc.1 o)⟩
 have t:Trans w ι s.heap w ι (s.heap++List.replicate n none) (fun _=>True):=⟨Nat.le_refl _,fun b hb=>⟨(hst b).2 hb,rfl⟩,fun g _=>by rw[hsum]⟩
 refine⟨hd,ι,hI.kept,⟨fun g r hg=> ?_,fun g1 g2 b o1 o2=>hI.hrep.one g1 g2 b (hocc.1 o1) (hocc.1 o2),fun g b o=>hI.hrep.has g b (hocc.1 o),fun g u xss m cs hg=>t.nest (fun _ _ _ _=>rfl) (fun _ _ _ _ _ _=>rfl) (hI.hrep.nest g u xss m cs ((hget g _).1 hg))⟩,fun b hb=>(hst b).2 (hI.stay b hb),fun g hg=> ?_,fun i x hx=> ?_,t.globs hI.glob⟩
 ·exact t.row (fun _ _=>trivial) (fun _ _ _ _=>rfl) (hI.hrep.rows g r ((hget g r).1 hg))
 ·obtain⟨h1,r,hr⟩:=hI.io g hg
  exact⟨by rw[hsum];exact h1,r,(hget g r).2 hr⟩
 ·obtain⟨v,hv,hr⟩:=hI.env i x hx
  exact⟨v,hv,t.av (fun _ _=>trivial) hr⟩
def Ends (B:Base) (K:Exit→St→Prop) (e:Exit) (a:Act) (w:World):Prop:= ∃s',K e s'∧Rep B s' a w
theorem awpLoop_sound {c:Code} {body:St→(Exit→St→Prop)→Prop} (hb: ∀s K a w,body s K→Rep B s a w→c.wp P (Ends B K) a w) {K:Exit→St→Prop}:
  ∀(n:Nat) (s:St) (a:Act) (w:World),awpLoop body n s K→Rep B s a w→Code.rounds P c (Ends B K) n a w
 |0,s,a,w,h,_=>h
 |n+1,s,a,w,h,hR=>by
  rw[rounds_succ]
  refine wp_mono (hb s _ a w h hR) fun e a' w' hq=> ?_
  obtain⟨s',hK,hR'⟩:=hq
  cases e with
  |normal=>exact awpLoop_sound hb n s' a' w' hK hR'
  |_=>exact⟨s',hK,hR'⟩
theorem awp_sound (hC:COk P C) (hk:C.k=B.k) (hmv: ∀g,C.mv.contains g=true→B.mv g=true) (L:Nat): ∀(c:Code) (an:Ann) (s:St) (K:Exit→St→Prop) (a:Act) (w:World),awp C L c an s K→Rep B s a w→c.wp P (Ends B K) a w
 | .skip,an,s,K,a,w,h,hR=>by
  cases an with
  |leaf live=>
   unfold awp at h
   obtain⟨s2,h2,hR2⟩:=withNorm_sound hk hR h
   exact wp_skip ⟨s2,h2,hR2⟩
  |leafF fr live=>
   unfold awp at h
   obtain⟨s2,h2,hR2⟩:=withNorm_sound hk (hk▸hR.freezeAt 0 fr) h
   exact wp_skip ⟨s2,h2,hR2⟩
  |_=>simp[awp] at h
 | .ret,an,s,K,a,w,h,hR=>by
  cases an with
  |leaf live=>
   unfold awp at h
   obtain⟨s2,h2,hR2⟩:=withNorm_sound hk hR h
   exact wp_ret ⟨s2,h2,hR2⟩
  |leafF fr live=>
   unfold awp at h
   obtain⟨s2,h2,hR2⟩:=withNorm_sound hk (hk▸hR.freezeAt 0 fr) h
   exact wp_ret ⟨s2,h2,hR2⟩
  |_=>simp[awp] at h
 | .exit id,an,s,K,a,w,h,hR=>by
  cases an with
  |leaf live=>
   unfold awp at h
   obtain⟨s2,h2,hR2⟩:=withNorm_sound hk hR h
   exact wp_exit ⟨s2,h2,hR2⟩
  |leafF fr live=>
   unfold awp at h
   obtain⟨s2,h2,hR2⟩:=withNorm_sound hk (hk▸hR.freezeAt 0 fr) h
   exact wp_exit ⟨s2,h2,hR2⟩
  |_=>simp[awp] at h
 | .region id ops d,an,s,K,a,w,h,hR=>by
  have hregion: ∀(fr:List Turn) (live:List Nat),(crun C ops.toList fr s.heap.length 0 ops.toList {s with heap:=s.heap++List.replicate (ops.size*width) none} fun s'=>withNorm C.k live s' (K .normal))→
    (Code.region id ops false).wp P (Ends B K) a w:=fun fr live h=>by
   have h1:=crun_orun C ops.toList _ _ _ _ _ _ h
   obtain⟨s1,hs1,hK⟩:=wpO_iff.1 h1
   refine wp_region ?_
   have:=orun_wp hC hk hmv ops fr s.heap.length (Ends B K) s1 (fun a' w' hR'=>by
    obtain⟨s2,h2,hR2⟩:=withNorm_sound hk hR' hK
    exact⟨s2,h2,hR2⟩) ops.toList 0 _ a w (by simp) hs1 (hR.more _)
   simpa[List.range_eq_range'] using this
  cases d with
  |true=>
   cases an with
   |draw calm order fr live=>
    unfold awp at h
    cases hB:schedB ops calm order with
    |false=>rw[hB] at h;exact h.elim
    |true=>
     rw[hB] at h
     have h1:=crunS_orunS C ops.toList calm _ _ _ _ h
     obtain⟨s1,hs1,hK⟩:=wpO_iff.1 h1
     refine wp_region_any hC.mixed (draw_wp hC hk hmv hB hs1 (hR.more _).drew (Ends B K) fun a' w' hR'=> ?_)
     obtain⟨s2,h2,hR2⟩:=withNorm_sound hk (hk▸hR'.freezeAt 0 fr) hK
     exact⟨s2,h2,hR2⟩
   |_=>simp[awp] at h
  |false=>
   cases an with
   |leaf live=>
    unfold awp at h
    exact hregion [] live h
   |leafF fr live=>
    unfold awp at h
    exact hregion fr live h
   |_=>simp[awp] at h
 | .seq x y,an,s,K,a,w,h,hR=>by
  cases an with
  |seq p q=>
   unfold awp at h
   refine wp_seq (wp_mono (awp_sound hC hk hmv L x p s _ a w h hR) fun e a' w' hq=> ?_)
   obtain⟨s',hK,hR'⟩:=hq
   cases e with
   |normal=>exact awp_sound hC hk hmv L y q s' K a' w' hK hR'
   |_=>exact⟨s',hK,hR'⟩
  |_=>simp[awp] at h
 | .cond c x y,an,s,K,a,w,h,hR=>by
  cases an with
  |cond p q=>
   unfold awp at h
   split at h
   ·rename_i g hg
    have hv:a.eval c= .bool g:=by
     obtain⟨_,ι,hI⟩:=hR
     have e:=dat_bool (evalO_rep hI hg a.defers)
     exact e
    refine wp_cond hv ?_
    cases g with
    |true=>exact awp_sound hC hk hmv L x p s _ a w h hR
    |false=>exact awp_sound hC hk hmv L y q s _ a w h hR
   ·cases h
  |_=>simp[awp] at h
 | .block id c,an,s,K,a,w,h,hR=>by
  cases an with
  |block p=>
   unfold awp at h
   refine wp_block (wp_mono (awp_sound hC hk hmv L c p s _ a w h hR) fun e a' w' hq=> ?_)
   obtain⟨s',hK,hR'⟩:=hq
   cases e with
   |exit i=>
    simp only[Exit.inBlock]
    simp only[onExit] at hK
    split
    ·rename_i hi
     rw[if_pos hi] at hK
     exact⟨s',hK,hR'⟩
    ·rename_i hi
     rw[if_neg hi] at hK
     exact⟨s',hK,hR'⟩
   |_=>exact⟨s',hK,hR'⟩
  |_=>simp[awp] at h
 | .loop c,an,s,K,a,w,h,hR=>by
  cases an with
  |loop p=>
   unfold awp at h
   exact wp_loop_rounds L (awpLoop_sound (fun s K a w h hR=>awp_sound hC hk hmv L c p s K a w h hR) L s a w h hR)
  |_=>simp[awp] at h
 | .rangeFunc _ _ _ _,an,s,K,a,w,h,hR=>by simp[awp] at h
 | .scope _,an,s,K,a,w,h,hR=>by simp[awp] at h
 | .label _,an,s,K,a,w,h,hR=>by simp[awp] at h
 | .goto _,an,s,K,a,w,h,hR=>by simp[awp] at h
 | .refuse _,an,s,K,a,w,h,hR=>by simp[awp] at h
end
end Go.Rv
set_option linter.unusedSimpArgs false
set_option linter.unusedVariables false
namespace Go.Rv
def retVals (T:TT) (s:St):List ResultVar→Option (List AV)
 |[]=>some []
 | .tmp t::r=>match s.env[t]?,retVals T s r with
  |some a,some l=>some (a::l)
  |_,_=>none
 | .cell p t::r=>match s.env[p]?,retVals T s r with
  |some a,some l=>match a with
   | .ptr h o=>match aload (optAlg AV) T s t (.ptr h o) some with
    |some x=>some (x::l)
    |none=>none
   |_=>none
  |_,_=>none
def retAV (l:List AV):AV:=
 match l with
 |[x]=>x
 |l=> .tup l
def Ret (T:TT) (rvs:List ResultVar) (r:AV) (H:Heap) (e:Exit) (s:St):Prop:=
 (match e with| .ret=>True| .normal=>True|_=>False)∧(∃l,retVals T s rvs=some l∧retAV l=r)∧s.heap=H
section
variable {P : Program} {B : Base} {T : TT}
def resVal (tmps:Array Value):ResultVar→Sem Value
 | .tmp t=>pure (tmps.getD t undef)
 | .cell a t=>do loadVar t (←asAddr (tmps.getD a undef))
theorem results_eq (fn:Func) (tmps:Array Value):results fn tmps=(do let vs←fn.results.mapM (resVal tmps);pure (if h:vs.size=1 then vs[0] else .tuple vs)):=by
 unfold results
 congr 1
theorem retVals_ok (hT:TOk P T) {s:St} {tmps:Array Value} {w:World} {ι:Plc} (hI:Inv B s tmps w ι): ∀(rvs:List ResultVar) (l:List AV),retVals T s rvs=some l→
  ∃vs:List Value,(rvs.mapM (resVal tmps)).run P w= .ok vs w∧AVsRep w (dst B.D w ι s.heap) (sumOf ι s.heap) l vs
 |[],l,h=>by simp[retVals] at h;subst h;exact⟨[],by simp,rfl⟩
 | .tmp t::r,l,h=>by
  simp only[retVals] at h
  split at h
  ·rename_i a l' ha hl'
   simp only[Option.some.injEq] at h
   subst h
   obtain⟨vs,h1,h2⟩:=retVals_ok hT hI r l' hl'
   obtain⟨v,hv,hr⟩:=hI.env t a ha
   have e:tmps.getD t undef=v:=by simp[Array.getD_eq_getD_getElem?,hv]
   refine⟨v::vs,?_,v,vs,rfl,hr,h2⟩
   rw[List.mapM_cons]
   simp only[resVal,Sem.run_bind,Sem.run_pure,Result.andThen_ok,h1,e]
  ·cases h
 | .cell p t::r,l,h=>by
  simp only[retVals] at h
  split at h
  ·rename_i a l' ha hl'
   split at h
   ·rename_i g o
    split at h
    ·rename_i x hx
     simp only[Option.some.injEq] at h
     subst h
     obtain⟨vs,h1,h2⟩:=retVals_ok hT hI r l' hl'
     obtain⟨v,hv,hr⟩:=hI.env p _ ha
     have e:tmps.getD p undef=v:=by simp[Array.getD_eq_getD_getElem?,hv]
     obtain⟨y,u,h3,h4,h5⟩:=aload_ok hT hI hx hr
     simp only[Option.some.injEq] at h3
     subst h3
     obtain⟨q,b,off,c,hq,hp,rfl⟩:=hr
     refine⟨u::vs,?_,u,vs,rfl,h4,h2⟩
     have h5':(loadVar t ⟨b,off+o,none⟩).run P w= .ok u w:=by simpa[Instr.loadAt,Instr.sureAddr,Sem.run_bind] using h5
     rw[List.mapM_cons]
     simp only[resVal,Sem.run_bind,Sem.run_pure,Result.andThen_ok,h1,e,asAddr,h5']
    ·cases h
   ·cases h
  ·cases h
theorem results_ok (hT:TOk P T) {fn:Func} {s:St} {tmps:Array Value} {w:World} {ι:Plc} (hI:Inv B s tmps w ι) {l:List AV} (h:retVals T s fn.results.toList=some l):
  ∃v,(results fn tmps).run P w= .ok v w∧AVRep w (dst B.D w ι s.heap) (sumOf ι s.heap) (retAV l) v:=by
 obtain⟨vs,h1,h2⟩:=retVals_ok hT hI _ l h
 have hlen:=h2.length
 have hm:(fn.results.mapM (resVal tmps)).run P w= .ok vs.toArray w:=by
  rw[Array.mapM_eq_mapM_toList]
  rw[←bind_pure_comp]
  rw[Sem.run_bind,h1]
  simp
 refine⟨if h:vs.toArray.size=1 then vs.toArray[0] else .tuple vs.toArray,?_,?_⟩
 ·rw[results_eq,Sem.run_bind,hm]
  simp
 ·unfold retAV
  split
  ·rename_i x
   obtain⟨v,vr,rfl,h3,h4⟩:=h2
   have e:vr=[]:=h4
   subst e
   simpa using h3
  ·rename_i hne
   have: ¬vs.toArray.size=1:=fun h1=>by
    have hl1:l.length=1:=by simp at h1;omega
    match l,hl1 with
    |[x],_=>exact hne x rfl
   rw[dif_neg this]
   exact⟨vs,rfl,h2⟩
def start (n:Nat) (avs:List AV) (H:Heap):St:=⟨avs++List.replicate (n-avs.length) .undef,H⟩
theorem fn_sound {C:Ctx} (hC:COk P C) {f:FuncId} {fn:Func} {c:Code} (hf:P.funcs[f]? =some fn) (hb:fn.body=some c) {F:Fun} (L:Nat) (an:List AV→Heap→Ann)
  (h: ∀avs H r H',(F avs H).run=some (r,H')→awp {C with k:=H.length,mv:=(F avs H).mv} L c (an avs H) (start fn.ntmps avs H) (Ret C.T fn.results.toList r H')):Sound P f F:=by
 intro avs H r H' hF D w args ι hnew hH hglob hpres hargs
 let B:Base:={w0:=w,S0:=stab w ι H,D:=D,σ0:=sumOf ι H,k:=H.length,mv:=fun h=>(F avs H).mv.contains h,new:=hnew}
 have hlen:=hargs.length
 have hI:Inv B (start fn.ntmps avs H) (args.toArray++Array.replicate (fn.ntmps-args.toArray.size) undef) w ι:=by
  refine⟨Kept.refl _ _,hH,fun b hb=>hb,fun g hg=>⟨.inr rfl,hpres g hg⟩,fun i a ha=> ?_,hglob⟩
  simp only[start] at ha
  by_cases hi:i<avs.length
  ·rw[List.getElem?_append_left hi] at ha
   obtain⟨v,hv,hr⟩:=hargs.get _ _ i a ha
   exact⟨v,by rw[Array.getElem?_append_left (by simp;omega)];simpa using hv,hr⟩
  ·rw[List.getElem?_append_right (by omega)] at ha
   rw[List.getElem?_replicate] at ha
   split at ha
   ·rename_i hlt
    cases ha
    refine⟨undef,?_,trivial⟩
    rw[Array.getElem?_append_right (by simp;omega)]
    simp only[List.size_toArray,Array.getElem?_replicate]
    rw[if_pos (by omega)]
   ·cases ha
 refine calls_of_wp hf hb ?_
 have hC':COk P {C with k:=H.length,mv:=(F avs H).mv}:=⟨hC.types,hC.orc,hC.call,hC.mixed⟩
 refine wp_mono (awp_sound (B:=B) hC' rfl (fun _ h=>h) L c _ _ _ _ w (h avs H r H' hF) ⟨rfl,ι,hI⟩) fun e a' w' hq=> ?_
 obtain⟨s',⟨he,⟨l,hl,hlr⟩,hH'⟩,hd,ι',hI'⟩:=hq
 obtain⟨v,hv,hr⟩:=results_ok hC.types hI' hl
 have hpost: ∃v ι',Ending.returned v= .returned v∧Kept (stab w ι H) w w'∧HRep D w' ι' H'∧(∀b,stab w ι H b→stab w' ι' H' b)∧(∀h,h<H.length→((F avs H).mv.contains h=true∨sumOf ι' H' h=sumOf ι H h)∧ ∃x,H'[h]? =some (some x))∧AVRep w' (dst D w' ι' H') (sumOf ι' H') r v:=by
  subst hH' hlr
  exact⟨v,ι',rfl,hI'.kept,hI'.hrep,hI'.stay,fun g hg=>hI'.io g hg,hr⟩
 obtain⟨v',ι2,_,hrest⟩:=hpost
 have hfinal:a'.defers=[]∧ ∃v,(results fn a'.tmps).run P w'= .ok v w'∧(∃u ι',Ending.returned v= .returned u∧Kept (stab w ι H) w w'∧HRep D w' ι' H'∧(∀b,stab w ι H b→stab w' ι' H' b)∧
   (∀h,h<H.length→((F avs H).mv.contains h=true∨sumOf ι' H' h=sumOf ι H h)∧ ∃x,H'[h]? =some (some x))∧AVRep w' (dst D w' ι' H') (sumOf ι' H') r u):=by
  subst hH' hlr
  exact⟨hd,v,hv,v,ι',rfl,hI'.kept,hI'.hrep,hI'.stay,fun g hg=>hI'.io g hg,hr⟩
 cases e with
 |normal=>exact hfinal
 |ret=>exact hfinal
 |_=>exact he.elim
end
end Go.Rv
set_option linter.unusedSimpArgs false
set_option linter.unusedVariables false
namespace Go.Rv
def tlook:List (TypeId×TI)→TT
 |[],_=>none
 |p::r,t=>if Nat.beq p.1 t then some p.2 else tlook r t
theorem tlook_mem {t:TypeId} {ti:TI}: ∀{l:List (TypeId×TI)},tlook l t=some ti→(t,ti)∈l
 |[],h=>by simp[tlook] at h
 |p::r,h=>by
  simp only[tlook] at h
  split at h
  ·rename_i hp
   have e:p.1=t:=Nat.eq_of_beq_eq_true hp
   cases h
   subst e
   simp
  ·exact List.mem_cons_of_mem _ (tlook_mem h)
theorem tok_of {P:Program} {l:List (TypeId×TI)} (h: ∀p∈l,TIOk P p.1 p.2):TOk P (tlook l):=fun t ti ht=>h (t,ti) (tlook_mem ht)
def olook:List (FuncId×Fun)→FuncId→Fun
 |[],_=>fun _ _=>Ans.no
 |p::r,f=>if Nat.beq p.1 f then p.2 else olook r f
theorem olook_ok {P:Program}: ∀{l:List (FuncId×Fun)},(∀p∈l,Sound P p.1 p.2)→ ∀f,Sound P f (olook l f)
 |[],_,f=>fun avs H r H' h=>by simp[olook,Ans.no,Ans.run] at h
 |p::r,hl,f=>by
  unfold olook
  split
  ·rename_i hp
   have e:p.1=f:=Nat.eq_of_beq_eq_true hp
   subst e
   exact hl p (by simp)
  ·exact olook_ok (fun q hq=>hl q (List.mem_cons_of_mem _ hq)) f
theorem olook_call {P:Program}: ∀{l:List (FuncId×Fun)},(∀p∈l,Callable P p.1)→ ∀f avs H,(olook l f avs H).o.isSome=true→Callable P f
 |[],_,f,avs,H,h=>by simp[olook,Ans.no] at h
 |p::rr,hl,f,avs,H,h=>by
  by_cases hp:Nat.beq p.1 f=true
  ·have e:p.1=f:=Nat.eq_of_beq_eq_true hp
   subst e
   exact hl p (by simp)
  ·have e:olook (p::rr) f=olook rr f:=by simp[olook,hp]
   rw[e] at h
   exact olook_call (fun q hq=>hl q (List.mem_cons_of_mem _ hq)) f avs H h
theorem cok_of {P:Program} {types:List (TypeId×TI)} {funs:List (FuncId×Fun)} {io:FuncId→Nat→Bool} {k:Nat} {d:Bool} {m:List Nat} (ht:TOk P (tlook types)) (h1: ∀p∈funs,Sound P p.1 p.2) (h2: ∀p∈funs,Callable P p.1) (hm:P.follows .mixedOrders=true):
  COk P ⟨tlook types,olook funs,io,k,d,m⟩:=⟨ht,olook_ok h1,olook_call h2,hm⟩
theorem Ans.run_some {τ:Type} {o:Option τ} {enc:τ→AV×Heap} {mv:List Nat} {r:AV×Heap} (h:(Ans.mk τ o enc mv none).run=some r): ∃t,o=some t∧enc t=r:=Option.map_eq_some_iff.1 h
def Code.fst:Code→Code
 | .seq a _=>a
 | .cond _ a _=>a
 | .block _ a=>a
 | .loop a=>a
 |c=>c
def Code.snd:Code→Code
 | .seq _ b=>b
 | .cond _ _ b=>b
 |c=>c
def bodyOf (fn:Func):Code:=match fn.body with|some c=>c|none=> .skip
def Ann.fst:Ann→Ann
 | .seq a _=>a
 | .cond a _=>a
 | .block a=>a
 | .loop a=>a
 |a=>a
def Ann.snd:Ann→Ann
 | .seq _ b=>b
 | .cond _ b=>b
 |a=>a
def LL:Nat:=1152921504606846976
def RR:Nat:=100000
def infoOf:Option TypeInfo→TypeInfo
 |some i=>i
 |none=>default
def fieldsOf:Option TypeDesc→Array Field
 |some (.struct f)=>f
 |_=> #[]
def mkE:Nat→Nat→List (Nat×AV)→List AV
 |0,_,_=> []
 |n+1,i,l=>(match l with
  |(j,a)::r=>if Nat.beq j i then a::mkE n (i+1) r else .undef::mkE n (i+1) l
  |[]=> .undef::mkE n (i+1) [])
theorem wpO_cond {α:Type} (g:Bool) (x y:Option α) (K:α→Prop):wpO (cond g x y) K=cond g (wpO x K) (wpO y K):=by cases g<;>rfl
theorem wpW:(∀{α β:Type} (o:Option α) (f:α→Option β) (K:β→Prop),wpO (o.bind f) K=wpO o (fun a=>wpO (f a) K))∧(∀{α:Type} (g:Bool) (x y:Option α) (K:α→Prop),wpO (cond g x y) K=cond g (wpO x K) (wpO y K))∧
  (∀{α β:Type} (o:Option α) (f:α→β) (K:β→Prop),wpO (o.map f) K=wpO o (fun a=>K (f a)))∧(∀{α:Type} (a:α) (K:α→Prop),wpO (some a) K=K a):=⟨wpO_bind,wpO_cond,wpO_map,wpO_some⟩
structure Link (C:Ctx) (L:Nat) (c:Code) (an:Ann) (s:St) {τ:Type} (n:Option τ) (fin:τ→Exit×St):Prop where
 go: ∀K:Exit→St→Prop,wpO n (fun x=>K (fin x).1 (fin x).2)→awp C L c an s K
structure Awp (C:Ctx) (L:Nat) (c:Code) (an:Ann) (s:St) (K:Exit→St→Prop):Prop where
 go:awp C L c an s K
theorem Awp.of {C:Ctx} {L:Nat} {c:Code} {an:Ann} {s:St} {K:Exit→St→Prop} {X:Prop} (e:X=awp C L c an s K) (h:X):Awp C L c an s K:=⟨e▸h⟩
theorem Link.of {C:Ctx} {L:Nat} {c:Code} {an:Ann} {s:St} {τ:Type} {n:Option τ} {fin:τ→Exit×St} (h: ∀K:Exit→St→Prop,wpO n (fun x=>K (fin x).1 (fin x).2)→Awp C L c an s K):Link C L c an s n fin:=
 ⟨fun K hk=>(h K hk).go⟩
theorem Link.cast {C:Ctx} {L:Nat} {c c':Code} {an an':Ann} {s:St} {τ:Type} {n:Option τ} {fin:τ→Exit×St} (hc:c'=c) (ha:an'=an) (h:Link C L c an s n fin):Link C L c' an' s n fin:=by
 subst hc ha;exact h
theorem link_seq {C:Ctx} {L:Nat} {a b:Code} {x y:Ann} {s:St} {τ υ:Type} {n:Option τ} {st:τ→St} (h1:Link C L a x s n (fun t=>(Exit.normal,st t))) {m:τ→Option υ} {fin2:υ→Exit×St}
  (h2: ∀t,Link C L b y (st t) (m t) fin2):Link C L (.seq a b) (.seq x y) s (n.bind m) fin2:=by
 refine⟨fun K h=> ?_⟩
 rw[wpO_bind] at h
 exact h1.go _ (wpO_mono (fun t ht=>(h2 t).go K ht) h)
def grpC:List Code→Code→Code
 |[],c=>c
 |x::r,c=> .seq x (grpC r c)
def grpA:List Ann→Ann→Ann
 |[],c=>c
 |x::r,c=> .seq x (grpA r c)
theorem onNormal_two (f g:St→Prop) (K:Exit→St→Prop):onNormal f (onNormal g K)=onNormal f K:=by
 funext e s
 cases e<;>rfl
theorem awp_group {C:Ctx} {L:Nat} {c d:Code} {a z:Ann}: ∀(l:List Code) (m:List Ann),l.length=m.length→ ∀(s:St) (K:Exit→St→Prop),
  awp C L (.seq (grpC l c) d) (.seq (grpA m a) z) s K=awp C L (grpC l (.seq c d)) (grpA m (.seq a z)) s K
 |[],[],_,_,_=>rfl
 |[],_::_,h,_,_=>by simp at h
 |_::_,[],h,_,_=>by simp at h
 |x::r,y::q,h,s,K=>by
  have ih:=awp_group (C:=C) (L:=L) (c:=c) (d:=d) (a:=a) (z:=z) r q (by simpa using h)
  have e1:awp C L (.seq (grpC (x::r) c) d) (.seq (grpA (y::q) a) z) s K=
    awp C L x y s (onNormal (fun s'=>awp C L (grpC r c) (grpA q a) s' (onNormal (fun s2=>awp C L d z s2 K) K)) (onNormal (fun s2=>awp C L d z s2 K) K)):=by
   simp[grpC,grpA,awp]
  have e2:awp C L (grpC (x::r) (.seq c d)) (grpA (y::q) (.seq a z)) s K=awp C L x y s (onNormal (fun s'=>awp C L (grpC r (.seq c d)) (grpA q (.seq a z)) s' K) K):=by
   simp[grpC,grpA,awp]
  rw[e1,e2,onNormal_two]
  congr 1
  congr 1
  funext s'
  rw[←ih s' K]
  simp[awp]
theorem link_group {C:Ctx} {L:Nat} {c d:Code} {a z:Ann} {s:St} {τ:Type} {n:Option τ} {fin:τ→Exit×St} (l:List Code) (m:List Ann) (hl:l.length=m.length)
  (h:Link C L (.seq (grpC l c) d) (.seq (grpA m a) z) s n fin):Link C L (grpC l (.seq c d)) (grpA m (.seq a z)) s n fin:=
 ⟨fun K hk=>by rw[←awp_group l m hl];exact h.go K hk⟩
def Abrupt {ε:Type} (fin:ε→Exit×St):Prop:= ∀e,∀(f:St→Prop) (K:Exit→St→Prop),K (fin e).1 (fin e).2→onNormal f K (fin e).1 (fin e).2
theorem link_seq2 {C:Ctx} {L:Nat} {a b:Code} {x y:Ann} {s:St} {τ ε υ:Type} {n:Option (τ⊕ε)} {st:τ→St} {finE:ε→Exit×St} (h1:Link C L a x s n (Sum.elim (fun t=>(Exit.normal,st t)) finE)) {m:τ→Option υ} {fin2:υ→Exit×St}
  (h2: ∀t,Link C L b y (st t) (m t) fin2) (j:ε→υ) (hj: ∀e,fin2 (j e)=finE e) (ha:Abrupt finE):Link C L (.seq a b) (.seq x y) s (n.bind (Sum.elim m (fun e=>some (j e)))) fin2:=by
 refine⟨fun K h=> ?_⟩
 rw[wpO_bind] at h
 refine h1.go _ (wpO_mono (fun t ht=> ?_) h)
 cases t with
 |inl t=>exact(h2 t).go K ht
 |inr e=>
  refine ha e _ K ?_
  have ht':K (fin2 (j e)).1 (fin2 (j e)).2:=Eq.mp (wpO_some (j e) (fun x=>K (fin2 x).1 (fin2 x).2)) ht
  rw[hj] at ht'
  exact ht'
theorem link_map {C:Ctx} {L:Nat} {a:Code} {x:Ann} {s:St} {τ υ:Type} {n:Option τ} {fin:τ→Exit×St} (h1:Link C L a x s n fin) (f:τ→υ) {fin2:υ→Exit×St} (hf: ∀t,fin2 (f t)=fin t):Link C L a x s (n.map f) fin2:=by
 refine⟨fun K h=> ?_⟩
 rw[wpO_map] at h
 exact h1.go K (wpO_mono (fun t ht=>by rw[hf] at ht;exact ht) h)
theorem link_cond {C:Ctx} {L:Nat} {c:Operand} {a b:Code} {x y:Ann} {s:St} {g:Bool} (hg:evalO s c=some (.dat .bool g)) {τ:Type} {n m:Option τ} {fin:τ→Exit×St} (h1:Link C L a x s n fin) (h2:Link C L b y s m fin):
  Link C L (.cond c a b) (.cond x y) s (cond g n m) fin:=by
 refine⟨fun K h=> ?_⟩
 unfold awp
 rw[hg]
 cases g with
 |true=>exact h1.go K h
 |false=>exact h2.go K h
theorem link_block {C:Ctx} {L:Nat} {id:Nat} {a:Code} {x:Ann} {s:St} {τ υ:Type} {n:Option τ} {fin:τ→Exit×St} (h1:Link C L a x s n fin) (f:τ→υ) {fin2:υ→Exit×St}
  (hf: ∀t (K:Exit→St→Prop),K (fin2 (f t)).1 (fin2 (f t)).2→onExit id K (fin t).1 (fin t).2):Link C L (.block id a) (.block x) s (n.map f) fin2:=by
 refine⟨fun K h=> ?_⟩
 rw[wpO_map] at h
 exact h1.go _ (wpO_mono (fun t ht=>hf t K ht) h)
def nloop {σ ω:Type} (body:σ→Option (σ⊕ω)):Nat→σ→Option ω
 |0,_=>none
 |n+1,s=>(body s).bind fun r=>match r with
  | .inl s'=>nloop body n s'
  | .inr o=>some o
theorem link_loop {C:Ctx} {L:Nat} {a:Code} {x:Ann} {σ ω:Type} {body:σ→Option (σ⊕ω)} {mk:σ→St} {fin:ω→Exit×St} (hn:Abrupt fin)
  (hb: ∀s,Link C L a x (mk s) (body s) (Sum.elim (fun s'=>(Exit.normal,mk s')) (fun o=>fin o))) (s:σ):Link C L (.loop a) (.loop x) (mk s) (nloop body L s) fin:=by
 refine⟨fun K h=> ?_⟩
 unfold awp
 suffices H: ∀n s,wpO (nloop body n s) (fun x=>K (fin x).1 (fin x).2)→awpLoop (fun s K=>awp C L a x s K) n (mk s) K from H L s h
 intro n
 induction n with
 |zero=>intro s h;exact(Eq.mp (wpO_none _) h).elim
 |succ n ih=>
  intro s h
  simp only[nloop,wpO_bind] at h
  refine(hb s).go _ (wpO_mono (fun r hr=> ?_) h)
  cases r with
  |inl s'=>exact ih s' hr
  |inr o=>exact hn o _ _ (Eq.mp (wpO_some o (fun x=>K (fin x).1 (fin x).2)) hr)
theorem Awp.cast {C C':Ctx} {L:Nat} {c:Code} {an:Ann} {s s':St} {K K':Exit→St→Prop} (h1:C'=C) (h2:s'=s) (h3:K'=K) (h:Awp C L c an s K):Awp C' L c an s' K':=by
 subst h1 h2 h3;exact h
def isEnd:Exit→Bool
 | .normal=>true
 | .ret=>true
 |_=>false
theorem ret_mk {T:TT} {rs:List ResultVar} {r:AV} {H':Heap} {e:Exit} {s:St} (l:List AV) (he:isEnd e=true) (h1:retVals T s rs=some l) (h2:retAV l=r) (h3:s.heap=H'):Ret T rs r H' e s:=by
 refine⟨?_,⟨l,h1,h2⟩,h3⟩
 cases e<;>first|trivial|exact absurd he (by simp[isEnd])
theorem ret_of {C:Ctx} {L:Nat} {c:Code} {an:Ann} {s:St} {τ υ:Type} {n:Option τ} {fin:τ→Exit×St} (h:Link C L c an s n fin) {o:Option υ} {enc:υ→AV×Heap} (f:τ→υ) (ho:o=n.map f) {T:TT} {rs:List ResultVar}
  (hr: ∀t,Ret T rs (enc (f t)).1 (enc (f t)).2 (fin t).1 (fin t).2) {r:AV} {H':Heap} {mv:List Nat} (hrun:(Ans.mk υ o enc mv none).run=some (r,H')):Awp C L c an s (Ret T rs r H'):=by
 obtain⟨u,hu,he⟩:=Ans.run_some hrun
 subst ho
 obtain⟨t,ht,rfl⟩:=Option.map_eq_some_iff.1 hu
 refine⟨h.go _ ?_⟩
 rw[ht,wpO_some]
 have:=hr t
 rw[he] at this
 exact this
theorem ret_of' {C:Ctx} {L:Nat} {c:Code} {an:Ann} {s:St} {τ:Type} {n:Option τ} {fin:τ→Exit×St} (h:Link C L c an s n fin) {o:Option τ} {enc:τ→AV×Heap} (ho:o=n) {T:TT} {rs:List ResultVar}
  (hr: ∀t,Ret T rs (enc t).1 (enc t).2 (fin t).1 (fin t).2) {r:AV} {H':Heap} {mv:List Nat} (hrun:(Ans.mk τ o enc mv none).run=some (r,H')):Awp C L c an s (Ret T rs r H'):=
 ret_of h id (by rw[ho];simp) hr hrun
theorem fn_sound' {P:Program} {C:Ctx} (hC:COk P C) {f:FuncId} {fn:Func} {c:Code} (hf:P.funcs[f]? =some fn) (hb:fn.body=some c) {F:Fun} (L:Nat) (an:Ann)
  (h: ∀avs H r H',(F avs H).run=some (r,H')→Awp {C with k:=H.length,mv:=(F avs H).mv} L c an (start fn.ntmps avs H) (Ret C.T fn.results.toList r H')):Sound P f F:=
 fn_sound hC hf hb L (fun _ _=>an) (fun avs H r H' hF=>(h avs H r H' hF).go)
def insI (xs:List Int) (i:Int) (vs:List Int):Option (List Int):=
 match vs with
 |[]=>none
 |v::r=>(inc i (List.length xs)).bind fun k=>(room (List.length xs+List.length (v::r))).bind fun _=>some (xs.take k++(v::r)++xs.drop k)
end Go.Rv
namespace Go.Rv
def sidx (s t:ByteArray):Option Int:=match t.data.toList with|[c]=>some (Lib.indexByte s.data.toList c)|_=>none
def itoaS (n:Int):Option ByteArray:=if 0≤n∧n<100 then some ⟨(Lib.decDigits n.toNat).toArray⟩ else none
def atoiE (s:ByteArray):Int×Bool:=
 match Lib.atoiAll s.data.toList with
 | .ok v=>(v,false)
 | .range=>(Lib.atoiSat s.data.toList,true)
 |_=>(0,true)
def atoiS (s:ByteArray):Option (Int×Bool):=if s.size≤281474976710656 then some (atoiE s) else none
def cloneD {α:Type} (xs:List α):Option (List α):=if xs.length≤1099511627776 then some xs else none
def jtext {α:Type} (f:α→Option ByteArray):List α→ByteArray→Option ByteArray
 |[],acc=>some acc
 |d::r,acc=>(f d).bind fun s=>if s=ByteArray.empty then some ByteArray.empty else if s.size+1≤1000000∧acc.size+(s.size+1)≤140737488355328 then jtext f r (acc++(s++ByteArray.mk #[10])) else none
def jtextL {α:Type} (f:α→Option ByteArray) (xs:List α):Option ByteArray:=if xs.length≤1099511627776 then jtext f xs ByteArray.empty else none
end Go.Rv
set_option linter.unusedSimpArgs false
set_option linter.unusedVariables false
namespace Go.Rv
section
variable {P : Program}
def isFnAt (i g:Nat) (avs:List AV):Bool:=match avs[i]? with|some (.fn h _ _)=>Nat.beq h g|_=>false
def pickF (i g:Nat) (F G:Fun):Fun:=fun avs H=>cond (isFnAt i g avs) (F avs H) (G avs H)
theorem Sound.pick {P:Program} {f:FuncId} {F G:Fun} (hF:Sound P f F) (hG:Sound P f G) (i g:Nat):Sound P f (pickF i g F G):=by
 intro avs H
 cases hb:isFnAt i g avs with
 |true=>
  have e:pickF i g F G avs H=F avs H:=by simp[pickF,hb]
  rw[e]
  exact hF avs H
 |false=>
  have e:pickF i g F G avs H=G avs H:=by simp[pickF,hb]
  rw[e]
  exact hG avs H
end
end Go.Rv
universe u
namespace Go.Rv
abbrev dI (x:Int):AV:= .dat (.int .i64) x
abbrev dU (x:Int):AV:= .dat (.int .u8) x
abbrev dW (x:Int):AV:= .dat (.int .u64) x
abbrev dB (x:Bool):AV:= .dat .bool x
abbrev dS (x:ByteArray):AV:= .dat .str x
abbrev dL (x:List Int):AV:= .dat (.list (.int .i64)) x
abbrev dV (x:List Int):AV:= .dat (.list (.int .u8)) x
abbrev sI (x:List Int):Row:= .seq (.int .i64) x
def cq:List Nat→Code→Code
 |[],c=>c
 |0::l,c=>Code.fst (cq l c)
 |_::l,c=>Code.snd (cq l c)
def aq:List Nat→Ann→Ann
 |[],c=>c
 |0::l,c=>Ann.fst (aq l c)
 |_::l,c=>Ann.snd (aq l c)
theorem allc {α:Type u} {p:α→Prop} {a:α} {l:List α} (h:p a) (t: ∀x∈l,p x): ∀x∈a::l,p x:=List.forall_mem_cons.2 ⟨h,t⟩
theorem alln {α:Type u} {p:α→Prop}: ∀x∈([]:List α),p x:=fun x h=>by cases h
end Go.Rv
set_option linter.unusedSimpArgs false
set_option linter.unusedVariables false
namespace Go.Rv
open Go.RowKit
def noPlc:Plc:=⟨fun _=>none,fun _ _=>none⟩
theorem grown_of {w w':World} (h:Kept (stab w noPlc []) w w'):Below w.heap.size w w':=
 ⟨h.os,h.tape,h.output,h.size,fun i hi=>h.block i ⟨hi,fun h' o=>by obtain⟨r,hr⟩:=o.row;simp at hr⟩⟩
end Go.Rv
set_option linter.unusedSimpArgs false
set_option linter.unusedVariables false
namespace Go.Rv
open Go.RowKit Go.ChangeShapes Go.WideShapes
section
variable {H : Type} {enc : TypeId × Value → H} {P : Program} {W : World}
abbrev S0 (W:World):Nat→Prop:=dst (fun _=>True) W noPlc []
theorem S0_of {b:Nat} (h:b<W.heap.size):S0 W b:=⟨trivial,h,fun h' o=>by obtain⟨r,hr⟩:=o.row;simp at hr⟩
theorem cell_lt {a:Addr} {v:Value} (h:W.cell? a=some v):a.block<W.heap.size:=by
 unfold World.cell? at h
 cases hb:W.heap[a.block]? with
 |none=>rw[hb] at h;simp at h
 |some o=>exact(Array.getElem?_eq_some_iff.1 hb).1
theorem av_ints {t e:TypeId} {k:IntKind} {r:Reach} {b0:Nat} {v:Value} {d:DataW H} {ps:List MemPlace} (ht:P.underlying t=some (.slice e)) (he:P.underlying e=some (.int k)) (hc:P.cellsOf e=1)
  (hval:Value.okWide P W r b0 t v) (hd:DataW.Trod enc P W 0 (fun _=>true) true t v d ps):
  ∃xs:List Int,(∀n∈xs,(Lit.int k n).wf=true)∧xs.length≤maxLen∧ ∀σ,AVRep W (S0 W) σ (.dat (.list (.int k)) xs) v:=by
 obtain⟨fuel,hf⟩:=hd
 obtain⟨a0,len,cap,rfl⟩:=okWide_slice ht hval
 rcases open_ints ht he hc hf with⟨hcs,hx⟩|⟨a,len',cap',zs,hcs,_,hl,hm,hz,hx,hcell,hwz⟩
 ·simp[Value.cells] at hcs
  obtain⟨rfl,rfl,rfl⟩:=hcs
  exact⟨[],by simp,by simp,fun σ=>⟨none,0,rfl,by simp,.inl rfl⟩⟩
 ·simp[Value.cells] at hcs
  obtain⟨rfl,rfl,rfl⟩:=hcs
  simp only[if_true] at hz
  refine⟨zs.take len,fun n hn=>hwz n (List.mem_of_mem_take hn),by simp;omega,fun σ=> ?_⟩
  have hlen:(zs.take len).length=len:=by simp;omega
  refine⟨some a,cap,by rw[hlen],by rw[hlen];exact hl,?_⟩
  by_cases h0:zs.take len=[]
  ·exact .inl h0
  ·right
   have hpos:0<len:=by
    rcases Nat.eq_zero_or_pos len with e0|e0
    ·subst e0;simp at h0
    ·exact e0
   have hc0:=hcell 0 (by omega)
   obtain⟨b,o,ar⟩:=a
   have har:ar=none:=by
    cases ar with
    |none=>rfl
    |some y=>
     simp[World.cell?,Addr.add] at hc0
     split at hc0<;>cases hc0
   subst har
   refine⟨b,o,rfl,S0_of (cell_lt hc0),cell_lt hc0,fun i x hx=> ?_⟩
   have hil:i<len:=by have:=(List.getElem?_eq_some_iff.1 hx).1;omega
   refine⟨[.int k x],rfl,fun j u hj=> ?_⟩
   have hj0:j=0:=by have:=(List.getElem?_eq_some_iff.1 hj).1;simpa using this
   subst hj0
   simp at hj
   subst hj
   have:=hcell i (by omega)
   have hxi:zs.getD i 0=x:=by
    rw[List.getElem?_take,if_pos hil] at hx
    simp[List.getD,hx]
   rw[hxi] at this
   simpa[addr_add,Ty.cells] using this
def IsD (P:Program):Ty→TypeId⊕(List Field×Nat)→Prop
 | .int k,.inl t=>P.underlying t=some (.int k)
 | .bool,.inl t=>P.underlying t=some .bool
 | .str,.inl t=>P.underlying t=some .string
 | .list u,.inl t=> ∃e,P.underlying t=some (.slice e)∧P.cellsOf e=u.cells∧0<u.cells∧IsD P u (.inl e)
 | .unit,.inr (fs,_)=>fs=[]
 | .pair a b,.inr (fs,o)=> ∃f r,fs=f::r∧f.offset=o∧P.cellsOf f.type=a.cells∧IsD P a (.inl f.type)∧IsD P b (.inr (r,o+a.cells))
 | .pair a b,.inl t=> ∃fs f r,P.underlying t=some (.struct fs)∧P.cellsOf t=a.cells+b.cells∧fs.toList=f::r∧f.offset=0∧P.cellsOf f.type=a.cells∧IsD P a (.inl f.type)∧IsD P b (.inr (r,a.cells))
 |_,_=>False
abbrev TyIs (P:Program) (u:Ty) (t:TypeId):Prop:=IsD P u (.inl t)
def Fits:(u:Ty)→u.den→Prop
 | .int k,n=>(Lit.int k n).wf=true
 | .str,s=>s.size≤maxLen
 | .list u,xs=>xs.length≤maxLen∧ ∀x∈xs,Fits u x
 | .pair a b,x=>Fits a x.1∧Fits b x.2
 |_,_=>True
theorem list_choose {α:Type} {p:Nat→α→Prop}: ∀(n:Nat),(∀i,i<n→ ∃x,p i x)→ ∃xs:List α,xs.length=n∧ ∀i x,xs[i]? =some x→p i x
 |0,_=>⟨[],rfl,fun i x h=>by simp at h⟩
 |n+1,h=>by
  obtain⟨xs,hl,hx⟩:=list_choose n (fun i hi=>h i (by omega))
  obtain⟨y,hy⟩:=h n (by omega)
  refine⟨xs++ [y],by simp[hl],fun i x hi=> ?_⟩
  by_cases q:i<xs.length
  ·rw[List.getElem?_append_left q] at hi
   exact hx i x hi
  ·rw[List.getElem?_append_right (by omega)] at hi
   have:i-xs.length=0:=by
    have:=(List.getElem?_eq_some_iff.1 hi).1
    simp at this
    omega
   rw[this] at hi
   simp at hi
   subst hi
   have:i=n:=by omega
   subst this
   exact hy
theorem list_ok {spare:Nat→Bool} {u:Ty} (IH: ∀{t:TypeId} {fuel:Nat} {cs:List Value} {x:DataW H×List MemPlace},TyIs P u t→DataW.trod enc P W 0 spare true fuel t cs=some x→ ∃d:u.den,DCells W (S0 W) u d cs∧Fits u d)
  {t:TypeId} {fuel:Nat} {cs:List Value} {x:DataW H×List MemPlace} (ht:TyIs P (.list u) t) (h:DataW.trod enc P W 0 spare true fuel t cs=some x): ∃d:(Ty.list u).den,DCells W (S0 W) (.list u) d cs∧Fits (.list u) d:=by
 obtain⟨e,ht,hc,h0,hu⟩:=ht
 rcases DataW.trod_slice ht h with⟨rfl,_⟩|⟨a,len,cap,elems,rest,n,_,rfl,_,hb,hl,hm,hlen,hel,_⟩
 ·exact⟨[],⟨none,0,rfl,Nat.le_refl _,.inl rfl⟩,by simp[Fits]⟩
 ·have each: ∀i,i<len→ ∃d:u.den,∃c,W.cells? 0 (a.add (i*P.cellsOf e)) (P.cellsOf e)=some c∧DCells W (S0 W) u d c∧Fits u d:=fun i hi=>by
   have hE:=hel i hi
   rw[List.getElem?_eq_getElem (by omega),Option.bind_eq_some_iff] at hE
   obtain⟨c,h1,h2⟩:=hE
   obtain⟨d,h3,h4⟩:=IH hu h2
   exact⟨d,c,h1,h3,h4⟩
  obtain⟨xs,hxl,hx⟩:=list_choose len each
  refine⟨xs,⟨some a,cap,by rw[hxl],by omega,?_⟩,by rw[hxl];omega,fun y hy=> ?_⟩
  ·by_cases z:xs=[]
   ·exact .inl z
   ·right
    have hpos:0<xs.length:=List.length_pos_iff.2 z
    obtain⟨c,h1,h2,_⟩:=hx 0 xs[0] (by simp[hpos])
    obtain⟨_,hcl,hcc⟩:=World.cells?_some h1
    have hc0:=hcc 0 (by omega)
    rw[List.getElem?_eq_getElem (show 0<c.length by omega)] at hc0
    obtain⟨b,o,ar⟩:=a
    have har:ar=none:=by
     cases ar with
     |none=>rfl
     |some y=>
      simp[World.cell?,Addr.add] at hc0
      split at hc0<;>cases hc0
    subst har
    have hb1:b<W.heap.size:=by simpa[addr_add] using cell_lt hc0
    refine⟨b,o,rfl,S0_of hb1,hb1,fun i y hy=> ?_⟩
    obtain⟨c,h1,h2,_⟩:=hx i y hy
    obtain⟨_,hcl,hcc⟩:=World.cells?_some h1
    refine⟨c,h2,fun j v hj=> ?_⟩
    have:=hcc j (by have:=(List.getElem?_eq_some_iff.1 hj).1;omega)
    rw[hj] at this
    simpa[addr_add,hc] using this
  ·obtain⟨i,hi⟩:=List.getElem?_of_mem hy
   obtain⟨_,_,_,h4⟩:=hx i y hi
   exact h4
mutual
theorem read_dat {spare:Nat→Bool}: ∀(u:Ty) {t:TypeId} {fuel:Nat} {cs:List Value} {x:DataW H×List MemPlace},TyIs P u t→DataW.trod enc P W 0 spare true fuel t cs=some x→ ∃d:u.den,DCells W (S0 W) u d cs∧Fits u d
 | .int k,t,fuel,cs,x,ht,h=>by
  obtain⟨n,rfl,_,hw⟩:=DataW.trod_int ht h
  exact⟨n,rfl,hw⟩
 | .bool,t,fuel,cs,x,ht,h=>by
  obtain⟨b,rfl,_⟩:=DataW.trod_bool ht h
  exact⟨b,rfl,trivial⟩
 | .str,t,fuel,cs,x,ht,h=>by
  obtain⟨s,rfl,_,hw⟩:=DataW.trod_string ht h
  exact⟨s,rfl,hw⟩
 | .unit,_,_,_,_,ht,_=>ht.elim
 | .val,_,_,_,_,ht,_=>ht.elim
 | .err,_,_,_,_,ht,_=>ht.elim
 | .list u,t,fuel,cs,x,ht,h=>list_ok (fun ht h=>read_dat u ht h) ht h
 | .pair a b,t,fuel,cs,x,ht,h=>by
  obtain⟨fs,f,r,ht,hc,hfs,h0,hf,ha,hb⟩:=ht
  obtain⟨xs,n,_,_,hl,hlen,hel⟩:=DataW.trod_struct ht h
  have e0:=hel 0 f (by rw[←Array.getElem?_toList,hfs];rfl)
  rw[List.getElem?_eq_getElem (by rw[hlen,←Array.length_toList,hfs];simp),h0,List.drop_zero,hf] at e0
  obtain⟨d1,c1,f1⟩:=read_dat a ha e0
  obtain⟨d2,c2,f2⟩:=read_fs b (n:=n) (xs:=xs) (cs:=cs) (k:=1) hb (by rw[hlen,←Array.length_toList,hfs];simp;omega) (by omega) (fun i g hg=>by
   have:=hel (1+i) g (by rw[←Array.getElem?_toList,hfs,Nat.add_comm];simpa using hg)
   exact this)
  refine⟨(d1,d2),⟨_,_,?_,c1,c2⟩,f1,f2⟩
  rw[show(cs.drop a.cells).take b.cells=cs.drop a.cells from List.take_of_length_le (by rw[List.length_drop];omega),List.take_append_drop]
theorem read_fs {spare:Nat→Bool}: ∀(u:Ty) {fs:List Field} {o n k:Nat} {cs:List Value} {xs:List (DataW H×List MemPlace)},IsD P u (.inr (fs,o))→xs.length=k+fs.length→o+u.cells≤cs.length→
  (∀(i:Nat) (g:Field),fs[i]? =some g→DataW.trod enc P W 0 spare true n g.type ((cs.drop g.offset).take (P.cellsOf g.type))=xs[k+i]?)→ ∃d:u.den,DCells W (S0 W) u d ((cs.drop o).take u.cells)∧Fits u d
 | .unit,fs,o,n,k,cs,xs,h,_,_,_=>⟨(),by simp[DCells,Ty.cells],trivial⟩
 | .int _,_,_,_,_,_,_,h,_,_,_=>h.elim
 | .bool,_,_,_,_,_,_,h,_,_,_=>h.elim
 | .str,_,_,_,_,_,_,h,_,_,_=>h.elim
 | .val,_,_,_,_,_,_,h,_,_,_=>h.elim
 | .err,_,_,_,_,_,_,h,_,_,_=>h.elim
 | .list _,_,_,_,_,_,_,h,_,_,_=>h.elim
 | .pair a b,fs,o,n,k,cs,xs,h,hl,hc,hel=>by
  obtain⟨f,r,rfl,h0,hf,ha,hb⟩:=h
  have e0:=hel 0 f rfl
  have hc:o+(a.cells+b.cells)≤cs.length:=hc
  rw[List.getElem?_eq_getElem (by rw[hl];simp),h0,hf] at e0
  obtain⟨d1,c1,f1⟩:=read_dat a ha e0
  obtain⟨d2,c2,f2⟩:=read_fs b (n:=n) (xs:=xs) (cs:=cs) (k:=k+1) hb (by rw[hl];simp;omega) (by omega) (fun i g hg=>by
   have:=hel (i+1) g (by simpa using hg)
   rw[this]
   congr 1
   omega)
  refine⟨(d1,d2),⟨_,_,?_,c1,c2⟩,f1,f2⟩
  show(cs.drop o).take (a.cells+b.cells)=_
  rw[List.take_add,List.drop_drop]
end
theorem av_list {u:Ty} {t e:TypeId} {r:Reach} {b0:Nat} {v:Value} {d:DataW H} {ps:List MemPlace} (ht:P.underlying t=some (.slice e)) (hu:TyIs P (.list u) t)
  (hval:Value.okWide P W r b0 t v) (hd:DataW.Trod enc P W 0 (fun _=>true) true t v d ps): ∃xs:List u.den,Fits (.list u) xs∧ ∀σ,AVRep W (S0 W) σ (.dat (.list u) xs) v:=by
 obtain⟨fuel,hf⟩:=hd
 obtain⟨a0,len,cap,rfl⟩:=okWide_slice ht hval
 obtain⟨xs,h1,h2⟩:=read_dat (.list u) hu hf
 exact⟨xs,h2,fun σ=>h1⟩
theorem av_struct {a b:Ty} {t:TypeId} {fs:Array Field} {r:Reach} {b0:Nat} {v:Value} {d:DataW H} {ps:List MemPlace} (ht:P.underlying t=some (.struct fs)) (hu:TyIs P (.pair a b) t)
  (hval:Value.okWide P W r b0 t v) (hd:DataW.Trod enc P W 0 (fun _=>true) true t v d ps): ∃x:(Ty.pair a b).den,Fits (.pair a b) x∧ ∀σ,AVRep W (S0 W) σ (.agg (leaves (.pair a b) x)) v:=by
 obtain⟨fuel,hf⟩:=hd
 obtain⟨cs,rfl,_⟩:=okWide_struct ht hval
 obtain⟨x,h1,h2⟩:=read_dat (.pair a b) hu hf
 exact⟨x,h2,fun σ=>⟨cs.toList,by simp,leaves_rep _ _ _ h1⟩⟩
theorem open_str {t:TypeId} {r:Reach} {b0:Nat} {v:Value} {d:DataW H} {ps:List MemPlace} (ht:P.underlying t=some .string)
  (hval:Value.okWide P W r b0 t v) (hd:DataW.Trod enc P W 0 (fun _=>true) true t v d ps): ∃s:ByteArray,v= .string s∧d= .lit (.string s.data.toList)∧ps=[]∧s.size≤maxLen:=by
 obtain⟨s,rfl⟩:=okWide_string ht hval
 obtain⟨fuel,hf⟩:=hd
 obtain⟨s',h,hx,hw⟩:=DataW.trod_string ht hf
 simp[Value.cells] at h
 subst h
 simp only[Prod.mk.injEq] at hx
 exact⟨s,rfl,hx.1,hx.2,hw⟩
theorem stays {t:TypeId} (hl:laidOutB P=true) (hr:P.readableRec t=true) (hrow:t<P.types.size) {W':World} {sp':Nat→Bool} {v:Value} {d:DataW H} {ps:List MemPlace}
  (h:DataW.Trod enc P W 0 (fun _=>true) true t v d ps) (hlt: ∀p∈ps,p.block<W.heap.size) (hk: ∀b,b<W.heap.size→W'.heap[b]? =W.heap[b]?) (hs: ∀p∈ps,sp' p.block=true):
  DataW.Trod enc P W' 0 sp' true t v d ps:=by
 refine WideElems.Trod_stays hl hr hrow h (fun p hp=> ?_) hs
 have hb:=hk p.block (hlt p hp)
 cases p with
 |cell b off=>
  have hb':W'.heap[b]? =W.heap[b]? :=hb
  simp only[World.sameAt,World.cell?,hb']
 |map b=>exact hb
theorem law_calls' {f:FuncId} {F:Fun} (hS:Sound P f F) {avs:List AV} (hF:(F avs []).run=some (.dat .bool true,[])) {args:List Value} (hg:GlobsOk W (S0 W))
  (ha:AVsRep W (S0 W) (sumOf noPlc []) avs args):Calls P f args.toArray W fun e w'=>e= .returned (.bool true)∧Below W.heap.size W w'∧ ∀b,b<W.heap.size→w'.heap[b]? =W.heap[b]? :=by
 have h:=hS avs [] _ _ hF (fun _=>True) W args noPlc (fun _ _=>trivial) ⟨fun h r hr=>by simp at hr,fun h h' b o=>by obtain⟨r,hr⟩:=o.row;simp at hr,fun h b o=>by obtain⟨r,hr⟩:=o.row;simp at hr,fun h t xss m cs hr=>by simp at hr⟩ hg (fun h hh=>by simp at hh) ha
 refine h.mono fun e w' ⟨v,ι',he,hk,_,_,_,hr⟩=>⟨?_,grown_of hk,fun b hb=>hk.block b ⟨hb,fun h' o=>by obtain⟨r,hr⟩:=o.row;simp at hr⟩⟩
 subst he
 have hv:v= .bool true:=by simpa[AVRep,DCells] using hr
 rw[hv]
theorem post_of_below {W':World} {f:Func} {s:ChangeSpec} {apart fresh handsOn again:Bool} {args:Array Value} {v:Value} {ds gs:List (DataW H)} {before pa pv:List MemPlace}
  (hW:DataW.Whole enc P f.params.toList s.vars apart W args.toList ds gs before)
  (hres: ∀(b:Nat) (sp:Nat→Bool) (hd:Bool),DataW.TrodAll enc P W' b sp hd f.resultTypes.toList (v.resultList f.resultTypes.size) (s.fn H (ds++gs)).results [])
  (hargs: ∀sp:Nat→Bool,(∀p∈before,sp p.block=true)→DataW.TrodAll enc P W' 0 sp true f.params.toList args.toList (s.fn H (ds++gs)).args pa)
  (hvars: ∀sp:Nat→Bool,(∀p∈before,sp p.block=true)→DataW.TrodVars enc P W' sp s.vars (s.fn H (ds++gs)).vars pv)
  (hps:before=pa++pv) (hb:Below W.heap.size W W')
  (hok: ∀(j:Nat) (t:TypeId) (r:Value),f.resultTypes[j]? =some t→(v.resultList f.resultTypes.size)[j]? =some r→Value.okWide P W' .any 0 t r):
  s.post enc P f apart fresh handsOn again W args v W':=by
 have lt:=hW.lt
 have old: ∀p∈before,(fun b=>decide (b<W.heap.size)) p.block=true:=fun p hp=>by simpa using lt p hp
 refine⟨ds,gs,before,[],pa,pv,hW,hres _ _ _,hargs _ old,hvars _ old,World.keptBut_mono (fun p hp=>⟨hp,?_⟩) (hb.frame (· ∈before)),fun _=> ?_⟩
 ·rw[hps,List.mem_append] at hp
  exact Or.inr hp
 ·obtain⟨_,_,_,_,_,hz,hn⟩:=hW
  refine⟨hok,_,_,([]++pa)++pv,⟨[]++pa,pv,trodAll_append (hargs _ (fun _ _=>rfl)) (hres _ _ _),hvars _ (fun _ _=>rfl),rfl,fun b off hp=> ?_,fun ha=> ?_⟩,fun p hp _=> ?_⟩
  ·have hp:MemPlace.cell b off∈before:=by rw[hps];simpa using hp
   rw[hb.frozen (lt _ hp)]
   exact hz b off hp
  ·have:=hn ha
   rw[hps] at this
   simpa using this
  ·rw[hps]
   simpa using hp
theorem vars_one {n:String} {gs:List (DataW H)} {q:List MemPlace} (h:DataW.TrodVars enc P W (fun _=>true) [n] gs q): ∃g,gs=[g]:=by
 cases gs with
 |nil=>exact h.elim
 |cons g r=>
  obtain⟨_,_,_,_,_,_,_,_,_,_,hr,_⟩:=h
  cases r with
  |nil=>exact⟨g,rfl⟩
  |cons _ _=>exact hr.elim
theorem vars_stay {n:String} {g:Nat} {t:TypeId} (hg:P.globalNamed n=some g) (ht:(P.globals[g]?).map (·.type)=some t) (hl:laidOutB P=true) (hr:P.readableRec t=true) (hrow:t<P.types.size) {W':World} (hk: ∀b,b<W.heap.size→W'.heap[b]? =W.heap[b]?)
  {d:DataW H} {q:List MemPlace} (h:DataW.TrodVars enc P W (fun _=>true) [n] [d] q) (hlt: ∀p∈q,p.block<W.heap.size) {sp:Nat→Bool} (hs: ∀p∈q,sp p.block=true):DataW.TrodVars enc P W' sp [n] [d] q:=by
 obtain⟨g',t',cs,fuel,p,r,h1,h2,h3,h4,h5,rfl⟩:=h
 rw[hg] at h1
 cases h1
 rw[ht] at h2
 cases h2
 have hb:g<W.heap.size:=by
  unfold World.var? at h3
  rw[hg,Option.bind_some] at h3
  rcases Nat.lt_or_ge g W.heap.size with h|h
  ·exact h
  ·rw[Array.getElem?_eq_none h] at h3
   cases h3
 obtain⟨fuel',h4'⟩:=stays hl hr hrow (v:= .agg cs) (sp':=sp) ⟨fuel,h4⟩ (fun x hx=>hlt x (by simp[hx])) hk (fun x hx=>hs x (by simp[hx]))
 exact⟨g,t,cs,fuel',p,r,hg,ht,by unfold World.var? at h3⊢;rw[hg,Option.bind_some] at h3⊢;rw[hk g hb];exact h3,h4',h5,rfl⟩
theorem globs_none (h: ∀g,gtab g=none) (S:Nat→Prop):GlobsOk W S:=fun g t xs e=>by rw[h g] at e;cases e
end
end Go.Rv
set_option linter.unusedSimpArgs false
set_option linter.unusedVariables false
namespace Go.Rv
theorem whole_of {P:Program} {W:World} {name:String} {g n:Nat} {cs:Array Value} (hg:P.globalNamed name=some g) (h:W.var? P name=some cs) (hn:cs.size=n):WholeAt W g n:=by
 unfold World.var? at h
 rw[hg,Option.bind_some] at h
 split at h
 ·rename_i c e fr hc
  cases h
  exact⟨_,_,_,hc,hn⟩
 ·cases h
theorem tabAt_of {P:Program} {W:World} {name:String} {k:IntKind} {zs:List Int} {g:Nat} (h:Lib.TabIs P W name k zs) (hg:P.globalNamed name=some g) (h0:0<zs.length):TabAt W (S0 W) g 0 (.int k) zs∧WholeAt W g (zs.length*Ty.cells (.int k)):=by
 have hc:=h.cell hg 0 h0
 refine⟨⟨S0_of (cell_lt hc),cell_lt hc,fun i x hx=> ?_⟩,whole_of hg h (by simp[Ty.cells])⟩
 have hil:i<zs.length:=(List.getElem?_eq_some_iff.1 hx).1
 refine⟨[.int k x],rfl,fun j u hj=> ?_⟩
 have hj0:j=0:=by have:=(List.getElem?_eq_some_iff.1 hj).1;simpa using this
 subst hj0
 simp at hj
 subst hj
 have hci:=h.cell hg i hil
 have hxi:zs.getD i 0=x:=by simp[List.getD,hx]
 rw[hxi] at hci
 simpa[Ty.cells] using hci
theorem cells_of_strs {H:Type} {enc:TypeId×Value→H} {P:Program} {w:World} {base:Nat} {sp:Nat→Bool} {held:Bool} {fuel:Nat} {t e:TypeId} {n:Nat} {cs:List Value} {zs:List ByteArray} {p:List MemPlace}
  (ht:P.underlying t=some (.array n e)) (he:P.underlying e=some .string) (hce:P.cellsOf e=1) (hct:P.cellsOf t=n)
  (h:DataW.trod enc P w base sp held fuel t cs=some (.agg (zs.map fun z=> .lit (.string z.data.toList)),p)):cs=zs.map Value.string:=by
 cases fuel with
 |zero=>simp[DataW.trod] at h
 |succ fuel=>
  simp only[DataW.trod,ht,hce,hct,Nat.mul_one] at h
  split at h
  ·rename_i hl
   obtain⟨xs,hm,hx⟩:=Option.map_eq_some_iff.1 h
   have hxs:xs.map (·.1)=zs.map fun z=>(DataW.lit (.string z.data.toList):DataW H):=by
    have:=congrArg Prod.fst hx
    simpa using this
   have hxl:xs.length=n:=by simpa using Lib.mapM_length hm
   have hzl:zs.length=n:=by
    have:=congrArg List.length hxs
    simp at this
    omega
   apply List.ext_getElem?
   intro i
   by_cases hi:i<n
   ·obtain⟨b,hb,hf⟩:=Lib.mapM_at hm i i (by simp[hi])
    obtain⟨s,hc,rfl,_⟩:=DataW.trod_string he hf
    have h1:cs[i]? =some (.string s):=by
     have:=congrArg (·[0]?) hc
     simpa[List.getElem?_take,List.getElem?_drop] using this
    have h2:(xs.map (·.1))[i]? =some (DataW.lit (.string s.data.toList):DataW H):=by simp[hb]
    rw[hxs] at h2
    simp only[List.getElem?_map,Option.map_eq_some_iff,DataW.lit.injEq,Lit.string.injEq] at h2
    obtain⟨z',hz',e'⟩:=h2
    have:z'=s:=by
     rcases z' with⟨⟨l1⟩⟩
     rcases s with⟨⟨l2⟩⟩
     simp only at e'
     rw[e']
    subst this
    simp[h1,hz']
   ·rw[List.getElem?_eq_none (by omega),List.getElem?_eq_none (by simp;omega)]
  ·cases h
theorem strAt_of {P:Program} {W:World} {name:String} {zs:List ByteArray} {rest:List (String×DataW Unit)} {g:Nat} {t e:TypeId} {n:Nat}
  (hg:P.globalNamed name=some g) (hty:(P.globals[g]?).map (·.type)=some t) (ht:P.underlying t=some (.array n e)) (he:P.underlying e=some .string) (hce:P.cellsOf e=1) (hct:P.cellsOf t=n)
  (h:laidMet P ((name,.agg (zs.map fun z=> .lit (.string z.data.toList)))::rest) W) (h0:0<zs.length):TabAt W (S0 W) g 0 .str zs∧WholeAt W g (zs.length*Ty.cells .str):=by
 obtain⟨ps,⟨g',t',cs,fuel,p,q,hg',ht',hvar,hd,_,_⟩,_⟩:=h
 obtain rfl:=Option.some.inj (hg.symm.trans hg')
 obtain rfl:=Option.some.inj (hty.symm.trans ht')
 have hcs:=cells_of_strs ht he hce hct hd
 have cell: ∀i,W.cell? ⟨g,i,none⟩=(zs[i]?).map Value.string:=fun i=>by
  rw[World.var?_cell hg hvar i,←Array.getElem?_toList,hcs,List.getElem?_map]
 have hlt:g<W.heap.size:=cell_lt (a:=⟨g,0,none⟩) (v:= .string zs[0]) (by rw[cell,List.getElem?_eq_getElem h0];rfl)
 refine⟨⟨S0_of hlt,hlt,fun i x hx=>⟨[.string x],rfl,fun j u hj=> ?_⟩⟩,whole_of hg hvar (by rw[←Array.length_toList,hcs];simp[Ty.cells])⟩
 have hj0:j=0:=by have:=(List.getElem?_eq_some_iff.1 hj).1;simpa using this
 subst hj0
 simp at hj
 subst hj
 simpa[Ty.cells,hx] using cell i
theorem errAt_of {P:Program} {W:World} {name nm:String} {dd:DataW Unit} {rest:List (String×DataW Unit)} {g:Nat} {ti:TypeId} {ms:Array (String×TypeId)}
  (hg:P.globalNamed name=some g) (hty:(P.globals[g]?).map (·.type)=some ti) (hi:P.underlying ti=some (.interface ms))
  (h:laidMet P ((name,.iface nm dd)::rest) W):TabAt W (S0 W) g 0 .err [true]∧WholeAt W g ([true].length*Ty.cells .err):=by
 obtain⟨ps,⟨g',t',cs,fuel,p,q,hg',ht',hvar,hd,_,_⟩,_⟩:=h
 obtain rfl:=Option.some.inj (hg.symm.trans hg')
 obtain rfl:=Option.some.inj (hty.symm.trans ht')
 obtain⟨u,v,hcs⟩: ∃u v,cs.toList=[.iface u v]:=by
  cases fuel with
  |zero=>simp[DataW.trod] at hd
  |succ fuel=>
   unfold DataW.trod at hd
   rw[hi] at hd
   split at hd<;>simp_all
 have c0:W.cell? ⟨g,0,none⟩=some (.iface u v):=by
  rw[World.var?_cell hg hvar 0,←Array.getElem?_toList,hcs]
  rfl
 have hlt:g<W.heap.size:=cell_lt c0
 refine⟨⟨S0_of hlt,hlt,fun i x hx=>⟨[.iface u v],?_,fun j w hj=> ?_⟩⟩,whole_of hg hvar (by rw[←Array.length_toList,hcs];rfl)⟩
 ·cases i with
  |zero=>cases hx;exact⟨_,rfl,_,_,rfl⟩
  |succ i=>simp at hx
 ·have hj0:j=0:=by have:=(List.getElem?_eq_some_iff.1 hj).1;simpa using this
  have hi0:i=0:=by have:=(List.getElem?_eq_some_iff.1 hx).1;simpa using this
  subst hj0
  subst hi0
  cases hj
  simpa using c0
end Go.Rv
set_option linter.unusedSimpArgs false
set_option linter.unusedVariables false
namespace Go.Rv
open Go.Proofs Go.Shelf Go.RowKit
theorem Kept.below {w w':World} {S:Nat→Prop} (hS: ∀b,S b→b<w.heap.size) (h:Below w.heap.size w w'):Kept S w w':=
 ⟨h.os,h.tape,h.output,h.size,fun b hb=>h.block b (hS b hb),fun a ha=>h.frozen ha⟩
theorem calls_plain {P:Program} {f:FuncId} {args:List Value} {w:World} {D:Nat→Prop} {ι:Plc} {Q:Value→Prop} {r:AV} {mv:List Nat}
  (hc:Calls P f args.toArray w fun e w'=> ∃v,e= .returned v∧Q v∧Below w.heap.size w w')
  (hr: ∀v w',Q v→AVRep w' (dst D w' ι []) (sumOf ι []) r v):
  Calls P f args.toArray w (fun e w'=> ∃v ι',e= .returned v∧Kept (stab w ι []) w w'∧HRep D w' ι' []∧(∀b,stab w ι [] b→stab w' ι' [] b)∧
   (∀h,h<([]:Heap).length→(mv.contains h=true∨sumOf ι' [] h=sumOf ι [] h)∧ ∃x,([]:Heap)[h]? =some (some x))∧AVRep w' (dst D w' ι' []) (sumOf ι' []) r v):=by
 refine hc.mono fun e w' ⟨v,he,hq,hb⟩=>⟨v,ι,he,Kept.below (fun b hb=>hb.1) hb,⟨fun h r hr=>by simp at hr,fun h h' b o=>by obtain⟨r,hr⟩:=o.row;simp at hr,fun h b o=>by obtain⟨r,hr⟩:=o.row;simp at hr,fun h t xss m cs hr=>by simp at hr⟩,fun b hs=>⟨Nat.lt_of_lt_of_le hs.1 hb.size,hs.2⟩,fun h hh=>by simp at hh,hr v w' hq⟩
section
variable {P : Program}
def F_sidx:Fun:=fun avs H=>
 match avs,H with
 |[.dat .str s,.dat .str t],[]=>⟨Int,sidx s t,fun n=>(.dat (.int .i64) n,[]),[],none⟩
 |_,_=>Ans.no
theorem sidx_sound {ρ:Ren} (L:Lays.n219 P ρ):Sound P (ρ.f 219) F_sidx:=by
 intro avs H r H' hF D w args ι hnew hH hglob hpres hargs
 unfold F_sidx at hF⊢
 split at hF
 ·rename_i s t
  simp only[Ans.run,Ans.dec,Option.map_eq_some_iff] at hF
  obtain⟨n,hn,he⟩:=hF
  cases he
  obtain⟨v0,r0,rfl,hv0,v1,r1,rfl,hv1,hr⟩:=hargs
  have hr:r1=[]:=hr
  subst hr
  have hv0:[v0]=[.string s]:=hv0
  have hv1:[v1]=[.string t]:=hv1
  cases hv0
  cases hv1
  unfold sidx at hn
  split at hn
  ·rename_i c hc
   cases hn
   have ht:t=⟨#[c]⟩:=by
    rcases t with⟨⟨l⟩⟩
    simp only at hc
    rw[hc]
   subst ht
   refine calls_plain (Q:=fun v=>v= .int .i64 (Lib.indexByte s.data.toList c)) ((Any.stringslite_Index_one L s c w).mono fun e w' ⟨he,hw⟩=>⟨_,he,rfl,by rw[hw];exact Below.refl _ _⟩) ?_
   rintro v w' rfl
   rfl
  ·cases hn
 ·simp[Ans.no,Ans.run] at hF
def F_itoaS:Fun:=fun avs H=>
 match avs,H with
 |[.dat (.int .i64) n],[]=>⟨ByteArray,itoaS n,fun s=>(.dat .str s,[]),[],none⟩
 |_,_=>Ans.no
theorem itoaS_sound {ρ:Ren} (L:Lays.n171 P ρ):Sound P (ρ.f 171) F_itoaS:=by
 intro avs H r H' hF D w args ι hnew hH hglob hpres hargs
 unfold F_itoaS at hF⊢
 split at hF
 ·rename_i n
  simp only[Ans.run,Ans.dec,Option.map_eq_some_iff] at hF
  obtain⟨s,hs,he⟩:=hF
  cases he
  obtain⟨v0,r0,rfl,hv0,hr⟩:=hargs
  have hr:r0=[]:=hr
  subst hr
  have hv0:[v0]=[.int .i64 n]:=hv0
  cases hv0
  unfold itoaS at hs
  split at hs
  ·rename_i hn
   cases hs
   obtain⟨k,rfl⟩:=Int.eq_ofNat_of_zero_le hn.1
   refine calls_plain (Q:=fun v=>v= .string ⟨(Lib.decDigits k).toArray⟩) ((Any.strconv_Itoa_small L k (by omega) w).mono fun e w' ⟨he,hw⟩=>⟨_,he,rfl,by rw[hw];exact Below.refl _ _⟩) ?_
   rintro v w' rfl
   rfl
  ·cases hs
 ·simp[Ans.no,Ans.run] at hF
def F_atoiS:Fun:=fun avs H=>
 match avs,H with
 |[.dat .str s],[]=>⟨Int×Bool,atoiS s,fun y=>(.tup [.dat (.int .i64) y.1,.dat .err y.2],[]),[],none⟩
 |_,_=>Ans.no
theorem glob_err {w:World} {S:Nat→Prop} (h:GlobsOk w S) {g:Nat} (hg:gtab g=some ⟨.err,[true]⟩): ∃ev,w.cell? ⟨g,0,none⟩=some ev∧(ev= .nilIface∨ ∃te pe,ev= .iface te pe):=by
 obtain⟨⟨_,_,h⟩,_⟩:=h g .err [true] hg
 obtain⟨c,⟨v,rfl,t,p,hv⟩,hc⟩:=h 0 true rfl
 exact⟨v,by simpa using hc 0 v rfl,.inr ⟨t,p,hv⟩⟩
theorem atoiS_sound {ρ:Ren} (L:LaysC.n172 P ρ) (h15:gtab (ρ.g 15)=some ⟨.err,[true]⟩) (h16:gtab (ρ.g 16)=some ⟨.err,[true]⟩):Sound P (ρ.f 172) F_atoiS:=by
 intro avs H r H' hF D w args ι hnew hH hglob hpres hargs
 unfold F_atoiS at hF⊢
 split at hF
 ·rename_i s
  simp only[Ans.run,Ans.dec,Option.map_eq_some_iff] at hF
  obtain⟨y,hy,he⟩:=hF
  cases he
  obtain⟨v0,r0,rfl,hv0,hr⟩:=hargs
  have hr:r0=[]:=hr
  subst hr
  have hv0:[v0]=[.string s]:=hv0
  cases hv0
  unfold atoiS at hy
  split at hy
  ·rename_i hlim
   cases hy
   obtain⟨e1,c1,d1⟩:=glob_err hglob h15
   obtain⟨e2,c2,d2⟩:=glob_err hglob h16
   refine calls_plain (Q:=fun v=> ∃x,v= .tuple #[.int .i64 (atoiE s).1,x]∧isErr (atoiE s).2 x) ?_ ?_
   ·unfold atoiE
    cases hA:Lib.atoiAll s.data.toList with
    |ok v=>
     refine(Any.strconv_Atoi_ok L s (by omega) v hA w).mono fun e w' ⟨he,hw⟩=>⟨_,he,⟨_,rfl,rfl⟩,?_⟩
     rcases hw with rfl|⟨t,rfl⟩
     ·exact Below.refl _ _
     ·exact Lib.bytesWorld_below _ _ _
    |range=>exact(Any.strconv_Atoi_range L s hlim hA e2 w c2 d2).mono fun e w' ⟨N,he,_,_,hb⟩=>⟨_,he,⟨_,rfl,_,_,rfl⟩,hb⟩
    |_=>exact(Any.strconv_Atoi_syntax L s hlim hA e1 w c1 d1).mono fun e w' ⟨N,he,_,_,hb⟩=>⟨_,he,⟨_,rfl,_,_,rfl⟩,hb⟩
   ·rintro v w' ⟨x,rfl,hx⟩
    exact⟨[_,x],rfl,_,_,rfl,rfl,x,[],rfl,⟨x,rfl,hx⟩,rfl⟩
  ·cases hy
 ·simp[Ans.no,Ans.run] at hF
end
end Go.Rv
set_option linter.unusedSimpArgs false
set_option linter.unusedVariables false
namespace Go.Rv
open Go.Proofs Go.Shelf Go.RowKit Go.Lib
def F_cloneD:Fun:=fun avs H=>
 match avs,H with
 |[.dat (.list u) xs],[]=>cond (Nat.beq u.cells 1) ⟨List u.den,cloneD xs,fun ys=>(.slc 0,[some (.seq u ys)]),[],none⟩ Ans.no
 |_,_=>Ans.no
section
variable {P : Program} {ρ : Ren}
set_option maxHeartbeats 2000000 in
set_option maxRecDepth 100000 in
theorem clone_zero (L:SlLaysE0.n41 P ρ) (i0:TypeInfo) (z:Value) (bytes:Nat) (hi:P.info? (ρ.t 23)=some i0) (hz0:i0.zero=some z) (hz1:i0.size=1) (hz2:i0.bytes=bytes) (hzs:z.cells.size=1)
  (z23: ∀w,(Go.sizeOf (ρ.t 23)).run P w= .ok 1 w) (a:Addr) (c:Nat) (w:World):
  Calls P (ρ.f 41) #[.slice (some a) 0 c] w fun e w'=> ∃v',e= .returned v'∧w'.ownsRow w.heap.size (ρ.t 23) 1 v' 0 []∧v'≠ .slice none 0 0∧Below w.heap.size w w':=by
 have mixed:=L.mixed;have t4:=L.t4;have a4:=L.a4;have z4:=L.z4;have v4:=L.v4;have t22:=L.t22;have a22:=L.a22;have z22:=L.z22;have v22:=L.v22
 have q22: ∀(w:World) (a:Option Addr) (n c n' c':Nat),(binOp .eql (ρ.t 22) (.slice a n c) (.slice none n' c')).run P w= .ok (.bool a.isNone) w:=fun w a n c n' c'=>Lib.run_eql_slice_nil w _ _ a n c n' c' L.t22
 have u22: ∀w,Sem.run P (underlying (ρ.t 22)) w= .ok (TypeDesc.slice (ρ.t 23)) w:=run_underlying t22
 obtain⟨_,_,FG⟩:=L.f41
 go_enter FG,SlBodyN.n41_ntmps ρ
 go_wp2_with (at_builtin;refine wpList_append_own _ rfl _ _ (ρ.t 22) rfl w.heap.size (ρ.t 23) i0 z 1 bytes t22 hi hz0 hz1 hz2 hzs (by decide) _ _ _ rfl (World.ownsRow_made w #[] 0 (Nat.le_refl _) (Nat.zero_le _) (by simp)) a 0 c [] rfl (by simp) (by intro j u hj;simp at hj) (by intro u hu;cases hu) (by unfold maxLen;omega) (by omega) (by simp) ?_)
 intro v' w1 hown hgrow hnil
 go_wp2
 go_ret
 refine⟨v',rfl,by simpa using hown,?_,?_⟩
 ·exact hnil
 ·exact((Below.refl _ w).alloc (Nat.le_refl _) _).grown hgrow (by simp) (by intro k hk;simp[Value.ownBlock] at hk;omega)
theorem AVsRep.dat_get {w:World} {S:Nat→Prop} {σ:Nat→Option Sum} {u:Ty} {xs:List u.den} {vs:List Value} (h:AVsRep w S σ (xs.map (AV.dat u)) vs) {i:Nat} {x:u.den} (hx:xs[i]? =some x): ∃v,vs[i]? =some v∧DCells w S u x [v]:=by
 obtain⟨v,h1,h2⟩:=AVsRep.get _ _ i (.dat u x) h (by rw[List.getElem?_map,hx];rfl)
 exact⟨v,h1,h2⟩
theorem calls_row {f:FuncId} {args:List Value} {w:World} {D:Nat→Prop} {ι:Plc} (hnew: ∀b,w.heap.size≤b→D b) {u:Ty} (hu:u.cells=1) {xs:List u.den} {e:TypeId} {vs:List Value}
  (hv:AVsRep w (dst D w ι []) (sumOf ι []) (xs.map (AV.dat u)) vs)
  (hc:Calls P f args.toArray w fun ee w'=> ∃v,ee= .returned v∧w'.ownsRow w.heap.size e 1 v xs.length vs∧Below w.heap.size w w') {mv:List Nat}:
  Calls P f args.toArray w (fun e w'=> ∃v ι',e= .returned v∧Kept (stab w ι []) w w'∧HRep D w' ι' [some (.seq u xs)]∧(∀b,stab w ι [] b→stab w' ι' [some (.seq u xs)] b)∧
   (∀h,h<([]:Heap).length→(mv.contains h=true∨sumOf ι' [some (.seq u xs)] h=sumOf ι [] h)∧ ∃x,([some (.seq u xs)]:Heap)[h]? =some (some x))∧AVRep w' (dst D w' ι' [some (.seq u xs)]) (sumOf ι' [some (.seq u xs)]) (.slc 0) v):=by
 refine hc.mono fun ee w' ⟨v,he,⟨hl,hown⟩,hb⟩=> ?_
 have get0: ∀{h:Nat} {r:Row},([some (.seq u xs)]:Heap)[h]? =some (some r)→h=0∧r= .seq u xs:=fun {h r} hr=>by
  cases h with
  |zero=>simp at hr;exact⟨rfl,hr.symm⟩
  |succ h=>simp at hr
 rcases hown with⟨rfl,hn⟩|⟨g,cap,cur,rfl,hg,hcell,hle,hcm,hsz,htake⟩
 ·have hx:xs=[]:=List.eq_nil_of_length_eq_zero hn
  subst hx
  have hocc: ∀{h b:Nat},¬Occ (⟨fun _=>none,fun _ _=>none⟩:Plc) [some (.seq u [])] h b:=fun {h b} o=>by
   cases o with
   |out r p hr hp e=>cases hp
   |inn t xss m cs i p hr hi hp e=>cases hp
  refine⟨_,⟨fun _=>none,fun _ _=>none⟩,he,Kept.mk hb.os hb.tape hb.output hb.size (fun b h=>hb.block b h.1) (fun a ha=>hb.frozen ha),⟨fun h r hr=> ?_,fun h h' b o=>absurd o hocc,fun h b o=>absurd o hocc,fun h t xss m cs hr=>by cases (get0 hr).2⟩,fun b hs=>⟨Nat.lt_of_lt_of_le hs.1 hb.size,fun h=>hocc⟩,fun h hh=>by simp at hh,⟨_,rfl,rfl,rfl,none,rfl⟩⟩
  obtain⟨rfl,rfl⟩:=get0 hr
  rfl
 ·let ι':Plc:=⟨fun h=>if h=0 then some (g,0,cap) else none,fun _ _=>none⟩
  have hocc: ∀{h b:Nat},Occ ι' [some (.seq u xs)] h b→h=0∧b=g:=fun {h b} o=>by
   cases o with
   |out r p hr hp e=>
    obtain⟨rfl,rfl⟩:=get0 hr
    have hp:some (g,0,cap)=some p:=hp
    cases hp
    exact⟨rfl,e.symm⟩
   |inn t xss m cs i p hr hi hp e=>cases hp
  have hst: ∀b,stab w ι [] b→stab w' ι' [some (.seq u xs)] b:=fun b hs=>⟨Nat.lt_of_lt_of_le hs.1 hb.size,fun h o=>by
   have:=(hocc o).2
   have:=hs.1
   omega⟩
  refine⟨_,ι',he,Kept.mk hb.os hb.tape hb.output hb.size (fun b h=>hb.block b h.1) (fun a ha=>hb.frozen ha),⟨fun h r hr=> ?_,fun h h' b o o'=>(hocc o).1.trans (hocc o').1.symm,fun h b o=>hnew b (by rw[(hocc o).2];exact hg),fun h t xss m cs hr=>by cases (get0 hr).2⟩,hst,fun h hh=>by simp at hh,⟨_,rfl,?_⟩⟩
  ·obtain⟨rfl,rfl⟩:=get0 hr
   refine⟨cur,e,hcell,by rw[hsz,hu,Nat.zero_add],hle,hcm,fun i x hx=> ?_⟩
   obtain⟨v,hv1,hv2⟩:=hv.dat_get hx
   refine⟨[v],DCells.mono hb.size (fun b hs _=>⟨⟨hs.1,hst b hs.2⟩,hb.block b hs.2.1⟩) _ _ _ hv2,fun j y hy=> ?_⟩
   cases j with
   |zero=>
    cases hy
    have hi:=(List.getElem?_eq_some_iff.1 hx).1
    rw[←htake,List.getElem?_take,if_pos (by omega)] at hv1
    simpa[hu] using hv1
   |succ j=>simp at hy
  ·show 0+xs.length≤cap∧_
   exact⟨by omega,.inl (by simp[Row.len])⟩
theorem cloneD_sound (L:SlLaysE0.n41 P ρ) (i0:TypeInfo) (z:Value) (bytes:Nat) (hi:P.info? (ρ.t 23)=some i0) (hz0:i0.zero=some z) (hz1:i0.size=1) (hz2:i0.bytes=bytes) (hzs:z.cells.size=1) (hbs:bytes≤128)
  (z23: ∀w,(Go.sizeOf (ρ.t 23)).run P w= .ok 1 w):Sound P (ρ.f 41) F_cloneD:=by
 intro avs H r H' hF D w args ι hnew hH hglob hpres hargs
 unfold F_cloneD at hF⊢
 split at hF
 ·rename_i u xs
  cases hu:Nat.beq u.cells 1 with
  |false=>rw[hu] at hF;simp[Ans.no,Ans.run] at hF
  |true=>
   have hu:=Nat.eq_of_beq_eq_true hu
   simp only[hu,Nat.beq_refl,cond_true] at hF⊢
   simp only[Ans.run,Ans.dec,Option.map_eq_some_iff] at hF
   obtain⟨ys,hy,he⟩:=hF
   cases he
   unfold cloneD at hy
   split at hy
   ·rename_i hlen
    cases hy
    obtain⟨v0,r0,rfl,hv0,hr⟩:=hargs
    have hr:r0=[]:=hr
    subst hr
    obtain⟨a,cap,e0,hcap,hxs⟩:=hv0
    cases e0
    cases a with
    |none=>
     have hx:xs=[]:=by
      rcases hxs with h|⟨b,o,h,_⟩
      ·exact h
      ·cases h
     subst hx
     exact calls_row (ι:=ι) hnew hu (xs:=[]) (vs:=[]) (e:=ρ.t 23) rfl ((AnyE.slices_Clone_nil L 0 cap w).mono fun e w' ⟨he,hw⟩=>⟨_,he,⟨rfl,.inl ⟨rfl,rfl⟩⟩,by rw[hw];exact Below.refl _ _⟩)
    |some ad=>
     by_cases hx:xs=[]
     ·subst hx
      exact calls_row (ι:=ι) hnew hu (xs:=[]) (vs:=[]) (e:=ρ.t 23) rfl ((clone_zero L i0 z bytes hi hz0 hz1 hz2 hzs z23 ad cap w).mono fun e w' ⟨v,he,ho,_,hb⟩=>⟨v,he,ho,hb⟩)
     ·rcases hxs with h|⟨b,o,h,_,_,hall⟩
      ·exact absurd h hx
      ·cases h
       obtain⟨vs,hv1,hv2⟩:=dat_list (σ:=sumOf ι []) hu xs o (fun i x hx=>by
        obtain⟨cs,hd,hc⟩:=hall i x hx
        exact⟨cs,hd,by simpa[hu] using hc⟩)
       have hvl:vs.length=xs.length:=by simpa using hv1.length
       exact calls_row hnew hu (e:=ρ.t 23) hv1 ((AnyE.slices_Clone L i0 z 1 bytes hi hz0 hz1 hz2 hzs (by decide) z23 b o xs.length cap vs w (by omega) (by unfold maxLen;omega) (Nat.le_trans (Nat.mul_le_mul hlen hbs) (by omega)) hv2 (fun v hv=>by
        obtain⟨i,hi'⟩:=List.getElem?_of_mem hv
        have hil:=(List.getElem?_eq_some_iff.1 hi').1
        obtain⟨v',h1,h2⟩:=hv1.dat_get (List.getElem?_eq_getElem (show i<xs.length by omega))
        rw[hi'] at h1
        cases h1
        exact DCells.one _ _ _ h2 v (List.mem_singleton.2 rfl))).mono fun e w' ⟨v,he,ho,_,hb⟩=>⟨v,he,ho,hb⟩)
   ·cases hy
 ·simp[Ans.no,Ans.run] at hF
end
end Go.Rv
set_option linter.unusedSimpArgs false
set_option linter.unusedVariables false
namespace Go.Rv
open Go.Proofs Go.Shelf Go.RowKit
theorem bld_keep {T e:TypeId} {B b:Nat} {bs:List Value} {w w':World} (h:Lib.IsBuilderF T e B b bs w) (hk: ∀k,k<w.heap.size→w'.heap[k]? =w.heap[k]?):Lib.IsBuilderF T e B b bs w':=by
 have lt: ∀{k:Nat} {o:Obj},w.heap[k]? =some o→k<w.heap.size:=fun h=>(Array.getElem?_eq_some_iff.1 h).1
 have one: ∀p,Lib.BuilderAtF T e B b p bs w→Lib.BuilderAtF T e B b p bs w':=by
  rintro p ⟨hB,v,hb,⟨hl,ho⟩,hne⟩
  refine⟨hB,v,(hk b (lt hb)).trans hb,⟨hl,?_⟩,hne⟩
  rcases ho with ho|⟨g,cap,cur,fz,h1,h2,h3,h4⟩
  ·exact .inl ho
  ·exact .inr ⟨g,cap,cur,fz,h1,h2,(hk g (lt h3)).trans h3,h4⟩
 exact h.elim (fun x=> .inl (one _ x)) (fun x=> .inr (one _ x))
theorem bld_new {T e:TypeId} (w:World):Lib.IsBuilderF T e w.heap.size w.heap.size [] (w.alloc (.cells #[.pointer none,.slice none 0 0] T)):=
 .inl ⟨Nat.le_refl _,.slice none 0 0,heap_alloc_new w _,⟨rfl,.inl ⟨rfl,rfl⟩⟩,by simp[Value.ownBlock]⟩
abbrev DeedV:=Int×Int×Int×Unit
abbrev deedVal (d:DeedV):Value:= .agg #[.int .i64 d.1,.int .i64 d.2.1,.int .i64 d.2.2.1]
def DeedCells (w:World) (a:Option Addr) (xs:List DeedV):Prop:=
 ∀(i:Nat) (d:DeedV),xs[i]? =some d→ ∃b o,a=some ⟨b,o,none⟩∧b<w.heap.size∧w.cell? ⟨b,o+i*3,none⟩=some (.int .i64 d.1)∧w.cell? ⟨b,o+i*3+1,none⟩=some (.int .i64 d.2.1)∧w.cell? ⟨b,o+i*3+2,none⟩=some (.int .i64 d.2.2.1)
def F_jtext (g:DeedV→Option ByteArray):Fun:=fun avs H=>
 match avs,H with
 |[.dat (.list (.pair (.int .i64) (.pair (.int .i64) (.pair (.int .i64) .unit)))) xs],[]=>⟨ByteArray,jtextL g xs,fun s=>(.dat .str s,[]),[],none⟩
 |_,_=>Ans.no
def F_text (g:DeedV→Option ByteArray) (F:Fun):Prop:= ∀d:DeedV,F [.agg [.dat (.int .i64) d.1,.dat (.int .i64) d.2.1,.dat (.int .i64) d.2.2.1]] []=⟨ByteArray,g d,fun s=>(.dat .str s,[]),[],none⟩
theorem jtext_sound {P:Program} {f fD:FuncId} {g:DeedV→Option ByteArray} {FD:Fun} (hg:F_text g FD) (hS:Sound P fD FD)
  (walk: ∀(xs:List DeedV) (a:Option Addr) (cap:Nat) (t:ByteArray) (w:World),(∀(d:DeedV) (s:ByteArray) (w':World),g d=some s→Below w.heap.size w w'→Calls P fD #[deedVal d] w' fun e w''=>e= .returned (.string s)∧Below w'.heap.size w' w'')→
   DeedCells w a xs→xs.length≤1099511627776→xs.length≤cap→jtext g xs ByteArray.empty=some t→Calls P f #[.slice a xs.length cap] w fun e w'=>e= .returned (.string t)∧Below w.heap.size w w'):Sound P f (F_jtext g):=by
 intro avs H r H' hF D w args ι hnew hH hglob hpres hargs
 unfold F_jtext at hF⊢
 split at hF
 ·rename_i xs
  simp only[Ans.run,Ans.dec,Option.map_eq_some_iff] at hF
  obtain⟨t,ht0,he⟩:=hF
  cases he
  obtain⟨hlen,ht⟩:xs.length≤1099511627776∧jtext g xs ByteArray.empty=some t:=by
   unfold jtextL at ht0
   split at ht0
   ·rename_i hl
    exact⟨hl,ht0⟩
   ·cases ht0
  obtain⟨v0,r0,rfl,hv0,hr⟩:=hargs
  have hr:r0=[]:=hr
  subst hr
  obtain⟨a,cap,e0,hcap,hxs⟩:=hv0
  cases e0
  refine calls_plain (Q:=fun v=>v= .string t) ((walk xs a cap t w (fun d s w' hd hb=> ?_) (fun i d hi=> ?_) hlen hcap ht).mono fun e w' ⟨he,hb⟩=>⟨_,he,rfl,hb⟩) ?_
  ·
   have h:=hS [.agg [.dat (.int .i64) d.1,.dat (.int .i64) d.2.1,.dat (.int .i64) d.2.2.1]] [] (.dat .str s) [] (by rw[hg d];simp[Ans.run,Ans.dec,hd]) D w' [deedVal d] ι (fun b hb'=>hnew b (Nat.le_trans hb.size hb'))
    ⟨fun h r hr=>by simp at hr,fun h h' b o=>by obtain⟨r,hr⟩:=o.row;simp at hr,fun h b o=>by obtain⟨r,hr⟩:=o.row;simp at hr,fun h t xss m cs hr=>by simp at hr⟩
    (hglob.mono hb.size (fun b hs _=>⟨⟨hs.1,Nat.lt_of_lt_of_le hs.2.1 hb.size,hs.2.2⟩,hb.block b hs.2.1⟩)) (fun h hh=>by simp at hh)
    ⟨_,[],rfl,⟨_,rfl,_,_,rfl,rfl,_,_,rfl,rfl,_,_,rfl,rfl,rfl⟩,rfl⟩
   refine h.mono fun e w'' ⟨v,ι',he,hk,_,_,_,hr⟩=>⟨?_,hk.os,hk.tape,hk.output,hk.size,fun b hb'=>hk.block b ⟨hb',fun h' o=>by obtain⟨r,hr⟩:=o.row;simp at hr⟩⟩
   subst he
   have hv:[v]=[.string s]:=hr
   cases hv
   rfl
  ·rcases hxs with rfl|⟨b,o,rfl,_,hb,hall⟩
   ·simp at hi
   ·obtain⟨c,hd,hcs⟩:=hall i d hi
    obtain⟨c1,k1,rfl,h1,c2,k2,rfl,h2,c3,k3,rfl,h3,h4⟩:=hd
    have h1:c1=[_]:=h1
    have h2:c2=[_]:=h2
    have h3:c3=[_]:=h3
    have h4:k3=[]:=h4
    subst h1 h2 h3 h4
    exact⟨b,o,rfl,hb,by simpa[Ty.cells] using hcs 0 _ rfl,by simpa[Ty.cells] using hcs 1 _ rfl,by simpa[Ty.cells] using hcs 2 _ rfl⟩
  ·rintro v w' rfl
   rfl
 ·simp[Ans.no,Ans.run] at hF
end Go.Rv
