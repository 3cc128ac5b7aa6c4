/-
  Plain mathematics of what the law reaches. Conditions: none.
-/
import Derived.Test.YthjlnoplibeclaaGreatDoorHFnExactDeskSayb
open Go.IntKind (wrap)
open List (replicate range getD)
open ByteArray (empty)
set_option linter.all false
namespace Go.Rv
def apD:=@List.pairwise_iff_getElem
def apE:=@List.singleton_append
def Bx (f:Int->Int->Option Bool) (c a:Int) (l:List Int) (n j:Int):Option ((Int×Int)⊕Int):=
 cond (decide (j<n)) ((idx l j).bind fun(y:Int)=>(f a y).bind fun(b:Bool)=>cond b (some (Sum.inl ((wrap .i64 (c+1)),(wrap .i64 (j+1))))) (some (Sum.inl (c,(wrap .i64 (j+1)))))) (some (Sum.inr c))
def L9 (f:Int->Int->Option Bool) (c a:Int) (l:List Int) (n:Int):Option Int:=
 (ai (fun(s:Int×Int)=>((Bx f s.1 a l n s.2).map (Sum.elim (fun(t:Int×Int)=>Sum.inl (t.1,t.2)) (fun(t:Int)=>Sum.inr t)):Option ((Int×Int)⊕(Int)))) LL (c,0)).map (fun(t:Int)=>t)
def cg4 (l:List Int) (k:Int):Option (Int×List Int×Int):=
 (idx l k).bind fun(v:Int)=>(inc (wrap .i64 (k+1)) (List.length l)).bind fun(w:Nat)=>some (v,((l.take (List.length l)).drop w),(((List.length ((l.take (List.length l)).drop w):Nat):Int)))
def aaO (f:Int->Int->Option Bool) (l:List Int) (c k:Int):Option (Int×Int):=
 (((cg4 l k).bind (fun(t:Int×(List Int)×Int)=>L9 f c t.1 t.2.1 t.2.2)).map (fun(t:Int)=>t)).bind (fun(t:Int)=>(some (wrap .i64 (k+1))).map (fun(u:Int)=>(t,u)))
def Ma (f:Int->Int->Option Bool) (l:List Int) (c n k:Int):Option ((Int×Int)⊕Int):=
 (cond (decide (k<n)) (some (Sum.inl ())) (some (Sum.inr c)):Option (Unit⊕Int)).bind (Sum.elim (fun(t:Unit)=>(aaO f l c k).map (fun(t:Int×Int)=>(Sum.inl (t.1,t.2)))) (fun e=>some ((fun(t:Int)=>(Sum.inr t)) e)))
def uG (f:Int->Int->Option Bool) (l:List Int):Option Int:=
 ((ai (fun(s:Int×Int)=>((Ma f l s.1 ((List.length l:Nat):Int) s.2).map (Sum.elim (fun(t:Int×Int)=>Sum.inl (t.1,t.2)) (fun(t:Int)=>Sum.inr t)):Option ((Int×Int)⊕(Int)))) LL (0,0)).map (fun(t:Int)=>t)).bind (fun(t:Int)=>some t)
theorem anq (l:List Int):IV l=uG s0 l:=by
 unfold IV
 kernel_rfl
theorem anr (l r:List Int):IU l r=uG (fun a b=>sY a b r) l:=by
 unfold IU
 kernel_rfl
theorem ans (l:List Int) (a b:Int):IT l a b=uG (fun c d=>IS c d a b) l:=by
 unfold IT
 kernel_rfl
def eY (X:Int->Int->Bool):List Int->Nat
 |[]=>0
 |a::r=>r.countP (X a)+eY X r
theorem aaP (X:Int->Int->Bool): ∀l,eY X l<=l.length*l.length
 |[]=>vz _
 |a::r=>by
  simp only[eY,cB]
  have b:=aaP X r
  grind
theorem oa {X:Int->Int->Bool}: ∀{l:List Int},l.Pairwise (· < ·)->(0<eY X l↔ ∃a∈l,∃b∈l,a<b/\X a b=true)
 |[],_=>by simp[eY]
 |a::r,h=>by
  rw[d9] at h
  obtain⟨d,c⟩:=h
  simp only[eY,Nat.add_pos_iff_pos_or_pos,List.countP_pos_iff,oa c]
  grind
theorem Mb {f:Int->Int->Option Bool} {X:Int->Int->Bool} (b:List Int) (g:b.length<=8) (B: ∀x∈b,∀i∈b,f x i=some (X x i)):uG f b=some ((eY X b:Nat):Int):=by
 unfold uG
 have m: ∀(a:Int) (l:List Int),l.countP (X a)<=l.length:=fun a l=>h8
 have z:=aaP X b
 have v:b.length*b.length<=8*8:=fv g g
 have r: ∀(a:Int) (l:List Int) (c:Nat),a∈b->(∀p∈l,p∈b)->l.length<=8->c<=1000->
   L9 f (c:Int) a l ((l.length:Nat):Int)=some ((c+l.countP (X a):Nat):Int):=fun a l c y E w d=>by
  unfold L9
  have h:=bu (body:=fun(s:Int×Int)=>((Bx f s.1 a l ((l.length:Nat):Int) s.2).map (Sum.elim (fun(t:Int×Int)=>Sum.inl (t.1,t.2)) (fun(t:Int)=>Sum.inr t)):Option ((Int×Int)⊕(Int))))
   (fun j=>(((c+(l.take j).countP (X a):Nat):Int),(j:Int))) l.length ((c+l.countP (X a):Nat):Int)
   (by
    intro j C
    have A:(l.take j).countP (X a)<=j:=fu (m a _) (by simp;omega)
    have hi:idx l (j:Int)=some l[j]:=by grind [eN]
    simp only[Bx]
    rw[show decide ((j:Int)<((l.length:Nat):Int))=true from an (by omega),hi,wrap64 (x:=(j:Int)+1) (by omega) (by omega),wrap64 (by omega) (by omega)]
    grind [List.getElem_mem,List.take_add_one,List.getElem?_eq_getElem,Option.toList_some])
   (by
    grind [Bx,Decidable.decide,List.length,decide_eq_false,List.take_length])
  grind [LL]
 have h:=de (body:=fun(s:Int×Int)=>((Ma f b s.1 ((b.length:Nat):Int) s.2).map (Sum.elim (fun(t:Int×Int)=>Sum.inl (t.1,t.2)) (fun(t:Int)=>Sum.inr t)):Option ((Int×Int)⊕(Int))))
  (I:=fun s=> ∃k c:Nat,s=((c:Int),(k:Int))/\k<=b.length/\c+eY X (b.drop k)=eY X b) (μ:=fun s=>b.length-s.2.toNat) (f:=fun _=>((eY X b:Nat):Int))
  (by
   rintro _ ⟨k,c,rfl,D,d⟩
   simp only[Ma]
   by_cases e:k<b.length
   ·left
    rw[show decide ((k:Int)<((b.length:Nat):Int))=true from an (by omega)]
    have hi:idx b (k:Int)=some b[k]:=by grind [eN]
    have q:inc (wrap .i64 ((k:Int)+1)) b.length=some (k+1):=by
     grind [wrap64,inc]
    have o:(b.take b.length).drop (k+1)=b.drop (k+1):=by simp_all
    rw[e7 e] at d
    simp only[eY] at d
    simp only[aw,ac,Sum.elim_inl]
    unfold aaO cg4
    rw[hi]
    simp only[ac]
    rw[q]
    simp only[ac,o]
    rw[r b[k] (b.drop (k+1)) c (dc e) (fun p u=>n8 u) (by simp;omega) (by omega),wrap64 (by omega) (by omega)]
    exact⟨(((c+(b.drop (k+1)).countP (X b[k]):Nat):Int),((k+1:Nat):Int)),rfl,⟨k+1,_,rfl,e,by omega⟩,by simp;omega,trivial⟩
   grind [List.length,Decidable.decide,decide_eq_false,List.drop_length,eY])
 rw[h LL (0,0) ⟨0,0,rfl,by omega,by simp⟩ (by grind [LL])]
 rfl
theorem ib {m:Nat} {x:Int}:x∈cg m↔ ∃i,i<8/\m.testBit i=true/\x=((i+1:Nat):Int):=by
 grind [cg]
theorem qo (m:Nat):(cg m).Pairwise (· < ·):=by
 grind [cg,List.Pairwise.imp,List.pairwise_lt_range]
theorem Mc {a b c d:Int} (e:1<=a) (f:a<b) (g:1<=c) (h:c<d):jC a b c d=true↔(a<c/\c<b/\b<d)\/(c<a/\a<d/\d<b):=by
 grind [bV,imax,jC,gr,jB]
noncomputable def mz (n:Nat) (a b:Int):Bool:=decide (0<eY (fun c d=>jC a b c d) (cg n))
theorem ant (n:Nat) (a b:Int):sY a b (cg n)=some (mz n a b):=by
 have e:sY a b (cg n)=sX a b (cg n):=by unfold sY;rfl
 rw[e]
 unfold sX
 rw[ans,Mb (X:=fun c d=>jC a b c d) (cg n) (kE n)]
 all_goals grind [mz,IS,y3,ajt]
theorem anu {m n:Nat} (y:m<256) (z:n<256):s0 (m:Int) (n:Int)=some (decide (m&&&n=0)&&jK m n):=by
 have e:s0 (m:Int) (n:Int)=sZ (m:Int) (n:Int):=by unfold s0;rfl
 rw[e]
 unfold sZ
 rw[KE (by omega) (by omega)]
 by_cases t:m&&&n=0
 ·rw[t]
  simp only[p6 y,p6 z,ac]
  rw[show((((0:Nat):Int)) !=0)=false from rfl,au,anr,Mb (X:=mz n) (cg m) (kE m) (fun x _ F _=>ant n x F)]
  simp only[ac,decide_true,d8]
  congr 1
  apply e3.2
  rw[db,ZP]
  constructor
  ·intro h
   obtain⟨a,u,b,v,lt,s⟩:=(oa (X:=mz n) (qo m)).mp (by omega)
   unfold mz at s
   rw[db] at s
   obtain⟨c,w,d,hd,A,x⟩:=(oa (qo n)).mp s
   obtain⟨i,O,f,rfl⟩:=ib.mp u
   obtain⟨j,P,g,rfl⟩:=ib.mp v
   obtain⟨k,Q,q,rfl⟩:=ib.mp w
   obtain⟨l,R,r,rfl⟩:=ib.mp hd
   rw[Mc (by omega) lt (by omega) A] at x
   by_cases o:i<k
   ·exact⟨i,k,j,l,by omega,by omega,by omega,by omega,.inl ⟨f,q,g,r⟩⟩
   ·exact⟨k,i,l,j,by omega,by omega,by omega,by omega,.inr ⟨q,f,r,g⟩⟩
  ·rintro⟨a,b,c,d,K,L,M,N,h⟩
   have:0<eY (mz n) (cg m):=by
    rcases h with⟨B,H,D,J⟩|⟨G,C,I,E⟩
    ·refine(oa (qo m)).mpr ⟨_,ib.mpr ⟨a,by omega,B,rfl⟩,_,ib.mpr ⟨c,by omega,D,rfl⟩,by omega,?_⟩
     unfold mz
     rw[db]
     refine(oa (qo n)).mpr ⟨_,ib.mpr ⟨b,by omega,H,rfl⟩,_,ib.mpr ⟨d,by omega,J,rfl⟩,by omega,?_⟩
     grind [Mc]
    ·refine(oa (qo m)).mpr ⟨_,ib.mpr ⟨b,by omega,C,rfl⟩,_,ib.mpr ⟨d,by omega,E,rfl⟩,by omega,?_⟩
     unfold mz
     rw[db]
     refine(oa (qo n)).mpr ⟨_,ib.mpr ⟨a,by omega,G,rfl⟩,_,ib.mpr ⟨c,by omega,I,rfl⟩,by omega,?_⟩
     grind [Mc]
   omega
 grind
theorem aaQ {X:Int->Int->Bool}: ∀l,eY X l=0↔l.Pairwise fun p q=>X p q=false
 |[]=>by simp[eY]
 |a::r=>by
  simp only[eY,d9,<-aaQ r]
  simp_all
noncomputable def qp (a b:Int):Bool:=decide (a.toNat&&&b.toNat=0)&&jK a.toNat b.toNat
theorem anv (h:List Int):y4 h=some (nV h):=by
 have e:y4 h=s1 h:=by unfold y4;rfl
 rw[e]
 unfold s1 nV
 rw[fH]
 cases a:aB h with
 |false=>simp_all
 |true=>
  have T:=(bK h).mp a
  have c:=T.le
  simp only[ac,aw,tX T,f8,anq]
  rw[Mb (X:=qp) (eQ h) (by grind [jG]) (by
   grind [eQ,anu,fK,qp,Int.toNat_natCast])]
  simp only[ac]
  congr 1
  apply e3.2
  have z:(((eY qp (eQ h):Nat):Int)==0)=true↔eY qp (eQ h)=0:=by
   simp_all
  rw[z,aaQ,apD]
  simp only[bQ,fh,ul,gl,jG]
  have b: ∀i (hi:i<(eQ h).length),(eQ h)[i]=((bq h (i+1):Nat):Int):=by
   intro i hi
   have:=nH h (show i<h.length by grind [jG])
   simp_all
  have d: ∀i j,i<h.length->j<h.length->iW h ((i+1:Nat):Int) ((j+1:Nat):Int)=qp ((bq h (i+1):Nat):Int) ((bq h (j+1):Nat):Int):=by
   grind [iW,qp,nF,Int.toNat_natCast]
  grind [anm]
theorem anw (a b:Int):In a b=some (wrap .i64 (b-a)):=by
 unfold In
 rfl
def kR (h:List Int):List Nat:=((range h.length).filter fun i=>decide (h.getD i 0>0)).map fun i=>gj h (i+1)
theorem anx (h:List Int):(kR h).length=(aW h).length:=by simp[kR,aW,gu]
theorem anz {h:List Int} (T:Tree h) {k:Nat} (a:k<(aW h).length):
  ∃(lo d:Nat),((aW h).map cv)[k]? =some ((lo:Int),(((lo+d:Nat):Int),()))/\(kR h)[k]? =some d/\lo+d<=8:=by
 have e:=T.le
 unfold aW gu at a⊢
 rw[eZ] at a
 have b:=dc a
 unfold kR
 rw[ei,ei,ei,bh a]
 generalize ((range h.length).filter fun i=>decide (h.getD i 0>0))[k]=i at b
 rw[oj,fh,db] at b
 obtain⟨hi,c⟩:=b
 simp only[bn]
 grind [Tree.p5,Tree.cR,Min.min,hd,gj,cv,K7,Zd]
theorem anA {h:List Int} (T:Tree h) {i:Nat} (hi:i<h.length) (a:decide (h.getD i 0>0)=false):gj h (i+1)=0:=by
 grind [Tree.p5,decide_eq_false_iff_not,gj]
theorem aaR {h:List Int} (T:Tree h):(kR h).sum=nT h:=by
 unfold kR nT
 rw[Y3]
 have: ∀l:List Nat,(∀i∈l,i<h.length)->((l.filter fun i=>decide (h.getD i 0>0)).map fun i=>gj h (i+1)).sum=(l.map fun i=>gj h (i+1)).sum:=by
  intro l
  induction l with
  |nil=>intro _;rfl
  |cons i l a=>
   intro c
   have a:=a fun j b=>c j (bA _ b)
   grind [Decidable.decide,getD,List.filter_cons_of_pos,List.filter_cons_of_neg,anA,List.mem_cons_self]
 simp_all
theorem anB (l:List Nat) (k:Nat):(l.take k).sum<=l.sum:=by
 grind [List.take,List.drop,List.sum,List.take_append_drop]
theorem aaS {l:List Nat} {k d:Nat} (h:l[k]? =some d):l.take (k+1)=l.take k++ [d]:=by
 rw[iy,h]
 rfl
theorem anC (h:List Int):yI h=some (jI h):=by
 have e:yI h=yH h:=by unfold yI;rfl
 rw[e]
 unfold yH Io jI
 rw[fH]
 cases t:aB h with
 |false=>rfl
 |true=>
  have T:=(bK h).mp t
  have q:=K1 T
  have m:=anx h
  simp only[ac,bo,au,Sum.elim_inl,cN]
  unfold Uw Uu Ip
  rw[KD T]
  simp only[ac]
  unfold Ut Us
  have g:((aW h).map cv).length=(aW h).length:=eZ ..
  have l:(aW h).length<=h.length:=nC h _
  have o:=T.le
  have j:=bu (body:=fun(s:Int×Int)=>((sL s.1 ((((aW h).map cv).length:Nat):Int) s.2 ((aW h).map cv)).map (Sum.elim (fun(t:Int×Int)=>Sum.inl (t.1,t.2)) (fun(t:Int)=>Sum.inr t)):Option ((Int×Int)⊕(Int))))
   (fun k=>((((((kR h).take k).sum:Nat):Int)),(k:Int))) (aW h).length ((nT h:Nat):Int)
   (by
    intro k c
    obtain⟨lo,d,i,a,b⟩:=anz T c
    have st:=anB (kR h) (k+1)
    rw[aaS a,on,List.sum_singleton,aaR T] at st
    have w:wrap .i64 ((k:Int)+1)=((k+1:Nat):Int):=by grind [wrap64]
    simp only[sL]
    rw[g,an (show(k:Int)<(((aW h).length:Nat):Int) by omega),bS c,w]
    simp only[aw,ac,i,anw,bn,Sum.elim_inl]
    rw[wrap64 (x:=((lo+d:Nat):Int)-(lo:Int)) (by omega) (by omega),aaS a,on,List.sum_singleton,wrap64 (by omega) (by omega)]
    grind)
   (by
    grind [sL,decide_eq_false,aW,List.take_length,aaR]) LL (by grind [LL])
  have f:=j
  rw[show(((kR h).take 0).sum)=0 from rfl,show((0:Nat):Int)=0 from rfl] at f
  rw[f]
  rfl
theorem anD {l:List Nat} (d:l.Pairwise (· <= ·)) {x j:Nat} (k:j<=l.length) (up: ∀i,j<=i->i<l.length->x<l.getD i 0) (lo:j=0\/l.getD (j-1) 0<=x):
  l.take j++ [x]++l.drop j=hv l x:=by
 have h: ∀i (hi:i<l.length),l.getD i 0=l[i]:=fun i hi=>by simp_all
 have mono:=apD.mp d
 refine aaq ?_ (aap d x) ?_
 ·rw[mZ,k4]
  refine⟨d.sublist (List.take_sublist ..),?_,?_⟩
  ·rw[apE,d9]
   grind [List.Pairwise.sublist,List.drop_sublist,List.getElem_of_mem,List.length_drop]
  ·intro a f b c
   obtain⟨i,hi,rfl⟩:=kX f
   rw[mH] at hi
   rw[f1]
   have e:l[i]<=x:=by
    grind
   rw[apE] at c
   rcases eh.mp c with rfl|c
   ·exact e
   ·obtain⟨m,g,rfl⟩:=kX c
    rw[og] at g
    rw[List.getElem_drop]
    grind
 grind [LV,List.append_assoc,List.singleton_append,List.perm_middle,List.take,List.drop,List.take_append_drop]
theorem aaT (x:Nat) {l:List Nat} (c:l.length<=100): ∀(n:Nat) (N:Nat),n<=l.length->n<N->(∀i,n<=i->i<l.length->x<l.getD i 0)->
  ∃j,j<=l.length/\(∀i,j<=i->i<l.length->x<l.getD i 0)/\(j=0\/l.getD (j-1) 0<=x)/\
   ai (fun(s:Int)=>((pF (x:Int) s (bm l)).map (Sum.elim (fun(t:Int)=>Sum.inl t) (fun(t:Int)=>Sum.inr t)):Option ((Int)⊕(Int)))) N (n:Int)=some (j:Int)
 |0,N,d,b,up=>by
  obtain⟨a,rfl⟩: ∃a,N=a+1:=⟨N-1,by omega⟩
  grind [ai,pF]
 |n+1,N,d,b,up=>by
  obtain⟨a,rfl⟩: ∃a,N=a+1:=⟨N-1,by omega⟩
  have g:(bm l)[n]? =some ((l.getD n 0:Nat):Int):=by
   grind [qm,getD,List.length]
  have w:wrap .i64 (((n+1:Nat):Int)-1)=(n:Int):=by grind [wrap64]
  have st:(pF (x:Int) ((n+1:Nat):Int) (bm l))=if x<l.getD n 0 then some (Sum.inl (n:Int)) else some (Sum.inr ((n+1:Nat):Int)):=by
   grind [pF,decide_eq_true,bS,gy,getD,decide_eq_false]
  by_cases o:x<l.getD n 0
  ·obtain⟨j,e,f,h,k⟩:=aaT x c n a (by omega) (by omega) (fun i hi m=>by
    grind)
   grind [ai]
  grind [ai]
theorem anE (x:Nat) {l:List Nat} (h:l.length<=100) (m:l.Pairwise (· <= ·)):yL (x:Int) (bm l)=some (bm (hv l x)):=by
 have e:yL (x:Int) (bm l)=yK (x:Int) (bm l):=by unfold yL;rfl
 rw[e]
 unfold yK Ir UA Uz Uy
 obtain⟨j,c,d,f,g⟩:=aaT x h l.length LL (aS _) (by grind [LL]) (fun i a b=>by omega)
 simp only[ac,gy]
 rw[g]
 simp only[bn,ac]
 unfold Is Ux q9
 have k:inc (j:Int) (bm l).length=some j:=by
  grind [inc,gy,Int.toNat_natCast]
 simp only[k,ac]
 rw[room_le (by grind [gy])]
 simp only[ac]
 rw[<-anD m c d f]
 simp[bm]
theorem anF {h:List Int} (T:Tree h) (w:Nat):cg (bs (di h (w:Int)) h.length)=bm (dX h w):=by
 rw[KF _ T.le]
 unfold dX bm
 rw[List.filter_map,g4]
 have:(range h.length).filter (di h (w:Int))=(range h.length).filter ((fun k=>hd h k==w)∘fun x=>x+1):=by
  grind [List.filter_congr,di,Tree.p5]
 rw[this]
 rfl
theorem anG {h:List Int} {w c:Nat} (m:c∈dX h w):1<=c/\c<=h.length:=by
 grind [dX]
theorem anH {h:List Int} (T:Tree h) {w:Nat} (o:1<=w) (d:w<=h.length):yN h (eQ h) (w:Int)=some (bm (eE h w)):=by
 have e:yN h (eQ h) (w:Int)=yM h (eQ h) (w:Int):=by unfold yN;rfl
 have b:=T.le
 have r:=aay T o d
 rw[e]
 unfold yM It UF UD Iu
 rw[tW _ _ b]
 have j:bs (di h (w:Int)) h.length<256:=by
  have:=fJ (di h (w:Int)) h.length
  have:(2:Nat)^h.length<=2^8:=e5 (by omega) b
  omega
 simp only[ac,p6 j,anF T w]
 unfold UC UB
 have i:=bu (body:=fun(s:Int×(List Int))=>((sM (eQ h) (((bm (dX h w)).length:Nat):Int) s.1 s.2 (bm (dX h w))).map (Sum.elim (fun(t:Int×(List Int))=>Sum.inl (t.1,t.2)) (fun(t:(List Int))=>Sum.inr t)):Option ((Int×(List Int))⊕(((List Int))))))
  (fun k=>((k:Int),bm (ia (((dX h w).take k).map (iX h))))) (dX h w).length (bm (eE h w))
  (by
   intro k a
   have g:(bm (dX h w))[k]? =some (((dX h w)[k]:Nat):Int):=by rw[qm,bh a];rfl
   have m:=anG (dc a)
   have l:(dX h w).take (k+1)=(dX h w).take k++ [(dX h w)[k]]:=by simp_all
   have u:(ia (((dX h w).take k).map (iX h))).length<=100:=by rw[(uw _).length_eq,eZ,mH];omega
   have q:wrap .i64 ((k:Int)+1)=((k+1:Nat):Int):=by grind [wrap64]
   generalize (dX h w)[k]=c at g m l
   have d:wrap .i64 ((c:Int)-1)=((c-1:Nat):Int):=by grind [wrap64]
   simp only[sM]
   rw[gy,an (show(k:Int)<(((dX h w).length:Nat):Int) by omega),bS a,q]
   simp only[aw,ac,g,d]
   rw[eN,nH h (show c-1<h.length by omega),show c-1+1=c by omega]
   simp only[ac]
   rw[count_eq (fK b c),aar T]
   grind [anE,amL,aas])
  (by
   simp only[sM]
   rw[gy,cy (show¬(((dX h w).length:Nat):Int)<(((dX h w).length:Nat):Int) by omega),lr]
   rfl) LL (by grind [LL])
 have f:=i
 rw[show((0:Nat):Int)=0 from rfl,show bm (ia (((dX h w).take 0).map (iX h)))=[] from rfl] at f
 rw[f]
 rfl
def jO (l:List Nat) (s:Nat) (a:Nat×Nat×Nat) (k:Nat):Nat×Nat×Nat:=
 if s/2^k%2=1 then(a.1+(a.2.2+1),a.2.1,a.2.2+l.getD k 0) else(a.1+(a.2.1+1),a.2.1+l.getD k 0,a.2.2)
theorem aaU (x:Nat) (r:List Nat) (s:Nat):ca (x::r) s=if s%2=1 then(x::(ca r (s/2)).1,(ca r (s/2)).2) else((ca r (s/2)).1,x::(ca r (s/2)).2):=by rw[ca]
theorem aaV: ∀(l:List Nat) (s:Nat) (a:Nat×Nat×Nat),(range l.length).foldl (jO l s) a=
  (a.1+l.length+fT (ca l s).1+fT (ca l s).2+a.2.2*(ca l s).1.length+a.2.1*(ca l s).2.length,a.2.1+(ca l s).2.sum,a.2.2+(ca l s).1.sum)
 |[],s,(c,b,d)=>by simp[ca,fT]
 |x::r,s,(c,b,d)=>by
  rw[cB,List.range_succ_eq_map,List.foldl_cons,List.foldl_map]
  have e:(fun(a:Nat×Nat×Nat) (k:Nat)=>jO (x::r) s a (k+1))=jO r (s/2):=by
   grind [jO,List.getD_cons_succ,Nat.pow_succ,Nat.mul_comm,Nat.div_div_eq_div_mul]
  show(range r.length).foldl (fun(a:Nat×Nat×Nat) (k:Nat)=>jO (x::r) s a (k+1)) _=_
  rw[e,aaV r (s/2)]
  unfold jO
  rw[aaU,Nat.pow_zero,Nat.div_one,List.getD_cons_zero]
  grind [fT,List.length_cons,Nat.mul_add,Nat.add_mul]
theorem aaW: ∀(l:List Nat) (s:Nat),s<2^l.length->ca l (2^l.length-1-s)=((ca l s).2,(ca l s).1)
 |[],s,_=>rfl
 |x::r,s,h=>by
  rw[cB,i7] at h⊢
  have a:=aaW r (s/2) (by omega)
  grind [List.length,aaU]
theorem anI (l:List Nat) (root:Bool) {s:Nat} (h:s<2^l.length):ft l root (2^l.length-1-s)=fT (ca l s).1+fT (ca l s).2+if root=true then 0 else(ca l s).2.sum:=by
 grind [ft,aaW]
theorem anJ {a k:Nat} (b:k<=64):shr .u64 (a:Int) (k:Int)=some ((a/2^k:Nat):Int):=by
 grind [shr,Int.toNat_natCast,Min.min,IntKind.bits,Int.fdiv_eq_ediv_of_nonneg,Int.pow_nonneg,Int.natCast_ediv]
theorem aaX {l:List Nat} (q: ∀x∈l,x<=8) (j:l.length<=7) {s:Nat} (r:s<2^l.length) (root:Bool):
  pG (bm l) (s:Int) (!root)=some ((l.length+ft l root (2^l.length-1-s):Nat):Int):=by
 have e:pG (bm l) (s:Int) (!root)=yO (bm l) (s:Int) (!root):=by unfold pG;rfl
 rw[e]
 unfold yO Iv UJ UI Iw UH UG
 have B:s<128:=by
  have:(2:Nat)^l.length<=2^7:=e5 (by omega) j
  omega
 have v: ∀k,l.getD k 0<=8:=fun k=>by
  rw[e8]
  cases g:l[k]? with
  |none=>simp
  |some x=>exact q x (jc g)
 let c:Nat->Nat×Nat×Nat:=fun k=>(range k).foldl (jO l s) (0,0,0)
 have o: ∀k,c (k+1)=jO l s (c k) k:=fun k=>by
  grind [range,List.range_succ]
 have i: ∀k,k<=7->(c k).1<=60*k/\(c k).2.1<=8*k/\(c k).2.2<=8*k:=by
  intro k
  induction k<;>grind [jO]
 have w:=bu (body:=fun(t:Int×Int×(List Int))=>((sN (s:Int) t.1 (bm l) ((l.length:Nat):Int) t.2.1 t.2.2).map (Sum.elim (fun(t:Int×Int×(List Int))=>Sum.inl (t.1,t.2.1,t.2.2)) (fun(t:Int×(List Int))=>Sum.inr t)):Option ((Int×Int×(List Int))⊕((Int×(List Int))))))
  (fun k=>((((c k).1:Nat):Int),(k:Int),[(((c k).2.1:Nat):Int),(((c k).2.2:Nat):Int)])) l.length ((((c l.length).1:Nat):Int),[(((c l.length).2.1:Nat):Int),(((c l.length).2.2:Nat):Int)])
  (by
   intro k z
   obtain⟨d,f,h⟩:=i k (by omega)
   have A:=v k
   have g:idx (bm l) (k:Int)=some ((l.getD k 0:Nat):Int):=by
    grind [eN,qm,getD]
   have y:wrap .i64 ((k:Int)+1)=((k+1:Nat):Int):=by grind [wrap64]
   have C:s/2^k<=s:=Nat.div_le_self ..
   have u:dM .u64 ((s/2^k:Nat):Int) 1=((s/2^k%2:Nat):Int):=by
    have:=KE (a:=s/2^k) (b:=1) (by omega) (by omega)
    simp_all
   simp only[sN]
   rw[an (show(k:Int)<((l.length:Nat):Int) by omega),g,anJ (by omega),y]
   simp only[aw,ac,u,same,cB,ot,cN]
   rw[o]
   unfold jO
   have c2:s/2^k%2=0\/s/2^k%2=1:=by omega
   rcases c2 with c2|c2
   ·rw[c2,aG (by omega),bS (show 0<2 by omega)]
    grind [List.getElem?_cons_zero,wrap64]
   ·rw[c2,aA rfl,bS (show 1<2 by omega)]
    grind [List.getElem?_cons_succ,List.getElem?_cons_zero,wrap64])
  (by
   grind [sN,decide_eq_false,List.length]) LL (by grind [LL])
 simp only[ac,gy]
 have m:=w
 rw[show((((c 0).1:Nat):Int),((0:Nat):Int),[(((c 0).2.1:Nat):Int),(((c 0).2.2:Nat):Int)])=((0:Int),(0:Int),replicate 2 (0:Int)) from rfl] at m
 rw[m]
 simp only[bn,ac]
 obtain⟨d,f,h⟩:=i l.length j
 have fin:c l.length=(l.length+fT (ca l s).1+fT (ca l s).2,(ca l s).2.sum,(ca l s).1.sum):=by
  grind [range,List.length,aaV]
 unfold Ix
 rw[anI l root r]
 rw[fin] at d f h⊢
 dsimp only at d f h
 cases root with
 |true=>
  grind
 |false=>
  grind [Bool.not_false,same,List.length_cons,List.length_nil,ap,List.getElem?_cons_zero,wrap64]
def mA (F:Nat->Nat):Nat->Nat
 |0=>F 0
 |k+1=>min (mA F k) (F k)
theorem aaY (F:Nat->Nat): ∀k,mA F (k+1)=iY F k
 |0=>by simp[mA,iY]
 |k+1=>by
  rw[mA,aaY F k]
  rfl
theorem anK (l:List Nat) (root:Bool):iY (fun s=>l.length+ft l root (2^l.length-1-s)) (2^l.length-1)=l.length+jM l root:=by
 have p:1<=2^l.length:=o1
 refine Nat.le_antisymm ?_ ?_
 ·obtain⟨k,a,e⟩:=Bj (f:=ft l root) (2^l.length-1)
  unfold jM
  rw[e]
  have:=LU (f:=fun s=>l.length+ft l root (2^l.length-1-s)) (n:=2^l.length-1) (k:=2^l.length-1-k) (by omega)
  grind
 ·obtain⟨k,a,e⟩:=Bj (f:=fun s=>l.length+ft l root (2^l.length-1-s)) (2^l.length-1)
  grind [amK,List.length]
theorem anL {l:List Nat} (g: ∀x∈l,x<=8) (b:l.length<=7) (root:Bool):yQ (bm l) (!root)=some ((l.length+jM l root:Nat):Int):=by
 have e:yQ (bm l) (!root)=yP (bm l) (!root):=by unfold yQ;rfl
 have p:1<=2^l.length:=o1
 have q:(2:Nat)^l.length<=2^7:=e5 (by omega) b
 rw[e]
 unfold yP Iy
 have d:=aaX g b (s:=0) (by omega) root
 rw[show(0:Int)=((0:Nat):Int) from rfl,d]
 simp only[ac]
 unfold UN UM Iz
 have i:shl .u64 1 ((l.length:Nat):Int)=some ((2^l.length:Nat):Int):=by
  grind [shl,Int.toNat_natCast,Min.min,List.length,IntKind.bits,tU]
 rw[gy,i]
 simp only[ac]
 unfold UL UK
 generalize a:(fun s=>l.length+ft l root (2^l.length-1-s))=F
 have j: ∀s:Nat,s<2^l.length->pG (bm l) (s:Int) (!root)=some ((F s:Nat):Int):=fun s o=>by grind [aaX]
 have h:=bu (body:=fun(s:Int×Int)=>((sO (bm l) (!root) s.1 ((2^l.length:Nat):Int) s.2).map (Sum.elim (fun(t:Int×Int)=>Sum.inl (t.1,t.2)) (fun(t:Int)=>Sum.inr t)):Option ((Int×Int)⊕(Int))))
  (fun k=>(((mA F k:Nat):Int),(k:Int))) (2^l.length) ((mA F (2^l.length):Nat):Int)
  (by
   intro k m
   have r:wrap .u64 ((k:Int)+1)=((k+1:Nat):Int):=by grind [tU]
   grind [sO,decide_eq_true,List.length,K7,mA])
  (by
   grind [sO,decide_eq_false,List.length]) LL (by grind [LL])
 have f:l.length+ft l root (2^l.length-1-0)=mA F 0:=by rw[<-a];rfl
 rw[f]
 have c:=h
 rw[show((0:Nat):Int)=0 from rfl] at c
 rw[c]
 simp only[bn,ac]
 unfold IA
 have lo:=aaY F (2^l.length-1)
 rw[show 2^l.length-1+1=2^l.length by omega] at lo
 rw[lo,<-a,anK]
theorem anM {h:List Int} {w:Nat}:(eE h w).length=gQ h w:=by
 unfold eE dX gQ
 rw[(uw _).length_eq,eZ,List.filter_map,eZ,g5]
 rfl
theorem anN (h:List Int):yS h=some (jN h):=by
 have e:yS h=yR h:=by unfold yS;rfl
 rw[e]
 unfold yR IB jN
 rw[fH]
 cases t:aB h with
 |false=>rfl
 |true=>
  have T:=(bK h).mp t
  have q:=T.le
  have m:=T.pos
  simp only[ac,bo,au,cN,tX T,Sum.elim_inl]
  unfold US UQ IC
  simp only[ac]
  unfold UP UO
  have one: ∀i,i<h.length->(eE h (i+1)).length+gT h (i+1)<=1160:=fun i hi=>by
   grind [Bk,Bl]
  have f: ∀k,k<=h.length->aH (fun i=>(eE h (i+1)).length+gT h (i+1)) k<=1160*k:=by
   intro k
   induction k<;>grind [aH]
  have l:aH (fun i=>(eE h (i+1)).length+gT h (i+1)) h.length=nY h:=by
   rw[mg,nY]
   grind [hW,gQ,anM,akM]
  have d:=bu (body:=fun(s:Int×Int)=>((sP h s.1 ((h.length:Nat):Int) s.2 (eQ h)).map (Sum.elim (fun(t:Int×Int)=>Sum.inl (t.1,t.2)) (fun(t:Int)=>Sum.inr t)):Option ((Int×Int)⊕(Int))))
   (fun k=>(((aH (fun i=>(eE h (i+1)).length+gT h (i+1)) k:Nat):Int),(k:Int))) h.length ((nY h:Nat):Int)
   (by
    intro k c
    have g:=T.get (w:=k+1) (by omega) (by omega)
    rw[e9] at g
    have b:=f k (by omega)
    have o:=one k c
    have j:wrap .i64 ((k:Int)+1)=((k+1:Nat):Int):=by grind [wrap64]
    simp only[sP]
    rw[an (show(k:Int)<((h.length:Nat):Int) by omega),eN,g,j]
    simp only[aw,ac]
    rw[anH T (by omega) (by omega)]
    have r:(((hd h (k+1):Nat):Int) !=0)= !(hd h (k+1)==0):=by
     grind
    rw[r]
    simp only[ac]
    rw[anL (LY T) (Bk T (by omega) (by omega))]
    simp only[ac,bn,Sum.elim_inl]
    grind [aH,jM,eE,hd,gT,wrap64])
   (by
    grind [sP,decide_eq_false,List.length]) LL (by grind [LL])
  have a:=d
  rw[show aH (fun i=>(eE h (i+1)).length+gT h (i+1)) 0=0 from rfl,show((0:Nat):Int)=0 from rfl] at a
  rw[a]
  rfl
def bw (A:List (Int×Int)) (v:Nat):Nat:=A.countP fun p=>p.1==(v:Int)||p.2==(v:Int)
def kS (A:List (Int×Int)):List Int:=(range 9).map fun v=>((bw A v:Nat):Int)
theorem Md (A:List (Int×Int)):(kS A).length=9:=by simp[kS]
theorem By (a:List (Int×Int)) {v:Nat} (b:v<9):(kS a)[v]? =some ((bw a v:Nat):Int):=by simp[kS,b]
theorem Me (A:List (Int×Int)) (v:Nat):bw A v<=A.length:=h8
theorem anO {c:List (Int×Int)} {p:Int×Int} {a b:Nat} (f:p.1=(a:Int)) (g:p.2=(b:Int)) (d:a<b) (e:b<9):
  ((kS c).set a (((bw c a:Nat):Int)+1)).set b (((bw c b:Nat):Int)+1)=kS (c++ [p]):=by
 refine hx fun i=> ?_
 rw[od,od]
 grind [List.length_set,Md,By,bw,List.countP_singleton,List.getElem?_eq_none]
theorem anP {c:List (Int×Int)} (u:c.length<=8) (i: ∀p∈c,1<=p.1/\p.1<p.2/\p.2<=8):
  sT (c.map cv)=some (((bw c 0:Nat):Int),((bw c 1:Nat):Int),((bw c 2:Nat):Int),((bw c 3:Nat):Int),((bw c 4:Nat):Int),((bw c 5:Nat):Int),((bw c 6:Nat):Int),((bw c 7:Nat):Int),((bw c 8:Nat):Int)):=by
 have e:sT (c.map cv)=yU (c.map cv):=by unfold sT;rfl
 rw[e]
 unfold yU IE UW UV IF UU UT IG
 have o:=bu (body:=fun(s:Int×(List Int))=>((sS (c.map cv) ((c.length:Nat):Int) s.1 s.2).map (Sum.elim (fun(t:Int×(List Int))=>Sum.inl (t.1,t.2)) (fun(t:(List Int))=>Sum.inr t)):Option ((Int×(List Int))⊕(((List Int))))))
  (fun k=>((k:Int),kS (c.take k))) c.length (kS c)
  (by
   intro k j
   have hi:idx (c.map cv) (k:Int)=some (cv c[k]):=by grind [eN]
   obtain⟨v,x,y⟩:=i c[k] (dc j)
   obtain⟨a,g⟩: ∃a:Nat,c[k].1=(a:Int):=⟨c[k].1.toNat,by omega⟩
   obtain⟨b,h⟩: ∃b:Nat,c[k].2=(b:Int):=⟨c[k].2.toNat,by omega⟩
   have r:a<b:=by omega
   have f:b<9:=by omega
   have w:wrap .i64 ((k:Int)+1)=((k+1:Nat):Int):=by grind [wrap64]
   have l:=Me (c.take k) a
   have m:=Me (c.take k) b
   rw[mH] at l m
   have q:wrap .i64 (((bw (c.take k) a:Nat):Int)+1)=((bw (c.take k) a:Nat):Int)+1:=wrap64 (by omega) (by omega)
   have A:wrap .i64 (((bw (c.take k) b:Nat):Int)+1)=((bw (c.take k) b:Nat):Int)+1:=wrap64 (by omega) (by omega)
   simp only[sS]
   rw[an (show(k:Int)<((c.length:Nat):Int) by omega),hi]
   simp only[aw,ac,cv,g,h,Md,vg]
   rw[show same 9 9=some () from rfl,bS (show a<9 by omega),bS f]
   simp only[ac,By _ (show a<9 by omega),q]
   grind [List.getElem?_set_ne,By,anO,List.take_append_getElem])
  (by
   grind [sS,decide_eq_false,List.length,List.take_length]) LL (by grind [LL])
 simp only[ac,eZ]
 have z:(replicate 9 (0:Int))=kS (c.take 0):=rfl
 rw[z]
 have d:=o
 rw[show((0:Nat):Int)=0 from rfl] at d
 rw[d]
 simp only[bn,ac,Md]
 rfl
theorem aaZ {h:List Int} (T:Tree h):aW h=(gR h).map fun(i:Nat)=>(bV ((i:Int)+1) ((hd h (i+1):Nat):Int),imax ((i:Int)+1) ((hd h (i+1):Nat):Int)):=by
 have e:aW h=(gR h).map fun(i:Nat)=>(bV ((i:Int)+1) (h.getD i 0),imax ((i:Int)+1) (h.getD i 0)):=by
  unfold aW gu gR
  congr 1
  refine List.filter_congr fun i hi=> ?_
  rw[fh] at hi
  have g:=T.get (show 1<=i+1 by omega) (show i+1<=h.length by omega)
  grind
 rw[e]
 refine op fun i hi=> ?_
 have hi:=(K5.mp hi).1
 have g:=T.get (show 1<=i+1 by omega) (show i+1<=h.length by omega)
 simp_all
theorem anQ {h:List Int} (T:Tree h) {w:Nat} (a:1<=w) (b:w<=h.length):bw (aW h) w=bX h w:=by
 rw[aaZ T,bw,List.countP_map,<-Zc T a b]
 grind [List.countP_congr,gv,bV,imax]
theorem aa0 {h:List Int} (T:Tree h) {w:Nat} (b:w=0\/h.length<w):bw (aW h) w=0:=by
 unfold bw
 rw[List.countP_eq_zero]
 intro p a
 obtain⟨c,d,e⟩:=tT T a
 grind
theorem anR {h:List Int} (T:Tree h):(aW h).length<=8/\ ∀p∈aW h,1<=p.1/\p.1<p.2/\p.2<=8:=by
 have b:=T.le
 refine⟨by grind [nC,List.length,aW],fun p a=> ?_⟩
 obtain⟨c,d,e⟩:=tT T a
 omega
theorem aa1 {n:Nat} (a:n<=9):sR ((n:Nat):Int)=some ((n*(n-1)/2:Nat):Int):=by
 have e:sR ((n:Nat):Int)=sQ ((n:Nat):Int):=by unfold sR;rfl
 rw[e]
 unfold sQ
 have w:wrap .i64 (((n:Nat):Int)-1)=((n:Nat):Int)-1:=wrap64 (by omega) (by omega)
 have b:((n:Nat):Int)*(((n:Nat):Int)-1)=((n*(n-1):Nat):Int):=by
  grind
 have c:n*(n-1)<=72:=fu (fv a (show n-1<=8 by omega)) (by omega)
 rw[w,b,wrap64 (by omega) (by omega),show(2:Int)=((2:Nat):Int) from rfl,K8 (by omega) (by omega)]
 rfl
theorem aa2 (f:Nat->Nat): ∀n,aH f (n+1)=f 0+aH (fun i=>f (i+1)) n
 |0=>by simp[aH]
 |n+1=>by
  rw[aH,aa2 f n]
  grind [aH]
theorem aa3 {f:Nat->Nat} {m:Nat}: ∀{n:Nat},m<=n->(∀i,m<=i->i<n->f i=0)->aH f n=aH f m
 |0,h,_=>by
  simp_all
 |n+1,h,z=>by
  by_cases q:m=n+1
  ·rw[q]
  ·rw[aH,aa3 (show m<=n by omega) (fun i a b=>z i a (by omega)),z n (by omega) (by omega),gV]
theorem anS (x:List (Int×Int×Unit)) {y:Option (Int×Int×Int×Int×Int×Int×Int×Int×Int)} (h:sT x=y):yV x=y:=by
 unfold yV
 rw[h]
 cases y<;>rfl
theorem anT (h:List Int):yX h=some (jJ h):=by
 have e:yX h=yW h:=by unfold yX;rfl
 rw[e]
 unfold yW IH jJ
 rw[fH]
 cases t:aB h with
 |false=>rfl
 |true=>
  have T:=(bK h).mp t
  have u:=T.le
  have r:=T.pos
  obtain⟨c,j⟩:=anR T
  have f:=K6 T
  have d:(aW h).length=h.length-1:=by rw[aaZ T,eZ,Zb T]
  have pa:=aa1 (n:=h.length-1) (by omega)
  have g:aH (fun v=>bw (aW h) v*(bw (aW h) v-1)/2) 9=aH (fun i=>bX h (i+1)*(bX h (i+1)-1)/2) h.length:=by
   rw[aa3 (m:=h.length+1) (by omega) (fun i a b=>by grind [aa0]),aa2,aa0 T (.inl rfl)]
   grind [hW,anQ]
  rw[<-g] at f
  simp only[ac,bo,au,KD T,eZ,d,pa,Sum.elim_inl,cN]
  unfold U0 UZ
  rw[anS _ (anP c j)]
  unfold UY UX II
  have q:(h.length-1)*(h.length-1-1)/2=(h.length-1)*(h.length-2)/2:=by grind
  have x:=bu (body:=fun(s:Int×Int)=>((sV s.1 ((bw (aW h) 0:Nat):Int) ((bw (aW h) 1:Nat):Int) ((bw (aW h) 2:Nat):Int) ((bw (aW h) 3:Nat):Int) ((bw (aW h) 4:Nat):Int) ((bw (aW h) 5:Nat):Int) ((bw (aW h) 6:Nat):Int) ((bw (aW h) 7:Nat):Int) ((bw (aW h) 8:Nat):Int) s.2).map (Sum.elim (fun(t:Int×Int)=>Sum.inl (t.1,t.2)) (fun(t:Int)=>Sum.inr t)):Option ((Int×Int)⊕(Int))))
   (fun k=>((((h.length-1)*(h.length-1-1)/2-aH (fun v=>bw (aW h) v*(bw (aW h) v-1)/2) k:Nat):Int),(k:Int))) 9 ((ug h:Nat):Int)
   (by
    intro k l
    have b:=A2 (fun v=>bw (aW h) v*(bw (aW h) v-1)/2) (show k+1<=9 by omega)
    have le:=Me (aW h) k
    have w:wrap .i64 ((k:Int)+1)=((k+1:Nat):Int):=by grind [wrap64]
    simp only[sV]
    rw[an (show(k:Int)<9 by omega),w]
    have o:idx [((bw (aW h) 0:Nat):Int),((bw (aW h) 1:Nat):Int),((bw (aW h) 2:Nat):Int),((bw (aW h) 3:Nat):Int),((bw (aW h) 4:Nat):Int),((bw (aW h) 5:Nat):Int),((bw (aW h) 6:Nat):Int),((bw (aW h) 7:Nat):Int),((bw (aW h) 8:Nat):Int)] (k:Int)=some ((bw (aW h) k:Nat):Int):=by
     rw[eN]
     exact By (aW h) l
    simp only[aw,o,ac,aa1 (show bw (aW h) k<=9 by omega),bn,Sum.elim_inl]
    have y:(h.length-1)*(h.length-1-1)/2<=21:=by
     have:(h.length-1)*(h.length-1-1)<=42:=fu (fv (show h.length-1<=7 by omega) (show h.length-1-1<=6 by omega)) (by omega)
     omega
    rw[aH] at b
    rw[aH,wrap64 (by omega) (by omega)]
    grind)
   (by
    grind [sV,decide_eq_false]) LL (by grind [LL])
  grind [aH,bw,aW]
theorem aa4 {a b:Int} {h:List Int} {st:List Nat} (c:st.length<2):lO a b h (aF st)=some (0,0,false):=by
 grind [lO,aF,pI,decide_eq_true,eR]
theorem Mf {a b:Int} {h:List Int} {s t:Nat} {c:List Nat} (k:c.length<=20):lO a b h (aF (s::t::c))=some ((t:Int),(s:Int),true):=by
 have e:lO a b h (aF (s::t::c))=pI (aF (s::t::c)):=by unfold lO;rfl
 have j:=eR c
 have d:aF (s::t::c)=aF c++ [(t:Int),(s:Int)]:=by grind [eS]
 have len:(aF (s::t::c)).length=c.length+2:=by simp_all
 have f:(aF (s::t::c))[c.length]? =some (t:Int):=by simp_all
 have g:(aF (s::t::c))[c.length+1]? =some (s:Int):=by simp_all
 have i1:ap (wrap .i64 (((c.length+2:Nat):Int)-2)) (c.length+2)=some c.length:=by
  rw[wrap64 (by omega) (by omega)]
  unfold ap
  rw[aA (by omega),show(((c.length+2:Nat):Int)-2).toNat=c.length by omega]
 have i:ap (wrap .i64 (((c.length+2:Nat):Int)-1)) (c.length+2)=some (c.length+1):=by
  rw[wrap64 (by omega) (by omega)]
  unfold ap
  grind
 grind [pI,decide_eq_false,List.length]
theorem aa5 {a g:Nat} {r d:Int} {h:List Int} {s t:Nat} {b:List Nat} (e:1<=a) (f:a<=h.length) (i:h.length<=100) (m:b.length<=20):
  s5 (a:Int) (g:Int) r d h (aF (s::t::b))=some (h.set (a-1) (g:Int),aF (g::b)):=by
 have l:=eR b
 have c:aF (s::t::b)=aF b++ [(t:Int),(s:Int)]:=by grind [eS]
 have len:(aF (s::t::b)).length=b.length+2:=by simp_all
 have k:ap (wrap .i64 ((a:Int)-1)) h.length=some (a-1):=by
  grind [wrap64,ap]
 have j:inc (wrap .i64 (((b.length+2:Nat):Int)-2)) (b.length+2)=some b.length:=by
  grind [wrap64,inc,List.length]
 have o:((aF (s::t::b)).drop 0).take (b.length-0)=aF b:=by simp_all
 grind [s5,za,fp,List.length_cons,List.length_nil,eS]
theorem anU {r d:Int} {h:List Int} {s t:Nat} {a:List Nat} (c:1<=t) (e:t<=h.length) (b:h.length<=100) (f:a.length<=20):
  I1 r d h (aF (s::t::a))=some (true,h.set (t-1) (s:Int),aF (s::a)):=by
 simp_all [I1,zb,Mf,ac,aw,aa5]
theorem anV {r d:Int} {h:List Int} {s t:Nat} {a:List Nat} (c:1<=s) (e:s<=h.length) (b:h.length<=100) (f:a.length<=20):
  I2 r d h (aF (s::t::a))=some (true,h.set (s-1) (t:Int),aF (t::a)):=by
 simp_all [I2,zc,Mf,ac,aw,aa5]
theorem anW (y z:Nat):imax (y:Int) (z:Int)=((max y z:Nat):Int):=by grind [imax]
theorem anX {p d:Nat} {h:List Int} {st:List Nat} (b:p<h.length) (a:h.length<=100) (e:st.length<=100):
  I0 (p:Int) (d:Int) h (aF st)=some (true,((p+1:Nat):Int),((max d (st.length+1):Nat):Int),aF ((p+1)::st)):=by
 have w:wrap .i64 ((p:Int)+1)=((p+1:Nat):Int):=by grind [wrap64]
 have c:=eR st
 unfold I0 y9
 grind [List.length,beq_eq_false_iff_ne,eS,fp,List.length_cons,List.length_nil,eR,anW]
def uH (m:Nat) (c:cx) (d:Nat):Nat:=if m=83 then max d c.2.1.length else d
theorem step_pos {n m:Nat} {c a:cx} (b:1<=c.1) (e:eC n m c=some a):1<=a.1:=by
 grind [eC]
theorem anY {a b:ByteArray} (h:a.data.toList=b.data.toList):a=b:=by
 cases a<;>simp_all
theorem anZ (l:List Int): ∀(r:ByteArray),(l.foldl (fun r n=>r.push (UInt8.ofNat n.toNat)) r).data.toList=r.data.toList++l.map (fun n=>UInt8.ofNat n.toNat):=by
 induction l<;>simp_all
theorem an0 (l:List Int):(bytesOf l).data.toList=l.map (fun n=>UInt8.ofNat n.toNat):=by
 simp_all [bytesOf,anZ,hz]
theorem aa6 (mv:ByteArray):bytesOf ((ao mv).map fun(m:Nat)=>(m:Int))=mv:=by
 refine anY ?_
 rw[an0]
 unfold ao
 rw[g4,g4]
 refine(op (fun b _=> ?_)).trans (List.map_id _)
 simp
theorem an1 {p q:Nat->Bool} {n:Nat} (h:bs p n=bs q n) {i:Nat} (hi:i<n):p i=q i:=by
 have a:=hQ p n i
 grind [hQ]
theorem Bz {h:List Int} {w c:Nat} (a:1<=c) (b:h[c-1]? =some ((hd h c:Nat):Int)):di h (w:Int) (c-1)=decide (hd h c=w):=by
 grind [di,hd,decide_eq_false,beq_eq_false_iff_ne]
theorem an2 {d:List Int} (T:Tree d) {i:Nat} {st:List Nat} {h:List Int} (j:ho d (i,st,h)) {w:Nat} (x:1<=w):bs (di d (w:Int)) d.length=bs (di h (w:Int)) d.length↔dq d i st w:=by
 have g:=j.o.base
 have v:h.length=d.length:=g.len
 have zero: ∀c,1<=c->c<=d.length->gO i st c->hd h c=0:=fun c f l u=>by
  rcases u with u|u
  ·exact(g.aU c u).2.2
  ·exact j.dr c u l
 constructor
 ·intro e c f l u s
  have a:=an1 e (i:=c-1) (by omega)
  rw[Bz f (T.get f l),Bz f (g.get f (by omega))] at a
  grind
 ·intro m
  refine KC fun k t=> ?_
  have a:=Bz (h:=d) (w:=w) (c:=k+1) (by omega) (T.get (by omega) (by omega))
  have b:=Bz (h:=h) (w:=w) (c:=k+1) (by omega) (g.get (by omega) (by omega))
  rw[e9] at a b
  rw[a,b]
  by_cases u:gO i st (k+1)
  ·rw[cy (m (k+1) (by omega) (by omega) u),zero (k+1) (by omega) (by omega) u,cy (by omega)]
  ·have q:k+1∉st:=fun z=>u (.inl z)
   have r:k+1<i:=Nat.lt_of_not_le fun z=>u (.inr z)
   rw[j.o.agree (k+1) (by omega) r q]
open Classical in
theorem aa7 {a:List Int} (T:Tree a) {i:Nat} {st:List Nat} {h:List Int} (b:ho a (i,st,h)) {w g:Nat} {r d:Int} {s:List Int} (f:1<=w) (t:w<=a.length):
  s4 (w:Int) (g:Int) a r d h s=some (decide (hd a w=g/\dq a i st w)):=by
 have k:=b.o.base
 have m:h.length=a.length:=k.len
 have le:=T.le
 have q:idx a (wrap .i64 ((w:Int)-1))=some ((hd a w:Nat):Int):=by
  rw[wrap64 (by omega) (by omega)]
  have:=T.get f t
  unfold idx
  rw[aA (by omega),show((w:Int)-1).toNat=w-1 by omega]
  exact this
 have l:=tW a (w:Int) le
 have c:=tW h (w:Int) (by omega)
 rw[m] at c
 unfold s4 y7
 rw[q,l,c]
 simp only[ac]
 by_cases e:hd a w=g
 ·rw[show(((hd a w:Nat):Int)==(g:Int))=true from cb.mpr (by omega)]
  have u:=an2 T b f
  by_cases j:dq a i st w
  ·simp_all
  ·rw[cy (fun z=>j z.2)]
   simp only[aw]
   congr 1
   grind
 grind
open Classical in
theorem an3 {c:List Int} (T:Tree c) {i:Nat} {st:List Nat} {h:List Int} (f:ho c (i,st,h)) {r d:Int}:
  IZ r d c h (aF st)=some ((cw c i st:Nat):Int):=by
 have e:=f.o.base
 have hi:i<=c.length+1:=e.hi
 have le:=T.le
 obtain⟨q,u,g,_⟩:=e.kI
 simp only at g
 unfold IZ y8
 match st,f,e,g with
 |[],f,e,g=>
  rw[aa4 (by simp)]
  rfl
 |[s],f,e,g=>
  rw[aa4 (by simp)]
  rfl
 |s::t::j,f,e,g=>
  have k:=e.aU s (bl ..)
  have l:=e.aU t (bA _ (bl ..))
  simp only at k l
  have m:j.length<=20:=by grind
  rw[Mf m]
  simp only[ac,aw]
  rw[aa7 T f l.1 (by omega),aa7 T f k.1 (by omega)]
  simp only[ac]
  unfold cw
  simp only
  by_cases a:hd c t=s/\dq c i (s::t::j) t
  ·simp_all
  ·rw[cy a,aG a]
   by_cases b:hd c s=t/\dq c i (s::t::j) s
   all_goals grind
theorem an4 {b:List Int} (T:Tree b) {k z:Nat} {p d:Nat} {st:List Nat} {h:List Int} {c:cx} (f:ho b (p+1,st,h)) (e:eC b.length (cw b (p+1) st) (p+1,st,h)=some c) (r:k<z) (A:z<=100) {ms:List Int} (x:ms.length<=100):
  pJ (z:Int) (k:Int) (p:Int) (d:Int) ms h (aF st) b=some (Sum.inl (((k+1:Nat):Int),((c.1-1:Nat):Int),((uH (cw b (p+1) st) c d:Nat):Int),ms++ [((cw b (p+1) st:Nat):Int)],c.2.2,aF c.2.1)):=by
 have a:=f.o.base
 have u:h.length=b.length:=a.len
 have hi:p+1<=b.length+1:=a.hi
 have le:=T.le
 obtain⟨q,B,g,_⟩:=a.kI
 simp only at g
 have w:wrap .i64 ((k:Int)+1)=((k+1:Nat):Int):=by grind [wrap64]
 have y: ∀v:Int,room (ms.length+ [v].length)=some ():=fun v=>fp (by grind)
 unfold pJ
 rw[an (show(k:Int)<(z:Int) by omega),an3 T f,w]
 simp only[aw,ac]
 rcases Z2 b (p+1) st with m|m|m
 ·grind [List.length,eC,anX,uH]
 ·rw[m] at e⊢
  match st,f,a,g,e with
  |[],f,a,g,e=>simp[eC] at e
  |[s],f,a,g,e=>simp[eC] at e
  |s::t::i,f,a,g,e=>
   have j:=a.aU s (bl ..)
   have l:=a.aU t (bA _ (bl ..))
   grind [List.length_cons,eC,List.length,List.set,anU,uH]
 ·rw[m] at e⊢
  match st,f,a,g,e with
  |[],f,a,g,e=>simp[eC] at e
  |[s],f,a,g,e=>simp[eC] at e
  |s::t::i,f,a,g,e=>
   have j:=a.aU s (bl ..)
   have l:=a.aU t (bA _ (bl ..))
   grind [List.length_cons,eC,List.length,List.set,anV,uH]
theorem aa8 {a:List Int} (T:Tree a) (F:dp a) {z:Nat} (x:z<=100): ∀(r k p d:Nat) (st:List Nat) (h:List Int) (ms:List Int) (N:Nat),k+r=z->ms.length=k->ho a (p+1,st,h)->2*(p+1)+r=2*a.length+1+st.length->r<N-> ∀{i:List Nat} {c:cx},hn a r (p+1,st,h)=some (i,c)->
  ai (fun(s:Int×Int×Int×(List Int)×(List Int)×(List Int))=>((pJ (z:Int) s.1 s.2.1 s.2.2.1 s.2.2.2.1 s.2.2.2.2.1 s.2.2.2.2.2 a).map (Sum.elim (fun(t:Int×Int×Int×(List Int)×(List Int)×(List Int))=>Sum.inl (t.1,t.2.1,t.2.2.1,t.2.2.2.1,t.2.2.2.2.1,t.2.2.2.2.2)) (fun(t:(List Int))=>Sum.inr t)):Option ((Int×Int×Int×(List Int)×(List Int)×(List Int))⊕(((List Int)))))) N ((k:Int),(p:Int),(d:Int),ms,h,aF st)
   =some (ms++i.map fun(m:Nat)=>(m:Int))
 |0,k,p,d,st,h,ms,N,e,v,o,b,G,i,c,g=>by
  obtain⟨N,rfl⟩: ∃l,N=l+1:=⟨N-1,by omega⟩
  grind [hn,Option.some.injEq,Prod.mk.injEq,ai,pJ,decide_eq_false]
 |r+1,k,p,d,st,h,ms,N,e,v,o,b,G,i,c,g=>by
  obtain⟨N,rfl⟩: ∃l,N=l+1:=⟨N-1,by omega⟩
  have J: ¬((p+1,st,h).1=a.length+1/\(p+1,st,h).2.1.length=1):=by
   grind
  obtain⟨A,f,y,q⟩:=KO T F o J
  unfold hn at g
  rw[f,ac] at g
  obtain⟨L,B,C⟩:=co.mp g
  injection C with D E
  subst D E
  simp only at f q
  have H:=step_pos (by omega) f
  have I:=an4 (d:=d) (k:=k) (z:=z) T o f (by omega) x (ms:=ms) (by omega)
  unfold ai
  simp only
  rw[I]
  obtain⟨u,w,h'⟩:=A
  simp only at H q
  obtain⟨j,rfl⟩: ∃j,u=j+1:=⟨u-1,by omega⟩
  have K:=aa8 T F x r (k+1) j (uH (cw a (p+1) st) (j+1,w,h') d) w h' (ms++ [((cw a (p+1) st:Nat):Int)]) N (by omega) (by simp[v]) y (by omega) (by omega) B
  simp_all
theorem an5 (h:List Int) (r:h.length<=1048576):ze h=jp h:=by
 have e:ze h=zd h:=by unfold ze;rfl
 rw[e]
 unfold zd I3
 rw[AF]
 cases f:dj h with
 |false=>
  grind [LK]
 |true=>
  have g:Tree h/\dp h:=by
   grind [dj,bK,p7]
  obtain⟨T,F⟩:=g
  obtain⟨mv,ms,o,i,q⟩:=LJ T F
  have s:=T.pos
  have le:=T.le
  have k:s3 ((h.length:Nat):Int)=some (replicate h.length 0):=by
   grind [s3,s2,hg]
  have j:IX=some ():=by unfold IX;rfl
  have l: ∀a b c d,IY a b c d=some ():=fun a b c d=>by unfold IY y6;rfl
  have z:wrap .i64 (wrap .i64 (2*((h.length:Nat):Int))-1)=((2*h.length-1:Nat):Int):=by grind [wrap64,List.length]
  have m:=aa8 T F (z:=2*h.length-1) (by omega) (2*h.length-1) 0 0 0 [] (replicate h.length 0) [] LL (by omega) rfl ⟨gg.start h T,(iQ.start h.length).dr⟩ (by grind) (by grind [LL]) i
  rw[show((0:Nat):Int)=0 from rfl,show aF []=([]:List Int) from rfl] at m
  simp only[ac,bo,au,k,j,l,Sum.elim_inl]
  unfold Vw Vv I4 Vu Vt
  grind [I5,aa6]
def eu:List Bool->Nat
 |[]=>0
 |b::l=>(if b then 1 else 0)+2*eu l
def dZ (h:List Int):List Bool:=h.map fun x=>x !=0
def aa9 (a:List Bool) (k:Nat):Bool:=
 match ku ((k+1:Nat):Int) with
 |some v=>Jd ((eu a:Nat):Int) v==some (a.getD k false)&&je .u64 ((eu a:Nat):Int) v==((eu (a.set k true):Nat):Int)
 |none=>false
theorem an6:((range 9).all fun n=>(uF n).all fun a=>(range n).all fun k=>aa9 a k)=true:=by decide+kernel
theorem aba (a:List Bool) (h:a.length<=8) {k:Nat} (e:k<a.length): ∃v,ku ((k+1:Nat):Int)=some v/\Jd ((eu a:Nat):Int) v=some (a.getD k false)/\je .u64 ((eu a:Nat):Int) v=((eu (a.set k true):Nat):Int):=by
 have b:=an6
 rw[bQ] at b
 have c:=b a.length (fh.2 (by omega))
 rw[bQ] at c
 have d:=c a (aaL a)
 rw[bQ] at d
 have f:=d k (fh.2 e)
 grind [aa9]
theorem abb (h:List Int):(dZ h).length=h.length:=by simp[dZ]
theorem an7 (h:List Int) (k:Nat) {g:Nat} (a:1<=g):dZ (h.set k (g:Int))=(dZ h).set k true:=by
 unfold dZ
 rw[vh,show((g:Int) !=0)=true from k8.2 (by omega)]
theorem an8 {h:List Int} (p: ∀x∈h,0<=x) {w:Nat} (a:1<=w) (b:w<=h.length):(dZ h).getD (w-1) false=decide (hd h w≠0):=by
 have lt:w-1<h.length:=by omega
 have:=p _ (dc lt)
 grind [dZ,hd,List.getElem?_eq_getElem,decide_eq_true]
structure NS (c:cx) (o l:Nat) (b:Int) (ar:List Int):Prop where
 len:l=c.2.1.length
 fit:o+l<=ar.length
 win:(ar.drop o).take l=aF c.2.1
 bits:b=((eu (dZ c.2.2):Nat):Int)
theorem NS.top {i s o l:Nat} {a:List Nat} {b:Int} {h ar:List Int} (c:NS (i,s::a,h) o l b ar):ar[o+a.length]? =some (s:Int):=by
 have w:=c.win
 have d:l=a.length+1:=c.len
 have e:((ar.drop o).take l)[a.length]? =ar[o+a.length]? :=by
  grind
 grind [eR,eS]
theorem NS.pop {i s o l:Nat} {c:List Nat} {b d:Int} {h h' ar:List Int} (a:NS (i,s::c,h) o l b ar) (e:d=((eu (dZ h'):Nat):Int)):NS (i,c,h') o (l-1) d ar:=by
 have w:=a.win
 have f:=a.fit
 have g:l=c.length+1:=a.len
 refine⟨by simp_all,by omega,?_,e⟩
 grind [List.drop,Nat.min_eq_left,eR,eS,aF,List.take_left]
theorem NS.full {i:Nat} {st:List Nat} {b:Int} {h:List Int} (a:b=((eu (dZ h):Nat):Int)):NS (i,st,h) 0 st.length b (aF st):=by
 have l:=eR st
 exact⟨rfl,by omega,by grind,a⟩
theorem Mg {p o l:Nat} {d b:Int} {st:List Nat} {h ar:List Int} (a:NS (p+1,st,h) o l b ar) (i:h.length<=8) (m:p<=h.length) (f:st.length<=20):
  pK o l (p:Int) d b h ar=some (match st with|[]=>(0,0,false)|s::_=>if p+1<=h.length then((s:Int),((p+1:Nat):Int),true) else(0,0,false)):=by
 have e:pK o l (p:Int) d b h ar=s8 o l (p:Int) h ar:=by unfold pK;rfl
 rw[e]
 unfold s8
 match st,a,f with
 |[],a,f=>
  have j:l=0:=a.len
  simp_all
 |s::g,a,f=>
  have k:l=g.length+1:=a.len
  have q:=a.top
  simp only[cB] at f
  rw[show(((l:Nat):Int)==0)=false from dg.2 (by omega)]
  by_cases c:p+1<=h.length
  ·have i1:ap (wrap .i64 (((l:Nat):Int)-1)) l=some g.length:=by
    grind [wrap64,ap]
   grind [wrap,wrap64,List.length,beq_eq_false_iff_ne]
  grind
theorem abc {o l:Nat} {a d b:Int} {h ar:List Int} (g:b=((eu (dZ h):Nat):Int)) (i:h.length<=8) (p: ∀x∈h,0<=x) {w:Nat} (m:1<=w) (q:w<=h.length):
  tf (w:Int) o l a d b h ar=some (decide (hd h w≠0)):=by
 have e:tf (w:Int) o l a d b h ar=te (w:Int) b:=by unfold tf;rfl
 have j:=abb h
 obtain⟨v,c,f,_⟩:=aba (dZ h) (by omega) (k:=w-1) (by omega)
 grind [te,an8]
theorem abd {o l:Nat} {a d b:Int} {h ar:List Int} (j:b=((eu (dZ h):Nat):Int)) (m:h.length<=8) {w g:Nat} (r:1<=w) (s:w<=h.length) (c:1<=g):
  pM (w:Int) (g:Int) o l a d b h ar=some (((eu (dZ (h.set (w-1) (g:Int))):Nat):Int),h.set (w-1) (g:Int)):=by
 have e:pM (w:Int) (g:Int) o l a d b h ar=(tg (w:Int) (g:Int) b h).map (fun(t:Int×(List Int))=>(t.1,t.2)):=by unfold pM;rfl
 have q:=abb h
 obtain⟨v,f,_,i⟩:=aba (dZ h) (by omega) (k:=w-1) (by omega)
 grind [ap,wrap,List.length,wrap64,tg,an7]
theorem abe {o l:Nat} {a d b:Int} {h ar:List Int} (c:1<=l) (e:l<=100):th o l a d b h ar=some (o,l-1):=by
 grind [th,zm,inc,wrap,wrap64]
theorem an9 {p o l:Nat} {d b:Int} {st:List Nat} {h ar:List Int} (w:(ar.drop o).take l=aF st) (c:l=st.length) (a:h.length<=8) (g:st.length<=20):
  pL o l (p:Int) d b h ar=some (if p=h.length then(false,o,l,(p:Int),d,ar) else(true,0,st.length+1,((wrap .i64 ((p:Int)+1)):Int),imax d ((st.length+1:Nat):Int),aF st++ [wrap .i64 ((p:Int)+1)])):=by
 have e:pL o l (p:Int) d b h ar=td o l (p:Int) d h ar:=by unfold pL;rfl
 have f:=eR st
 grind [td,List.length,aF,beq_eq_false_iff_ne,fp,List.length_cons,List.length_nil]
theorem abf {p o l:Nat} {d b:Int} {st:List Nat} {h ar:List Int} (w:(ar.drop o).take l=aF st) (e:l=st.length) (c:h.length<=8) (g:st.length<=20) (f:p<h.length):
  ∃a,pL o l (p:Int) d b h ar=some (true,0,((p+1)::st).length,((p+1:Nat):Int),a,aF ((p+1)::st)):=by
 have i:wrap .i64 ((p:Int)+1)=((p+1:Nat):Int):=by grind [wrap64]
 refine⟨imax d ((st.length+1:Nat):Int),?_⟩
 grind [an9,eS]
theorem aoa {n p o l:Nat} {d b:Int} {st:List Nat} {h ar:List Int} (g:NS (p+1,st,h) o l b ar) (f:cA n (p+1,st,h)) (A:n<=8):
  match bM n 76 (p+1,st,h) with
  |some c=> ∃k,nx o l (p:Int) d b h ar=some (true,o,l-1,k,c.2.2)/\NS c o (l-1) k ar/\c.1=p+1
  |none=>nx o l (p:Int) d b h ar=some (false,o,l,b,h):=by
 have w:h.length=n:=f.len
 have hi:p+1<=n+1:=f.hi
 have u: ∀x∈h,0<=x/\x<=(n:Int):=f.num
 have q:=mq f.dec f.aU f.i1
 simp only at q
 have up:=Mg (d:=d) g (by omega) (by omega) (by omega)
 cases st with
 |nil=>
  grind [bM,nx,nw]
 |cons s i=>
  have j:=f.aU s (bl ..)
  simp only at j
  have m:b=((eu (dZ h):Nat):Int):=g.bits
  have y:l=i.length+1:=g.len
  simp only[cB] at q
  by_cases le:p+1<=n
  ·simp only at up
   rw[aA (by omega)] at up
   have r:=abc (o:=o) (l:=l) (a:=(p:Int)) (d:=d) (ar:=ar) m (by omega) (fun x t=>(u x t).1) j.1 (show s<=h.length by omega)
   by_cases z:hd h s=0
   ·have e:bM n 76 (p+1,s::i,h)=some (p+1,i,h.set (s-1) ((p+1:Nat):Int)):=by simp[bM,le,z]
    rw[e]
    simp only
    refine⟨_,?_,g.pop rfl,trivial⟩
    unfold nx nw
    rw[up]
    simp only[ac,bo,au,r]
    rw[cy (fun v=>v z),abd m (by omega) j.1 (show s<=h.length by omega) (by omega)]
    grind [abe]
   grind [bM,nx,nw,Bool.not_true,decide_eq_true]
  grind [bM,nx,nw]
theorem aob {n p o l:Nat} {d b:Int} {st:List Nat} {h ar:List Int} (j:NS (p+1,st,h) o l b ar) (f:cA n (p+1,st,h)) (A:n<=8):
  match bM n 82 (p+1,st,h) with
  |some c=> ∃t r k q m,pO o l (p:Int) d b h ar=some (true,t,r,((c.1-1:Nat):Int),k,q,c.2.2,m)/\NS c t r q m
  |none=>pO o l (p:Int) d b h ar=some (false,o,l,(p:Int),d,b,h,ar):=by
 have z:h.length=n:=f.len
 have hi:p+1<=n+1:=f.hi
 have v:=mq f.dec f.aU f.i1
 simp only at v
 have up:=Mg (d:=d) j (by omega) (by omega) (by omega)
 cases st with
 |nil=>
  grind [bM,pO,pN]
 |cons s i=>
  have u:=f.aU s (bl ..)
  simp only at u
  have x:b=((eu (dZ h):Nat):Int):=j.bits
  have y:l=i.length+1:=j.len
  have w:(ar.drop o).take l=aF (s::i):=j.win
  simp only[cB] at v
  by_cases le:p+1<=n
  ·simp only at up
   rw[aA (by omega)] at up
   have e:bM n 82 (p+1,s::i,h)=some (p+1+1,(p+1)::s::i,h.set (p+1-1) (s:Int)):=by simp[bM,le]
   have g:=abd (o:=o) (l:=l) (a:=(p:Int)) (d:=d) (ar:=ar) x (by omega) (show 1<=p+1 by omega) (show p+1<=h.length by omega) u.1
   obtain⟨k,B⟩:=abf (p:=p) (d:=d) (b:=((eu (dZ (h.set (p+1-1) (s:Int))):Nat):Int)) (h:=h.set (p+1-1) (s:Int)) w y (by simp_all) (by grind) (by grind)
   rw[e]
   simp only
   refine⟨0,((p+1)::s::i).length,k,_,aF ((p+1)::s::i),?_,NS.full rfl⟩
   grind [pO,pN,Bool.not_true]
  grind [bM,pO,pN]
theorem aoc {n p o l:Nat} {d b:Int} {st:List Nat} {h ar:List Int} (f:NS (p+1,st,h) o l b ar) (e:cA n (p+1,st,h)) (w:n<=8):
  match bM n 68 (p+1,st,h) with
  |some c=>pP o l (p:Int) d b h ar=some (true,o,l-1)/\NS c o (l-1) b ar/\c.1=p+1/\c.2.2=h
  |none=>pP o l (p:Int) d b h ar=some (false,o,l):=by
 have r:h.length=n:=e.len
 have hi:p+1<=n+1:=e.hi
 have q: ∀x∈h,0<=x/\x<=(n:Int):=e.num
 have j:=mq e.dec e.aU e.i1
 simp only at j
 cases st with
 |nil=>
  have u:l=0:=f.len
  grind [bM,pP,tj]
 |cons s g=>
  have i:=e.aU s (bl ..)
  simp only at i
  have k:b=((eu (dZ h):Nat):Int):=f.bits
  have v:l=g.length+1:=f.len
  simp only[cB] at j
  have t:=abc (o:=o) (l:=l) (a:=(p:Int)) (d:=d) (ar:=ar) k (by omega) (fun x m=>(q x m).1) i.1 (show s<=h.length by omega)
  have i1:ap (wrap .i64 (((l:Nat):Int)-1)) l=some g.length:=by
   grind [wrap64,ap]
  have y:pP o l (p:Int) d b h ar=cond (!(decide (hd h s≠0))) (some (false,o,l)) (some (true,o,l-1)):=by
   unfold pP tj
   rw[show(((l:Nat):Int)==0)=false from dg.2 (by omega),i1]
   grind [NS.top,abe]
  grind [hd,bM,NS.pop,decide_eq_true,decide_eq_false]
theorem aod: ∀n,eu (dZ (replicate n 0))=0:=fun n=>by
 induction n<;>grind [dZ,eu]
theorem aoe {n:Nat} (a:n<=8):I6 (n:Int)=some (replicate n 0):=by
 grind [s3,replicate,s2,hg,I6,zg]
theorem aof:I7=some ():=by unfold I7;rfl
theorem abg {b:List Int} (T:Tree b) {i:Nat} {a:List Nat} (i1:1<=i) (hi:i<=b.length) (f: ∀x∈a,1<=x/\x<=b.length) (v:a.length<=8): ∀(r k N:Nat),k+r=a.length->r<N->
  ∃out,ai (fun(s:Int)=>((ta (aF a) ((a.length:Nat):Int) s b (i:Int)).map (Sum.elim (fun(t:Int)=>Sum.inl t) (Sum.elim (fun(t:Int)=>Sum.inr (Sum.inl t)) (fun(t:Unit)=>Sum.inr (Sum.inr t)))):Option ((Int)⊕(Int⊕Unit)))) N (k:Int)=some out/\
   if(a.reverse.drop k).any (hu b i)=true then∃j:Nat,out=Sum.inl (j:Int) else out=Sum.inr ()
 |0,k,N,e,o=>by
  obtain⟨N,rfl⟩: ∃d,N=d+1:=⟨N-1,by omega⟩
  simp_all [ai,ta,cy,List.length,List.drop_eq_nil_of_le]
 |r+1,k,N,e,o=>by
  obtain⟨N,rfl⟩: ∃d,N=d+1:=⟨N-1,by omega⟩
  have B:=abg T i1 hi f v r (k+1) N (by omega) (by omega)
  have q:k<a.reverse.length:=by simp;omega
  have u:a.reverse[k]∈a:=by
   simp_all
  have C:=f _ u
  have A:=T.le
  have z:idx (aF a) (k:Int)=some ((a.reverse[k]:Nat):Int):=by
   grind [idx,Int.toNat_natCast,aF,List.map_reverse,List.getElem?_eq_getElem]
  have w:wrap .i64 ((i:Int)-1)=((i-1:Nat):Int):=by grind [wrap64]
  have y:wrap .i64 (((a.reverse[k]:Nat):Int)-1)=((a.reverse[k]-1:Nat):Int):=by grind [wrap64]
  have D:wrap .i64 ((k:Int)+1)=((k+1:Nat):Int):=by grind [wrap64]
  have l:idx b ((i-1:Nat):Int)=some ((hd b i:Nat):Int):=by
   grind [idx,Int.toNat_natCast,Tree.get]
  have m:idx b ((a.reverse[k]-1:Nat):Int)=some ((hd b a.reverse[k]:Nat):Int):=by
   grind [idx,Int.toNat_natCast,Tree.get]
  have c:zh ((a.reverse[k]:Nat):Int) b (i:Int)=some (hu b i a.reverse[k]):=by
   have e:zh ((a.reverse[k]:Nat):Int) b (i:Int)=s9 ((a.reverse[k]:Nat):Int) b (i:Int):=by unfold zh;rfl
   rw[e]
   unfold s9 hu
   rw[w,y,l,m]
   simp only[ac]
   by_cases g:hd b i=a.reverse[k]
   ·simp_all
   ·rw[show(((hd b i:Nat):Int)==((a.reverse[k]:Nat):Int))=false from dg.2 (by omega),dg.2 g]
    by_cases h:hd b a.reverse[k]=i
    ·simp_all
    ·rw[show(((hd b a.reverse[k]:Nat):Int)==(i:Int))=false from dg.2 (by omega),dg.2 h]
     rfl
  rw[e7 q,List.any_cons]
  grind [ai,ta,decide_eq_true,List.length,hu,List.reverse]
theorem contains_eq {b:List Int} (T:Tree b) {i:Nat} {a:List Nat} (i1:1<=i) (hi:i<=b.length) (h: ∀x∈a,1<=x/\x<=b.length) (k:a.length<=8):Jb (aF a) b (i:Int)=some (a.any (hu b i)):=by
 obtain⟨out,f,c⟩:=abg T i1 hi h k a.length 0 LL (by omega) (by grind [LL])
 rw[fY,List.any_reverse] at c
 rw[show((0:Nat):Int)=0 from rfl] at f
 have g:=eR a
 have e:Ja (aF a) b (i:Int)=zi (aF a) b (i:Int):=by unfold Ja;rfl
 unfold Jb zj
 rw[e]
 unfold zi I8 VB Vz I9 Vy Vx
 simp only[ac,g]
 rw[f]
 by_cases d:a.any (hu b i)=true
 ·rw[aA d] at c
  obtain⟨j,rfl⟩:=c
  simp_all
 ·rw[aG d] at c
  subst c
  rw[k7.mpr d]
  rfl
theorem aog {a:List Int} (T:Tree a) {p o l:Nat} {d b:Int} {st:List Nat} {h ar:List Int} (f:NS (p+1,st,h) o l b ar) (c:cA a.length (p+1,st,h)) (C:p<a.length):
  zl a o l (p:Int) d b h ar=some ((er a (p+1) st:Nat):Int):=by
 have B:=T.le
 have A:h.length=a.length:=c.len
 have i:=mq c.dec c.aU c.i1
 simp only at i
 have up:=Mg (d:=d) f (by omega) (by omega) (by omega)
 have e:zl a o l (p:Int) d b h ar=tc a o l (p:Int) d b h ar:=by unfold zl;rfl
 rw[e]
 unfold tc
 rw[up]
 cases st with
 |nil=>rfl
 |cons s g=>
  have t:=c.aU s (bl ..)
  simp only at t
  have D:l=g.length+1:=f.len
  simp only[cB] at i
  simp only
  rw[aA (by omega)]
  have u:wrap .i64 (((p+1:Nat):Int)-1)=((p:Nat):Int):=by grind [wrap64]
  have v:wrap .i64 ((s:Int)-1)=((s-1:Nat):Int):=by grind [wrap64]
  have k:idx a ((p:Nat):Int)=some ((hd a (p+1):Nat):Int):=by
   have:=T.get (w:=p+1) (by omega) (by omega)
   grind [idx,Int.toNat_natCast]
  have m:idx a ((s-1:Nat):Int)=some ((hd a s:Nat):Int):=by
   grind [idx,Int.toNat_natCast,Tree.get]
  have y:zk a ((p+1:Nat):Int) o l (p:Int) d b h ar=some (g.any (hu a (p+1))):=by
   have e:zk a ((p+1:Nat):Int) o l (p:Int) d b h ar=tb a ((p+1:Nat):Int) o l ar:=by unfold zk;rfl
   have r:inc (wrap .i64 (((l:Nat):Int)-1)) l=some (l-1):=by
    grind [wrap64,inc]
   have w:=(f.pop (h':=h) rfl).win
   simp only at w
   rw[e]
   unfold tb
   rw[r]
   simp only[ac,gV,CC,w]
   rw[contains_eq T (by omega) (by omega) (fun x q=>by have:=c.aU x (bA _ q);omega) (by omega)]
   rfl
  simp only[ac,bo,au,u,v,k,m,y,er]
  by_cases j:hd a s=p+1
  ·simp_all
  ·rw[show(((hd a s:Nat):Int)==((p+1:Nat):Int))=false from dg.2 (by omega),aG j]
   by_cases z:hd a (p+1)=s
   all_goals grind [hd,beq_eq_false_iff_ne,hu]
theorem aoh {a:List Int} (T:Tree a) {p o l:Nat} {d b:Int} {st:List Nat} {h ar ms:List Int} {c:cx} (g:NS (p+1,st,h) o l b ar) (f:cA a.length (p+1,st,h)) (A:p<a.length) (e:bM a.length (er a (p+1) st) (p+1,st,h)=some c) (H:ms.length<=100):
  ∃x w s i r,pQ a o l (p:Int) d b ms h ar=some (Sum.inl (x,w,((c.1-1:Nat):Int),s,i,ms++ [((er a (p+1) st:Nat):Int)],c.2.2,r))/\NS c x w i r:=by
 have t:=T.le
 have G:h.length=a.length:=f.len
 have D:=mq f.dec f.aU f.i1
 simp only at D
 have z:l=st.length:=g.len
 have B:(ar.drop o).take l=aF st:=g.win
 have F:b=((eu (dZ h):Nat):Int):=g.bits
 have k: ∀v:Int,room (ms.length+ [v].length)=some ():=fun v=>fp (by grind)
 unfold pQ
 rw[an (show(p:Int)<((a.length:Nat):Int) by omega),aog T g f A]
 simp only[aw,ac]
 rcases Z5 a (p+1) st with m|m|m|m
 ·rw[m] at e⊢
  have y:bM a.length 83 (p+1,st,h)=some (p+1+1,(p+1)::st,h):=by simp[bM];omega
  obtain⟨s,C⟩:=abf (p:=p) (d:=d) (b:=b) (h:=h) B z (by omega) (by omega) (by omega)
  rw[y] at e
  cases e
  rw[show(((83:Nat):Int)==83)=true from rfl,C]
  simp only[aw,ac,k]
  grind [NS.full]
 ·rw[m] at e⊢
  have u:=aoa (d:=d) g f t
  rw[e] at u
  obtain⟨i,j,q,E⟩:=u
  rw[show(((76:Nat):Int)==83)=false from rfl,show(((76:Nat):Int)==76)=true from rfl,j]
  simp only[aw,au,ac,k]
  refine⟨o,l-1,d,i,ar,?_,q⟩
  grind
 ·rw[m] at e⊢
  have u:=aob (d:=d) g f t
  rw[e] at u
  obtain⟨x,w,s,i,r,j,q⟩:=u
  rw[show(((82:Nat):Int)==83)=false from rfl,show(((82:Nat):Int)==76)=false from rfl,show(((82:Nat):Int)==82)=true from rfl,j]
  simp only[aw,au,ac,k]
  grind
 ·rw[m] at e⊢
  have u:=aoc (d:=d) g f t
  rw[e] at u
  obtain⟨j,q,E,I⟩:=u
  rw[show(((68:Nat):Int)==83)=false from rfl,show(((68:Nat):Int)==76)=false from rfl,show(((68:Nat):Int)==82)=false from rfl,show(((68:Nat):Int)==68)=true from rfl,j]
  simp only[aw,au,ac,k]
  refine⟨o,l-1,d,b,ar,?_,q⟩
  simp_all
theorem abh {a:List Int} (T:Tree a) (F:dp a): ∀(k:Nat) (p o l:Nat) (d b:Int) (st:List Nat) (h ar ms:List Int) (N:Nat),NS (p+1,st,h) o l b ar->EO a (p+1,st,h)->ms.length+k<=100->k<N-> ∀{q:List Nat} {c:cx},hY a k (p+1,st,h)=some (q,c)->
  ai (fun(s:Nat×Nat×Int×Int×Int×(List Int)×(List Int)×(List Int))=>((pQ a s.1 s.2.1 s.2.2.1 s.2.2.2.1 s.2.2.2.2.1 s.2.2.2.2.2.1 s.2.2.2.2.2.2.1 s.2.2.2.2.2.2.2).map (Sum.elim (fun(t:Nat×Nat×Int×Int×Int×(List Int)×(List Int)×(List Int))=>Sum.inl (t.1,t.2.1,t.2.2.1,t.2.2.2.1,t.2.2.2.2.1,t.2.2.2.2.2.1,t.2.2.2.2.2.2.1,t.2.2.2.2.2.2.2)) (fun(t:(List Int))=>Sum.inr t)):Option ((Nat×Nat×Int×Int×Int×(List Int)×(List Int)×(List Int))⊕(((List Int)))))) N (o,l,(p:Int),d,b,ms,h,ar)
   =some (ms++q.map fun(m:Nat)=>(m:Int))
 |k,p,o,l,d,b,st,h,ar,ms,N,x,u,R,O,q,c,g=>by
  obtain⟨N,rfl⟩: ∃w,N=w+1:=⟨N-1,by omega⟩
  have P:=T.le
  by_cases i:p+1<=a.length
  ·cases k with
   |zero=>
    grind [hY]
   |succ k=>
    obtain⟨B,f,v⟩:=ZY T F u i
    unfold hY at g
    rw[aA i,f,ac] at g
    obtain⟨S,D,E⟩:=co.mp g
    injection E with G H
    subst G H
    simp only at f
    obtain⟨J,I,C,A,z,K,y⟩:=aoh (d:=d) (ms:=ms) T x u.e (by omega) f (by omega)
    obtain⟨j,L,h'⟩:=B
    have i1:1<=j:=v.e.i1
    obtain⟨r,rfl⟩: ∃r,j=r+1:=⟨j-1,by omega⟩
    unfold ai
    simp only
    rw[K]
    have Q:=abh T F k r J I C A L h' z (ms++ [((er a (p+1) st:Nat):Int)]) N y v (by simp;omega) (by omega) D
    simp_all
  ·have M:hY a k (p+1,st,h)=some ([],(p+1,st,h)):=by cases k<;>(unfold hY;rw[if_neg i])
   grind [Option.some.injEq,Prod.mk.injEq,ai,pQ,decide_eq_false,List.length]
theorem aoi (h:List Int) (i:h.length<=1048576):zo h=jq h:=by
 have e:zo h=zn h:=by unfold zo;rfl
 rw[e]
 unfold zn Je
 rw[AF]
 cases f:dj h with
 |false=>
  grind [LN]
 |true=>
  have a:Tree h/\dp h:=by
   grind [dj,bK,p7]
  obtain⟨T,F⟩:=a
  obtain⟨mv,ms,st,d,b,g⟩:=LM T F
  have j:=T.pos
  have le:=T.le
  have z:((eu (dZ (replicate h.length 0)):Nat):Int)=0:=by
   rw[aod]
   rfl
  have c:=abh T F (2*h.length) 0 0 0 0 0 [] (replicate h.length 0) [] [] LL ⟨rfl,aS _,rfl,z.symm⟩ (EO.start T) (by grind) (by grind [LL]) b
  rw[show((0:Nat):Int)=0 from rfl] at c
  simp only[ac,bo,au,aoe le,aof,Sum.elim_inl]
  unfold VE VD VC
  grind [List.length_nil,Jf,aa6]
theorem aoj:VT=some (0,1,2,7,30,143,728,1,1,3,12,55,273,1428):=by kernel_rfl
def abi (h:List Int):Option (Int×Int):=zq 0 1 2 7 30 143 728 1 1 3 12 55 273 1428 h (top h:Int)
def kT (h:List Int):Bool:=(abi h).map (fun v=>v.2)==uv h
theorem aok:((range 5).all fun n=>cZ kT (n+1) (n+1) [])=true:=by decide+kernel
theorem aol:cZ kT 6 5 [0]=true:=by decide+kernel
theorem aom:cZ kT 6 5 [2]=true:=by decide+kernel
theorem aon:cZ kT 6 5 [3]=true:=by decide+kernel
theorem aoo:cZ kT 6 5 [4]=true:=by decide+kernel
theorem aop:cZ kT 6 5 [5]=true:=by decide+kernel
theorem aoq:cZ kT 6 5 [6]=true:=by decide+kernel
theorem aor {n:Nat} (a:1<=n) (b:n<=6):cZ kT n n []=true:=by
 by_cases e:n=6
 ·grind [amy,aol,aom,aon,aoo,aop,aoq]
 ·have s:=bQ.mp aok (n-1) (by grind)
  simp_all
theorem aos (h:List Int):Jm h=some (hZ h):=by
 unfold hZ
 unfold Jm zr
 by_cases l:h.length<=6
 ·rw[cy (by omega),AF]
  cases f:dj h with
  |false=>simp
  |true=>
   obtain⟨T,F⟩:=nX.mp f
   obtain⟨k,c,b⟩:=LS T F l
   have:=aan (aor T.pos l) T F rfl
   unfold kT at this
   rw[b,cb] at this
   obtain⟨p,a,d⟩:=co.mp this
   unfold abi at a
   grind [fo,top,bK,aoj,AA,Bool.not_true]
 grind
theorem aot (a b:ByteArray):(a==b)=aE a b:=by
 by_cases e:a=b
 ·subst e
  rw[nL]
  show(a.data==a.data)=true
  simp_all
 ·rw[mb e]
  show(a.data==b.data)=false
  rw[dg]
  intro z
  apply e
  cases a
  simp_all
theorem Mh {sep:Nat}: ∀(l acc:List Nat),bD sep acc l≠ []
 |[],acc,h=>by grind [bD]
 |y::l,acc,h=>by
  rw[bD] at h
  split at h
  ·cases h
  ·exact Mh l _ h
theorem abj {sep:Nat}: ∀{l acc x:List Nat},bD sep acc l=[x]->acc++l=x
 |[],acc,x,h=>by
  grind [bD,List.cons.inj]
 |y::l,acc,x,h=>by
  rw[bD] at h
  split at h
  ·grind [absurd,List.cons.inj,Mh]
  ·have:=abj h
   simp_all
theorem abk {sep:Nat}: ∀{l acc x a:List Nat},bD sep acc l=[x,a]->acc++l=x++sep::a
 |[],acc,x,a,h=>by
  grind [bD]
 |z::l,acc,x,a,h=>by
  rw[bD] at h
  split at h
  ·rename_i e
   obtain⟨c,b⟩:=List.cons.inj h
   have:=abj b
   simp_all
  ·have:=abk h
   simp_all
theorem abl {sep:Nat}: ∀{l acc:List Nat},sep∈l-> ∃a b r,bD sep acc l=a::b::r
 |[],acc,h=>by cases h
 |z::l,acc,h=>by
  rw[bD]
  split
  ·cases c:bD sep [] l<;>grind [bD,absurd,Mh]
  ·rename_i ne
   rcases eh.mp h with e|m
   ·omega
   ·exact abl m
theorem aou {b:Type}: ∀{l:List b},l.length=2-> ∃x a,l=[x,a]
 |[x,a],_=>⟨x,a,rfl⟩
 |[],h=>by cases h
 |[x],h=>by cases h
 |x::a::z::r,h=>by simp at h
def jP:ByteArray:=ByteArray.mk #[121,105,101,108,100,32]
def preB (s:ByteArray):Bool:=decide (6<=s.size)&&aE (s.extract 0 6) jP
def gU (s:ByteArray):ByteArray:=s.extract 6 s.size
theorem abm {s:ByteArray} (h:preB s=true):ao s=[121,105,101,108,100]++32::ao (gU s):=by
 unfold preB at h
 rw[aT,db,qe] at h
 have a:=aR ao h.2
 rw[nM,fY] at a
 have c:ao (gU s)=(ao s).drop 6:=by
  grind [gU,nM,List.take_of_length_le,ec]
 have b:=uL 6 (ao s)
 rw[a,<-c] at b
 exact b.symm
theorem aov {s:ByteArray} {r:List Nat} (h:ao s=[121,105,101,108,100]++32::r):preB s=true:=by
 unfold preB
 have l:=ec s
 rw[h] at l
 rw[aT,db,qe]
 refine⟨by simp at l;omega,ma ?_⟩
 rw[nM,h]
 rfl
theorem aow (s:ByteArray) (k:s.size<=100000000):Bn s=if preB s=true/\gk (gU s)=true then some (cC (ao (gU s)):Int) else none:=by
 obtain⟨out,g,c⟩:=KS s 32 (by omega)
 have h:lC s 32=some out:=g
 unfold Bn
 rw[h]
 by_cases p:preB s=true
 ·have o:=abm p
  have f:bD 32 [] (ao s)=[121,105,101,108,100]::bD 32 [] (ao (gU s)):=by
   grind [AL]
  rw[f] at c
  by_cases m:32∈ao (gU s)
  ·have i: ¬gk (gU s)=true:=fun z=>absurd ((qn.mp z).2.2.2 32 m).1 (by decide)
   rw[aG (fun z=>i z.2)]
   obtain⟨a,b,r,e⟩:=abl (acc:=[]) m
   grind
  ·rw[ua m,hz] at c
   obtain⟨x,d,rfl⟩:=aou (l:=out) (by
    have:=aR List.length c
    grind)
   simp only[dJ,iA,ls,and_true] at c
   have j:x=ByteArray.mk #[121,105,101,108,100]:=ma (by rw[c.1];rfl)
   grind [gU,ma,ec,nL,ani,gk,preB]
 ·rw[aG (fun z=>p z.1)]
  match out,c with
  |[],_=>rfl
  |[x],_=>rfl
  |x::d::z::r,_=>rfl
  |[x,d],c=>
   simp only[dJ,iA] at c
   have:=abk c.symm
   rw[hz] at this
   have ne:x≠ByteArray.mk #[121,105,101,108,100]:=fun e=>by
    subst e
    exact p (aov this)
   grind [mb]
theorem aox (s:ByteArray) (g:s.size<=100000000):tp s jP=some (if preB s=true then(gU s,true) else(s,false)):=by
 have e:tp s jP=to s jP:=by unfold tp;rfl
 have a:Jn s jP=tn s jP:=by unfold Jn;rfl
 have f:zu s jP=tm s jP:=by unfold zu;rfl
 have d:jP.size=6:=rfl
 have b:zu s jP=some (preB s):=by
  grind [tm,preB,ByteArray.size,decide_eq_true,t8,decide_eq_false]
 rw[e]
 unfold to
 rw[a]
 unfold tn
 rw[b,d]
 cases p:preB s with
 |false=>rfl
 |true=>
  have c:6<=s.size:=by
   grind [preB]
  simp only[ac,bo,au]
  rw[t8 (by omega) (by omega)]
  rfl
theorem aoy {h:List Int} (g:Told h) (i:Whole h) (p:List (List Int)) (b:ByteArray) (l:b.size<=100000000):zy h p b=some (if gk b=true then gx (hS h (cC (ao b))) else aaz):=by
 have e:zy h p b=tr h b:=by unfold zy;rfl
 rw[e]
 unfold tr strconv_Atoi ra
 rw[aA (by omega)]
 simp only[ac]
 by_cases d:gk b=true
 ·obtain⟨j,k⟩:=anc d
  rw[anf d,aA d]
  simp only[au]
  rw[cy (by omega),cy (by omega),uD (by omega) (by omega),L2 (by omega),<-j]
  simp only[au,ac,nL,bo,aj4]
  rw[Bt _ (by grind [Yj,cC,ao]) (fun n f=>⟨i.uA _ n f,g.uA _ n f⟩)]
  grind [L4,am8,Told.uA]
 ·rw[aG d]
  cases (eb b).2 with
  |true=>rfl
  |false=>
   simp only[au]
   by_cases a:(eb b).1<0
   ·rw[an a]
    rfl
   ·rw[cy a]
    by_cases c:(eb b).1>999999
    ·rw[an c]
     rfl
    ·rw[cy c,uD (by omega) (by omega)]
     simp only[au,ac]
     have ne:bT (eb b).1≠b:=fun z=>by
      grind [Int.eq_ofNat_of_zero_le,eb,L2,ane]
     rw[mb ne]
     rfl
theorem Mi {l:List Int} (h:l≠ []):gx l=dH l:=by grind [gx]
theorem Mj {l:List Int} (h:1<=l.length):l≠ []:=fun e=>by simp_all
theorem aoz {h:List Int} (t:aB h=true) (B:Told h) (W:Whole h) (p:List (List Int)):Hp h p=some (gx h):=by
 grind [du,Hp,ya,Bt,Whole.Bo,Told.Bo,Mi,Mj]
theorem aoA {h:List Int} (t:aB h=true) (b:Told h) (c:Whole h) (p:List (List Int)):yb h p=some (gx (ht h)):=by
 have d:=du t
 have l:=ZN h
 have e:yb h p=sh h:=by unfold yb;rfl
 rw[e]
 unfold sh
 rw[alT,ac,Bt _ (by omega) (fun n a=>⟨c.Bp n a,b.Bp n a⟩)]
 grind [ht,Mj,mo,Mi]
theorem aoB {h:List Int} (t:aB h=true) (a:Told h) (b:Whole h) (p:List (List Int)):yg h p=some (gx (if aB h=true then dt h else[])):=by
 have d:=du t
 have c:(if aB h=true then dt h else[]).length=h.length:=by grind [kL,bK]
 have e:yg h p=ss h:=by unfold yg;rfl
 grind [ss,Lj,Bt,Whole.order,Told.order,Mi,Mj]
theorem oc {f:Option Int} {x:Int} (c:f=some x) (a:0<=x) (b:x<1000000000):(f.bind fun v=>(strconv_Itoa v).bind fun t=>some t)=some (bT x):=by
 grind [uD]
theorem abn (b:Bool):sW b=some (ux b):=by
 have e:sW b=y0 b:=by unfold sW;rfl
 rw[e]
 cases b<;>rfl
theorem aoC {H:List Int} {k:Nat} {c:cx} {ms:List Nat} {d:cx} (e:hn H (k+1) c=some (ms,d)):ms≠ []:=by
 rw[hn] at e
 obtain⟨_,_,e⟩:=k9.mp e
 obtain⟨_,_,e⟩:=co.mp e
 grind
theorem aoD {a:List Int} {k:Nat} {c:cx} (b:c.1<=a.length) {ms:List Nat} {d:cx} (e:hY a (k+1) c=some (ms,d)):ms≠ []:=by
 rw[hY,aA b] at e
 obtain⟨_,_,e⟩:=k9.mp e
 obtain⟨_,_,e⟩:=co.mp e
 grind
theorem BA {o:Option (ByteArray×Bool)} {t:ByteArray} {b:Bool} (e:o=some (t,b)) (h:if b=true then t≠empty else t=empty):(o.bind fun v=>(lP v.1).bind fun x=>some x)=some (uy o):=by
 rw[e,ac,L4]
 cases b with
 |true=>rw[aA rfl] at h;rw[aG h];rfl
 |false=>
  rw[aG (by decide)] at h
  rw[aA h]
  rfl
theorem aoE {h:List Int} (t:aB h=true) (p:List (List Int)):zf h p=some (uy (jp h)):=by
 have b:=du t
 have e:zf h p=s7 h:=by unfold zf;rfl
 rw[e]
 unfold s7
 rw[an5 h (by omega)]
 cases f:dj h with
 |true=>
  obtain⟨T,F⟩:=nX.mp f
  obtain⟨mv,ms,e,g,a⟩:=LJ T F
  refine BA e ?_
  rw[aA rfl]
  intro z
  subst z
  rw[show 2*h.length-1=(2*h.length-2)+1 by omega] at g
  exact aoC g (by rw[<-a];rfl)
 |false=>
  grind [BA,LK]
theorem eager_eq {h:List Int} (t:aB h=true) (p:List (List Int)):zp h p=some (uy (jq h)):=by
 have b:=du t
 have e:zp h p=tk h:=by unfold zp;rfl
 rw[e]
 unfold tk
 rw[aoi h (by omega)]
 cases f:dj h with
 |true=>
  obtain⟨T,F⟩:=nX.mp f
  obtain⟨mv,ms,st,e,g,a⟩:=LM T F
  refine BA e ?_
  rw[aA rfl]
  intro z
  subst z
  rw[show 2*h.length=(2*h.length-1)+1 by omega] at g
  exact aoD (by omega) g (by rw[<-a];rfl)
 |false=>
  grind [BA,LN]
theorem aoF {h:List Int} (B:Told h) (p:List (List Int)):zt h p=some (if hZ h<0 then ql else bT (hZ h)):=by
 have e:zt h p=tl h:=by unfold zt;rfl
 rw[e]
 unfold tl
 grind [aos,hZ,decide_eq_true,L4,decide_eq_false,uD,Told.place]
theorem aoG {h:List Int} (t:aB h=true) (B:Told h) (W:Whole h) (p:List (List Int)):HL h p=some (bT (fo h)):=by
 grind [HL,yh,oc,AA,Whole.root,Told.root]
theorem aoH {h:List Int} (t:aB h=true) (B:Told h) (W:Whole h) (p:List (List Int)):HX h p=some (bT (jE h)):=by
 grind [HX,yr,oc,ajE,Whole.Bq,Told.Bq]
theorem aoI {h:List Int} (t:aB h=true) (B:Told h) (W:Whole h) (p:List (List Int)):H8 h p=some (bT (jL h)):=by
 grind [H8,yv,oc,anp,Whole.Br,Told.Br]
theorem aoJ {h:List Int} (t:aB h=true) (B:Told h) (W:Whole h) (p:List (List Int)):Il h p=some (bT (if aB h=true then(bZ (dt h):Int) else-1)):=by
 grind [Il,yG,oc,alz,Whole.Bs,Told.Bs]
theorem aoK {h:List Int} (t:aB h=true) (B:Told h) (W:Whole h) (p:List (List Int)):Iq h p=some (bT (jI h)):=by
 grind [Iq,yJ,oc,anC,Whole.len,Told.len]
theorem aoL {h:List Int} (t:aB h=true) (B:Told h) (W:Whole h) (p:List (List Int)):ID h p=some (bT (jN h)):=by
 grind [ID,yT,oc,anN,Whole.least,Told.least]
theorem aoM {h:List Int} (t:aB h=true) (B:Told h) (W:Whole h) (p:List (List Int)):IJ h p=some (bT (jJ h)):=by
 grind [IJ,yY,oc,anT,Whole.apart,Told.apart]
theorem aoN (h:List Int) (p:List (List Int)):IQ h p=some (ux (dj h)):=by
 grind [IQ,y1,AF,abn]
theorem aoO (h:List Int) (p:List (List Int)):IW h p=some (ux (nV h)):=by
 grind [IW,y5,anv,abn]
theorem aoP {h:List Int} (t:aB h=true) (p:List (List Int)) (s:ByteArray) (a:s.size<=100000000):zz h p s=some ((Bm h s).getD (uz h s)):=by
 have g:=aaA t
 have i:=am5 t
 have e:zz h p s=ts h p s:=by unfold zz;rfl
 rw[e]
 have f:Hl=some ():=by unfold Hl;rfl
 unfold ts Bm
 rw[f,ac]
 simp only[aot]
 cases aE s (ByteArray.mk #[104,101,97,100,115]) with
 |true=>grind [aoz]
 |false=>
 simp only[au]
 cases aE s (ByteArray.mk #[100,101,112,116,104,115]) with
 |true=>grind [aoA]
 |false=>
 simp only[au]
 cases aE s (ByteArray.mk #[111,114,100,101,114]) with
 |true=>grind [aoB]
 |false=>
 simp only[au]
 cases aE s (ByteArray.mk #[114,111,111,116]) with
 |true=>grind [aoG]
 |false=>
 simp only[au]
 cases aE s (ByteArray.mk #[99,114,111,115,115,105,110,103,115]) with
 |true=>grind [aoH]
 |false=>
 simp only[au]
 cases aE s (ByteArray.mk #[103,97,112,115]) with
 |true=>grind [aoI]
 |false=>
 simp only[au]
 cases aE s (ByteArray.mk #[101,120,99,104,97,110,103,101,115]) with
 |true=>grind [aoJ]
 |false=>
 simp only[au]
 cases aE s (ByteArray.mk #[108,101,110,103,116,104]) with
 |true=>grind [aoK]
 |false=>
 simp only[au]
 cases aE s (ByteArray.mk #[108,101,97,115,116]) with
 |true=>grind [aoL]
 |false=>
 simp only[au]
 cases aE s (ByteArray.mk #[97,112,97,114,116]) with
 |true=>grind [aoM]
 |false=>
 simp only[au]
 cases aE s (ByteArray.mk #[112,114,111,106,101,99,116,105,118,101]) with
 |true=>grind [aoN]
 |false=>
 simp only[au]
 cases aE s (ByteArray.mk #[110,101,115,116,101,100]) with
 |true=>grind [aoO]
 |false=>
 simp only[au]
 cases aE s (ByteArray.mk #[109,111,118,101,115]) with
 |true=>grind [aoE]
 |false=>
 simp only[au]
 cases aE s (ByteArray.mk #[101,97,103,101,114]) with
 |true=>grind [eager_eq]
 |false=>
 simp only[au]
 cases aE s (ByteArray.mk #[112,108,97,99,101]) with
 |true=>grind [aoF]
 |false=>
 simp only[au]
 have c:=aox s a
 have d:tp s (ByteArray.mk #[121,105,101,108,100,32])=_:=c
 rw[d,ac,Option.getD_none]
 unfold uz
 rw[aow s a]
 by_cases b:preB s=true
 ·have sz:(gU s).size<=100000000:=by
   have:=ec s
   grind [abm,ec,gU]
  grind [aoy,gk,gU,preB]
 ·rw[aG b,aG (show¬(preB s=true/\gk (gU s)=true) from fun z=>b z.1)]
  rfl
theorem aoQ (d:gS) (s:ByteArray) (b:s.size<=100000000):tD d.1 d.2 s=some (my d s):=by
 have e:tD d.1 d.2 s=tC d.1 d.2 s:=by unfold tD;rfl
 rw[e]
 unfold tC my
 rw[ZC,ac]
 cases o:dV d with
 |false=>rfl
 |true=>
  obtain⟨t,g,c⟩:=kO o
  have f:=du t
  have pl:=uh d.2 c
  rw[aA rfl,anl s b]
  simp only[bo,au,ac]
  cases r:(cD s).1 with
  |true=>
   have a:=alH d.1 d.2 ((cD s).2.1,(cD s).2.2.1,(cD s).2.2.2,())
   simp only at a
   simp only[bo,au,a,ac,cN]
   cases (fq d ((cD s).2.1,(cD s).2.2.1,(cD s).2.2.2,())).1<;>rfl
  |false=>
   grind [Bool.not_false,Bool.false_eq_true,mn,du,aoP]
section
variable {n : List Int} {p : List (List Int)} (sz : n.length + cY p <= 1048576)
include sz
theorem abo:zW 1 n p=some (((1+n.length+cK p:Nat):Int),marks 1 n.length,eV (1+n.length) p p.length):=by
 unfold zW zV
 have h:=Zm 1 n (by omega) (by omega)
 have h':tG 1 n=some (((1+n.length:Nat):Int),marks 1 n.length):=h
 have:cK p<=cY p:=by unfold cY;omega
 rw[h',ac,alf (by omega) (1+n.length) (by omega)]
 rfl
theorem aoR:z6 (marks 1 n.length) (eV (1+n.length) p p.length) 1=some ((1+n.length+cK p:Nat):Int):=by
 unfold z6 z1
 grind [Zn,List.length,tI,marks,decide_eq_false,alg,cY]
end
abbrev l0:=List ByteArray×gS
noncomputable def o3 (a:l0) (s:ByteArray):l0:=(a.1++ [(my a.2 s).1],(my a.2 s).2)
noncomputable def e1 (d:gS) (l:List ByteArray):l0:=l.foldl o3 ([],d)
noncomputable def fs (d:gS) (l:List ByteArray):l0:=if dV d=true/\l.length<=40 then e1 d l else([],[],[])
theorem o4 (d:gS) (l:List ByteArray) (s:ByteArray):e1 d (l++ [s])=o3 (e1 d l) s:=by grind [e1]
theorem apV {d:gS} (s:ByteArray) (o:dV d=true):dV (my d s).2=true:=by
 grind [my,cD,ak8]
theorem o5 {d:gS} (o:dV d=true): ∀(n:Nat) (l:List ByteArray),l.length=n->dV (e1 d l).2=true/\(e1 d l).1.length=l.length:=by
 intro n
 induction n with
 |zero=>
  intro l b
  rw[apC.mp b]
  exact⟨o,rfl⟩
 |succ n g=>
  intro l b
  have ne:l≠ []:=fun e=>by simp_all
  have a:=o2 ne
  generalize i:l.dropLast=m at a
  generalize l.getLast ne=x at a
  have f:m.length=n:=by grind
  obtain⟨c,h⟩:=g m f
  rw[<-a,o4]
  exact⟨apV x c,by show((e1 d m).1++_).length=_;simp_all⟩
abbrev apF (a:List ByteArray):Int×List ByteArray×List Int×List (List Int)->Option ((Int×List ByteArray×List Int×List (List Int))⊕(List ByteArray×List Int×List (List Int))):=
 fun(s:Int×(List ByteArray)×(List Int)×(List (List Int)))=>((g8 a s.1 s.2.1 s.2.2.1 s.2.2.2).map (Sum.elim (fun(t:Int×(List ByteArray)×(List Int)×(List (List Int)))=>Sum.inl (t.1,t.2.1,t.2.2.1,t.2.2.2)) (fun(t:(List ByteArray)×(List Int)×(List (List Int)))=>Sum.inr t)):Option ((Int×(List ByteArray)×(List Int)×(List (List Int)))⊕(((List ByteArray)×(List Int)×(List (List Int))))))
theorem apW (d:gS) (a:List ByteArray) (j:a.length<=1048576) (h: ∀s∈a,s.size<=1048576) (l:d.2.length<=1048576):j4 d.1 d.2 a=some (fs d a):=by
 have e:j4 d.1 d.2 a=j3 d.1 d.2 a:=by unfold j4;rfl
 rw[e]
 unfold j3 l7 fs
 rw[Zf _ _ (by omega),ac]
 cases o:dV d with
 |false=>simp_all
 |true=>
  by_cases c:a.length<=40
  ·obtain⟨t,q,i⟩:=kO o
   have m:=du t
   have pl:=uh d.2 i
   rw[cy (show¬((a.length:Nat):Int)>40 by omega),Zg _ _ (by omega),aA ⟨rfl,c⟩]
   simp only[bo,au,ac,Sum.elim_inl]
   unfold wp wf l8 vy vx l9
   have r:=bu (body:=apF a) (fun k=>((k:Int),e1 d (a.take k))) a.length (e1 d a)
    (by
     intro k b
     have w:wrap .i64 ((k:Int)+1)=((k+1:Nat):Int):=by grind [wrap64]
     obtain⟨ok,f⟩:=o5 o _ (a.take k) rfl
     rw[mH] at f
     have pl:=(kO ok).2.1
     have g:=am4 (e1 d (a.take k)).2 a[k] (h _ (dc b)) (by omega) (fun o=>aaA (kO o).1)
     simp only[apF,g8]
     rw[an (show(k:Int)<((a.length:Nat):Int) by omega),bR b,w]
     simp only[aw,ac,g]
     rw[YH (by grind),i6 b,o4]
     rfl)
    (by
     grind [g8,decide_eq_false,List.length,List.take_length]) LL (by grind [LL])
   grind [ai,LL,e1]
  grind
abbrev apG (a:List ByteArray) (n:Int):Int×List ByteArray×List Int×List (List Int)->Option ((Int×List ByteArray×List Int×List (List Int))⊕(List ByteArray×List Int×List (List Int))):=
 fun(s:Int×(List ByteArray)×(List Int)×(List (List Int)))=>((g9 a n s.1 s.2.1 s.2.2.1 s.2.2.2).map (Sum.elim (fun(t:Int×(List ByteArray)×(List Int)×(List (List Int)))=>Sum.inl (t.1,t.2.1,t.2.2.1,t.2.2.2)) (fun(t:(List ByteArray)×(List Int)×(List (List Int)))=>Sum.inr t)):Option ((Int×(List ByteArray)×(List Int)×(List (List Int)))⊕(((List ByteArray)×(List Int)×(List (List Int))))))
theorem apX (d:gS) (a:List ByteArray) (j:a.length<=1048576) (h: ∀s∈a,s.size<=100000000):hm d.1 d.2 a=some (fs d a):=by
 have e:hm d.1 d.2 a=j5 d.1 d.2 a:=by unfold hm;rfl
 rw[e]
 unfold j5 m0 fs
 rw[ZC,ac]
 cases o:dV d with
 |false=>simp_all
 |true=>
  obtain⟨t,q,u⟩:=kO o
  have l:=du t
  by_cases c:a.length<=40
  ·rw[cy (show¬((a.length:Nat):Int)>40 by omega),mn d.1 d.2 (by omega) (by omega) (fun x m=>by grind [du]),aA ⟨rfl,c⟩]
   simp only[bo,au,ac]
   rw[hg (by omega)]
   simp only[ac,Sum.elim_inl]
   unfold Hx B0 m1 ys w1 m2
   have r:=bu (body:=apG a ((a.length:Nat):Int)) (fun k=>((k:Int),(e1 d (a.take k)).1++replicate (a.length-k) empty,(e1 d (a.take k)).2)) a.length (e1 d a)
    (by
     intro k b
     have w:wrap .i64 ((k:Int)+1)=((k+1:Nat):Int):=by grind [wrap64]
     obtain⟨ok,f⟩:=o5 o _ (a.take k) rfl
     rw[mH] at f
     have g:=aoQ (e1 d (a.take k)).2 a[k] (h _ (dc b))
     have le:((e1 d (a.take k)).1++replicate (a.length-k) empty).length=a.length:=by grind
     simp only[apG,g9]
     rw[an (show(k:Int)<((a.length:Nat):Int) by omega),bR b,w]
     simp only[aw,ac,g]
     rw[le,bS b]
     simp only[ac,bn,Sum.elim_inl]
     have i:replicate (a.length-k) empty=empty::replicate (a.length-(k+1)) empty:=by
      rw[<-h9]
      grind
     rw[i,oP _ _ (by omega),show k-(e1 d (a.take k)).1.length=0 by omega,g3,i6 b,o4]
     simp[o3])
    (by
     grind [g9,decide_eq_false,List.length,List.take_length]) LL (by grind [LL])
   grind [ai,List.length,LL,replicate,empty,e1]
  grind
abbrev apH:Int×ByteArray->Option ((Int×ByteArray)⊕ByteArray):=
 fun(s:Int×ByteArray)=>((j7 s.1 s.2).map (Sum.elim (fun(t:Int×ByteArray)=>Sum.inl (t.1,t.2)) (fun(t:ByteArray)=>Sum.inr t)):Option ((Int×ByteArray)⊕(ByteArray)))
theorem apI: ∀(d n N:Nat) (acc:ByteArray),n<10^d->d<=15->d<N->acc.size+d<=1000-> ∃t,ai apH N ((n:Int),acc)=some t/\t.size<=acc.size+d
 |d,n,0,acc,_,_,h,_=>by omega
 |d,n,N+1,acc,l,hd,j,k=>by
  rw[ai]
  simp only[apH,j7]
  by_cases c:n=0
  ·simp_all
  ·rw[an (show(n:Int)>0 by omega)]
   cases d with
   |zero=>omega
   |succ d=>
    have m:(10:Nat)^(d+1)=10^d*10:=i7 ..
    have i:(10:Nat)^(d+1)<=10^15:=e5 (by omega) (by omega)
    have g:(10:Nat)^15=1000000000000000:=by decide
    have s:(n:Int).tdiv 10=((n/10:Nat):Int):=by simp_all
    have f:quo .i64 (n:Int) 10=some ((n/10:Nat):Int):=by
     grind [quo,wrap64]
    obtain⟨r,e,_⟩:=aks (a:=(n:Int)) (b:=10) (by omega) (by omega)
    have sz:(bytesOf [wrap .u8 (wrap .i64 (48+r))]).size=1:=rfl
    simp only[aw,e,ac]
    rw[kJ (by omega)]
    simp only[ac,f,bn,Sum.elim_inl]
    obtain⟨t,q,o⟩:=apI d (n/10) N (bytesOf [wrap .u8 (wrap .i64 (48+r))]++acc) (by omega) (by omega) (by omega) (by grind)
    grind
noncomputable def i8 (n:Nat):ByteArray:=(f7 (n:Int)).getD empty
theorem apJ {n:Nat} (h:n<=100000000):f7 (n:Int)=some (i8 n):=by
 suffices x: ∃t,f7 (n:Int)=some t by
  grind [i8]
 have e:f7 (n:Int)=j8 (n:Int):=by unfold f7;rfl
 rw[e]
 unfold j8 m6 apk apj add m7
 by_cases c:n=0
 ·simp_all
 ·rw[cy (by omega)]
  obtain⟨t,a,b⟩:=apI 9 n LL empty (by omega) (by omega) (by grind [LL]) (by decide)
  have z:ByteArray.empty.size=0:=rfl
  simp only[au,ac,Sum.elim_inl]
  rw[show ai _ LL ((n:Int),empty)=some t from a]
  simp only[bn,ac]
  rw[kJ (by show 1+_<=_;omega)]
  simp_all
theorem apY (l:List ByteArray) (h:l.length<=1048576):f4 l=some l:=by
 have e:f4 l=j2 l:=by unfold f4;rfl
 rw[e]
 unfold j2 l4 vs ti l5 sm rs l6
 rw[hg (by omega)]
 have b:=bu (body:=fun(s:Int×(List ByteArray))=>((g7 l s.1 s.2).map (Sum.elim (fun(t:Int×(List ByteArray))=>Sum.inl (t.1,t.2)) (fun(t:(List ByteArray))=>Sum.inr t)):Option ((Int×(List ByteArray))⊕(((List ByteArray))))))
  (fun k=>((k:Int),l.take k++replicate (l.length-k) empty)) l.length l
  (by
   intro k a
   have w:wrap .i64 ((k:Int)+1)=((k+1:Nat):Int):=by grind [wrap64]
   have lt:(l.take k).length=k:=by grind
   have len:(l.take k++replicate (l.length-k) empty).length=l.length:=by grind
   simp only[g7]
   rw[an (show(k:Int)<((l.length:Nat):Int) by omega),bR a,w]
   simp only[aw,ac]
   rw[len,bS a]
   simp only[ac,bn,Sum.elim_inl]
   congr 3
   rw[oP _ _ (by omega),lt,CG,show l.length-k=(l.length-(k+1))+1 by omega,h9,g3,iy,bh a,mZ]
   rfl)
  (by
   grind [g7,decide_eq_false,List.length,List.take_length]) LL (by grind [LL])
 simp_all
theorem o6 (l:List ByteArray) (h:l.length<=2097152):f5 l l=some true:=by
 have e:f5 l l=j6 l l:=by unfold f5;rfl
 rw[e]
 unfold j6 m3 RK Pa m4 Lz Kf m5
 have a:=bu (body:=fun(s:Int)=>((hp l l s).map (Sum.elim (fun(t:Int)=>Sum.inl t) (Sum.elim (fun(t:Bool)=>Sum.inr (Sum.inl t)) (fun(t:Unit)=>Sum.inr (Sum.inr t)))):Option ((Int)⊕(Bool⊕Unit))))
  (fun k=>(k:Int)) l.length (Sum.inr ())
  (by
   grind [wrap,wrap64,hp,decide_eq_true,List.length,bR,nL])
  (by
   grind [hp,decide_eq_false,List.length]) LL (by grind [LL])
 simp_all
noncomputable def e2 (m n:Nat):List ByteArray:=(range n).map fun i=>i8 (m+i)
theorem o7 (m n:Nat):(e2 m n).length=n:=by simp[e2]
theorem apZ (m n:Nat):e2 m (n+1)=e2 m n++ [i8 (m+n)]:=by simp[e2,f0]
theorem apK (m:Nat) (d:m<=50000000) (l:List ByteArray) (h:l.length<=1048576):hr (m:Int) l=some (((m+l.length:Nat):Int),e2 m l.length):=by
 have e:hr (m:Int) l=j9 (m:Int) l:=by unfold hr;rfl
 rw[e]
 unfold j9 m8 apo apn m9 apm apl n0
 have f:=bu (body:=fun(s:Int×Int×(List ByteArray))=>((f9 s.1 s.2.1 s.2.2).map (Sum.elim (fun(t:Int×Int×(List ByteArray))=>Sum.inl (t.1,t.2.1,t.2.2)) (fun(t:Int×(List ByteArray))=>Sum.inr t)):Option ((Int×Int×(List ByteArray))⊕((Int×(List ByteArray))))))
  (fun k=>(((m+k:Nat):Int),(k:Int),e2 m k++l.drop k)) l.length (((m+l.length:Nat):Int),e2 m l.length)
  (by
   intro k a
   have b:=o7 m k
   have w:wrap .i64 ((k:Int)+1)=((k+1:Nat):Int):=by grind [wrap64]
   have c:wrap .i64 (((m+k:Nat):Int)+1)=((m+(k+1):Nat):Int):=by grind [wrap64]
   have len:(e2 m k++l.drop k).length=l.length:=by grind
   simp only[f9]
   rw[len,an (show(k:Int)<((l.length:Nat):Int) by omega),apJ (by omega),bS a,w,c]
   simp only[aw,ac,bn,Sum.elim_inl]
   rw[e7 a,oP _ _ (by omega),b,CG,g3,apZ,mZ]
   rfl)
  (by
   grind [f9,o7,List.length,List.drop_length,decide_eq_false]) LL (by grind [LL])
 grind [ai,f9,Sum.elim,LL,List.length,e2]
theorem ap0 (m:Nat) (b:m<=50000000) (n:Nat) (h:n<=1048576):h4 (e2 m n) (m:Int)=some ((m+n:Nat):Int):=by
 have e:h4 (e2 m n) (m:Int)=k0 (e2 m n) (m:Int):=by unfold h4;rfl
 rw[e]
 unfold k0 n1 aps apr n2 apq app n3
 have d:=o7 m n
 have c:=bu (body:=fun(s:Int×Int)=>((h0 (e2 m n) s.1 s.2).map (Sum.elim (fun(t:Int×Int)=>Sum.inl (t.1,t.2)) (Sum.elim (fun(t:Int)=>Sum.inr (Sum.inl t)) (fun(t:Int)=>Sum.inr (Sum.inr t)))):Option ((Int×Int)⊕(Int⊕Int))))
  (fun k=>(((m+k:Nat):Int),(k:Int))) n (Sum.inr ((m+n:Nat):Int))
  (by
   intro k a
   have w:wrap .i64 ((k:Int)+1)=((k+1:Nat):Int):=by grind [wrap64]
   have f:wrap .i64 (((m+k:Nat):Int)+1)=((m+(k+1):Nat):Int):=by grind [wrap64]
   have g:idx (e2 m n) (k:Int)=some (i8 (m+k)):=by
    grind [eN,e2,List.getElem?_range]
   grind [h0,decide_eq_true,apJ,nL,Bool.not_true])
  (by
   grind [h0,decide_eq_false]) LL (by grind [LL])
 simp_all
abbrev o8 (x:List ByteArray):Int×Int->Option ((Int×Int)⊕(Int⊕Int)):=
 fun(s:Int×Int)=>((g6 x s.1 s.2).map (Sum.elim (fun(t:Int×Int)=>Sum.inl (t.1,t.2)) (Sum.elim (fun(t:Int)=>Sum.inr (Sum.inl t)) (fun(t:Int)=>Sum.inr (Sum.inr t)))):Option ((Int×Int)⊕(Int⊕Int)))
theorem apL (x:List ByteArray) (d: ∀s∈x,s.size<=maxLen) (g:x.length<=1048576): ∀(r k N:Nat) (m:Int),k+r=x.length->r<N->0<=m->m<=1048576->
  ai (o8 x) N (m,(k:Int))=some (.inl (-1))\/ ∃a,ai (o8 x) N (m,(k:Int))=some (.inr a)/\0<=a/\ ∀j (q:j<x.length),k<=j->x[j].size<=1048576
 |r,k,0,m,_,h,_,_=>by omega
 |0,k,N+1,m,f,_,e,_=>by
  grind [List.length,ai,g6,decide_eq_false]
 |r+1,k,N+1,m,f,o,e,l=>by
  have b:k<x.length:=by omega
  have t:maxLen=9223372036854775807:=rfl
  have sz:=d x[k] (dc b)
  have w:wrap .i64 ((k:Int)+1)=((k+1:Nat):Int):=by grind [wrap64]
  rw[ai]
  simp only[o8,g6]
  rw[an (show(k:Int)<((x.length:Nat):Int) by omega),bR b,w]
  simp only[aw,ac]
  rw[wrap64 (by omega) (by omega)]
  by_cases c:m-((x[k].size:Nat):Int)<0
  ·simp_all
  ·rw[cy c]
   simp only[au,bn,Sum.elim_inl,ac]
   rcases apL x d g r (k+1) N (m-((x[k].size:Nat):Int)) (by omega) (by omega) (by omega) (by omega) with h|⟨a,h,u,i⟩
   all_goals grind
theorem ap1 (x:List ByteArray) (b: ∀s∈x,s.size<=maxLen) (m:x.length<=maxLen) {v:Int} (i:0<=v) (k:v<=1048576):
  ∃r,j1 x v=some r/\(r<0\/(0<=r/\x.length<=1048576/\ ∀s∈x,s.size<=1048576)):=by
 have o:maxLen=9223372036854775807:=rfl
 have e:j1 x v=j0 x v:=by unfold j1;rfl
 rw[e]
 unfold j0 l1
 rw[wrap64 (by omega) (by omega)]
 by_cases c:v-((x.length:Nat):Int)<0
 ·simp_all
 ·rw[cy c]
  simp only[au,ac,Sum.elim_inl]
  unfold p2 p1 l2 p0 o9 l3
  simp only[ac]
  rcases apL x b (by omega) x.length 0 LL (v-((x.length:Nat):Int)) (by omega) (by grind [LL]) (by omega) (by omega) with h|⟨d,h,f,g⟩
  ·simp_all
  ·rw[show ai _ LL (v-((x.length:Nat):Int),(0:Int))=some (Sum.inr d) from h]
   refine⟨_,rfl,.inr ⟨f,by omega,fun s a=> ?_⟩⟩
   obtain⟨j,l,e⟩:=oh.mp a
   grind
theorem ap2 (d:gS) (l:List ByteArray):(fs d l).2.1.length+cY (fs d l).2.2<=80/\(fs d l).1.length<=40:=by
 unfold fs
 by_cases c:dV d=true/\l.length<=40
 ·simp_all [aA,o5,Zs]
 ·rw[aG c]
  exact⟨by decide,by decide⟩
theorem ap3 (n:List Int) (p:List (List Int)) (x:List ByteArray) (l:n.length<=maxLen) (j:p.length<=maxLen) (k: ∀r∈p,r.length<=maxLen) (m:x.length<=maxLen) (o: ∀s∈x,s.size<=maxLen):k1 n p x=some true:=by
 unfold k1 n6 n4
 obtain⟨v,i,d⟩:=alh n p l j k
 rw[i]
 simp only[ac]
 rcases d with d|⟨d,sz⟩
 ·simp_all
 ·rw[cy (by omega)]
  obtain⟨r,h,R⟩:=ap1 x o m (v:=v) (by omega) (by omega)
  simp only[au,h,ac]
  rcases R with R|⟨R,c,xs⟩
  ·simp_all
  ·rw[cy (by omega)]
   have s:n.length+cY p<=1048576:=by omega
   have f:=apW (n,p) x c xs (by grind [cY])
   have e:=apX (n,p) x c (fun t w=>by grind)
   have z:=ap2 (n,p) x
   simp only at f e z
   generalize fs (n,p) x=a at f e z
   have b:a.2.1.length+cY a.2.2<=1048576:=by omega
   have y:cK p<=1048576:=by grind [cY]
   have A:cK a.2.2<=1048576:=by grind [cY]
   have q:=apK (1+n.length+cK p) (by omega) x c
   have u:=apK (1+a.2.1.length+cK a.2.2) (by omega) a.1 (by omega)
   have g:=ap0 (1+a.2.1.length+cK a.2.2) (by omega) a.1.length (by omega)
   simp only[au,ali s,apY x c,ac,f,e,Zr s,Zr b,o6 x (by omega),o6 a.1 (by omega),abo s,abo b,aoR b,q,u,g,bo,bne_self_eq_false]
   simp only[cy (show¬((1+n.length+cK p+x.length:Nat):Int)<0 by omega),cy (show¬((1+a.2.1.length+cK a.2.2:Nat):Int)<0 by omega),cy (show¬((1+a.2.1.length+cK a.2.2+a.1.length:Nat):Int)<0 by omega),au,ac,Sum.elim_inl,n5,Zr b,o6 a.1 (show a.1.length<=2097152 by omega),aoR b,g,bo,bne_self_eq_false]
end Go.Rv
