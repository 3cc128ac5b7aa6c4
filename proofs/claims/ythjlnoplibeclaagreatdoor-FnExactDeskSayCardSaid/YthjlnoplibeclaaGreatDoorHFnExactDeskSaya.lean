/-
  Plain mathematics of what the law reaches. Conditions: none.
-/
import Derived.Test.YthjlnoplibeclaaGreatDoorGFnExactDeskSay
import Derived.Lib.AtoiTie
open List (range replicate getD idxOf Nodup)
open Go.IntKind (wrap signed)
open ByteArray (empty extract toList)
open BitVec (ofInt)
set_option linter.all false
namespace Go.Rv
def an:=@decide_eq_true
def cy:=@decide_eq_false
def dg:=@beq_eq_false_iff_ne
def d8:=@Bool.true_and
def d9:=@List.pairwise_cons
def e0:=@Int.toNat_natCast
def e3:=@Bool.eq_iff_iff
def e4:=@beq_self_eq_true
def e5:=@Nat.pow_le_pow_right
def e6:=@ByteArray.size_append
def e7:=@List.drop_eq_getElem_cons
def e8:=@List.getD_eq_getElem?_getD
def e9:=@Nat.add_sub_cancel
def fr:=@List.cons_append
def f0:=@List.range_succ
def f1:=@List.getElem_take
def f2:=@List.map_append
def f3:=@List.sum_cons
def f8:=@Bool.and_true
def g0:=@List.any_eq_true
def g2:=@Bool.and_self
def g3:=@List.set_cons_zero
def g4:=@List.map_map
def g5:=@List.countP_eq_length_filter
def h5:=@Nat.or_lt_two_pow
def h6:=@List.countP_append
def h7:=@List.countP_cons
def h8:=@List.countP_le_length
def h9:=@List.replicate_succ
def i6:=@List.take_succ_eq_append_getElem
def k2:=@Bool.false_and
def k3:=@Nat.pow_lt_pow_right
def k4:=@List.pairwise_append
def k5:=@Classical.byContradiction
def k6:=@List.ext_getElem
def k7:=@Bool.eq_false_iff
def k8:=@bne_iff_ne
def n7:=@Int.toNat_zero
def n8:=@List.mem_of_mem_drop
def n9:=@Nat.lt_trichotomy
def ob:=@ByteArray.ext
def oi:=@Array.toList_inj
def oj:=@List.mem_filter
def on:=@List.sum_append
def apv:=@List.idxOf_lt_length_iff
def apw:=@List.mem_or_eq_of_mem_set
def apx:=@ByteArray.data_append
def apy:=@List.pairwise_flatMap
def apz:=@List.Nodup.length_le_of_subset
theorem de {b d:Type} {body:b->Option (b⊕d)} (I:b->Prop) (μ:b->Nat) (f:b->d)
  (h: ∀s,I s->(∃a,body s=some (.inl a)/\I a/\μ a<μ s/\f a=f s)\/body s=some (.inr (f s))): ∀(n:Nat) (s:b),I s->μ s<n->ai body n s=some (f s)
 |0,s,_,i=>by omega
 |n+1,s,hi,i=>by
  rcases h s hi with⟨a,c,g,j,e⟩|c
  ·simp only[ai,c,ac]
   rw[de I μ f h n a g (by omega),e]
  grind [ai]
theorem wrap64 {x:Int} (a: -9223372036854775808<=x) (b:x<=9223372036854775807):wrap .i64 x=x:=by
 grind [wrap,IntKind.bits,signed]
theorem eN {α:Type} (xs:List α) (k:Nat):idx xs (k:Int)=xs[k]? :=by simp[idx]
theorem bR {α:Type} {xs:List α} {k:Nat} (h:k<xs.length):idx xs (k:Int)=some xs[k]:=by simp[idx,h]
theorem bS {k n:Nat} (h:k<n):ap (k:Int) n=some k:=by
 grind [ap]
theorem hg {n:Nat} (h:n<=1099511627776):mk (n:Int) (n:Int)=some n:=by
 grind [mk]
theorem room_le {n:Nat} (h:n<=1099511627776):room n=some ():=by simp[room,h]
def jB (l r a b:Int):Bool:=decide ((l<a/\a<r/\r<b)\/(a<l/\l<b/\b<r))
def gr (a b:Int):Bool:=decide (1<=a/\1<=b/\a≠b)
def jC (a b c d:Int):Bool:=gr a b&&gr c d&&jB (bV a b) (imax a b) (bV c d) (imax c d)
theorem Av {a b:Int} (h:a≠b):bV a b<imax a b:=by
 grind [bV,imax]
theorem XS {p:Prop} [Decidable p] (h:p):some true=some (decide p):=by simp_all
theorem XT {p:Prop} [Decidable p] (h: ¬p):some false=some (decide p):=by simp_all
theorem Kw (a b:Int):su a b=some (if gr a b then(true,bV a b,imax a b) else(false,0,0)):=by
 grind [su,yi,gr,decide_eq_true,decide_eq_false,beq_eq_false_iff_ne]
theorem ajr (l r x:Int):sw l r x=some (decide (l<x/\x<r)):=by
 grind [sw,yk,decide_eq_true,decide_eq_false]
theorem ajs (l r x:Int):sx l r x=some (decide (x<l\/r<x)):=by
 grind [sx,yl,decide_eq_true,decide_eq_false]
theorem XU {l r a b:Int} (h:l<r) (h':a<b):yn l r a b=some (jB l r a b):=by
 unfold yn ym
 simp only[ajr,ajs,ac]
 grind [jB,decide_eq_true,XS,decide_eq_false,XT]
theorem ajt (a b c d:Int):IR a b c d=some (jC a b c d):=by
 unfold IR y2 jC
 rw[Kw,Kw]
 simp only[ac]
 by_cases e:gr a b=true
 ·by_cases f:gr c d=true
  ·simp_all [aA,gr,db,aw,XU,Av,ac,d8]
  simp_all
 simp_all
theorem aju (a b c d:Int):E9 a b c d=some (jC a b c d):=by
 unfold E9 E8 E6 E7 jC
 by_cases e:gr a b=true
 ·by_cases f:gr c d=true
  ·rw[e,f]
   unfold gr at e f
   rw[db] at e f
   rw[cy (show¬a<1 by omega),cy (show¬b<1 by omega),cy (show¬c<1 by omega),cy (show¬d<1 by omega),
    show(a==b)=false from dg.2 e.2.2,show(c==d)=false from dg.2 f.2.2]
   simp only[au,ac,Sum.elim_inl,d8]
   grind [Av,bV,imax,jB,decide_eq_true,decide_eq_false,XS,XT]
  grind [gr,decide_eq_false,decide_eq_true,beq_eq_false_iff_ne]
 grind [gr,decide_eq_true,decide_eq_false,Decidable.decide]
theorem XV (xs:List Int) (h:xs.length<=1048576):wk xs=some xs:=by
 have hl:=de (body:=fun(s:Int×(List Int))=>((rm xs s.1 s.2).map (Sum.elim (fun(t:Int×(List Int))=>Sum.inl (t.1,t.2)) (fun(t:(List Int))=>Sum.inr t)):Option ((Int×(List Int))⊕(((List Int))))))
  (I:=fun s=> ∃k:Nat,s.1=k/\k<=xs.length/\s.2.length=xs.length) (μ:=fun s=>xs.length-s.1.toNat) (f:=fun s=>s.2.take s.1.toNat++xs.drop s.1.toNat)
  (by
   rintro⟨_,out⟩ ⟨k,rfl,c,b⟩
   simp only at b
   by_cases a:k<xs.length
   ·left
    refine⟨((k+1:Nat),out.set k xs[k]),?_,⟨k+1,rfl,a,by grind⟩,by simp;omega,?_⟩
    ·simp only[rm]
     grind [Decidable.decide,List.length,decide_eq_true,bR,bS,wrap64]
    ·simp only[e0]
     rw[Ch,iy,bh (by omega)]
     have hl:(out.take k).length=k:=by simp;omega
     rw[oP _ _ (by omega),hl]
     simp
   grind [List.length,rm,Decidable.decide,decide_eq_false,List.take_of_length_le,Nat.le_of_eq])
 unfold wk DB Dy Oo On Dz Om Ol DA
 rw[hg (by omega)]
 simp only[ac]
 rw[hl LL (0,replicate xs.length 0) ⟨0,by simp,by omega,by simp⟩ (by grind [LL])]
 simp
theorem drop_cons {α:Type} {xs:List α} {k:Nat} (h:k<xs.length):xs.drop k=xs[k]::xs.drop (k+1):=e7 h
theorem ajv {xs a:List Int} {k:Nat} (b:k<xs.length) (c:k<a.length):(xs.drop k==a.drop k)=(xs[k]==a[k]&&xs.drop (k+1)==a.drop (k+1)):=by
 grind [drop_cons]
theorem XW (xs a:List Int) (h:xs.length<=1048576):zO xs a=some (xs==a):=by
 unfold zO JH JE Wh Wg Wf We JF JG
 by_cases hl:xs.length=a.length
 ·have e:=de (body:=fun(s:Int)=>((tE xs a s).map (Sum.elim (fun(t:Int)=>Sum.inl t) (Sum.elim (fun(t:Bool)=>Sum.inr (Sum.inl t)) (fun(t:Unit)=>Sum.inr (Sum.inr t)))):Option ((Int)⊕(Bool⊕Unit))))
   (I:=fun s=> ∃k:Nat,s=k/\k<=xs.length) (μ:=fun s=>xs.length-s.toNat) (f:=fun s=>cond (xs.drop s.toNat==a.drop s.toNat) (.inr ()) (.inl false))
   (by
    rintro _ ⟨k,rfl,g⟩
    by_cases b:k<xs.length
    ·have d:k<a.length:=by omega
     simp only[tE]
     rw[show decide ((k:Int)<((xs.length:Nat):Int))=true from an (by omega)]
     simp only[aw,bR b,bR d,ac,e0]
     rw[wrap64 (by omega) (by omega),ajv b d]
     by_cases c:xs[k]=a[k]
     ·left
      refine⟨((k+1:Nat):Int),by simp[c],⟨k+1,rfl,b⟩,by simp;omega,by simp[c]⟩
     grind
    ·right
     grind [List.length,tE,Decidable.decide,decide_eq_false,List.drop_of_length_le,Nat.le_of_eq])
  rw[show((((xs.length:Nat):Int)) !=(((a.length:Nat):Int)))=false by simp[hl]]
  simp only[au,ac,Sum.elim_inl]
  rw[e LL 0 ⟨0,by simp,by omega⟩ (by grind [LL])]
  grind
 ·rw[show((((xs.length:Nat):Int)) !=(((a.length:Nat):Int)))=true by simp;omega]
  have:(xs==a)=false:=by
   grind
  grind
def bg (h:List Int):Nat->Nat->Option (Nat×Nat)
 |0,_=>none
 |f+1,w=>match h[w-1]? with
  |none=>none
  |some x=>if x=0 then some (w,0) else(bg h f x.toNat).map fun p=>(p.1,p.2+1)
def dT (n:Nat) (x:Int):Bool:=decide (0<=x)&&decide (x<=n)
def fG (h:List Int):Bool:=h.all (dT h.length)
def aB (h:List Int):Bool:=
 decide (1<=h.length)&&decide (h.length<=8)&&fG h&&(h.count 0==1)&&(range h.length).all fun k=>(bg h h.length (k+1)).isSome
theorem ajw {h:List Int} {p:Int->Bool} {k:Nat} (a:k<h.length):(h.drop k).all p=(p h[k]&&(h.drop (k+1)).all p):=by
 rw[drop_cons a];rfl
theorem XX {h:List Int} {k:Nat} (a:k<h.length):(h.drop k).count 0=(if h[k]=0 then 1 else 0)+(h.drop (k+1)).count 0:=by
 grind [drop_cons]
theorem ajx (h:List Int) (hl:h.length<=1048576):G1 h=some (fG h&&(h.count 0==1)):=by
 have b:=de (body:=fun(s:Int×Int)=>((r4 h s.1 h.length s.2).map (Sum.elim (fun(t:Int×Int)=>Sum.inl (t.1,t.2)) (Sum.elim (fun(t:Bool)=>Sum.inr (Sum.inl t)) (fun(t:Int)=>Sum.inr (Sum.inr t)))):Option ((Int×Int)⊕(Bool⊕Int))))
  (I:=fun s=> ∃k r:Nat,s=((r:Int),(k:Int))/\k<=h.length/\r<=k) (μ:=fun s=>h.length-s.2.toNat)
  (f:=fun s=>cond ((h.drop s.2.toNat).all (dT h.length)) (.inr (s.1+((h.drop s.2.toNat).count 0:Nat))) (.inl false))
  (by
   rintro _ ⟨k,r,rfl,j,m⟩
   by_cases a:k<h.length
   ·simp only[r4]
    rw[show decide ((k:Int)<((h.length:Nat):Int))=true from an (by omega)]
    simp only[aw,bR a,ac,e0]
    rw[wrap64 (x:=(k:Int)+1) (by omega) (by omega),wrap64 (x:=(r:Int)+1) (by omega) (by omega),ajw a,XX a]
    by_cases c:h[k]<0
    ·grind [dT,List.length]
    ·by_cases d:h[k]>(h.length:Int)
     ·grind [dT,List.length]
     ·left
      have l:dT h.length h[k]=true:=by simp[dT];omega
      by_cases g:h[k]=0
      ·refine⟨(((r+1:Nat):Int),((k+1:Nat):Int)),?_,⟨k+1,r+1,rfl,a,by omega⟩,by simp;omega,?_⟩
       all_goals grind
      ·refine⟨((r:Int),((k+1:Nat):Int)),?_,⟨k+1,r,rfl,a,by omega⟩,by simp;omega,?_⟩
       all_goals grind
   ·right
    have e:k=h.length:=by omega
    subst e
    simp only[r4]
    simp_all)
 unfold G1 G0 GX SM SL GY SK SJ
 simp only[ac]
 rw[b LL (0,0) ⟨0,0,rfl,by omega,by omega⟩ (by grind [LL])]
 simp only[n7,fY]
 unfold fG
 cases i:h.all (dT h.length) with
 |false=>simp
 |true=>
  simp only[aw,bn,Sum.elim_inr,ac,Sum.elim_inl,GZ,d8]
  congr 1
  grind
theorem jD {h:List Int} (b:fG h=true) {k:Nat} (a:k<h.length):0<=h[k]/\h[k]<=h.length:=by
 have:=bQ.1 b h[k] (dc a)
 grind [dT]
theorem XY (h:List Int) (k:Nat) (s:Nat) (a:k<h.length) (hl:h.length<=1048576) (b:s<=h.length):
  xQ h ((k+1:Nat):Int) (s:Int)=some (if h[k]=0 then(false,((k+1:Nat):Int),(s:Int)) else(true,h[k],((s+1:Nat):Int))):=by
 grind [xQ,xP,wrap64,bR]
theorem XZ (h:List Int) (hl:h.length<=1048576) (d:fG h=true) (k:Nat) (a:k<h.length):
  xS h ((k+1:Nat):Int)=some (match bg h h.length (k+1) with|some p=>((p.2:Int),true)|none=>(0,false)):=by
 have c:=de (body:=fun(s:Int×Int)=>((xR h s.1 s.2).map (Sum.elim (fun(t:Int×Int)=>Sum.inl (t.1,t.2)) (Sum.elim (fun(t:Int×Bool)=>Sum.inr (Sum.inl t)) (fun(t:Int×Int)=>Sum.inr (Sum.inr t)))):Option ((Int×Int)⊕((Int×Bool)⊕(Int×Int)))))
  (I:=fun s=> ∃k i:Nat,s=(((k+1:Nat):Int),(i:Int))/\k<h.length/\i<h.length) (μ:=fun s=>h.length-s.2.toNat)
  (f:=fun s=>match bg h (h.length-s.2.toNat) s.1.toNat with|some p=> .inr ((p.1:Int),s.2+(p.2:Int))|none=> .inl (0,false))
  (by
   rintro _ ⟨k,i,rfl,a,hi⟩
   simp only[xR]
   rw[XY h k i a hl (by omega)]
   obtain⟨m,n⟩:=jD d a
   have g:h.length-i=(h.length-i-1)+1:=by omega
   have j:h[k+1-1]? =some h[k]:=by simp[a]
   have b:bg h (h.length-i) (k+1)=if h[k]=0 then some (k+1,0) else(bg h (h.length-i-1) h[k].toNat).map fun p=>(p.1,p.2+1):=by
    grind [bg]
   simp only[ac,e0]
   rw[b]
   by_cases e:h[k]=0
   ·grind
   ·simp only[e,iZ,aw]
    by_cases l:i+1>=h.length
    ·grind [List.length,Decidable.decide,decide_eq_true,bg]
    ·left
     have hd:decide (((i+1:Nat):Int)>=((h.length:Nat):Int))=false:=cy (by omega)
     refine⟨(h[k],((i+1:Nat):Int)),by grind,⟨h[k].toNat-1,i+1,by
      grind,by omega,by omega⟩,by simp;omega,?_⟩
     grind)
 unfold xS G4 G2 SP SO SN
 simp only[ac]
 rw[c LL (((k+1:Nat):Int),0) ⟨k,0,rfl,a,by omega⟩ (by grind [LL])]
 grind [Int.toNat_natCast,Int.toNat_zero,bg,List.length,G3]
theorem fH (h:List Int):fj h=some (aB h):=by
 unfold fj G7 G5 SV SS G6 SR SQ
 unfold aB
 by_cases j:h.length<1
 ·simp_all
 ·have b:decide ((((h.length:Nat):Int))<1)=false:=cy (by omega)
  have c:decide (1<=h.length)=true:=an (by omega)
  by_cases l:h.length>8
  ·grind
  ·have d:decide ((((h.length:Nat):Int))>8)=false:=cy (by omega)
   have e:decide (h.length<=8)=true:=an (by omega)
   simp only[b,d,c,e,au,ajx h (by omega),ac,d8]
   cases i:fG h with
   |false=>simp
   |true=>
    cases m:(h.count 0==1) with
    |false=>simp
    |true=>
     simp only[d8,bo,au,ac,Sum.elim_inl]
     have g:=de (body:=fun(s:Int)=>((r5 h h.length s).map (Sum.elim (fun(t:Int)=>Sum.inl t) (Sum.elim (fun(t:Bool)=>Sum.inr (Sum.inl t)) (fun(t:Unit)=>Sum.inr (Sum.inr t)))):Option ((Int)⊕(Bool⊕Unit))))
      (I:=fun s=> ∃k:Nat,s=(k:Int)/\k<=h.length) (μ:=fun s=>h.length-s.toNat)
      (f:=fun s=>cond (((range h.length).drop s.toNat).all fun k=>(bg h h.length (k+1)).isSome) (.inr ()) (.inl false))
      (by
       rintro _ ⟨k,rfl,q⟩
       by_cases a:k<h.length
       ·simp only[r5]
        rw[show decide ((k:Int)<((h.length:Nat):Int))=true from an (by omega)]
        rw[wrap64 (x:=(k:Int)+1) (by omega) (by omega),show(k:Int)+1=((k+1:Nat):Int) by omega,XZ h (by omega) i k a]
        simp only[aw,ac,e0]
        have hd:(range h.length).drop k=k::(range h.length).drop (k+1):=by
         grind [List.drop_eq_getElem_cons]
        rw[hd]
        simp only[mE]
        cases n:bg h h.length (k+1) with
        |none=>right;simp
        |some p=>
         left
         refine⟨((k+1:Nat):Int),by simp,⟨k+1,rfl,a⟩,by simp;omega,by simp⟩
       grind [List.length,r5,Decidable.decide,decide_eq_false,List.drop_of_length_le,range])
     rw[g LL 0 ⟨0,rfl,by omega⟩ (by grind [LL])]
     simp only[n7,fY]
     cases ((range h.length).all fun k=>(bg h h.length (k+1)).isSome)<;>rfl
theorem gs (a b c:Int):ga a b c=some (decide (b<=a)&&decide (a<=c)):=by
 grind [ga,wo,Decidable.decide,decide_eq_true,decide_eq_false]
def goUp (h:List Int):Nat->Int->Bool⊕Int
 |0,a=> .inr a
 |f+1,a=>if 0<a then(match h[a.toNat-1]? with
   |some x=>if dT h.length x then goUp h f x else .inl false
   |none=> .inl false) else .inr a
theorem ajy (h:List Int) (hl:h.length<=8) (a:Int) (u:0<=a) (r:a<=h.length):DJ h h.length a=some (goUp h h.length a):=by
 unfold DJ
 have m:=de (body:=fun(s:Int×Int)=>((wr h h.length s.1 s.2).map (Sum.elim (fun(t:Int×Int)=>Sum.inl (t.1,t.2)) (Sum.elim (fun(t:Bool)=>Sum.inr (Sum.inl t)) (fun(t:Int)=>Sum.inr (Sum.inr t)))):Option ((Int×Int)⊕(Bool⊕Int))))
  (I:=fun s=> ∃k i:Nat,s=((k:Int),(i:Int))/\k<=h.length/\i<=h.length) (μ:=fun s=>h.length-s.2.toNat)
  (f:=fun s=>goUp h (h.length-s.2.toNat) s.1)
  (by
   rintro _ ⟨k,i,rfl,w,hi⟩
   simp only[wr,e0]
   by_cases p:0<k
   ·have b:decide ((k:Int)>0)=true:=an (by omega)
    by_cases q:i<h.length
    ·have c:decide ((i:Int)<((h.length:Nat):Int))=true:=an (by omega)
     have j:k-1<h.length:=by omega
     rw[b,c,wrap64 (x:=(k:Int)-1) (by omega) (by omega),show(k:Int)-1=((k-1:Nat):Int) by omega,bR j,wrap64 (x:=(i:Int)+1) (by omega) (by omega)]
     simp only[aw,ac,gs]
     have v:h.length-i=(h.length-i-1)+1:=by omega
     have g:goUp h (h.length-i) (k:Int)=if dT h.length h[k-1] then goUp h (h.length-i-1) h[k-1] else .inl false:=by
      grind [goUp]
     rw[g]
     by_cases d:dT h.length h[k-1]=true
     ·left
      have e:=d
      simp only[dT,aT,db] at e
      refine⟨(h[k-1],((i+1:Nat):Int)),?_,⟨h[k-1].toNat,i+1,by
       grind,by omega,by omega⟩,by simp;omega,?_⟩
      all_goals grind
     grind [dT,List.length,Decidable.decide]
    ·right
     have c:decide ((i:Int)<((h.length:Nat):Int))=false:=cy (by omega)
     have n:h.length-i=0:=by omega
     grind [goUp]
   ·right
    have l:k=0:=by omega
    subst l
    have b:decide (((0:Nat):Int)>0)=false:=by simp
    rw[b]
    cases h.length-i<;>simp[goUp])
 exact m LL (a,0) ⟨a.toNat,0,by
  grind,by omega,by omega⟩ (by grind [LL])
theorem Kx {h:List Int} (c:fG h=true): ∀(f k:Nat),k<h.length->goUp h f ((k+1:Nat):Int)=(if(bg h f (k+1)).isSome then .inr 0 else goUp h f ((k+1:Nat):Int))/\
  ((bg h f (k+1)).isSome=false-> ∃a:Int,0<a/\goUp h f ((k+1:Nat):Int)= .inr a)
 |0,k,b=>by
  refine⟨by simp[bg],fun _=>⟨((k+1:Nat):Int),by omega,rfl⟩⟩
 |f+1,k,b=>by
  obtain⟨i,l⟩:=jD c b
  have n:dT h.length h[k]=true:=by simp[dT];omega
  have g:goUp h (f+1) ((k+1:Nat):Int)=goUp h f h[k]:=by
   grind [goUp]
  have d:bg h (f+1) (k+1)=if h[k]=0 then some (k+1,0) else(bg h f h[k].toNat).map fun p=>(p.1,p.2+1):=by
   simp[bg,b]
  rw[g,d]
  by_cases e:h[k]=0
  ·have:goUp h f 0= .inr 0:=by cases f<;>simp[goUp]
   grind
  ·obtain⟨j,m⟩: ∃j:Nat,h[k]=((j+1:Nat):Int):=⟨h[k].toNat-1,by omega⟩
   have q:=Kx c f j (by omega)
   simp_all
def kD (h:List Int) (k:Nat):Bool:=match h[k]? with
 |some x=>dT h.length x&& !(x==((k+1:Nat):Int))&&(match goUp h h.length ((k+1:Nat):Int) with| .inr a=> !decide (a>0)| .inl _=>false)
 |none=>false
theorem ajz (h:List Int):dG h=some (decide (1<=h.length)&&decide (h.length<=8)&&(range h.length).all (kD h)&&(h.count 0==1)):=by
 unfold dG DN DF
 rw[gs]
 by_cases i:(decide ((1:Int)<=((h.length:Nat):Int))&&decide (((h.length:Nat):Int)<=8))=true
 ·have j:=i
  simp only[aT,db] at j
  have p:decide (1<=h.length)=true:=an (by omega)
  have q:decide (h.length<=8)=true:=an (by omega)
  simp only[i,p,q,ac,bo,au,Sum.elim_inl,d8]
  unfold OF OE DG OD OC
  have w:=de (body:=fun(s:Int×Int)=>((ws h h.length s.1 s.2).map (Sum.elim (fun(t:Int×Int)=>Sum.inl (t.1,t.2)) (Sum.elim (fun(t:Bool)=>Sum.inr (Sum.inl t)) (fun(t:Int)=>Sum.inr (Sum.inr t)))):Option ((Int×Int)⊕(Bool⊕Int))))
   (I:=fun s=> ∃k r:Nat,s=((r:Int),(k:Int))/\k<=h.length/\r<=k) (μ:=fun s=>h.length-s.2.toNat)
   (f:=fun s=>cond (((range h.length).drop s.2.toNat).all (kD h)) (.inr (s.1+((h.drop s.2.toNat).count 0:Nat))) (.inl false))
   (by
    rintro _ ⟨k,r,rfl,C,D⟩
    by_cases c:k<h.length
    ·have hd:(range h.length).drop k=k::(range h.length).drop (k+1):=by
      grind [List.drop_eq_getElem_cons]
     simp only[ws,wq,e0]
     rw[show decide ((k:Int)<((h.length:Nat):Int))=true from an (by omega)]
     simp only[aw,ac,Sum.elim_inl]
     unfold OB OA Oz DH DL Oy Ox DI Ow DK
     have x:wrap .i64 ((k:Int)+1)=((k+1:Nat):Int):=by grind [wrap64]
     have y:wrap .i64 ((r:Int)+1)=((r+1:Nat):Int):=by grind [wrap64]
     simp only[bR c,ac,gs,x,y]
     rw[hd,mE,XX c]
     have z:kD h k=(dT h.length h[k]&& !(h[k]==((k+1:Nat):Int))&&(match goUp h h.length ((k+1:Nat):Int) with| .inr a=> !decide (a>0)| .inl _=>false)):=by
      simp[kD,c]
     have n:=ajy h (by omega) ((k+1:Nat):Int) (by omega) (by omega)
     rw[z]
     cases l:dT h.length h[k] with
     |false=>
      right
      have d:(decide ((0:Int)<=h[k])&&decide (h[k]<=((h.length:Nat):Int)))=false:=l
      rw[d];simp
     |true=>
      have d:(decide ((0:Int)<=h[k])&&decide (h[k]<=((h.length:Nat):Int)))=true:=l
      rw[d]
      simp only[bo,au,d8]
      cases B:(h[k]==((k+1:Nat):Int)) with
      |true=>right;simp
      |false=>
       simp only[au,Bool.not_false,d8]
       by_cases m:h[k]=0
       ·simp only[m,e4,aw,ac,Sum.elim_inl,bn,n,cN]
        cases v:goUp h h.length ((k+1:Nat):Int) with
        |inl b=>
         right
         have:b=false:=by
          have A: ∀f a b,goUp h f a= .inl b->b=false:=by
           intro f
           induction f<;>grind [goUp]
          grind
         simp_all
        |inr a=>
         by_cases g:a>0
         ·simp_all
         ·left
          refine⟨(((r+1:Nat):Int),((k+1:Nat):Int)),by simp[g],⟨k+1,r+1,rfl,c,by omega⟩,by simp;omega,?_⟩
          grind
       ·have u:(h[k]==0)=false:=by grind
        simp only[u,au,ac,Sum.elim_inl,bn,n,m,iZ]
        cases v:goUp h h.length ((k+1:Nat):Int) with
        |inl b=>
         right
         have:b=false:=by
          have A: ∀f a b,goUp h f a= .inl b->b=false:=by
           intro f
           induction f<;>grind [goUp]
          grind
         simp_all
        |inr a=>
         by_cases g:a>0
         ·simp_all
         ·left
          refine⟨((r:Int),((k+1:Nat):Int)),by simp[g],⟨k+1,r,rfl,c,by omega⟩,by simp;omega,?_⟩
          grind
    grind [List.length,ws,wq,Decidable.decide,decide_eq_false,List.drop_of_length_le,range])
  simp only[ac]
  rw[w LL (0,0) ⟨0,0,rfl,by omega,by omega⟩ (by grind [LL])]
  simp only[n7,fY,ac]
  cases (range h.length).all (kD h) with
  |false=>simp
  |true=>
   simp only[aw,bn,Sum.elim_inr,ac,Sum.elim_inl,DM,d8]
   congr 1
   grind
 ·have j:(decide ((1:Int)<=((h.length:Nat):Int))&&decide (((h.length:Nat):Int)<=8))=false:=by grind
  have e:(decide (1<=h.length)&&decide (h.length<=8))=false:=by
   grind
  grind
theorem cL (h:List Int):dG h=some (aB h):=by
 rw[ajz]
 congr 1
 unfold aB
 have s:(range h.length).all (kD h)=(fG h&&(range h.length).all fun k=>(bg h h.length (k+1)).isSome):=by
  cases d:fG h with
  |false=>
   rw[k2,List.all_eq_false]
   have: ¬ ∀x∈h,dT h.length x=true:=fun b=>by
    grind [fG,List.all_eq_true]
   have⟨x,m⟩:=Classical.not_forall.1 this
   have⟨l,j⟩:=Classical.not_imp.1 m
   obtain⟨k,a,rfl⟩:=kX l
   refine⟨k,by grind,?_⟩
   simp[kD,a,j]
  |true=>
   rw[d8,e3,bQ,bQ]
   constructor
   ·grind [List.length,bg,Kx,goUp,kD]
   ·intro b k a
    have c:k<h.length:=by grind
    have g:=b k a
    have i:=(Kx d h.length k c).1
    rw[aA g] at i
    obtain⟨n,p⟩:=jD d c
    have q:dT h.length h[k]=true:=by simp[dT];omega
    have r: ¬h[k]=((k+1:Nat):Int):=fun e=>by
     have none: ∀f,bg h f (k+1)=none:=by
      intro f
      induction f<;>grind [bg]
     simp_all
    grind [goUp,List.length,kD]
 grind
theorem X0 {h:List Int}: ∀{f w:Nat} {p:Nat×Nat},bg h f w=some p->bg h (f+1) w=some p
 |0,w,p,e=>by simp[bg] at e
 |f+1,w,p,e=>by
  simp only[bg] at e
  rw[bg]
  split at e
  ·cases e
  ·rename_i x c
   split at e
   ·simp_all
   ·rename_i a
    simp only[a,iZ]
    obtain⟨d,b,rfl⟩:=co.1 e
    rw[X0 b];rfl
theorem Aw {h:List Int} {f g w:Nat} {p:Nat×Nat} (a:f<=g) (e:bg h f w=some p):bg h g w=some p:=by
 induction a<;>grind [step,X0]
theorem X1 {h:List Int}: ∀{f w:Nat} {p:Nat×Nat},bg h f w=some p->p.2<f
 |0,w,p,e=>by simp[bg] at e
 |f+1,w,p,e=>by
  simp only[bg] at e
  split at e
  ·cases e
  ·split at e
   ·cases e;simp
   ·obtain⟨b,a,rfl⟩:=co.1 e
    have:=X1 a
    simp;omega
theorem X2 {h:List Int}: ∀{f w:Nat} {p:Nat×Nat},bg h f w=some p->h[p.1-1]? =some 0
 |0,w,p,e=>by simp[bg] at e
 |f+1,w,p,e=>by
  simp only[bg] at e
  split at e
  ·cases e
  ·rename_i x c
   split at e
   ·grind
   ·obtain⟨b,a,rfl⟩:=co.1 e
    show h[b.1-1]? =some 0
    exact X2 a
theorem X3 {h:List Int} (a:fG h=true): ∀{f w:Nat} {p:Nat×Nat},1<=w->bg h f w=some p->1<=p.1
 |0,w,p,_,e=>by simp[bg] at e
 |f+1,w,p,j,e=>by
  simp only[bg] at e
  split at e
  ·cases e
  ·rename_i x d
   split at e
   ·grind
   ·rename_i i
    obtain⟨g,c,rfl⟩:=co.1 e
    obtain⟨b,k⟩:=aO.1 d
    have:=jD a b
    show 1<=g.1
    exact X3 a (by omega) c
structure Tree (h:List Int):Prop where
 pos:1<=h.length
 le:h.length<=8
 aU:fG h=true
 one:h.count 0=1
 tR: ∀k,k<h.length->(bg h h.length (k+1)).isSome=true
theorem bK (h:List Int):aB h=true↔Tree h:=by
 unfold aB
 simp only[aT,db,cb,bQ]
 constructor
 ·rintro⟨⟨⟨⟨a,b⟩,c⟩,d⟩,e⟩
  exact⟨a,b,c,d,fun k f=>e k (by grind)⟩
 ·rintro⟨a,b,c,d,e⟩
  simp_all
def hd (h:List Int) (w:Nat):Nat:=(h.getD (w-1) 0).toNat
def dep (h:List Int) (w:Nat):Nat:=((bg h h.length w).getD (0,0)).2
def top (h:List Int):Nat:=h.idxOf 0+1
theorem gt (h:List Int):1<=top h:=by simp[top]
section
variable {h : List Int} (T : Tree h)
include T
theorem Tree.get {w:Nat} (b:1<=w) (c:w<=h.length):h[w-1]? =some ((hd h w:Nat):Int):=by
 have a:w-1<h.length:=by omega
 have:=jD T.aU a
 grind [List.getElem?_eq_getElem,hd,Option.some.injEq]
theorem Tree.cR {w:Nat} (a:1<=w) (b:w<=h.length):hd h w<=h.length:=by
 have c:w-1<h.length:=by omega
 simp_all [jD,Tree.aU,hd,e8,bh,ie]
theorem Tree.Ky:h.idxOf 0<h.length:=by
 rw[apv]
 exact List.count_pos_iff.1 (by rw[T.one];omega)
theorem Tree.gb:top h<=h.length:=T.Ky
theorem Tree.X4 {i:Nat} (hi:h[i]? =some 0):i=h.idxOf 0:=by
 have b:=T.Ky
 have a:h[h.idxOf 0]? =some 0:=by simp_all
 have c: ∀(l:List Int) (i j:Nat),i<j->l[i]? =some 0->l[j]? =some 0->2<=l.count 0:=by
  intro l
  induction l<;>grind
 grind [Nat.lt_trichotomy,idxOf,Tree.one]
theorem Tree.eA {w:Nat} (a:1<=w) (b:w<=h.length):hd h w=0↔w=top h:=by
 have c:=T.get a b
 grind [Tree.X4,top,Tree.Ky,idxOf,List.getElem?_eq_getElem]
theorem Tree.tS {w:Nat} (c:1<=w) (e:w<=h.length):bg h h.length w=some (top h,dep h w):=by
 have b:=T.tR (w-1) (by omega)
 rw[show w-1+1=w by omega] at b
 obtain⟨p,a⟩:=Ck.1 b
 have d:=X2 a
 have f:=T.X4 d
 have g:=X3 T.aU c a
 grind [top,dep]
theorem Tree.hh {w:Nat} (a:1<=w) (b:w<=h.length):dep h w<h.length:=by
 have:=X1 (T.tS a b)
 exact this
theorem Tree.Kz:dep h (top h)=0:=by
 have b:=T.tS (gt h) T.gb
 have a:=T.get (gt h) T.gb
 rw[(T.eA (gt h) T.gb).2 rfl] at a
 obtain⟨n,c⟩: ∃n,h.length=n+1:=⟨h.length-1,by grind⟩
 grind [bg]
theorem Tree.fm {w:Nat} (b:1<=w) (c:w<=h.length) (i:hd h w≠0):dep h w=dep h (hd h w)+1:=by
 have a:=T.tS b c
 have d:=T.get b c
 have j:=T.tS (w:=hd h w) (by omega) (T.cR b c)
 obtain⟨n,f⟩: ∃n,h.length=n+1:=⟨h.length-1,by omega⟩
 rw[f] at a
 simp only[bg,d] at a
 rw[aG (by omega)] at a
 simp only[e0] at a
 obtain⟨l,g,e⟩:=co.1 a
 have k:=Aw (show n<=h.length by omega) g
 grind
theorem Tree.KA {w:Nat} (a:1<=w) (b:w<=h.length):dep h w=0↔w=top h:=by
 constructor
 all_goals grind [hd,Tree.eA,Tree.fm,Tree.Kz]
end
theorem KB {l:List Int} {k:Nat} {v:Int} (a:k<l.length):(l.set k v).take (k+1)=l.take k++ [v]:=by
 rw[Ch,iy,bh a]
 have hl:(l.take k).length=k:=by simp;omega
 rw[oP _ _ (by omega),hl]
 simp
theorem bu {c d:Type} {body:c->Option (c⊕d)} (b:Nat->c) (n:Nat) (w:d) (i: ∀k,k<n->body (b k)=some (.inl (b (k+1)))) (g:body (b n)=some (.inr w)):
  ∀(N:Nat),n<N->ai body N (b 0)=some w:=by
 have l: ∀(m k N:Nat),k+m=n->m<N->ai body N (b k)=some w:=by
  intro m
  induction m with
  |zero=>
   intro k N f e
   obtain⟨a,rfl⟩: ∃a,N=a+1:=⟨N-1,by omega⟩
   grind [ai]
  |succ m j=>
   intro k N f e
   obtain⟨a,rfl⟩: ∃a,N=a+1:=⟨N-1,by omega⟩
   grind [ai]
 simp_all
theorem lV {c e:Type} {body:c->Option (c⊕e)} (a:Nat->c) (n:Nat) (p:Nat->Bool) (w:Bool->e) (l: ∀k,k<n->p k=true->body (a k)=some (.inl (a (k+1))))
  (g: ∀k,k<n->p k=false->body (a k)=some (.inr (w false))) (i:body (a n)=some (.inr (w true))) (N:Nat) (d:n<N):
  ai body N (a 0)=some (w ((range n).all p)):=by
 have r: ∀(m k N:Nat),k+m=n->m<N->ai body N (a k)=some (w ((List.range' k m).all p)):=by
  intro m
  induction m with
  |zero=>
   intro k N f d
   obtain⟨b,rfl⟩: ∃b,N=b+1:=⟨N-1,by omega⟩
   grind [ai]
  |succ m q=>
   intro k N f d
   obtain⟨b,rfl⟩: ∃b,N=b+1:=⟨N-1,by omega⟩
   rw[CD,mE]
   cases j:p k<;>grind [ai]
 grind [List.range_eq_range']
def bs (p:Nat->Bool):Nat->Nat
 |0=>0
 |n+1=>bs p n|||(if p n then 2^n else 0)
theorem fJ (p:Nat->Bool): ∀n,bs p n<2^n
 |0=>by simp[bs]
 |n+1=>by
  have a:=fJ p n
  have b:2^n<2^(n+1):=by omega
  simp only[bs]
  refine h5 (by omega) ?_
  grind
theorem hQ (p:Nat->Bool) (n i:Nat):(bs p n).testBit i=(decide (i<n)&&p i):=by
 induction n<;>grind [bs,Decidable.decide]
theorem nA {m n:Nat} {p:Nat->Bool} (a:m<2^n) (h: ∀i,i<n->m.testBit i=p i):m=bs p n:=by
 apply Nat.eq_of_testBit_eq
 grind [hQ,Nat.testBit_lt_two_pow,Nat.lt_of_lt_of_le,Nat.pow_le_pow_right]
theorem KC {p q:Nat->Bool} {n:Nat} (h: ∀i,i<n->p i=q i):bs p n=bs q n:=
 nA (fJ p n) (fun i hi=>by grind [hQ])
theorem nB {m n:Nat} (h:n<=8) (a:m<2^n):m<256:=
 gz a (e5 (n:=2) (by omega) h)
def gu (h:List Int) (k:Nat):List (Int×Int):=((range k).filter fun i=>decide (h.getD i 0>0)).map fun(i:Nat)=>(bV ((i:Int)+1) (h.getD i 0),imax ((i:Int)+1) (h.getD i 0))
def aW (h:List Int):List (Int×Int):=gu h h.length
theorem nC (h:List Int) (k:Nat):(gu h k).length<=k:=by
 grind [gu,List.length_map,Nat.le_trans,List.length_filter_le]
theorem X5 (h:List Int) (k:Nat):gu h (k+1)=if h.getD k 0>0 then gu h k++ [(bV ((k:Int)+1) (h.getD k 0),imax ((k:Int)+1) (h.getD k 0))] else gu h k:=by
 unfold gu
 have a:List.filter (fun i=>decide (h.getD i 0>0)) [k]=if decide (h.getD k 0>0)=true then[k] else[]:=by grind
 grind [List.range_succ,getD,decide_eq_true]
def gM (p:Int×Int):List Int:=[p.1,p.2]
def cv (p:Int×Int):Int×Int×Unit:=(p.1,p.2,())
theorem ajA (h:List Int) (hl:h.length<=1048576):wQ h=some ((aW h).map gM):=by
 have e:wQ h=wP h:=by unfold wQ;rfl
 rw[e]
 unfold wP E3 PW PV E4 PU PT E5
 have d:=bu (body:=fun(s:Int×(List (List Int)))=>((rH h s.1 s.2).map (Sum.elim (fun(t:Int×(List (List Int)))=>Sum.inl (t.1,t.2)) (fun(t:(List (List Int)))=>Sum.inr t)):Option ((Int×(List (List Int)))⊕(((List (List Int)))))))
  (fun k=>((k:Int),(gu h k).map gM)) h.length ((aW h).map gM)
  (by
   intro k b
   have c:=nC h k
   have a:h.getD k 0=h[k]:=by simp_all
   simp only[rH]
   rw[show decide ((k:Int)<((h.length:Nat):Int))=true from an (by omega),bR b,wrap64 (x:=(k:Int)+1) (by omega) (by omega),X5,a]
   grind [decide_eq_true,room_le,gM,decide_eq_false])
  (by
   simp only[rH]
   rw[show decide (((h.length:Nat):Int)<((h.length:Nat):Int))=false from cy (by omega)]
   rfl)
 grind [LL,gu,gM]
theorem Tree.p5 {h:List Int} (T:Tree h) {k:Nat} (b:k<h.length):h.getD k 0=((hd h (k+1):Nat):Int):=by
 have a:=T.get (w:=k+1) (by omega) (by omega)
 simp_all
theorem Tree.nD {h:List Int} (T:Tree h) {w:Nat} (a:1<=w) (b:w<=h.length):hd h w≠w:=by
 intro e
 have:=T.fm a b (by omega)
 simp_all
theorem KD {h:List Int} (T:Tree h):pA h=some ((aW h).map cv):=by
 have e:pA h=yj h:=by unfold pA;rfl
 have d:=T.le
 rw[e]
 unfold yj HM TU TS HN TR TQ HO
 have i:mk 0 ((h.length:Nat):Int)=some 0:=by
  grind [mk]
 have g:=bu (body:=fun(s:Int×(List (Int×Int×Unit)))=>((sv h h.length s.1 s.2).map (Sum.elim (fun(t:Int×(List (Int×Int×Unit)))=>Sum.inl (t.1,t.2)) (fun(t:(List (Int×Int×Unit)))=>Sum.inr t)):Option ((Int×(List (Int×Int×Unit)))⊕(((List (Int×Int×Unit)))))))
  (fun k=>((k:Int),(gu h k).map cv)) h.length ((aW h).map cv)
  (by
   intro k b
   have f:=nC h k
   have a:=T.p5 b
   have hi:idx h (k:Int)=some ((hd h (k+1):Nat):Int):=by
    grind [bR,getD]
   have j:=T.nD (w:=k+1) (by omega) (by omega)
   have c:=T.cR (w:=k+1) (by omega) (by omega)
   simp only[sv]
   rw[show decide ((k:Int)<((h.length:Nat):Int))=true from an (by omega),hi,wrap64 (x:=(k:Int)+1) (by omega) (by omega),X5,a]
   grind [Kw,hd,gr,decide_eq_false,decide_eq_true,room_le,cv])
  (by
   simp only[sv]
   rw[show decide (((h.length:Nat):Int)<((h.length:Nat):Int))=false from cy (by omega)]
   rfl)
 grind [LL,replicate,gu,cv]
theorem Ax {h:List Int} (T:Tree h) {p:Int×Int}:p∈aW h↔ ∃w,1<=w/\w<=h.length/\hd h w≠0/\p=(bV (w:Int) ((hd h w:Nat):Int),imax (w:Int) ((hd h w:Nat):Int)):=by
 unfold aW gu
 rw[iB]
 constructor
 ·grind [Tree.p5]
 ·rintro⟨w,a,b,c,rfl⟩
  refine⟨w-1,?_,?_⟩
  all_goals grind [Tree.p5,List.length]
theorem tT {h:List Int} (T:Tree h) {p:Int×Int} (a:p∈aW h):1<=p.1/\p.1<p.2/\p.2<=(h.length:Nat):=by
 grind [Ax,Tree.cR,Tree.nD,bV,imax]
def Ay (h:List Int) (v:Int):Bool:=(aW h).any fun p=>decide (p.1<v/\v<p.2)
def cd (p q:Int×Int):Bool:=jB p.1 p.2 q.1 q.2
def df (X:Int×Int->Int×Int->Bool):List (Int×Int)->Nat
 |[]=>0
 |a::r=>r.countP (X a)+df X r
theorem X6 (X:Int×Int->Int×Int->Bool) (x:Int×Int): ∀l,df X (l++ [x])=df X l+l.countP (fun q=>X q x)
 |[]=>by simp[df]
 |a::r=>by
  simp only[fr,df]
  rw[X6 X x r,h6,h7,h7,List.countP_nil]
  omega
theorem Az (X:Int×Int->Int×Int->Bool): ∀l,df X l<=l.length*l.length
 |[]=>by simp[df]
 |a::r=>by
  simp only[df,cB]
  have b:=Az X r
  grind
theorem X7 {X:Int×Int->Int×Int->Bool}: ∀l,df X l=0↔l.Pairwise fun p q=>X p q=false
 |[]=>by simp[df]
 |a::r=>by
  simp only[df,d9,<-X7 r]
  simp_all
theorem ajB (p q:Int×Int):cd p q=cd q p:=by
 grind [cd,jB]
def nE (h:List Int):Nat:=df cd (aW h)
def jE (h:List Int):Int:=if aB h then(nE h:Int) else-1
theorem ajC {h:List Int} (d:h.length<=8):nE h<=64:=by
 have a:=Az cd (aW h)
 have b:=nC h h.length
 have c:(aW h).length*(aW h).length<=8*8:=fv (by unfold aW;omega) (by unfold aW;omega)
 unfold nE
 omega
theorem ajD (b:List (Int×Int)) (i:b.length<=8) (m: ∀p∈b,p.1<p.2):yp (b.map cv)=some ((df cd b:Nat):Int):=by
 have e:yp (b.map cv)=yo (b.map cv):=by unfold yp;rfl
 rw[e]
 unfold yo HP T2 T1 HQ T0 TZ HW
 have u: ∀(a:Int×Int) (l:List (Int×Int)),l.countP (cd a)<=l.length:=fun a l=>h8
 have E:=Az cd b
 have C:b.length*b.length<=8*8:=fv i i
 have y: ∀(a:Int×Int) (l:List (Int×Int)) (c:Nat),a.1<a.2->(∀p∈l,p.1<p.2)->l.length<=8->c<=1000->
   HT (c:Int) (l.map cv) ((l.length:Nat):Int) a.1 a.2=some ((c+l.countP (cd a):Nat):Int):=fun a l c r hl D d=>by
  unfold HT TV
  have q:=bu (body:=fun(s:Int×Int)=>((sy s.1 (l.map cv) l.length s.2 a.1 a.2).map (Sum.elim (fun(t:Int×Int)=>Sum.inl (t.1,t.2)) (fun(t:Int)=>Sum.inr t)):Option ((Int×Int)⊕(Int))))
   (fun j=>(((c+(l.take j).countP (cd a):Nat):Int),(j:Int))) l.length ((c+l.countP (cd a):Nat):Int)
   (by
    intro j n
    have F:(l.take j).countP (cd a)<=j:=fu (u a _) (by simp;omega)
    have hi:idx (l.map cv) (j:Int)=some (cv l[j]):=by grind [eN]
    simp only[sy]
    rw[show decide ((j:Int)<((l.length:Nat):Int))=true from an (by omega),hi,wrap64 (x:=(j:Int)+1) (by omega) (by omega),wrap64 (by omega) (by omega)]
    simp only[aw,ac,cv]
    rw[XU r (hl l[j] (dc n)),iy,bh n]
    grind [Option.toList_some,jB,cd])
   (by
    grind [sy,Decidable.decide,List.length,decide_eq_false,List.take_length])
  grind [LL]
 have G: ∀k,k<=b.length-> ∃c:Nat,c+df cd (b.drop k)=df cd b:=by
  intro k
  induction k with
  |zero=>simp_all
  |succ k B=>
   intro z
   obtain⟨c,d⟩:=B (by omega)
   rw[e7 (show k<b.length by omega)] at d
   simp only[df] at d
   exact⟨c+(b.drop (k+1)).countP (cd b[k]),by omega⟩
 have q:=de (body:=fun(s:Int×Int)=>((HV (b.map cv) s.1 (b.map cv).length s.2).map (Sum.elim (fun(t:Int×Int)=>Sum.inl (t.1,t.2)) (fun(t:Int)=>Sum.inr t)):Option ((Int×Int)⊕(Int))))
  (I:=fun s=> ∃k c:Nat,s=((c:Int),(k:Int))/\k<=b.length/\c+df cd (b.drop k)=df cd b) (μ:=fun s=>b.length-s.2.toNat) (f:=fun _=>((df cd b:Nat):Int))
  (by
   rintro _ ⟨k,c,rfl,z,d⟩
   simp only[HV,HR,eZ]
   by_cases g:k<b.length
   ·left
    rw[show decide ((k:Int)<((b.length:Nat):Int))=true from an (by omega)]
    have hi:idx (b.map cv) (k:Int)=some (cv b[k]):=by grind [eN]
    have w:inc (wrap .i64 ((k:Int)+1)) (b.map cv).length=some (k+1):=by
     grind [wrap64,inc,List.length_map]
    have v:((b.map cv).take b.length).drop (k+1)=(b.drop (k+1)).map cv:=by rw[vv (by simp),List.map_drop]
    rw[e7 g] at d
    simp only[df] at d
    simp only[aw,ac,Sum.elim_inl]
    unfold TY TX TW HS HU
    rw[hi]
    simp only[ac]
    rw[w]
    simp only[ac,v,eZ,cv]
    rw[y b[k] (b.drop (k+1)) c (m _ (dc g)) (fun p A=>m p (n8 A)) (by simp;omega) (by omega),wrap64 (by omega) (by omega)]
    exact⟨(((c+(b.drop (k+1)).countP (cd b[k]):Nat):Int),((k+1:Nat):Int)),rfl,⟨k+1,_,rfl,g,by omega⟩,by simp;omega,trivial⟩
   grind [List.length,Decidable.decide,decide_eq_false,List.drop_length,df])
 simp only[ac]
 rw[q LL (0,0) ⟨0,0,rfl,by omega,by simp⟩ (by grind [LL])]
 rfl
theorem ajE (h:List Int):yq h=some (jE h):=by
 have e:yq h=sA h:=by unfold yq;rfl
 rw[e]
 unfold sA jE
 rw[fH]
 cases a:aB h with
 |false=>rfl
 |true=>
  have T:=(bK h).1 a
  have hl:=nC h h.length
  have c:=T.le
  simp only[ac,bo,au,KD T,cN]
  rw[ajD (aW h) (by unfold aW;omega) (fun p b=>(tT T b).2.1)]
  rfl
theorem ajF {p a:Int×Int} (b:1<=p.1/\p.1<p.2) (c:1<=a.1/\a.1<a.2):jC p.1 p.2 a.1 a.2=cd p a:=by
 grind [bV,imax,gr,decide_eq_true,jC,cd]
theorem ajG (h:List Int) (w:h.length<=1048576):wU h=some (jE h):=by
 have e:wU h=wT h:=by unfold wU;rfl
 rw[e]
 unfold wT Fa jE
 rw[cL]
 cases u:aB h with
 |false=>rfl
 |true=>
  have T:=(bK h).1 u
  have H:=T.le
  simp only[ac,bo,au,ajA h w,Sum.elim_inl,cN]
  unfold P4 P3 Fb P2 P1 Fg
  have q:(aW h).length<=8:=by grind [nC,List.length,aW]
  have f: ∀p∈aW h,1<=p.1/\p.1<p.2:=fun p l=>⟨(tT T l).1,(tT T l).2.1⟩
  have r:nE h=df cd (aW h):=rfl
  rw[r]
  generalize aW h=a at q f⊢
  have v: ∀k,df cd (a.take k)<=64:=fun k=>by
   have B:=Az cd (a.take k)
   have i:(a.take k).length<=8:=by simp;omega
   have:(a.take k).length*(a.take k).length<=8*8:=fv i i
   omega
  have F: ∀k,(d:k<a.length)-> ∀c:Nat,c<=1000->Fe (c:Int) (k:Int) (a.map gM)=some ((c+(a.take k).countP (fun b=>cd b a[k]):Nat):Int):=fun k d c D=>by
   unfold Fe Fc PY PX
   have y:=bu (body:=fun(s:Int×Int)=>((rI s.1 k s.2 (a.map gM)).map (Sum.elim (fun(t:Int×Int)=>Sum.inl (t.1,t.2)) (fun(t:Int)=>Sum.inr t)):Option ((Int×Int)⊕(Int))))
    (fun j=>(((c+(a.take j).countP (fun b=>cd b a[k]):Nat):Int),(j:Int))) k ((c+(a.take k).countP (fun b=>cd b a[k]):Nat):Int)
    (by
     intro j G
     have g:j<a.length:=by omega
     have E:(a.take j).countP (fun b=>cd b a[k])<=j:=fu h8 (by simp;omega)
     have m:(a.map gM)[j]? =some (gM a[j]):=by simp[g]
     have n:(a.map gM)[k]? =some (gM a[k]):=by simp[d]
     have z: ∀p,idx (gM p) 0=some p.1:=fun p=>rfl
     have A: ∀p,idx (gM p) 1=some p.2:=fun p=>rfl
     simp only[rI]
     rw[show decide ((j:Int)<(k:Int))=true from an (by omega),bS (by grind),bS (by grind)]
     simp only[aw,ac,m,n,z,A,aju]
     rw[ajF (f _ (dc g)) (f _ (dc d)),wrap64 (x:=(j:Int)+1) (by omega) (by omega),wrap64 (by omega) (by omega),iy,bh g]
     grind)
    (by
     grind [rI,Decidable.decide,decide_eq_false])
   grind [LL]
  have y:=bu (body:=fun(s:Int×Int)=>((wS s.1 s.2 (a.map gM)).map (Sum.elim (fun(t:Int×Int)=>Sum.inl (t.1,t.2)) (fun(t:Int)=>Sum.inr t)):Option ((Int×Int)⊕(Int))))
   (fun k=>(((df cd (a.take k):Nat):Int),(k:Int))) a.length ((df cd a:Nat):Int)
   (by
    intro k d
    have C:=v k
    simp only[wS,wR,eZ]
    rw[show decide ((k:Int)<((a.length:Nat):Int))=true from an (by omega)]
    simp only[aw,ac,Sum.elim_inl]
    unfold P0 PZ Ff
    grind [wrap64,List.take_add_one,List.getElem?_eq_getElem,Option.toList_some,X6])
   (by
    grind [wS,wR,List.length_map,Decidable.decide,List.length,decide_eq_false,List.take_length])
  grind [LL,df,cd]
def dh (h:List Int) (v:Int):Bool:=aB h&&(decide (1<=v)&&decide (v<=(h.length:Nat)))
theorem X8 (h:List Int) (v:Int):zw h v=some (dh h v):=by
 grind [zw,zv,dh,fH,aB]
theorem nF {h:List Int} {v:Int}:dh h v=true↔ ∃w:Nat,v=(w:Int)/\Tree h/\1<=w/\w<=h.length:=by
 unfold dh
 simp only[aT,db,bK]
 constructor
 ·rintro⟨T,a,b⟩
  exact⟨v.toNat,by omega,T,by omega,by omega⟩
 grind
theorem ajH {h:List Int} (T:Tree h) {v:Nat}:Ay h (v:Int)=true↔ ∃w,1<=w/\w<=h.length/\hd h w≠0/\((w<v/\v<hd h w)\/(hd h w<v/\v<w)):=by
 unfold Ay
 rw[g0]
 constructor
 ·grind [Ax,bV,imax]
 ·rintro⟨w,a,b,c,d⟩
  refine⟨_,(Ax T).2 ⟨w,a,b,c,rfl⟩,?_⟩
  grind [bV,imax]
theorem tU {x:Int} (a:0<=x) (b:x<18446744073709551616):wrap .u64 x=x:=by
 grind [wrap,IntKind.bits,signed]
theorem tV {a:Nat} (h:a<18446744073709551616):(ofInt 64 (a:Int)).toNat=a:=by
 simp_all
theorem X9 {a b:Nat} (c:a<2^62) (d:b<2^62):je .u64 (a:Int) (b:Int)=((a|||b:Nat):Int):=by
 have h:=h5 c d
 show wrap .u64 ((ofInt 64 (a:Int)|||ofInt 64 (b:Int)).toNat:Int)=_
 grind [BitVec.toNat_or,tV,tU]
theorem ajI {a b:Nat} (c:a<2^62) (d:b<2^62):je .i64 (a:Int) (b:Int)=((a|||b:Nat):Int):=by
 have h:=h5 c d
 show wrap .i64 ((ofInt 64 (a:Int)|||ofInt 64 (b:Int)).toNat:Int)=_
 grind [BitVec.toNat_or,tV,wrap64]
theorem KE {a b:Nat} (d:a<2^62) (c:b<2^62):dM .u64 (a:Int) (b:Int)=((a&&&b:Nat):Int):=by
 have h:a&&&b<2^62:=Nat.and_lt_two_pow a c
 show wrap .u64 ((ofInt 64 (a:Int)&&&ofInt 64 (b:Int)).toNat:Int)=_
 grind [BitVec.toNat_and,tV,tU]
theorem ajJ {a b:Nat} (d:a<2^62) (c:b<2^62):dM .i64 (a:Int) (b:Int)=((a&&&b:Nat):Int):=by
 have h:a&&&b<2^62:=Nat.and_lt_two_pow a c
 show wrap .i64 ((ofInt 64 (a:Int)&&&ofInt 64 (b:Int)).toNat:Int)=_
 grind [BitVec.toNat_and,tV,wrap64]
theorem gN {n:Nat} {p:Nat->Bool} (h:(range n).all p=true) {i:Nat} (hi:i<n):p i=true:=
 bQ.1 h i (fh.2 hi)
theorem ajK:((range 8).all fun i=>ku ((i:Int)+1)==some ((2^i:Nat):Int))=true:=by decide+kernel
theorem Ya {w:Nat} (a:1<=w) (b:w<=8):ku (w:Int)=some ((2^(w-1):Nat):Int):=by
 grind [gN,ajK]
theorem ajL {w:Nat} (h:w<=8) (a:1<=w):2^(w-1)<256:=by
 have:2^(w-1)<2^8:=k3 (by omega) (by omega)
 omega
def cg (m:Nat):List Int:=((range 8).filter fun i=>m.testBit i).map fun i=>((i+1:Nat):Int)
theorem Yb (p:Nat->Bool) (n:Nat): ∀N,n<=N->(range N).filter (fun i=>decide (i<n)&&p i)=(range n).filter p
 |0,h=>by
  simp_all
 |N+1,h=>by
  by_cases e:n=N+1
  ·grind [List.filter_congr]
  ·rw[f0,List.filter_append,Yb p n N (by omega)]
   grind
theorem KF (p:Nat->Bool) {n:Nat} (h:n<=8):cg (bs p n)=((range n).filter p).map fun i=>((i+1:Nat):Int):=by
 simp_all [cg,Yb,List.filter_congr,hQ]
theorem KG {p:Nat->Bool} {n:Nat} (h:n<=8) {x:Int}:x∈cg (bs p n)↔ ∃i,i<n/\p i=true/\x=((i+1:Nat):Int):=by
 grind [KF]
theorem kE (m:Nat):(cg m).length<=8:=by
 grind [cg,List.length_map,Nat.le_trans,List.length_filter_le]
def di (h:List Int) (v:Int) (i:Nat):Bool:=h.getD i 0==v
theorem tW (h:List Int) (v:Int) (hl:h.length<=8):lK h v=some ((bs (di h v) h.length:Nat):Int):=by
 have e:lK h v=yd h v:=by unfold lK;rfl
 rw[e]
 unfold yd Tt Tr HB Tq Tp HA
 have d:=bu (body:=fun(s:Int×Int)=>((si h v s.1 h.length s.2).map (Sum.elim (fun(t:Int×Int)=>Sum.inl (t.1,t.2)) (fun(t:Int)=>Sum.inr t)):Option ((Int×Int)⊕(Int))))
  (fun k=>(((bs (di h v) k:Nat):Int),(k:Int))) h.length ((bs (di h v) h.length:Nat):Int)
  (by
   intro k a
   have c:di h v k=(h[k]==v):=by simp[di,getD,a]
   have f:=fJ (di h v) k
   have b:(2:Nat)^k<2^62:=k3 (by omega) (by omega)
   simp only[si]
   rw[show decide ((k:Int)<((h.length:Nat):Int))=true from an (by omega),bR a,wrap64 (by omega) (by omega),show(k:Int)+1=((k+1:Nat):Int) by omega,
    Ya (by omega) (by omega),e9]
   simp only[aw,ac,<-c,bs]
   rw[X9 (by omega) b]
   cases di h v k<;>simp_all)
  (by
   grind [si,Decidable.decide,List.length,decide_eq_false])
 simp only[ac]
 have:=d LL (by grind [LL])
 simp only[bs] at this
 rw[show(((0:Nat):Int),((0:Nat):Int))=((0:Int),(0:Int)) from rfl] at this
 rw[this]
 rfl
theorem ajM:((range 256).all fun m=>jt (m:Int)==some (cg m))=true:=by decide+kernel
theorem p6 {m:Nat} (h:m<256):jt (m:Int)=some (cg m):=by simpa using gN ajM h
def fo (h:List Int):Int:=if aB h then(top h:Int) else-1
theorem AA (h:List Int):px h=some (fo h):=by
 unfold px Hy Hv To Tn Tm fo
 rw[fH]
 cases b:aB h with
 |false=>simp
 |true=>
  have T:=(bK h).1 b
  simp only[ac,bo,au,Sum.elim_inl,cN]
  have d:=de (body:=fun(s:Int×Int)=>((yc h s.1 s.2).map (Sum.elim (fun(t:Int×Int)=>Sum.inl (t.1,t.2)) (fun(t:Int×Int)=>Sum.inr t)):Option ((Int×Int)⊕((Int×Int)))))
   (I:=fun s=> ∃k i:Nat,s=(((k+1:Nat):Int),(i:Int))/\k<h.length/\i+dep h (k+1)<h.length) (μ:=fun s=>dep h s.1.toNat)
   (f:=fun s=>((top h:Int),s.2+(dep h s.1.toNat:Int)))
   (by
    rintro _ ⟨k,i,rfl,a,hi⟩
    have j:=T.le
    simp only[yc]
    rw[XY h k i a (by omega) (by omega)]
    have c:=T.get (w:=k+1) (by omega) (by omega)
    rw[show k+1-1=k by omega,bh a] at c
    have g:h[k]=((hd h (k+1):Nat):Int):=by grind
    by_cases e:hd h (k+1)=0
    ·grind [Tree.eA,dep,Tree.Kz]
    ·left
     have m:=T.fm (w:=k+1) (by omega) (by omega) e
     have l:=T.cR (w:=k+1) (by omega) (by omega)
     rw[aG (by omega)]
     refine⟨(h[k],((i+1:Nat):Int)),by simp,⟨hd h (k+1)-1,i+1,?_,by omega,?_⟩,?_,?_⟩
     all_goals grind)
  rw[d LL (1,0) ⟨0,0,rfl,by have:=T.pos;omega,by simp_all [Tree.hh,Tree.pos]⟩ (by
   have:=T.hh (w:=1) (by omega) T.pos;grind [Tree.le,LL])]
  simp[Hw]
inductive aL (h:List Int):Nat->Nat->Prop
 |refl {a:Nat} (h1:1<=a) (h2:a<=h.length):aL h a a
 |step {a b:Nat} (h1:1<=a) (h2:a<=h.length) (h3:hd h a≠0) (u:aL h (hd h a) b):aL h a b
theorem Tree.Yc {h:List Int} (T:Tree h) {P:Nat->Prop} (b:P (top h)) (i: ∀w,1<=w->w<=h.length->hd h w≠0->P (hd h w)->P w): ∀w,1<=w->w<=h.length->P w:=by
 have k: ∀(d w:Nat),dep h w=d->1<=w->w<=h.length->P w:=by
  intro d
  induction d with
  |zero=>
   grind [Tree.KA]
  |succ d j=>
   intro w e c f
   have g:hd h w≠0:=fun a=>by
    grind [Tree.KA,Tree.eA]
   grind [Tree.fm,Tree.cR]
 simp_all
theorem Tree.Yd {h:List Int} (T:Tree h) {P:Nat->Prop} (g: ∀w,1<=w->w<=h.length->(∀c,1<=c->c<=h.length->hd h c=w->P c)->P w): ∀w,1<=w->w<=h.length->P w:=by
 have f: ∀(d w:Nat),h.length-dep h w<=d->1<=w->w<=h.length->P w:=by
  intro d
  induction d with
  |zero=>
   intro w e a b
   have:=T.hh a b
   omega
  |succ d i=>
   grind [Tree.fm,Tree.hh]
 intro w
 exact f _ w (aS _)
theorem Tree.iK {h:List Int} (T:Tree h) {a b:Nat} (u:aL h a b):(1<=a/\a<=h.length)/\(1<=b/\b<=h.length):=by
 induction u<;>omega
theorem Tree.iL {h:List Int} (T:Tree h) {a:Nat} (b:1<=a) (c:a<=h.length) (d:hd h a≠0):aL h a (hd h a):=
 .step b c d (.refl (by omega) (T.cR b c))
theorem Tree.Ye {h:List Int} (T:Tree h) {a:Nat} (e:1<=a) (f:a<=h.length):aL h a (top h):=
 T.Yc (P:=fun w=>aL h w (top h)) (.refl (gt h) T.gb) (fun w a b c d=> .step a b c d) a e f
theorem Tree.KH {h:List Int} (T:Tree h) {a b c:Nat} (u:aL h a b) (v:aL h b c):aL h a c:=by
 induction u with
 |refl=>exact v
 |step d e f u g=>exact .step d e f (g v)
theorem Tree.AB {h:List Int} (T:Tree h) {a b:Nat} (u:aL h a b):dep h b<=dep h a/\(dep h b=dep h a->a=b):=by
 induction u<;>grind [step,Tree.fm]
theorem Tree.kF {h:List Int} (T:Tree h) {a b:Nat} (u:aL h a b) (v:aL h b a):a=b:=by
 have c:=T.AB u
 have d:=T.AB v
 omega
theorem Tree.lW {h:List Int} (T:Tree h) {a b:Nat} (c:1<=a) (d:a<=h.length):aL h a b↔a=b\/(hd h a≠0/\aL h (hd h a) b):=by
 constructor
 ·intro u
  cases u<;>simp_all
 ·rintro(rfl|⟨e,u⟩)
  ·exact .refl c d
  ·exact .step c d e u
theorem Tree.AC {h:List Int} (T:Tree h) {b:Nat} (u:aL h (top h) b):b=top h:=by
 grind [Tree.lW,gt,Tree.gb,absurd,Tree.eA]
theorem Tree.ajN {h:List Int} (T:Tree h) {a b c:Nat} (u:aL h a b) (v:aL h a c):aL h b c\/aL h c b:=by
 induction u<;>grind [step,Tree.lW]
theorem Tree.KI {h:List Int} (T:Tree h) {a b:Nat}:aL h a b↔(a=b/\1<=a/\a<=h.length)\/(b≠0/\ ∃c,1<=c/\c<=h.length/\hd h c=b/\aL h a c):=by
 constructor
 ·intro u
  induction u with
  |refl d f=>omega
  |step d f m u n=>
   rcases n with⟨e,p,_⟩|⟨k,c,g,i,l,j⟩
   ·exact .inr ⟨by omega,_,d,f,e,.refl d f⟩
   ·exact .inr ⟨k,c,g,i,l,.step d f m j⟩
 ·rintro(⟨rfl,d,f⟩|⟨k,c,g,i,rfl,j⟩)
  ·exact .refl d f
  grind [Tree.KH,Tree.iL]
theorem Tree.ajO {h:List Int} (T:Tree h) {a b c d:Nat} (l:b≠0) (g:hd h c=b) (i:hd h d=b) (u:aL h a c) (v:aL h a d):c=d:=by
 have one: ∀c d,hd h c=b->hd h d=b->aL h c d->c=d:=by
  intro c d g i u
  have f:=T.iK u
  rcases(T.lW f.1.1 f.1.2).1 u with e|⟨_,j⟩
  ·exact e
  ·have k:=T.AB j
   grind [Tree.fm]
 grind [Tree.ajN,Tree.one]
noncomputable def eO (h:List Int) (a b:Nat):Bool:= @decide (aL h a b) (Classical.propDecidable _)
theorem jF {h:List Int} {a b:Nat}:eO h a b=true↔aL h a b:=by simp[eO]
theorem ajP {h:List Int} {a b:Nat}:eO h a b=false↔ ¬aL h a b:=by simp[eO]
noncomputable def bq (h:List Int) (k:Nat):Nat:=bs (fun i=>eO h (i+1) k) h.length
theorem fK {h:List Int} (hl:h.length<=8) (k:Nat):bq h k<256:=nB hl (fJ _ _)
theorem AD {h:List Int} {k i:Nat} (T:Tree h):(bq h k).testBit i=eO h (i+1) k:=by
 unfold bq
 rw[hQ]
 by_cases hi:i<h.length
 ·simp[hi]
 ·have:eO h (i+1) k=false:=ajP.2 fun u=>by have:=T.iK u;omega
  grind
def eP (h:List Int) (w:Nat):List Int:=cg (bs (di h (w:Int)) h.length)
theorem KJ {h:List Int} (T:Tree h) {w:Nat} {x:Int}:x∈eP h w↔ ∃c,1<=c/\c<=h.length/\hd h c=w/\x=(c:Int):=by
 unfold eP
 rw[KG T.le]
 constructor
 ·rintro⟨i,a,b,e⟩
  refine⟨i+1,by omega,by omega,?_,e⟩
  have f:=T.get (w:=i+1) (by omega) (by omega)
  grind [Nat.add_sub_cancel,di]
 ·rintro⟨c,a,b,d,rfl⟩
  refine⟨c-1,by omega,?_,by omega⟩
  grind [Tree.get,di]
theorem ajQ (h:List Int) (w:Nat):(eP h w).length<=8:=kE _
noncomputable def hR (h:List Int) (w:Nat) (cs:List Int) (i:Nat):Bool:=(i+1==w)||cs.any fun c=>eO h (i+1) c.toNat
theorem Yf {h:List Int} (T:Tree h) {w:Nat} (f:1<=w) (g:w<=h.length) {i:Nat} (hi:i<h.length):hR h w (eP h w) i=eO h (i+1) w:=by
 rw[e3,jF,T.KI]
 simp only[hR,ev,cb,g0,jF]
 constructor
 ·grind [KJ]
 ·rintro(⟨e,_⟩|⟨_,c,a,b,d,u⟩)
  ·exact .inl e
  ·exact .inr ⟨(c:Int),(KJ T).2 ⟨c,a,b,d,rfl⟩,by simpa using u⟩
theorem ajR (h:List Int) (w:Nat) (a:List Int) {j:Nat} (b:j<a.length) {n:Nat}:
  bs (hR h w (a.take (j+1))) n=bs (hR h w (a.take j)) n|||bs (fun i=>eO h (i+1) a[j].toNat) n:=by
 refine(nA (h5 (fJ _ _) (fJ _ _)) fun i hi=> ?_).symm
 rw[Nat.testBit_or,hQ,hQ]
 simp only[hi,decide_true,d8,hR]
 grind [List.take_add_one,List.getElem?_eq_getElem,Option.toList_some,Bool.or_assoc]
theorem ajS (h:List Int) {w n:Nat} (a:1<=w) (b:w<=n):bs (hR h w []) n=2^(w-1):=by
 refine(nA (k3 (by omega) (by omega)) fun i hi=> ?_).symm
 grind [hR]
noncomputable def gc (h:List Int) (b a:List Int):List Int:=(range h.length).map fun i=>if(a.any fun c=>eO h (i+1) c.toNat)=true then((bq h (i+1):Nat):Int) else b.getD i 0
theorem nG (h b a:List Int):(gc h b a).length=h.length:=by simp[gc]
theorem lX (h b a:List Int) {i:Nat} (hi:i<h.length):(gc h b a)[i]? =some (if(a.any fun c=>eO h (i+1) c.toNat)=true then((bq h (i+1):Nat):Int) else b.getD i 0):=by
 simp[gc,hi]
theorem ajT {h a:List Int} (hl:a.length=h.length):gc h a []=a:=by
 apply hx
 grind [List.length,lX,getD,List.getElem?_eq_none,nG]
theorem ajU (h b a:List Int) {j:Nat} (c:j<a.length):gc h (gc h b (a.take j)) [a[j]]=gc h b (a.take (j+1)):=by
 apply hx
 intro i
 by_cases hi:i<h.length
 ·rw[lX h _ _ hi,lX h _ _ hi,e8,lX h _ _ hi,iy,bh c]
  grind
 grind [List.getElem?_eq_none,nG]
theorem ajV {h c:List Int} (T:Tree h) {w:Nat} (a:1<=w) (b:w<=h.length):(gc h c (eP h w)).set (w-1) ((bq h w:Nat):Int)=gc h c [(w:Int)]:=by
 apply hx
 intro i
 by_cases hi:i<h.length
 ·by_cases e:i=w-1
  ·subst e
   rw[List.getElem?_set_self (by rw[nG];omega),lX h _ _ hi,aA]
   ·simp_all
   ·have:eO h (w-1+1) w=true:=jF.2 (by rw[show w-1+1=w by omega];exact .refl a b)
    simp_all
  ·rw[hw (fun d=>e d.symm),lX h _ _ hi,lX h _ _ hi]
   have f:=Yf T a b hi
   grind [beq_eq_false_iff_ne,hR]
 grind [List.getElem?_eq_none,List.length_set,nG]
theorem ajW {h:List Int} (T:Tree h): ∀w,1<=w->w<=h.length-> ∀(f:Nat) (a:List Int),h.length-dep h w<f->a.length=h.length->
  lL f h (w:Int) a=some (((bq h w:Nat):Int),gc h a [(w:Int)]):=by
 refine T.Yd (P:=fun w=> ∀(f:Nat) (a:List Int),h.length-dep h w<f->a.length=h.length->lL f h (w:Int) a=some (((bq h w:Nat):Int),gc h a [(w:Int)])) ?_
 intro w l n y f a B v
 obtain⟨f,rfl⟩: ∃g,f=g+1:=⟨f-1,by omega⟩
 have m:=T.le
 simp only[lL]
 generalize r:lL f=R0
 have z: ∀c,1<=c->c<=h.length->hd h c=w-> ∀zs:List Int,zs.length=h.length->R0 h (c:Int) zs=some (((bq h c:Nat):Int),gc h zs [(c:Int)]):=by
  intro c d e k zs x
  rw[<-r]
  refine y c d e k f zs ?_ x
  have:=T.fm d e (by omega)
  rw[k] at this
  have:=T.hh l n
  omega
 have C:=ajQ h w
 have u:=bu (body:=fun(s:Int×Int×(List Int))=>((pB R0 h s.1 (eP h w).length s.2.1 s.2.2 (eP h w)).map (Sum.elim (fun(t:Int×Int×(List Int))=>Sum.inl (t.1,t.2.1,t.2.2)) (fun(t:Int×(List Int))=>Sum.inr t)):Option ((Int×Int×(List Int))⊕((Int×(List Int))))))
  (fun j=>(((bs (hR h w ((eP h w).take j)) h.length:Nat):Int),(j:Int),gc h a ((eP h w).take j))) (eP h w).length (((bs (hR h w (eP h w)) h.length:Nat):Int),gc h a (eP h w))
  (by
   intro j b
   simp only[pB]
   obtain⟨c,d,e,k,p⟩:=(KJ T).1 (dc b)
   have A:=z c d e k (gc h a ((eP h w).take j)) (nG _ _ _)
   have E:bs (hR h w ((eP h w).take j)) h.length<256:=nB m (fJ _ _)
   have F:=fK m c
   rw[show decide ((j:Int)<(((eP h w).length:Nat):Int))=true from an (by omega),bS b,wrap64 (by omega) (by omega)]
   simp only[aw,ac,bh b]
   rw[p,A]
   simp only[ac]
   rw[X9 (by omega) (by omega),ajR h w _ b,<-ajU h a _ b,p]
   rfl)
  (by
   grind [pB,Decidable.decide,eP,decide_eq_false,List.take_length])
 have hl:=u LL (by grind [LL])
 rw[List.take_zero,ajS h l n,ajT v] at hl
 unfold T7 H1 HY T6 T5 HZ T4 T3 H0
 rw[Ya l (by omega),tW h _ m]
 simp only[ac]
 rw[p6 (nB m (fJ _ _))]
 show(((((some _).bind fun q=>some (((List.length q:Nat):Int),q)).bind _):Option _).bind _)=_
 simp only[ac]
 change ((Option.map _ (ai (fun(s:Int×Int×(List Int))=>((pB R0 h s.1 (eP h w).length s.2.1 s.2.2 (eP h w)).map (Sum.elim (fun(t:Int×Int×(List Int))=>Sum.inl (t.1,t.2.1,t.2.2)) (fun(t:Int×(List Int))=>Sum.inr t)):Option ((Int×Int×(List Int))⊕((Int×(List Int)))))) LL (((2^(w-1):Nat):Int),((0:Nat):Int),a))).bind _)=_
 rw[hl]
 simp only[bn,ac]
 rw[wrap64 (by omega) (by omega),show(w:Int)-1=((w-1:Nat):Int) by omega,bS (by rw[nG];omega)]
 simp only[ac]
 have D:bs (hR h w (eP h w)) h.length=bq h w:=KC fun i hi=>Yf T l n hi
 grind [ajV]
noncomputable def eQ (h:List Int):List Int:=(range h.length).map fun i=>((bq h (i+1):Nat):Int)
theorem jG (h:List Int):(eQ h).length=h.length:=by simp[eQ]
theorem nH (h:List Int) {i:Nat} (hi:i<h.length):(eQ h)[i]? =some ((bq h (i+1):Nat):Int):=by simp[eQ,hi]
theorem tX {h:List Int} (T:Tree h):lM h=some (eQ h):=by
 have c:=T.le
 have e:lM h=sC h:=by unfold lM;rfl
 rw[e]
 unfold sC
 rw[hg (by omega),AA]
 have b:aB h=true:=(bK h).2 T
 simp only[ac,fo,b,cN]
 have a:sB h (top h:Int) (replicate h.length 0)=lL RR h (top h:Int) (replicate h.length 0):=by unfold sB pC;rfl
 rw[a,ajW T (top h) (gt h) T.gb RR _ (by grind [RR]) (by simp)]
 simp only[ac]
 congr 1
 apply hx
 intro i
 by_cases hi:i<h.length
 ·rw[lX h _ _ hi,nH h hi,aA]
  have:eO h (i+1) (top h)=true:=jF.2 (T.Ye (by omega) (by omega))
  simp_all
 grind [List.getElem?_eq_none,nG,jG]
noncomputable def iM (h:List Int) (w k i:Nat):Bool:=(i+1==w)||(range k).any fun c=>(hd h (c+1)==w)&&eO h (i+1) (c+1)
theorem ajX {h:List Int} (T:Tree h) {w:Nat} (f:1<=w) (g:w<=h.length) {i:Nat} (hi:i<h.length):iM h w h.length i=eO h (i+1) w:=by
 rw[e3,jF,T.KI]
 simp only[iM,ev,cb,g0,jF,aT,fh]
 constructor
 ·grind
 ·rintro(⟨e,_⟩|⟨_,c,a,b,d,u⟩)
  ·exact .inl e
  ·exact .inr ⟨c-1,by omega,by simp_all,by simp_all⟩
theorem ajY (h:List Int) (w:Nat) (k n:Nat):bs (iM h w (k+1)) n=bs (iM h w k) n|||(if hd h (k+1)=w then bs (fun i=>eO h (i+1) (k+1)) n else 0):=by
 refine(nA (h5 (fJ _ _) ?_) fun i hi=> ?_).symm
 ·split
  ·exact fJ _ _
  grind
 ·rw[Nat.testBit_or,hQ]
  simp only[hi,decide_true,d8,iM]
  grind [List.range_succ,Bool.or_assoc,hd,hQ]
theorem ajZ (h:List Int) {w n:Nat} (a:1<=w) (b:w<=n):bs (iM h w 0) n=2^(w-1):=by
 refine(nA (k3 (by omega) (by omega)) fun i hi=> ?_).symm
 grind [iM]
theorem Yg:((range 8).all fun i=>shl .i64 1 (i:Int)==some ((2^i:Nat):Int))=true:=by decide+kernel
theorem aj0 {w:Nat} (a:1<=w) (b:w<=8):shl .i64 1 (wrap .i64 ((w:Int)-1))=some ((2^(w-1):Nat):Int):=by
 grind [wrap64,gN,Yg]
theorem aj1 {h:List Int} (T:Tree h): ∀w,1<=w->w<=h.length-> ∀(f:Nat),h.length-dep h w<f->lF f h (w:Int)=some ((bq h w:Nat):Int):=by
 refine T.Yd (P:=fun w=> ∀(f:Nat),h.length-dep h w<f->lF f h (w:Int)=some ((bq h w:Nat):Int)) ?_
 intro w a b x f z
 obtain⟨f,rfl⟩: ∃g,f=g+1:=⟨f-1,by omega⟩
 have p:=T.le
 simp only[lF]
 generalize q:lF f=R0
 have y: ∀c,1<=c->c<=h.length->hd h c=w->R0 h (c:Int)=some ((bq h c:Nat):Int):=by
  intro c d j l
  rw[<-q]
  refine x c d j l f ?_
  have:=T.fm d j (by omega)
  rw[l] at this
  have:=T.hh a b
  omega
 have u:=bu (body:=fun(s:Int×Int)=>((rJ R0 h w s.1 s.2).map (Sum.elim (fun(t:Int×Int)=>Sum.inl (t.1,t.2)) (fun(t:Int)=>Sum.inr t)):Option ((Int×Int)⊕(Int))))
  (fun k=>(((bs (iM h w k) h.length:Nat):Int),(k:Int))) h.length ((bs (iM h w h.length) h.length:Nat):Int)
  (by
   intro k n
   have m:=T.get (w:=k+1) (by omega) (by omega)
   rw[e9,bh n] at m
   have r:h[k]=((hd h (k+1):Nat):Int):=fV m
   have A:bs (iM h w k) h.length<256:=nB p (fJ _ _)
   simp only[rJ]
   rw[show decide ((k:Int)<((h.length:Nat):Int))=true from an (by omega),bR n,wrap64 (by omega) (by omega),r,show(k:Int)+1=((k+1:Nat):Int) by omega]
   simp only[aw,ac]
   rw[ajY]
   by_cases e:hd h (k+1)=w
   ·have B:=fK p (k+1)
    rw[show((((hd h (k+1):Nat):Int))==(w:Int))=true by simp_all,y (k+1) (by omega) (by omega) e,aA e]
    simp only[aw,ac]
    rw[ajI (by omega) (by omega)]
    rfl
   grind)
  (by
   grind [rJ,Decidable.decide,List.length,decide_eq_false])
 have hl:=u LL (by grind [LL])
 rw[ajZ h a b] at hl
 unfold P9 Fk Fh P8 P7 Fi P6 P5 Fj
 rw[aj0 a (by omega)]
 simp only[ac]
 rw[show((((2^(w-1):Nat):Int)),(0:Int))=(((2^(w-1):Nat):Int),((0:Nat):Int)) from rfl,hl]
 simp only[bn,ac]
 have v:bs (iM h w h.length) h.length=bq h w:=KC fun i hi=>ajX T a b hi
 rw[v]
theorem nI {h:List Int} (T:Tree h) {w:Nat} (a:1<=w) (b:w<=h.length):hL h (w:Int)=some ((bq h w:Nat):Int):=by
 have e:hL h (w:Int)=lF RR h (w:Int):=by unfold hL pk;rfl
 grind [Tree.le,aj1,RR]
theorem aj2:((range 256).all fun m=>w7 (m:Int)==some (cg m))=true:=by decide+kernel
theorem Yh {m:Nat} (h:m<256):w7 (m:Int)=some (cg m):=by simpa using gN aj2 h
theorem aj3:((range 256).all fun m=>(range 8).all fun i=>((shr .i64 (m:Int) (i:Int)).bind fun v=>rem v 2)==some (if m.testBit i then 1 else 0))=true:=by decide+kernel
theorem Yi {m:Nat} (h:m<256) {i:Nat} (hi:i<8):((shr .i64 (m:Int) (i:Int)).bind fun v=>rem v 2)=some (if m.testBit i then 1 else 0):=by
 simpa using gN (gN aj3 h) hi
noncomputable def hS (h:List Int) (v:Int):List Int:=if dh h v then cg (bq h v.toNat) else[]
theorem Yj (h:List Int) (v:Int):(hS h v).length<=8:=by
 grind [hS,kE]
theorem aj4 (h:List Int) (v:Int):zx h v=some (hS h v):=by
 have e:zx h v=tq h v:=by unfold zx;rfl
 rw[e]
 unfold tq hS
 rw[X8]
 cases a:dh h v with
 |false=>rfl
 |true=>
  obtain⟨w,rfl,T,b,c⟩:=nF.1 a
  have d:=T.le
  simp only[ac,bo,au,tX T,cN]
  rw[wrap64 (by omega) (by omega),show(w:Int)-1=((w-1:Nat):Int) by omega,bS (by rw[jG];omega)]
  grind [nH,List.length,p6,fK,Int.toNat_natCast]
theorem aj5 (h:List Int) (v:Int):xL h v=some (hS h v):=by
 have e:xL h v=r3 h v:=by unfold xL;rfl
 rw[e]
 unfold r3 hS
 rw[cL,gs]
 simp only[ac]
 cases a:aB h with
 |false=>simp[dh,a]
 |true=>
  simp only[bo,au]
  cases f:(decide (1<=v)&&decide (v<=((h.length:Nat):Int))) with
  |false=>simp[dh,a,f]
  |true=>
   have b:dh h v=true:=by grind [dh]
   obtain⟨w,rfl,T,c,d⟩:=nF.1 b
   rw[b]
   simp only[bo,au,nI T c d,ac,Yh (fK T.le w),cN,e0]
def hj (m:Nat):Bool:=(range 8).all fun c=>(range c).all fun b=>(range b).all fun a=> !(m.testBit a&&m.testBit c)||m.testBit b
theorem aj6 (m:Nat):hj m=true↔ ∀a b c,a<b->b<c->c<8->m.testBit a=true->m.testBit c=true->m.testBit b=true:=by
 grind [hj,List.all_eq_true,Bool.not_eq_true',Bool.and_eq_false_iff,Nat.testBit]
theorem aj7:((range 256).all fun m=>IL (m:Int)==some (hj m))=true:=by decide+kernel
theorem Yk {m:Nat} (h:m<256):IL (m:Int)=some (hj m):=by simpa using gN aj7 h
theorem aj8:((range 255).all fun m=>F3 ((m+1:Nat):Int)==some (hj (m+1)))=true:=by decide+kernel
theorem Yl {m:Nat} (a:0<m) (h:m<256):F3 (m:Int)=some (hj m):=by
 have:=gN aj8 (i:=m-1) (by omega)
 grind
def dp (h:List Int):Prop:= ∀k a b c,a<b->b<c->aL h a k->aL h c k->aL h b k
noncomputable def AE (h:List Int):Bool:= @decide (dp h) (Classical.propDecidable _)
theorem p7 {h:List Int}:AE h=true↔dp h:=by simp[AE]
noncomputable def dj (h:List Int):Bool:=aB h&&AE h
theorem Ym {h:List Int} (T:Tree h) (k:Nat):hj (bq h k)=true↔ ∀a b c,a<b->b<c->aL h a k->aL h c k->aL h b k:=by
 rw[aj6]
 simp only[AD T,jF]
 have f:=T.le
 constructor
 ·intro x a b c d e u v
  have g:=T.iK u
  have i:=T.iK v
  have:=x (a-1) (b-1) (c-1) (by omega) (by omega) (by omega) (by simp_all) (by simp_all)
  grind
 grind
theorem Yn {h:List Int} (T:Tree h):AE h=(range h.length).all fun i=>hj (bq h (i+1)):=by
 rw[e3,p7,bQ]
 constructor
 ·intro F i hi
  exact(Ym T (i+1)).2 (F (i+1))
 ·intro x k a b c d e u v
  have f:=T.iK u
  have:=(Ym T (k-1+1)).1 (x (k-1) (by grind))
  grind
theorem AF (h:List Int):nv h=some (dj h):=by
 have e:nv h=yZ h:=by unfold nv;rfl
 rw[e]
 unfold yZ IM U4 U3 IN U2 U1 IP dj
 rw[fH]
 cases c:aB h with
 |false=>rfl
 |true=>
  have T:=(bK h).1 c
  have f:=T.le
  simp only[ac,bo,au,Sum.elim_inl,tX T,jG,d8]
  have g:=lV (body:=fun(s:Int)=>((pH h.length s (eQ h)).map (Sum.elim (fun(t:Int)=>Sum.inl t) (Sum.elim (fun(t:Bool)=>Sum.inr (Sum.inl t)) (fun(t:Unit)=>Sum.inr (Sum.inr t)))):Option ((Int)⊕(Bool⊕Unit))))
   (fun k=>(k:Int)) h.length (fun i=>hj (bq h (i+1))) (fun b=>cond b (.inr ()) (.inl false))
   (by
    intro k a d
    simp only[pH]
    rw[show decide ((k:Int)<((h.length:Nat):Int))=true from an (by omega),bS (by rw[jG];exact a),wrap64 (by omega) (by omega)]
    grind [nH,Yk,fK])
   (by
    intro k a d
    simp only[pH]
    rw[show decide ((k:Int)<((h.length:Nat):Int))=true from an (by omega),bS (by rw[jG];exact a),wrap64 (by omega) (by omega)]
    grind [nH,Yk,fK])
   (by
    grind [pH,Decidable.decide,List.length,decide_eq_false])
  grind [LL,Yn,range,List.length,hj,bq]
theorem p8 (h:List Int) (hl:h.length<=1048576):nr h=some (dj h):=by
 have e:nr h=xq h:=by unfold nr;rfl
 rw[e]
 unfold xq F4 Rn Rm F5 Rl Rk F6 dj
 rw[cL]
 cases a:aB h with
 |false=>
  have m:ai (fun(s:Int)=>((lG h s).map (Sum.elim (fun(t:Int)=>Sum.inl t) (Sum.elim (fun(t:Bool)=>Sum.inr (Sum.inl t)) (fun(t:Unit)=>Sum.inr (Sum.inr t)))):Option ((Int)⊕(Bool⊕Unit)))) LL 1=some (.inr ()):=by
   refine bu (fun _=>(1:Int)) 0 (Sum.inr ():Bool⊕Unit) (fun k c=>by omega) ?_ LL (by grind [LL])
   grind [lG,cL,Decidable.decide,List.length]
  simp_all
 |true=>
  have T:=(bK h).1 a
  have j:=T.le
  have l:=lV (body:=fun(s:Int)=>((lG h s).map (Sum.elim (fun(t:Int)=>Sum.inl t) (Sum.elim (fun(t:Bool)=>Sum.inr (Sum.inl t)) (fun(t:Unit)=>Sum.inr (Sum.inr t)))):Option ((Int)⊕(Bool⊕Unit))))
   (fun k=>((k+1:Nat):Int)) h.length (fun i=>hj (bq h (i+1))) (fun b=>cond b (.inr ()) (.inl false))
   (by
    intro k c g
    have d:0<bq h (k+1):=by
     have f:(bq h (k+1)).testBit k=true:=by rw[AD T,jF];exact .refl (by omega) (by omega)
     grind
    simp only[lG,cL,a]
    rw[show decide (((k+1:Nat):Int)<=((h.length:Nat):Int))=true from an (by omega),wrap64 (by omega) (by omega),nI T (by omega) (by omega)]
    grind [Yl,fK])
   (by
    intro k c g
    have d:0<bq h (k+1):=by
     have f:(bq h (k+1)).testBit k=true:=by rw[AD T,jF];exact .refl (by omega) (by omega)
     grind
    simp only[lG,cL,a]
    grind [Decidable.decide,List.length,decide_eq_true,wrap64,nI,Yl,fK])
   (by
    grind [lG,Decidable.decide,List.length,decide_eq_false])
  grind [LL,Yn,range,List.length,hj,bq]
def Yo (o:List Int):Bool:=(range o.length).any fun j=>(range j).any fun i=>o.getD i 0==o.getD j 0
def lY (o:List Int) (m:Int):Bool:=o.all (fun x=>decide (1<=x)&&decide (x<=m))&& !Yo o
def fO (o:List Int) (m:Int):Bool:=decide (1<=m)&&decide (m<=8)&&(((o.length:Nat):Int)==m)&&lY o m
def eB (o:List Int) (m:Int):Prop:=(∀(k:Nat) (c:k<o.length),1<=o[k]/\o[k]<=m)/\ ∀(i j:Nat) (a:i<j) (b:j<o.length),o[i]≠o[j]
theorem p9 (o:List Int) (m:Int):lY o m=true↔eB o m:=by
 unfold lY Yo eB
 simp only[aT,bQ,db,gl,List.any_eq_false,fh]
 constructor
 ·rintro⟨a,b⟩
  refine⟨fun k d=>a _ (dc d),fun i j f c e=> ?_⟩
  have:=b j c
  rw[g0] at this
  refine this ⟨i,by grind,?_⟩
  grind
 grind [List.getElem_of_mem,List.any_eq_true,getD,List.getElem?_eq_getElem,List.length]
theorem tY {o:List Int} {m:Int} (h: ¬eB o m):lY o m=false:=by
 grind [lY,absurd,p9]
theorem tZ {o:List Int} {k:Nat} {x:Int} (a:k<=o.length):x∈o.take k↔ ∃(i:Nat) (hi:i<k),o[i]'(by omega)=x:=by
 constructor
 ·grind [List.getElem_of_mem]
 ·rintro⟨i,hi,e⟩
  have:(o.take k)[i]'(by simp;omega)=x:=by simpa using e
  grind
theorem Yp (o:List Int) (m:Int):yx o m=some (fO o m):=by
 unfold yx Ic H9 Uf Ue Ia Ud Uc Ib fO
 by_cases y:m<1
 ·grind
 rw[cy y,show decide (1<=m)=true from an (by omega)]
 by_cases z:m>8
 ·grind
 rw[cy z,show decide (m<=8)=true from an (by omega)]
 by_cases p:((o.length:Nat):Int)=m
 ·rw[show(((o.length:Nat):Int) !=m)=false by simp[p],show(((o.length:Nat):Int)==m)=true by simp[p]]
  simp only[au,ac,Sum.elim_inl,d8]
  have B:=de (body:=fun(s:Int×(List Bool))=>((yw m o o.length s.1 s.2).map (Sum.elim (fun(t:Int×(List Bool))=>Sum.inl (t.1,t.2)) (Sum.elim (fun(t:Bool)=>Sum.inr (Sum.inl t)) (fun(t:Unit)=>Sum.inr (Sum.inr t)))):Option ((Int×(List Bool))⊕(Bool⊕Unit))))
   (I:=fun s=> ∃k:Nat,s.1=(k:Int)/\k<=o.length/\s.2.length=9/\(∀v:Nat,v<9->s.2[v]? =some (decide ((v:Int)∈o.take k)))/\eB (o.take k) m) (μ:=fun s=>o.length-s.1.toNat)
   (f:=fun _=>cond (lY o m) (.inr ()) (.inl false))
   (by
    rintro⟨_,seen⟩ ⟨k,rfl,g,r,w,hP⟩
    simp only at r w
    simp only[yw]
    by_cases b:k<o.length
    ·rw[show decide ((k:Int)<((o.length:Nat):Int))=true from an (by omega),bR b,wrap64 (by omega) (by omega)]
     simp only[aw,ac]
     by_cases l:o[k]<1
     ·right
      rw[an l,tY (fun a=>by have:=(a.1 k b).1;omega)]
      rfl
     rw[cy l]
     by_cases n:o[k]>m
     ·right
      rw[an n,tY (fun a=>by have:=(a.1 k b).2;omega)]
      rfl
     rw[cy n]
     obtain⟨v,x⟩: ∃v:Nat,o[k]=(v:Int):=⟨o[k].toNat,by omega⟩
     have D:v<9:=by omega
     have A:ap o[k] 9=some v:=by grind [bS]
     have C:same seen.length 9=some ():=by simp[same,r]
     simp only[au,C,A,ac,w v D]
     by_cases c:(v:Int)∈o.take k
     ·right
      rw[an c]
      obtain⟨i,hi,e⟩:=(tZ g).1 c
      rw[tY (fun a=>a.2 i k hi b (by rw[e,x]))]
      rfl
     ·left
      rw[cy c]
      refine⟨(((k+1:Nat):Int),seen.set v true),by simp,⟨k+1,rfl,b,by grind,fun u E=> ?_,?_⟩,by simp;omega,trivial⟩
      ·grind [List.take_add_one,List.getElem?_eq_getElem,Option.toList_some,List.mem_singleton,List.getElem?_set_ne]
      ·have hl:(o.take (k+1)).length=k+1:=by simp;omega
       refine⟨fun i hi=> ?_,fun i j q d=> ?_⟩
       ·rw[hl] at hi
        rw[f1]
        by_cases e:i=k
        ·grind
        ·have:=hP.1 i (by simp;omega)
         simp_all
       ·rw[hl] at d
        rw[f1,f1]
        by_cases e:j=k
        ·subst e
         simp_all [tZ]
        ·have:=hP.2 i j q (by simp;omega)
         simp_all
    grind [List.length,List.take_length,Decidable.decide,decide_eq_false,p9])
  rw[B LL (0,replicate 9 false) ⟨0,by simp,by omega,by simp,fun v x=>by grind,⟨fun k g=>by simp at g,fun i j q d=>by simp at d⟩⟩ (by grind [LL])]
  grind
 grind
def gd (o:List Int) (k:Nat):List Int:=(range (o.length+1)).map fun(v:Nat)=>if(v:Int)∈o.take k then(o.idxOf (v:Int):Int)+1 else 0
def fP (o:List Int):List Int:=gd o o.length
theorem nJ (o:List Int) (k:Nat):(gd o k).length=o.length+1:=by simp[gd]
theorem t1 (o:List Int) (k v:Nat) (a:v<o.length+1):(gd o k)[v]? =some (if(v:Int)∈o.take k then(o.idxOf (v:Int):Int)+1 else 0):=by
 simp[gd,a]
theorem Yq {o:List Int} {m:Int} (hP:eB o m) {k:Nat} (b:k<o.length):o.idxOf o[k]=k:=by
 have d:o[k]∈o:=dc b
 have c:o.idxOf o[k]<o.length:=apv.2 d
 have a:o[o.idxOf o[k]]=o[k]:=by simp
 rcases n9 (o.idxOf o[k]) k with h|h|h
 ·exact absurd a (hP.2 _ _ h b)
 ·exact h
 ·exact absurd a.symm (hP.2 _ _ h c)
theorem Yr {o:List Int} (hP:eB o (o.length:Nat)) {k v:Nat} (a:k<o.length) (c:o[k]=(v:Int)):(gd o k).set v ((k+1:Nat):Int)=gd o (k+1):=by
 have d:=hP.1 k a
 apply hx
 intro u
 by_cases b:u<o.length+1
 ·rw[t1 o (k+1) u b]
  rw[iy,bh a,c]
  simp only[Option.toList_some,jQ,uI]
  grind [List.getElem?_set_self,nJ,idxOf,Yq,List.getElem?_set_ne,t1]
 grind [List.getElem?_eq_none,List.length_set,nJ]
theorem Ys (o:List Int):gd o 0=replicate (o.length+1) 0:=by
 apply hx
 grind [List.length,t1,List.getElem?_eq_none,nJ]
theorem aj9 (o:List Int) (hl:o.length<=8) (hP:eB o (o.length:Nat)):
  ai (fun(s:Int×(List Int))=>((tv o o.length s.1 s.2).map (Sum.elim (fun(t:Int×(List Int))=>Sum.inl (t.1,t.2)) (fun(t:(List Int))=>Sum.inr t)):Option ((Int×(List Int))⊕(((List Int)))))) LL (0,replicate (o.length+1) 0)=some (fP o):=by
 have c:=de (body:=fun(s:Int×(List Int))=>((tv o o.length s.1 s.2).map (Sum.elim (fun(t:Int×(List Int))=>Sum.inl (t.1,t.2)) (fun(t:(List Int))=>Sum.inr t)):Option ((Int×(List Int))⊕(((List Int))))))
  (I:=fun s=> ∃k:Nat,s=((k:Int),gd o k)/\k<=o.length) (μ:=fun s=>o.length-s.1.toNat) (f:=fun _=>fP o)
  (by
   rintro _ ⟨k,rfl,b⟩
   simp only[tv]
   by_cases a:k<o.length
   ·left
    have d:=hP.1 k a
    obtain⟨v,g⟩: ∃v:Nat,o[k]=(v:Int):=⟨o[k].toNat,by omega⟩
    refine⟨(((k+1:Nat):Int),gd o (k+1)),?_,⟨k+1,rfl,a⟩,by simp;omega,trivial⟩
    rw[show decide ((k:Int)<((o.length:Nat):Int))=true from an (by omega),bR a,wrap64 (by omega) (by omega)]
    grind [ap,gd,nJ,bS,Yr]
   ·right
    have e:k=o.length:=by omega
    subst e
    rw[show decide (((o.length:Nat):Int)<((o.length:Nat):Int))=false from cy (by omega)]
    rfl)
 grind [LL,gd,Ys]
theorem aka (o:List Int) (hl:o.length<=8) (hP:eB o (o.length:Nat)):Jv o=some (fP o):=by
 unfold Jv Ju Jr V3 V2 Js V1 V0 Jt
 rw[wrap64 (by omega) (by omega),show((o.length:Nat):Int)+1=((o.length+1:Nat):Int) by omega,hg (by omega)]
 grind [aj9]
def kG (h o:List Int) (k:Nat):Int:=(fP o).getD (h.getD (o.getD k 0-1).toNat 0).toNat 0
def putRow (h o:List Int):List Int:=(range o.length).map (kG h o)
theorem AG (h o:List Int):(putRow h o).length=o.length:=by simp[putRow]
theorem Yt (h o:List Int) {k:Nat} (a:k<o.length):(putRow h o).drop k=kG h o k::(putRow h o).drop (k+1):=by
 grind [List.drop_eq_getElem_cons,AG,putRow]
theorem KK {h o:List Int} (T:Tree h) (hl:o.length=h.length) (hP:eB o (o.length:Nat)) {k:Nat} (c:k<o.length):
  ∃w x:Nat,o[k]=((w+1:Nat):Int)/\w<h.length/\h[w]? =some (x:Int)/\x<o.length+1/\(fP o)[x]? =some (kG h o k):=by
 have f:=hP.1 k c
 refine⟨o[k].toNat-1,(h[o[k].toNat-1]'(by omega)).toNat,by omega,by omega,?_,?_,?_⟩
 ·have:=jD T.aU (k:=o[k].toNat-1) (by omega)
  grind
 ·have:=jD T.aU (k:=o[k].toNat-1) (by omega);omega
 ·have e:=jD T.aU (k:=o[k].toNat-1) (by omega)
  have d:(h[o[k].toNat-1]'(by omega)).toNat<(fP o).length:=by rw[fP,nJ];omega
  rw[bh d]
  have a:o.getD k 0=o[k]:=by grind
  have b:h.getD (o[k]-1).toNat 0=h[o[k].toNat-1]'(by omega):=by
   rw[show(o[k]-1).toNat=o[k].toNat-1 by omega]
   grind
  simp only[kG,a,b]
  simp_all
theorem Yu (h o:List Int):zG h o=some (if aB h&&fO o h.length then(true,putRow h o) else(false,[])):=by
 unfold zG zF
 rw[fH,Yp]
 cases e:aB h with
 |false=>simp
 |true=>
  cases a:fO o h.length with
  |false=>simp
  |true=>
   have T:=(bK h).1 e
   unfold fO at a
   simp only[aT,db,cb] at a
   obtain⟨⟨_,r⟩,m⟩:=a
   have hl:o.length=h.length:=by omega
   have q:=T.le
   have hP:eB o (o.length:Nat):=by grind [p9]
   simp only[ac,bo,au,aka o (by omega) hP,g2,cN]
   unfold V8 JA Jx V7 V6 Jy V5 V4 Jz
   rw[hg (by omega)]
   simp only[ac]
   have g:=de (body:=fun(s:Int×(List Int))=>((zE h o o.length s.1 (fP o) s.2).map (Sum.elim (fun(t:Int×(List Int))=>Sum.inl (t.1,t.2)) (fun(t:(List Int))=>Sum.inr t)):Option ((Int×(List Int))⊕(((List Int))))))
    (I:=fun s=> ∃k:Nat,s.1=(k:Int)/\k<=o.length/\s.2.length=o.length) (μ:=fun s=>o.length-s.1.toNat) (f:=fun s=>s.2.take s.1.toNat++(putRow h o).drop s.1.toNat)
    (by
     rintro⟨_,out⟩ ⟨k,rfl,p,i⟩
     simp only at i
     simp only[zE]
     by_cases b:k<o.length
     ·left
      obtain⟨w,x,c,u,d,j,l⟩:=KK T hl hP b
      refine⟨(((k+1:Nat):Int),out.set k (kG h o k)),?_,⟨k+1,rfl,b,by grind⟩,by simp;omega,?_⟩
      ·rw[show decide ((k:Int)<((o.length:Nat):Int))=true from an (by omega),bR b]
       simp only[aw,ac]
       rw[c,wrap64 (x:=((w+1:Nat):Int)-1) (by omega) (by omega),show((w+1:Nat):Int)-1=(w:Int) by omega,eN,d,wrap64 (by omega) (by omega)]
       have n:Jw (x:Int) (fP o)=some (kG h o k):=by
        grind [Jw,zD,bS,fP,nJ]
       grind [bS]
      grind [Int.toNat_natCast,KB,Yt]
     grind [List.length,Decidable.decide,decide_eq_false,List.take_of_length_le,Nat.le_of_eq,List.drop_of_length_le,AG])
   rw[g LL (0,replicate o.length 0) ⟨0,by simp,by omega,by simp⟩ (by grind [LL])]
   simp
theorem AH (o:List Int) (m:Int):eB o m↔(∀x∈o,1<=x/\x<=m)/\o.Nodup:=by
 grind [eB,Nodup,List.pairwise_iff_getElem,List.getElem_of_mem,List.getElem_mem]
theorem AI (o:List Int) (m:Int):fO o m=true↔1<=m/\m<=8/\(o.length:Int)=m/\eB o m:=by
 grind [fO,p9]
def pl (o:List Int) (v:Nat):Nat:=((fP o).getD v 0).toNat
theorem KL {o:List Int} {v:Nat} (a:v<=o.length):pl o v=if(v:Int)∈o then o.idxOf (v:Int)+1 else 0:=by
 grind [pl,fP,t1,List.take_length]
theorem akb {o:List Int} {v:Nat} (a:v<=o.length):(fP o)[v]? =some ((pl o v:Nat):Int):=by
 grind [KL,fP,t1,List.take_length]
section
variable {o : List Int} (hP : eB o (o.length : Nat))
include hP
theorem akc:pl o 0=0:=by
 rw[KL (by omega),aG]
 intro b
 obtain⟨k,a,e⟩:=kX b
 have:=hP.1 k a
 omega
theorem akd {k:Nat} (a:k<o.length):pl o o[k].toNat=k+1:=by
 have:=hP.1 k a
 grind [KL,List.getElem_mem,Yq]
end
section
variable {h o : List Int} (T : Tree h) (hl : o.length = h.length) (hP : eB o (o.length : Nat))
include T hl hP
theorem ake {k:Nat} (b:k<o.length):(putRow h o)[k]? =some ((pl o (hd h o[k].toNat):Nat):Int):=by
 obtain⟨w,x,e,g,c,i,d⟩:=KK T hl hP b
 have a:=T.get (w:=w+1) (by omega) (by omega)
 rw[e9,c] at a
 have f:(x:Int)=((hd h (w+1):Nat):Int):=fV a
 have j:x=hd h (w+1):=by omega
 rw[akb (by omega)] at d
 have:(putRow h o)[k]? =some (kG h o k):=by simp[putRow,b]
 simp_all
end
def ge (n:Nat):List Int:=(range n).map fun(k:Nat)=>(n:Int)-(k:Int)
theorem iN (n:Nat):(ge n).length=n:=by simp[ge]
theorem t6 (n:Nat) {k:Nat} (a:k<n):(ge n)[k]'(by rw[iN];exact a)=((n-k:Nat):Int):=by simp[ge];omega
theorem api (n:Nat) {k:Nat} (a:k<n):(ge n)[k]? =some ((n-k:Nat):Int):=by
 grind [List.getElem?_eq_getElem,iN,t6]
theorem AJ (n:Nat):eB (ge n) ((ge n).length:Nat):=by
 refine⟨fun k c=> ?_,fun i j a b e=> ?_⟩
 all_goals grind [iN,t6]
theorem akf {n:Nat} (a:1<=n) (b:n<=8):fO (ge n) (n:Int)=true:=by
 grind [AI,AJ,iN]
theorem akg {n v:Nat} (a:1<=v) (b:v<=n):pl (ge n) v=n+1-v:=by
 have:=akd (AJ n) (k:=n-v) (by rw[iN];omega)
 grind [t6,Int.toNat_natCast]
def lZ (h:List Int):List Int:=putRow h (ge h.length)
theorem akh (h:List Int):(lZ h).length=h.length:=by rw[lZ,AG,iN]
def qa (h:List Int):List Int:=if aB h then lZ h else[]
theorem aki (n:Nat) (f:n<=8):zC (n:Int)=some (ge n):=by
 have e:zC (n:Int)=zB (n:Int):=by unfold zC;rfl
 rw[e]
 unfold zB Jo VZ VY Jp VX VW Jq
 rw[hg (by omega)]
 have d:=bu (body:=fun(s:Int×(List Int))=>((tu n n s.1 s.2).map (Sum.elim (fun(t:Int×(List Int))=>Sum.inl (t.1,t.2)) (fun(t:(List Int))=>Sum.inr t)):Option ((Int×(List Int))⊕(((List Int))))))
  (fun k=>((k:Int),(ge n).take k++replicate (n-k) 0)) n (ge n)
  (by
   intro k a
   simp only[tu]
   have hl:((ge n).take k++replicate (n-k) (0:Int)).length=n:=by simp[iN];omega
   rw[show decide ((k:Int)<(n:Int))=true from an (by omega),bS (by omega),wrap64 (x:=(k:Int)+1) (by omega) (by omega),wrap64 (x:=(n:Int)-(k:Int)) (by omega) (by omega)]
   simp only[aw,ac,bn,Sum.elim_inl,ew,Sum.inl.injEq,gA]
   refine⟨by omega,?_⟩
   have c:k<(ge n).length:=by rw[iN];exact a
   rw[iy,bh c,t6 n a,oP _ _ (by grind)]
   have b:k-((ge n).take k).length=0:=by grind
   rw[b,show n-k=(n-(k+1))+1 by omega,h9,g3,mZ]
   grind)
  (by
   grind [tu,Decidable.decide,decide_eq_false,List.take_of_length_le,Nat.le_of_eq,iN])
 have hl:=d LL (by grind [LL])
 simp_all
theorem akj (h:List Int):zH h=some (qa h):=by
 have e:zH h=tw h:=by unfold zH;rfl
 rw[e]
 unfold tw qa
 rw[fH]
 cases a:aB h with
 |false=>rfl
 |true=>
  have T:=(bK h).1 a
  simp only[ac,bo,au,aki h.length T.le,Yu,a,akf T.pos T.le,g2,cN]
  rfl
theorem akk {h:List Int} (T:Tree h) {k:Nat} (a:k<h.length):(lZ h)[k]? =some (if hd h (h.length-k)=0 then 0 else((h.length+1-hd h (h.length-k):Nat):Int)):=by
 have b:=ake T (iN h.length) (AJ h.length) (k:=k) (by rw[iN];exact a)
 unfold lZ
 rw[b,t6 _ a,e0]
 grind [hd,List.length,akc,AJ,Tree.cR,akg]
theorem akl (h:List Int):pg h=some (qa h):=by
 have e:pg h=wE h:=by unfold pg;rfl
 rw[e]
 unfold wE Ee O6 O5 Ef O4 O3 Eg qa
 cases a:aB h with
 |false=>
  have l: ∀s:Int,ai (fun(s:Int×(List Int))=>((nn h h.length s.1 s.2).map (Sum.elim (fun(t:Int×(List Int))=>Sum.inl (t.1,t.2)) (fun(t:(List Int))=>Sum.inr t)):Option ((Int×(List Int))⊕(((List Int)))))) LL (s,[])=some []:=fun s=>by
   refine bu (fun _=>(s,([]:List Int))) 0 [] (fun k b=>by omega) ?_ LL (by grind [LL])
   grind [nn,cL,Decidable.decide]
  simp_all
 |true=>
  have T:=(bK h).1 a
  have g:=T.le
  have i:=akh h
  have j:=bu (body:=fun(s:Int×(List Int))=>((nn h h.length s.1 s.2).map (Sum.elim (fun(t:Int×(List Int))=>Sum.inl (t.1,t.2)) (fun(t:(List Int))=>Sum.inr t)):Option ((Int×(List Int))⊕(((List Int))))))
   (fun k=>((h.length:Int)-1-(k:Int),(lZ h).take k)) h.length (lZ h)
   (by
    intro k b
    have c:=akk T b
    have d:=T.get (w:=h.length-k) (by omega) (by omega)
    have f:=T.cR (w:=h.length-k) (by omega) (by omega)
    have hi:idx h ((h.length:Int)-1-(k:Int))=some ((hd h (h.length-k):Nat):Int):=by
     grind [List.length,eN]
    simp only[nn,cL,a,hi]
    rw[show decide ((h.length:Int)-1-(k:Int)>=0)=true from an (by omega)]
    simp only[aw,ac]
    rw[iy,c,wrap64 (x:=(h.length:Int)-1-(k:Int)-1) (by omega) (by omega),wrap64 (x:=(h.length:Int)+1) (by omega) (by omega),wrap64 (by omega) (by omega)]
    have m:((lZ h).take k).length<=8:=by simp;omega
    by_cases e:hd h (h.length-k)=0
    ·grind [room_le,Option.toList_some,Option.some.injEq,Sum.inl.injEq,Prod.mk.injEq]
    ·rw[aG e,show(((hd h (h.length-k):Nat):Int)==0)=false from dg.2 (by omega)]
     grind [room_le,Option.toList_some,Option.some.injEq,Sum.inl.injEq,Prod.mk.injEq])
   (by
    grind [nn,Decidable.decide,List.length,decide_eq_false,List.take_of_length_le,Nat.le_of_eq])
  grind [LL,wrap64,List.length]
def bC (a b j:Nat):Prop:=(a<j/\j<b)\/(b<j/\j<a)
def iO (a b j:Nat):Prop:=(j<a/\j<b)\/(a<j/\b<j)
def nK (h:List Int) (w v:Nat):Prop:=
 (bC w (hd h w) v/\iO w (hd h w) (hd h v))\/(bC w (hd h w) (hd h v)/\iO w (hd h w) v)
structure AK (h:List Int) (M:Nat->Prop) (r:Nat):Prop where
 own:M r
 tR: ∀w,M w->aL h w r
 up: ∀w,M w->w≠r->M (hd h w)
theorem AK.Yv {h:List Int} (T:Tree h) {b:Nat->Prop} {r:Nat} (C:AK h b r) {x:Nat} (k: ¬b x): ∀a,b a->bC a r x-> ∃w,b w/\w≠r/\bC w (hd h w) x:=by
 intro a c
 have u:=C.tR a c
 induction u with
 |refl=>grind [bC]
 | @step a r d f g u l=>
  intro i
  by_cases e:a=r
  ·grind [bC]
  ·have j:=C.up a c e
   grind [bC,hd]
theorem AK.hT {h:List Int} (T:Tree h) {c:Nat->Prop} {r:Nat} (C:AK h c r) {a b x:Nat} (i:c a) (j:c b) (d: ¬c x) (f:a<x) (g:x<b): ∃w,c w/\w≠r/\bC w (hd h w) x:=by
 have l:x≠r:=fun e=>d (e▸C.own)
 by_cases k:x<r
 ·exact C.Yv T d a i (.inl ⟨f,k⟩)
 ·exact C.Yv T d b j (.inr ⟨by omega,g⟩)
def Yw (h:List Int):Prop:= ∀w j,1<=w->w<=h.length->hd h w≠0->((w<j/\j<hd h w)\/(hd h w<j/\j<w))->aL h j (hd h w)
theorem qb {h:List Int} (T:Tree h):dp h↔Yw h:=by
 constructor
 ·intro F w j d f g n
  have i:=T.cR d f
  have u:=T.iL d f g
  have r:aL h (hd h w) (hd h w):= .refl (by omega) i
  rcases n with⟨a,b⟩|⟨a,b⟩
  ·exact F (hd h w) w j (hd h w) a b u r
  ·exact F (hd h w) (hd h w) j w a b r u
 ·intro m
  have l: ∀k a,aL h a k-> ∀b,bC a k b->aL h b k:=by
   intro k a u
   induction u with
   |refl d f=>grind [bC]
   | @step a k d f g u s=>
    intro b q
    have i:=T.cR d f
    by_cases e:b=hd h a
    ·grind
    ·by_cases p:(a<b/\b<hd h a)\/(hd h a<b/\b<a)
     ·exact T.KH (m a b d f g p) u
     grind [bC]
  intro k a b c d f u v
  by_cases e:b=k
  ·have r:=T.iK u
   rw[e];exact .refl r.2.1 r.2.2
  ·rcases Cf b k with h|h
   ·exact l k a u b (.inl ⟨d,h⟩)
   ·exact l k c v b (.inr ⟨by omega,f⟩)
def Yx (h:List Int):Prop:=
 (∀w,1<=w->w<=h.length->hd h w≠0-> ¬bC w (hd h w) (top h))/\ ∀w v,1<=w->w<=h.length->hd h w≠0->1<=v->v<=h.length->hd h v≠0-> ¬nK h w v
theorem akm {h:List Int} (T:Tree h):Yw h↔Yx h:=by
 constructor
 ·intro f
  refine⟨fun w a b d c=> ?_,fun w v a b d v1 v2 e l=> ?_⟩
  ·have u:=f w (top h) a b d c
   grind [Tree.AC,bC]
  ·have q:=T.cR a b
   have p:=T.cR v1 v2
   have A:aL h (hd h v) (hd h w):=by
    rcases l with⟨c,m⟩|⟨c,m⟩
    ·have u:=f w v a b d c
     grind [Tree.lW,bC]
    ·exact f w (hd h v) a b d c
   have B:aL h (hd h w) (hd h v):=by
    have n:(bC v (hd h v) w)\/(bC v (hd h v) (hd h w)):=by
     grind [nK,bC,iO]
    rcases n with c|c
    ·have u:=f v w v1 v2 e c
     grind [Tree.lW,bC]
    ·exact f v (hd h w) v1 v2 e c
   grind [Tree.kF,nK,bC,iO]
 ·rintro⟨i,k⟩ w j a b d g
  have q:=T.cR a b
  have s:1<=j:=by omega
  have t:j<=h.length:=by omega
  revert g
  refine T.Yc (P:=fun j=>(w<j/\j<hd h w)\/(hd h w<j/\j<w)->aL h j (hd h w)) (fun g=>absurd g (i w a b d)) (fun v v1 v2 e r g=> ?_) j s t
  have p:=T.cR v1 v2
  have z:=k w v a b d v1 v2 e
  by_cases x:hd h v=hd h w
  ·grind [Tree.iL]
  ·by_cases y:hd h v=w
   ·refine .step v1 v2 e ?_
    grind [Tree.iL]
   ·refine .step v1 v2 e (r ?_)
    grind [nK,bC,iO]
theorem Yy {α:Type} {R:α->α->Prop} (d: ∀x b,R x b->R b x) (c: ∀x,R x x): ∀l:List α,l.Pairwise R↔ ∀x∈l,∀b∈l,R x b
 |[]=>by simp
 |a::r=>by
  rw[d9,Yy d c r]
  simp_all
theorem Yz {h:List Int} (T:Tree h):nE h=0↔ ∀w v,1<=w->w<=h.length->hd h w≠0->1<=v->v<=h.length->hd h v≠0-> ¬nK h w v:=by
 have one: ∀w v,hd h w≠w->hd h v≠v->(cd (bV (w:Int) ((hd h w:Nat):Int),imax (w:Int) ((hd h w:Nat):Int)) (bV (v:Int) ((hd h v:Nat):Int),imax (v:Int) ((hd h v:Nat):Int))=true↔nK h w v):=by
  intro w v c d
  unfold cd jB nK bC iO
  rw[db]
  have f:=Av (a:=(w:Int)) (b:=((hd h w:Nat):Int)) (by omega)
  have g:=Av (a:=(v:Int)) (b:=((hd h v:Nat):Int)) (by omega)
  grind [bV,imax]
 unfold nE
 rw[X7,Yy (fun x i e=>by rw[ajB];exact e) (fun x=>by grind [cd,jB,decide_eq_false_iff_not])]
 grind [Ax,Tree.nD,cd,bV,hd,imax,absurd]
theorem akn {h:List Int} (T:Tree h):dp h↔nE h=0/\Ay h ((top h:Nat):Int)=false:=by
 rw[qb T,akm T,Yz T]
 grind [Yx,Ay,top,ajH,absurd,bC]
theorem gf {h:List Int} {s:Nat} (a:1<=s) (b:s<=h.length) (g w:Nat) (c:1<=w):hd (h.set (s-1) (g:Int)) w=if w=s then g else hd h w:=by
 grind [hd,getD,List.length]
theorem qc {h:List Int} {s g:Nat} (j:1<=s) (k:s<=h.length) (z:hd h s=0) {a b:Nat} (u:aL h a b):aL (h.set (s-1) (g:Int)) a b:=by
 induction u with
 |refl c d=>exact .refl c (by grind)
 |step c d f u i=>
  rename_i a b
  have ne:a≠s:=fun e=>f (by grind)
  refine .step c (by grind) ?_ ?_
  all_goals grind [gf]
theorem kH {h:List Int} {a b c:Nat} (u:aL h a b) (v:aL h b c):aL h a c:=by
 induction u with
 |refl d e=>exact v
 |step d e f u g=>exact .step d e f (g v)
structure ep (n i:Nat) (st:List Nat) (h:List Int):Prop where
 len:h.length=n
 lo:1<=i
 hi:i<=n+1
 ne:st=[]->i=1
 dec:st.Pairwise (· > ·)
 aU: ∀s∈st,1<=s/\s<i/\hd h s=0
 num: ∀x∈h,0<=x/\x<=(n:Int)
 kI: ∃(m:Nat) (ρ:Nat->Nat),m+st.length+1=i/\ ∀w,1<=w->w<i->w∉st->ρ w<m/\1<=hd h w/\hd h w<i/\(hd h w∈st\/ρ w<ρ (hd h w))
 iP: ∀j,1<=j->j<i-> ∃s∈st,aL h j s/\ ∀t∈st,¬bC j s t
 below: ∀w j,1<=w->w<i->hd h w≠0->bC w (hd h w) j->aL h j (hd h w)
theorem ep.start (n:Nat):ep n 1 [] (replicate n 0) where
 len:=by simp
 lo:=by omega
 hi:=by omega
 ne:=fun _=>rfl
 dec:= .nil
 aU:=fun s c=>by cases c
 num:=fun x d=>by
  simp_all
 kI:=⟨0,fun _=>0,rfl,fun w a b=>by omega⟩
 iP:=fun j a b=>by omega
 below:=fun w j a b=>by omega
theorem ep.shift {n i:Nat} {st:List Nat} {h:List Int} (a:ep n i st h) (hi:i<=n) (z:hd h i=0):ep n (i+1) (i::st) h where
 len:=a.len
 lo:=by omega
 hi:=by omega
 ne:=fun e=>by cases e
 dec:= .cons (fun s c=>(a.aU s c).2.1) a.dec
 aU:=fun s c=>by
  rcases eh.mp c with e|e
  ·subst e
   exact⟨a.lo,by omega,z⟩
  ·have:=a.aU s e
   omega
 num:=a.num
 kI:=by
  obtain⟨m,l,e,r⟩:=a.kI
  refine⟨m,l,by grind,?_⟩
  grind
 iP:=fun j d g=>by
  by_cases e:j=i
  ·subst e
   refine⟨j,bl ..,.refl d (by rw[a.len];exact hi),?_⟩
   grind [bC]
  ·obtain⟨s,c,u,q⟩:=a.iP j d (by omega)
   refine⟨s,bA _ c,u,?_⟩
   intro t k b
   rcases eh.mp k with f|f
   ·subst f
    have:=(a.aU s c).2.1
    grind [bC]
   simp_all
 below:=fun w j d g p b=>by
  grind [ep.below]
theorem ep.hT {n i s t:Nat} {k:List Nat} {h:List Int} (f:ep n i (s::t::k) h) {a g:Nat} (c:(a=t/\g=s)\/(a=s/\g=t)):
  ep n i (g::k) (h.set (a-1) (g:Int)):=by
 have ms:s∈s::t::k:=bl ..
 have mt:t∈s::t::k:=bA _ (bl ..)
 have R: ∀{x},x∈k->x∈s::t::k:=fun x=>bA _ (bA _ x)
 have d:=f.dec
 rw[d9] at d
 obtain⟨z,d⟩:=d
 rw[d9] at d
 obtain⟨A,B⟩:=d
 have lt:t<s:=z t (bl ..)
 have S:=f.aU s ms
 have U:=f.aU t mt
 have hl:=f.len
 have hi:=f.hi
 have G:a∈s::t::k:=by grind
 have H:g∈s::t::k:=by grind
 have J:=f.aU a G
 have K:=f.aU g H
 have O:a≠g:=by omega
 have l:1<=a/\a<=h.length:=by omega
 have D (w:Nat) (L:1<=w):=gf l.1 l.2 g w L
 have mono {x y:Nat} (u:aL h x y):aL (h.set (a-1) (g:Int)) x y:=qc l.1 l.2 J.2.2 u
 have F:(h.set (a-1) (g:Int)).length=n:=by simp[hl]
 have V:aL (h.set (a-1) (g:Int)) a g:=by
  have e:hd (h.set (a-1) (g:Int)) a=g:=by simp_all
  refine .step l.1 (by omega) (by omega) ?_
  rw[e]
  exact .refl K.1 (by omega)
 have Q: ∀x∈k,x<t:=A
 have split: ∀x,x∈s::t::k->x=a\/x=g\/x∈k:=by
  grind
 refine⟨F,f.lo,f.hi,(fun e=>by cases e),?_,?_,?_,?_,?_,?_⟩
 ·refine .cons ?_ B
  grind
 ·intro x p
  have E:x∈s::t::k:=by
   grind
  have r:=f.aU x E
  grind
 ·intro x p
  rcases apw p with e|e
  ·exact f.num x e
  omega
 ·obtain⟨m,N,e,r⟩:=f.kI
  refine⟨m+1,fun w=>if w=a then m else N w,by grind,?_⟩
  grind
 ·intro j q v
  obtain⟨x,p,u,I⟩:=f.iP j q v
  grind [List.mem_cons_self,kH,bC,List.mem_cons_of_mem]
 ·intro w j q v C b
  rw[D w q] at C b⊢
  by_cases M:w=a
  ·subst M
   simp only[aA] at b⊢
   have P:t<j/\j<s:=by
    grind [bC]
   obtain⟨x,p,u,I⟩:=f.iP j (by omega) (by omega)
   grind [kH,bC]
  grind [ep.below]
theorem ako {l:List Int} (a: ∀i:Nat,l[i]? ≠some (0:Int)):l.count 0=0:=by
 rw[List.count_eq_zero]
 intro m
 obtain⟨i,hi,e⟩:=kX m
 exact a i (by simp_all)
theorem KM: ∀{l:List Int} {r:Nat},l[r]? =some (0:Int)->(∀i:Nat,l[i]? =some (0:Int)->i=r)->l.count 0=1
 |[],r,h,_=>by simp at h
 |x::xs,0,h,u=>by
  have e:x=0:=by simpa using h
  subst e
  rw[List.count_cons_self,ako]
  intro i hi
  have:=u (i+1) (by grind)
  omega
 |x::xs,r+1,h,u=>by
  have ne:x≠0:=by
   intro e
   have:=u 0 (by simp[e])
   omega
  rw[List.count_cons_of_ne ne]
  refine KM (r:=r) (by simpa using h) ?_
  intro i hi
  have:=u (i+1) (by grind)
  omega
theorem ep.get {n i:Nat} {st:List Nat} {h:List Int} (a:ep n i st h) {w:Nat} (b:1<=w) (c:w<=n):h[w-1]? =some ((hd h w:Nat):Int):=by
 have hl:=a.len
 have lt:w-1<h.length:=by omega
 have:=a.num _ (dc lt)
 grind [List.getElem?_eq_getElem,hd]
theorem ep.tree {n r:Nat} {h:List Int} (a:ep n (n+1) [r] h) (C:n<=8):Tree h/\dp h/\top h=r:=by
 have hl:=a.len
 have s:=a.aU r (bl ..)
 obtain⟨m,l,e,k⟩:=a.kI
 simp only[cB,ot] at e
 have u: ∀w,1<=w->w<=n->w≠r->l w<m/\1<=hd h w/\hd h w<=n/\(hd h w=r\/l w<l (hd h w)):=by
  grind
 have tR: ∀f w,1<=w->w<=n->(w=r\/m-l w<=f)->(bg h (f+1) w).isSome=true:=by
  intro f
  induction f with
  |zero=>
   grind [bg,ep.get]
  |succ f B=>
   intro w d p c
   unfold bg
   rw[a.get d p]
   by_cases q:w=r
   ·simp_all
   ·obtain⟨x,y,z,A⟩:=u w d p q
    have c:=c.resolve_left q
    simp only
    rw[aG (by omega),Option.isSome_map]
    grind [hd]
 have T:Tree h:=by
  refine⟨by omega,by omega,?_,?_,?_⟩
  ·grind [fG,List.all_eq_true,ep.num,dT,decide_eq_true]
  ·refine KM (r:=r-1) (by grind [ep.get]) ?_
   intro i hi
   have lt:i<n:=by
    grind
   have g:=a.get (w:=i+1) (by omega) (by omega)
   grind
  grind
 have t:top h=r:=((T.eA s.1 (by omega)).mp s.2.2).symm
 refine⟨T,?_,t⟩
 rw[qb T]
 intro w j d p v b
 exact a.below w j d (by omega) v b
def gO (i:Nat) (st:List Nat) (w:Nat):Prop:=w∈st\/i<=w
def dq (H:List Int) (i:Nat) (st:List Nat) (w:Nat):Prop:= ∀c,1<=c->c<=H.length->gO i st c->hd H c≠w
def t7 (H:List Int) (i:Nat) (st:List Nat) (y x:Nat):Prop:= ¬(hd H x=y/\dq H i st x)/\ ¬(hd H y=x/\dq H i st y)
structure gg (H:List Int) (i:Nat) (st:List Nat) (h:List Int):Prop where
 base:ep H.length i st h
 agree: ∀w,1<=w->w<i->w∉st->hd h w=hd H w
 hk: ∀w,1<=w->w<=H.length->gO i st w->hd H w≠0->gO i st (hd H w)
 block: ∀p y x q,st=p++y::x::q->p≠ []->t7 H i st y x
theorem gg.start (a:List Int) (T:Tree a):gg a 1 [] (replicate a.length 0) where
 base:=ep.start _
 agree:=fun w b c=>by omega
 hk:=fun w b c f d=> .inr (Nat.pos_of_ne_zero d)
 block:=fun p i x g e=>by
  simp_all
theorem KN {i:Nat} {st:List Nat} {w:Nat}:gO (i+1) (i::st) w↔gO i st w:=by
 grind [gO]
theorem akp {H:List Int} {i:Nat} {st:List Nat} {w:Nat}:dq H (i+1) (i::st) w↔dq H i st w:=by
 grind [dq,KN]
theorem gg.shift {a:List Int} {i:Nat} {st:List Nat} {h:List Int} (d:gg a i st h) (hi:i<=a.length) (z:hd h i=0)
  (b: ∀c x k,st=c::x::k->t7 a i st c x):gg a (i+1) (i::st) h where
 base:=d.base.shift hi z
 agree:=fun w f g j=>by
  grind [List.mem_cons_self,gg.agree,List.mem_cons_of_mem]
 hk:=fun w f g j l=>KN.mpr (d.hk w f g (KN.mp j) l)
 block:=fun p c x k e m=>by
  have s:t7 a i st c x:=by
   cases p<;>grind [absurd,List.cons.injEq,gg.block]
  grind [t7,akp]
theorem gg.hT {j:List Int} {i s t:Nat} {f:List Nat} {h:List Int} (n:gg j i (s::t::f) h) {a g:Nat} (c:(a=t/\g=s)\/(a=s/\g=t))
  (M:hd j a=g) (H:dq j i (s::t::f) a):gg j i (g::f) (h.set (a-1) (g:Int)):=by
 have m:=n.base
 have d:=m.dec
 rw[d9] at d
 obtain⟨E,d⟩:=d
 rw[d9] at d
 obtain⟨K,L⟩:=d
 have lt:t<s:=E t (bl ..)
 have S:=m.aU s (bl ..)
 have U:=m.aU t (bA _ (bl ..))
 have hl:=m.len
 have hi:=m.hi
 have R:1<=a/\a<i:=by omega
 have P: ∀x,x∈s::t::f↔x=a\/x∈g::f:=by
  grind
 have Q:a∉g::f:=by
  grind
 have y: ∀w,gO i (g::f) w↔gO i (s::t::f) w/\w≠a:=by
  grind [gO,absurd]
 refine⟨m.hT c,?_,?_,?_⟩
 ·grind [gf,gg.agree]
 ·intro w u v r G
  rw[y] at r⊢
  exact⟨n.hk w u v r.1 G,H w u v r.1⟩
 ·intro p A x I e N
  cases p with
  |nil=>simp_all
  |cons J p=>
   rw[fr,ls] at e
   have b:=n.block (s::t::p) A x I (by rw[e.2];rfl) (by simp)
   have up: ∀z,z∈f->dq j i (g::f) z->dq j i (s::t::f) z:=by
    intro z O l q B C D
    by_cases F:q=a
    ·grind
    ·exact l q B C ((y q).mpr ⟨D,F⟩)
   refine⟨fun k=>b.1 ⟨k.1,up x (by grind) k.2⟩,fun k=>b.2 ⟨k.1,up A (by grind) k.2⟩⟩
theorem YA (c:List Int): ∀(st:List Nat),st≠ []-> ∃x∈st,∀d∈st,dep c d<=dep c x
 |[],h=>absurd rfl h
 |[a],_=>⟨a,bl ..,fun d f=>by simp_all⟩
 |a::b::l,_=>by
  obtain⟨x,e,m⟩:=YA c (b::l) (by simp)
  grind
theorem akq {st:List Nat} (d:st.Pairwise (· > ·)) {g x:Nat} (a:g∈st) (b:x∈st) (lt:x<g): ∃p c f,st=p++g::c::f/\x<=c/\c<g:=by
 obtain⟨p,r,rfl⟩:=List.append_of_mem a
 rw[k4] at d
 obtain⟨_,i,j⟩:=d
 rcases jQ.mp b with e|e
 ·grind
 ·rcases eh.mp e with e|e
  ·omega
  ·cases r<;>grind [List.pairwise_cons,List.mem_cons_self]
theorem akr {st:List Nat} (d:st.Pairwise (· > ·)) {g x:Nat} (a:g∈st) (l:x∈st) (lt:g<x): ∃p c b,st=p++c::g::b/\c<=x/\g<c:=by
 obtain⟨p,r,rfl⟩:=List.append_of_mem a
 rw[k4] at d
 obtain⟨f,i,j⟩:=d
 have k:x∈p:=by
  grind [List.pairwise_cons]
 rcases List.eq_nil_or_concat p with e|⟨m,c,e⟩
 all_goals grind
theorem gg.move {a:List Int} (T:Tree a) (F:dp a) {s t:Nat} {b:List Nat} {h:List Int} (k:gg a (a.length+1) (s::t::b) h):
  (hd a t=s/\dq a (a.length+1) (s::t::b) t)\/(hd a s=t/\dq a (a.length+1) (s::t::b) s):=by
 have G:=(qb T).mp F
 have j:=k.base
 have ms:s∈s::t::b:=bl ..
 have mt:t∈s::t::b:=bA _ (bl ..)
 have D: ∀w,w∈s::t::b->1<=w/\w<=a.length:=fun w B=>by
  have:=j.aU w B
  omega
 have J: ∀w,w<=a.length->gO (a.length+1) (s::t::b) w->w∈s::t::b:=by
  intro w B u
  rcases u with u|u
  all_goals omega
 obtain⟨x,l,O⟩:=YA a (s::t::b) (by simp)
 have f:=D x l
 have lt:t<s:=by
  have:=j.dec
  simp_all
 have v:hd a x≠0:=by
  grind [Tree.KA,Tree.eA]
 have I:=T.cR f.1 f.2
 have C:hd a x∈s::t::b:=J _ I (k.hk x f.1 f.2 (.inl l) v)
 have N:=T.fm f.1 f.2 v
 have leaf: ∀c,c∈s::t::b->hd a c=hd a x->dq a (a.length+1) (s::t::b) c:=by
  intro c A e d E n P Q
  grind [Tree.fm]
 have y: ∀c,c∈s::t::b->c≠hd a x->(c=x\/bC x (hd a x) c)->hd a c=hd a x:=by
  intro c A ne q
  rcases q with q|q
  ·rw[q]
  ·have u:=G x c f.1 f.2 v q
   have m:=D c A
   rcases(T.lW m.1 m.2).mp u with e|⟨H,K⟩
   ·omega
   ·have L:=T.fm m.1 m.2 H
    have M:=T.AB K
    grind
 have ne:x≠hd a x:=by
  grind
 by_cases c:x<hd a x
 ·obtain⟨p,d,q,e,E,n⟩:=akq j.dec C l c
  have i:d∈s::t::b:=by
   simp_all
  have g:=y d i (by omega) (by
   by_cases z:d=x
   ·exact .inl z
   ·exact .inr (.inl ⟨by omega,n⟩))
  by_cases r:p=[]
  ·simp_all
  ·exact absurd ⟨g,leaf d i g⟩ (k.block p _ _ q e r).1
 ·obtain⟨p,d,q,e,E,n⟩:=akr j.dec C l (by omega)
  have i:d∈s::t::b:=by
   simp_all
  have g:=y d i (by omega) (by
   by_cases z:d=x
   ·exact .inl z
   ·exact .inr (.inr ⟨n,by omega⟩))
  by_cases r:p=[]
  ·simp_all
  ·exact absurd ⟨g,leaf d i g⟩ (k.block p _ _ q e r).2
abbrev cx:=Nat×List Nat×List Int
def eC (n m:Nat) (c:cx):Option cx:=
 if m=83 then(if c.1<=n then some (c.1+1,c.1::c.2.1,c.2.2) else none) else
 match c.2.1 with
 |s::t::a=>if m=76 then some (c.1,s::a,c.2.2.set (t-1) (s:Int)) else if m=82 then some (c.1,t::a,c.2.2.set (s-1) (t:Int)) else none
 |_=>none
structure iQ (n:Nat) (c:cx):Prop where
 base:ep n c.1 c.2.1 c.2.2
 dr: ∀w,c.1<=w->w<=n->hd c.2.2 w=0
theorem iQ.start (n:Nat):iQ n (1,[],replicate n 0) where
 base:=ep.start n
 dr:=fun w a b=>by
  grind [hd,getD]
theorem iQ.push {n i:Nat} {st:List Nat} {h:List Int} (R:iQ n (i,st,h)) (hi:i<=n):iQ n (i+1,i::st,h) where
 base:=R.base.shift hi (R.dr i (aS _) hi)
 dr:=fun w b a=>R.dr w (by omega) a
theorem iQ.hT {n i s t:Nat} {e:List Nat} {h:List Int} (R:iQ n (i,s::t::e,h)) {a g:Nat} (c:(a=t/\g=s)\/(a=s/\g=t)):iQ n (i,g::e,h.set (a-1) (g:Int)) where
 base:=R.base.hT c
 dr:=fun w d f=>by
  have b:=R.base
  have k:=b.aU s (bl ..)
  have l:=b.aU t (bA _ (bl ..))
  have hl:=b.len
  have hi:=b.hi
  simp only at k l hl hi d⊢
  have j:1<=a/\a<i:=by omega
  rw[gf j.1 (by omega) g w (by omega),aG (by omega)]
  exact R.dr w d f
open Classical in
noncomputable def cw (a:List Int) (i:Nat) (st:List Nat):Nat:=
 match st with
 |s::t::b=>if hd a t=s/\dq a i (s::t::b) t then 76 else if hd a s=t/\dq a i (s::t::b) s then 82 else 83
 |_=>83
noncomputable def hn (H:List Int):Nat->cx->Option (List Nat×cx)
 |0,c=>some ([],c)
 |k+1,c=>(eC H.length (cw H c.1 c.2.1) c).bind fun d=>(hn H k d).map fun r=>(cw H c.1 c.2.1::r.1,r.2)
structure ho (H:List Int) (c:cx):Prop where
 o:gg H c.1 c.2.1 c.2.2
 dr: ∀w,c.1<=w->w<=H.length->hd c.2.2 w=0
theorem ho.done {a:List Int} (T:Tree a) {r:Nat} {h:List Int} (f:ho a (a.length+1,[r],h)):h=a:=by
 have d:=f.o.base
 have hl:=d.len
 have g:=d.aU r (bl ..)
 simp only at g hl
 have m:hd a r=0:=by
  refine k5 fun z=> ?_
  have:=f.o.hk r g.1 (by omega) (.inl (bl ..)) z
  have l:=T.cR g.1 (by omega)
  rcases this with q|q
  all_goals grind [List.mem_singleton,Tree.nD]
 apply k6 hl
 intro k i j
 have b:=d.get (w:=k+1) (by omega) (by omega)
 have c:=T.get (w:=k+1) (by omega) (by omega)
 rw[show k+1-1=k by omega,bh i] at b
 rw[show k+1-1=k by omega,bh j] at c
 injection b with b
 injection c with c
 rw[b,c]
 by_cases e:k+1=r
 ·simp_all
 ·rw[f.o.agree (k+1) (by omega) (by omega) (by simpa using e)]
theorem KO {a:List Int} (T:Tree a) (F:dp a) {c:cx} (f:ho a c) (k: ¬(c.1=a.length+1/\c.2.1.length=1)):
  ∃d,eC a.length (cw a c.1 c.2.1) c=some d/\ho a d/\2*d.1+c.2.1.length=2*c.1+d.2.1.length+1:=by
 obtain⟨i,st,h⟩:=c
 have R:iQ a.length (i,st,h):=⟨f.o.base,f.dr⟩
 have hi:=f.o.base.hi
 have u:=T.pos
 simp only at hi k
 have push:i<=a.length->(∀m x l,st=m::x::l->t7 a i st m x)-> ∃d,eC a.length 83 (i,st,h)=some d/\ho a d/\2*d.1+st.length=2*i+d.2.1.length+1:=by
  intro le b
  refine⟨(i+1,i::st,h),by simp[eC,le],⟨f.o.shift le (f.dr i (aS _) le) b,(R.push le).dr⟩,by grind⟩
 match st,f,R,k,push with
 |[],f,R,k,push=>
  have:i=1:=f.o.base.ne rfl
  exact push (by omega) (fun m x l e=>by cases e)
 |[s],f,R,k,push=>
  refine push ?_ (fun m x l e=>by cases e)
  grind
 |s::t::n,f,R,k,push=>
  simp only[cw]
  by_cases g:hd a t=s/\dq a i (s::t::n) t
  ·rw[aA g]
   exact⟨(i,s::n,h.set (t-1) (s:Int)),by simp[eC],⟨f.o.hT (.inl ⟨rfl,rfl⟩) g.1 g.2,(R.hT (.inl ⟨rfl,rfl⟩)).dr⟩,by grind⟩
  ·rw[aG g]
   by_cases j:hd a s=t/\dq a i (s::t::n) s
   ·rw[aA j]
    exact⟨(i,t::n,h.set (s-1) (t:Int)),by simp[eC],⟨f.o.hT (.inr ⟨rfl,rfl⟩) j.1 j.2,(R.hT (.inr ⟨rfl,rfl⟩)).dr⟩,by grind⟩
   ·rw[aG j]
    refine push ?_ ?_
    ·refine k5 fun l=> ?_
     have e:i=a.length+1:=by omega
     subst e
     rcases f.o.move T F with z|z
     all_goals simp_all
    ·intro m x l e
     rw[ls,ls] at e
     obtain⟨p,q,r⟩:=e
     subst p q r
     exact⟨g,j⟩
theorem YB {a:List Int} (T:Tree a) (F:dp a): ∀(k:Nat) (c:cx),ho a c->2*c.1+k=2*a.length+1+c.2.1.length-> ∃ms,hn a k c=some (ms,(a.length+1,[top a],a))
 |0,c,b,e=>by
  obtain⟨i,st,h⟩:=c
  have hi:=b.o.base.hi
  have s:=T.pos
  simp only at e hi
  obtain⟨m,u,em,_⟩:=b.o.base.kI
  simp only at em
  have n:st≠ []:=fun z=>by
   grind
  have t:1<=st.length:=List.length_pos_iff.mpr n
  have f:i=a.length+1:=by omega
  have g:st.length=1:=by omega
  obtain⟨r,rfl⟩:=Ml.mp g
  subst f
  have l:=b.done T
  subst l
  have:=b.o.base.tree T.le
  simp_all [hn]
 |k+1,c,b,e=>by
  have p: ¬(c.1=a.length+1/\c.2.1.length=1):=by
   omega
  obtain⟨d,f,j,g⟩:=KO T F b p
  obtain⟨ms,q⟩:=YB T F k d j (by omega)
  grind [cw,hn]
theorem KP {b d:Type} {body:b->Option (b⊕d)} (I:b->Prop) (μ:b->Nat) (Q:d->Prop)
  (h: ∀s,I s->(∃a,body s=some (.inl a)/\I a/\μ a<μ s)\/(∃o,body s=some (.inr o)/\Q o)): ∀(n:Nat) (s:b),I s->μ s<n-> ∃o,ai body n s=some o/\Q o
 |0,s,_,f=>by omega
 |n+1,s,hi,f=>by
  rcases h s hi with⟨a,c,e,g⟩|⟨o,c,i⟩
  ·simp only[ai,c,ac]
   exact KP I μ Q h n a e (by omega)
  grind [ai]
theorem aks {a b:Int} (h:1<=b) (c:0<=a): ∃v,rem a b=some v/\0<=v/\v<b:=by
 refine⟨a.tmod b,by simp[rem];omega,?_,?_⟩
 ·exact Int.tmod_nonneg _ c
 ·exact Int.tmod_lt_of_pos _ (by omega)
theorem t8 {i:Int} {n:Nat} (a:0<=i) (b:i<=n):inc i n=some i.toNat:=by grind [inc]
def aF (st:List Nat):List Int:=(st.map fun(x:Nat)=>(x:Int)).reverse
theorem eR (st:List Nat):(aF st).length=st.length:=by simp[aF]
theorem eS (s:Nat) (st:List Nat):aF (s::st)=aF st++ [(s:Int)]:=by simp[aF]
theorem fp {n:Nat} (h:n<=1099511627776):room n=some ():=by grind [room]
def ao (mv:ByteArray):List Nat:=mv.data.toList.map fun b=>b.toNat
theorem ec (mv:ByteArray):(ao mv).length=mv.size:=by rw[ao,eZ,vu];rfl
theorem qd {mv:ByteArray} {k:Nat} (a:k<mv.size):hB mv (k:Int)=some ((((ao mv)[k]'(by rw[ec];exact a):Nat)):Int):=by
 unfold hB
 rw[aA (by omega)]
 simp only[e0]
 rw[getElem?_pos mv k a]
 simp only[bn,ao,List.getElem_map]
 rfl
theorem YC (b:ByteArray): ∀(n i:Nat) (r:List UInt8),i+n=b.size->ByteArray.toList.loop b i r=r.reverse++b.data.toList.drop i
 |0,i,r,h=>by
  have a:b.size=b.data.toList.length:=by simp_all
  grind [ByteArray.toList.loop,List.drop_eq_nil_of_le]
 |n+1,i,r,h=>by
  have a:b.size=b.data.toList.length:=by simp_all
  rw[ByteArray.toList.loop,aA (by omega),YC b n (i+1) _ (by omega),List.reverse_cons,mZ]
  have e:b.get! i=b.data.toList[i]'(by omega):=by
   have hi:i<b.data.size:=by grind
   show b.data[i]! =_
   grind
  grind [List.drop_eq_getElem_cons]
theorem toList_data (b:ByteArray):b.toList=b.data.toList:=by
 have:=YC b b.size 0 [] (by omega)
 grind [toList]
theorem ma {a b:ByteArray} (h:ao a=ao b):a=b:=by
 have c:a.data.toList=b.data.toList:=by
  unfold ao at h
  refine List.map_inj_right (f:=fun b:UInt8=>b.toNat) (fun x d e=>UInt8.toNat_inj.mp e)|>.mp h
 exact ob (oi.mp c)
theorem qe {a b:ByteArray}:aE a b=true↔a=b:=by
 unfold aE
 rw[cb,toList_data,toList_data]
 exact⟨fun h=>ob (oi.mp h),fun h=>by rw[h]⟩
theorem nL (a:ByteArray):aE a a=true:=qe.mpr rfl
theorem mb {a b:ByteArray} (h:a≠b):aE a b=false:=by
 rw[k7]
 exact fun x=>h (qe.mp x)
theorem jH (a b:ByteArray):ao (a++b)=ao a++ao b:=by
 simp[ao,apx]
theorem nM (a:ByteArray) (i j:Nat):ao (a.extract i j)=((ao a).take j).drop i:=by
 unfold ao
 rw[ByteArray.data_extract,Array.toList_extract,List.extract_eq_take_drop,List.map_take,List.map_drop,List.drop_take]
theorem KQ {a:ByteArray}: ∀x∈ao a,x<256:=by
 intro x c
 unfold ao at c
 obtain⟨b,_,rfl⟩:=iB.mp c
 exact b.toNat_lt
theorem kJ {a b:ByteArray} (h:a.size+b.size<=1000000000):cat a b=some (a++b):=by
 grind [cat,maxLen]
def bD (sep:Nat):List Nat->List Nat->List (List Nat)
 |acc,[]=> [acc]
 |acc,x::r=>if x=sep then acc::bD sep [] r else bD sep (acc++ [x]) r
theorem ua {sep:Nat}: ∀{l acc:List Nat},sep∉l->bD sep acc l=[acc++l]
 |[],acc,_=>by simp[bD]
 |x::l,acc,h=>by
  have a:x≠sep:=fun e=>h (by simp_all)
  rw[bD,aG a,ua (fun m=>h (bA _ m))]
  simp
theorem AL {sep:Nat} {r:List Nat}: ∀{l acc:List Nat},sep∉l->bD sep acc (l++sep::r)=(acc++l)::bD sep [] r
 |[],acc,_=>by simp[bD]
 |x::l,acc,h=>by
  have a:x≠sep:=fun e=>h (by simp_all)
  rw[fr,bD,aG a,AL (fun m=>h (bA _ m))]
  simp
abbrev ub (s:ByteArray) (sep:Int):Int×Int×List ByteArray->Option ((Int×Int×List ByteArray)⊕(Int×List ByteArray)):=
 fun(t:Int×Int×(List ByteArray))=>((pe s sep t.1 t.2.1 t.2.2).map (Sum.elim (fun(t:Int×Int×(List ByteArray))=>Sum.inl (t.1,t.2.1,t.2.2)) (fun(t:Int×(List ByteArray))=>Sum.inr t)):Option ((Int×Int×(List ByteArray))⊕((Int×(List ByteArray)))))
theorem KR (s:ByteArray) (sep:Nat) (m:s.size<=1000000000): ∀(r k f:Nat) (out:List ByteArray) (N:Nat),k+r=s.size->r<N->f<=k->out.length<=k->
  ∃(a:Nat) (b:List ByteArray),ai (ub s (sep:Int)) N ((f:Int),(k:Int),out)=some ((a:Int),b)/\a<=s.size/\b.length<=s.size/\
   b.map ao++ [((ao s).take s.size).drop a]=out.map ao++bD sep (((ao s).take k).drop f) ((ao s).drop k)
 |r,k,f,out,0,_,h,_,_=>by omega
 |0,k,f,out,N+1,q,_,j,l=>by
  have e:k=s.size:=by omega
  subst e
  refine⟨f,out,?_,j,l,?_⟩
  all_goals grind [ai,pe,decide_eq_false,ByteArray.size,ao,List.drop_eq_nil_of_le,ec,bD]
 |r+1,k,f,out,N+1,q,u,j,l=>by
  have t:k<s.size:=by omega
  have hl:k<(ao s).length:=by grind [ec]
  have n:(ao s).drop k=(ao s)[k]::(ao s).drop (k+1):=e7 hl
  rw[ai]
  by_cases c:(ao s)[k]=sep
  ·have i1:inc (k:Int) s.size=some k:=by grind [inc]
   have v:inc (f:Int) k=some f:=by grind [inc]
   have st:ub s (sep:Int) ((f:Int),(k:Int),out)=some (.inl (((k+1:Nat):Int),((k+1:Nat):Int),out++ [s.extract f k])):=by
    simp only[ub,pe]
    rw[an (show(k:Int)<((s.size:Nat):Int) by omega),qd t,c]
    grind [room,List.length,extract,List.length_cons,List.length_nil,wrap64]
   obtain⟨a,b,p,d,g,i⟩:=KR s sep m r (k+1) (k+1) (out++ [s.extract f k]) N (by omega) (by omega) (aS _) (by simp;omega)
   refine⟨a,b,?_,d,g,?_⟩
   ·grind
   ·rw[i,n,bD,aA c,f2,dJ,iA,nM,mZ]
    simp_all
  ·have st:ub s (sep:Int) ((f:Int),(k:Int),out)=some (.inl ((f:Int),((k+1:Nat):Int),out)):=by
    grind [pe,decide_eq_true,ByteArray.size,qd,wrap64]
   obtain⟨a,b,p,d,g,i⟩:=KR s sep m r (k+1) f out N (by omega) (by omega) (by omega) (by omega)
   grind [bD,List.take_succ_eq_append_getElem,List.length_take]
theorem KS (s:ByteArray) (sep:Nat) (f:s.size<=1000000000): ∃out,lC s (sep:Int)=some out/\out.map ao=bD sep [] (ao s):=by
 have e:lC s (sep:Int)=wv s (sep:Int):=by unfold lC;rfl
 obtain⟨a,b,c,g,i,j⟩:=KR s sep f s.size 0 0 [] LL (by omega) (by grind [LL]) (aS _) (by simp)
 have i1:inc (a:Int) s.size=some a:=by grind [inc]
 refine⟨b++ [s.extract a s.size],?_,?_⟩
 ·rw[e]
  unfold wv DU OR OQ DV OP OO
  have d:ai (ub s (sep:Int)) LL (0,0,[])=_:=c
  simp only[ac]
  rw[show(ai _ LL ((0:Int),(0:Int),([]:List ByteArray)):Option (Int×List ByteArray))=some ((a:Int),b) from d]
  grind [DW,room,extract,ByteArray.size,List.length_cons,List.length_nil]
 grind [nM]
noncomputable def bE (n:Nat):ByteArray:=(cV (n:Int)).getD empty
def cC (l:List Nat):Nat:=l.foldl (fun a x=>10*a+(x-48)) 0
def YD (n:Nat):Bool:=match cV (n:Int) with
 |some t=>decide (1<=t.size)&&decide (t.size<=2)&&(ao t).all (fun x=>decide (48<=x)&&decide (x<=57))&&(cC (ao t)==n)
 |none=>false
theorem akt:((range 100).all YD)=true:=by decide+kernel
theorem hq {n:Nat} (h:n<100):cV (n:Int)=some (bE n)/\1<=(bE n).size/\(bE n).size<=2/\(∀x∈ao (bE n),48<=x/\x<=57)/\cC (ao (bE n))=n:=by
 have a:=bQ.mp akt n (fh.mpr h)
 grind [YD,bE]
def YE (n:Nat):Bool:=match cV (n:Int) with
 |some t=>gJ t==some (n:Int)
 |none=>false
theorem aku:((range 100).all YE)=true:=by decide+kernel
theorem YF {n:Nat} (h:n<100):gJ (bE n)=some (n:Int):=by
 have a:=bQ.mp aku n (fh.mpr h)
 grind [YE,hq]
def cM (k a b:Int):Bool:=
 (k==0&&decide (0<=a)&&decide (a<=99)&&decide (0<=b)&&decide (b<=99))||(k==1&&decide (0<=a)&&decide (a<=99)&&b==0)||(decide (2<=k)&&decide (k<=5)&&a==0&&b==0)
noncomputable def cz (k a b:Int):ByteArray:=(nm k a b).getD empty
def iR:ByteArray:=ByteArray.mk #[104,101,97,100,32]
def mc:ByteArray:=ByteArray.mk #[97,100,100,32]
def gh:ByteArray:=ByteArray.mk #[32]
def hU (k:Int):ByteArray:=if k=2 then ByteArray.mk #[100,114,111,112] else if k=3 then ByteArray.mk #[116,117,114,110] else if k=4 then ByteArray.mk #[102,108,97,116] else ByteArray.mk #[98,97,99,107]
theorem uc (k a b:Int): ∃t,nm k a b=some t/\(cM k a b=false->t=empty)/\
  (∀n m:Nat,n<100->m<100->k=0->a=(n:Int)->b=(m:Int)->t=iR++bE n++gh++bE m)/\
  (∀n:Nat,n<100->k=1->a=(n:Int)->b=0->t=mc++bE n)/\(2<=k->k<=5->a=0->b=0->t=hU k):=by
 have e:nm k a b=wA k a b:=by unfold nm;rfl
 rw[e]
 unfold wA D1 OW OU OT D2
 simp only[ac]
 by_cases j:k=0
 ·subst j
  rw[gs,gs]
  by_cases r:(0<=a/\a<=99)/\(0<=b/\b<=99)
  ·obtain⟨n,rfl⟩: ∃n:Nat,a=(n:Int):=⟨a.toNat,by omega⟩
   obtain⟨m,rfl⟩: ∃m:Nat,b=(m:Int):=⟨b.toNat,by omega⟩
   obtain⟨i,x,y,_⟩:=hq (n:=n) (by omega)
   obtain⟨w,A,B,_⟩:=hq (n:=m) (by omega)
   refine⟨iR++bE n++gh++bE m,?_,fun f=> ?_,fun g v _ _ _ c d=> ?_,fun _ _ h=>by omega,fun h=>by omega⟩
   ·simp only[e4,aw,ac]
    rw[an r.1.1,an r.1.2,an r.2.1,an r.2.2]
    simp only[g2,aw,ac]
    unfold D5 D3
    have C:(iR++bE n).size<=7:=by rw[e6];show 5+_<=7;omega
    have D:(iR++bE n++gh).size<=8:=by rw[e6];show _+1<=8;omega
    rw[i,w]
    simp only[ac]
    grind [cat,bE,iR,kJ,gh]
   all_goals grind [cM]
  ·refine⟨empty,?_,fun _=>rfl,fun g v _ _ _ c d=>absurd ⟨⟨by omega,by omega⟩,by omega,by omega⟩ r,fun _ _ h=>by omega,fun h=>by omega⟩
   simp only[e4,aw,ac]
   have f:(cond (decide (0<=a)&&decide (a<=99)) (some (decide (0<=b)&&decide (b<=99))) (some false))=some false:=by
    grind
   rw[f]
   rfl
 ·rw[dg.mpr j]
  simp only[au,ac]
  unfold D5 OS D4
  simp only[au]
  by_cases l:k=1
  ·subst l
   rw[gs]
   by_cases r:(0<=a/\a<=99)/\b=0
   ·obtain⟨n,rfl⟩: ∃n:Nat,a=(n:Int):=⟨a.toNat,by omega⟩
    obtain⟨i,x,y,_⟩:=hq (n:=n) (by omega)
    refine⟨mc++bE n,?_,fun f=> ?_,fun _ _ _ _ h=>by omega,fun g _ _ c _=> ?_,fun h=>by omega⟩
    ·simp only[e4,aw,ac]
     rw[an r.1.1,an r.1.2,r.2]
     simp only[g2,aw,e4,ac]
     unfold wz
     simp only[aw]
     rw[i]
     simp only[ac]
     rw[show cat (ByteArray.mk #[97,100,100,32]) (bE n)=some (mc++bE n) from kJ (by show 4+_<=_;omega)]
     rfl
    all_goals grind [cM]
   ·refine⟨empty,?_,fun _=>rfl,fun _ _ _ _ h=>by omega,fun g _ _ c d=>absurd ⟨⟨by omega,by omega⟩,d⟩ r,fun h=>by omega⟩
    simp only[e4,aw,ac]
    have f:(cond (decide (0<=a)&&decide (a<=99)) (some (b==0)) (some false))=some false:=by
     grind
    rw[f]
    rfl
  ·rw[dg.mpr l]
   simp only[au,ac]
   unfold wz
   simp only[au,f8]
   by_cases z:a=0/\b=0
   ·obtain⟨rfl,rfl⟩:=z
    simp only[e4,f8]
    by_cases p:k=2
    ·subst p
     exact⟨_,rfl,fun f=>by simp[cM] at f,fun _ _ _ _ h=>by omega,fun _ _ h=>by omega,fun _ _ _ _=>rfl⟩
    ·rw[dg.mpr p]
     by_cases q:k=3
     ·subst q
      exact⟨_,rfl,fun f=>by simp[cM] at f,fun _ _ _ _ h=>by omega,fun _ _ h=>by omega,fun _ _ _ _=>rfl⟩
     ·rw[dg.mpr q]
      by_cases s:k=4
      ·subst s
       exact⟨_,rfl,fun f=>by simp[cM] at f,fun _ _ _ _ h=>by omega,fun _ _ h=>by omega,fun _ _ _ _=>rfl⟩
      ·rw[dg.mpr s]
       by_cases u:k=5
       ·subst u
        exact⟨_,rfl,fun f=>by simp[cM] at f,fun _ _ _ _ h=>by omega,fun _ _ h=>by omega,fun _ _ _ _=>rfl⟩
       ·rw[dg.mpr u]
        exact⟨_,rfl,fun _=>rfl,fun _ _ _ _ h=>by omega,fun _ _ h=>by omega,fun _ _ _ _=>by omega⟩
   ·have f:((a==0)&&(b==0))=false:=by
     simp_all
    rw[f]
    simp only[Bool.and_false]
    exact⟨_,rfl,fun _=>rfl,fun _ _ _ _ h=>by omega,fun _ _ h=>by omega,fun _ _ c d=>absurd ⟨c,d⟩ z⟩
theorem akv (k a b:Int):nm k a b=some (cz k a b):=by
 obtain⟨t,h,_⟩:=uc k a b
 grind [cz]
theorem AM {k a b:Int} {t:ByteArray} (h:nm k a b=some t):cz k a b=t:=by grind [cz]
theorem KT {k a b:Int} (h:cM k a b=false):cz k a b=empty:=by
 obtain⟨t,c,d,_⟩:=uc k a b
 rw[AM c,d h]
theorem AN {n m:Nat} (d:n<100) (c:m<100):cz 0 (n:Int) (m:Int)=iR++bE n++gh++bE m:=by
 obtain⟨t,a,_,b,_⟩:=uc 0 (n:Int) (m:Int)
 grind [AM]
theorem AO {n:Nat} (c:n<100):cz 1 (n:Int) 0=mc++bE n:=by
 obtain⟨t,a,_,_,b,_⟩:=uc 1 (n:Int) 0
 grind [AM]
theorem qf {k:Int} (b:2<=k) (c:k<=5):cz k 0 0=hU k:=by
 obtain⟨t,a,_,_,_,h⟩:=uc k 0 0
 grind [AM]
theorem kK {k a b:Int} (h:cM k a b=true):(∃n m:Nat,n<100/\m<100/\k=0/\a=(n:Int)/\b=(m:Int))\/(∃n:Nat,n<100/\k=1/\a=(n:Int)/\b=0)\/(2<=k/\k<=5/\a=0/\b=0):=by
 unfold cM at h
 simp only[ev,aT,cb,db] at h
 rcases h with(h|h)|h
 ·exact .inl ⟨a.toNat,b.toNat,by omega,by omega,by omega,by omega,by omega⟩
 ·exact .inr (.inl ⟨a.toNat,by omega,by omega,by omega,by omega⟩)
 omega
theorem md {k:Int} (a:2<=k) (b:k<=5):k=2\/k=3\/k=4\/k=5:=by omega
theorem AP {n:Nat} (h:n<100):32∉ao (bE n):=fun m=>by
 grind [hq]
theorem me {n m:Nat} (b:n<100) (a:m<100):bD 32 [] (ao (cz 0 (n:Int) (m:Int)))=[[104,101,97,100],ao (bE n),ao (bE m)]:=by
 rw[AN b a,jH,jH,jH]
 have e:ao iR++ao (bE n)++ao gh++ao (bE m)=[104,101,97,100]++32::(ao (bE n)++32::ao (bE m)):=by
  grind [ao,iR,gh]
 grind [AL,AP,ua]
theorem mf {n:Nat} (a:n<100):bD 32 [] (ao (cz 1 (n:Int) 0))=[[97,100,100],ao (bE n)]:=by
 rw[AO a,jH]
 have e:ao mc++ao (bE n)=[97,100,100]++32::ao (bE n):=by
  simp_all [ao,mc]
 grind [AL,ua,AP]
theorem AQ {k:Int} (a:2<=k) (b:k<=5):bD 32 [] (ao (cz k 0 0))=[ao (hU k)]:=by
 rw[qf a b]
 rcases md a b with rfl|rfl|rfl|rfl<;>exact ua (by decide)
theorem YG {n m:Nat} (b:n<100) (a:m<100) (h:ao (bE n)=ao (bE m)):n=m:=by
 grind [hq]
theorem akw {k a b g d f:Int} (h:cM k a b=true) (h':cM g d f=true) (e:cz k a b=cz g d f):k=g/\a=d/\b=f:=by
 rcases kK h with⟨n,m,q,t,rfl,rfl,rfl⟩|⟨n,q,rfl,rfl,rfl⟩|⟨i,l,rfl,rfl⟩<;>
  rcases kK h' with⟨s,v,r,u,rfl,rfl,rfl⟩|⟨s,r,rfl,rfl,rfl⟩|⟨j,p,rfl,rfl⟩
 ·grind [bD,ao,me,List.cons.injEq,YG]
 ·grind [bD,ao,me,mf]
 ·grind [bD,ao,me,AQ]
 ·grind [bD,ao,me,mf]
 ·grind [bD,ao,mf,List.cons.injEq,YG]
 ·grind [bD,ao,mf,AQ]
 ·grind [bD,ao,me,AQ]
 ·grind [bD,ao,mf,AQ]
 ·rw[qf i l,qf j p] at e
  have c:=aR ao e
  rcases md i l with rfl|rfl|rfl|rfl<;>rcases md j p with rfl|rfl|rfl|rfl<;>first|exact⟨rfl,rfl,rfl⟩|exact absurd c (by decide)
theorem akx {k a b:Int} (h:cM k a b=true):1<=(cz k a b).size/\(cz k a b).size<=10:=by
 rcases kK h with⟨n,m,c,f,rfl,rfl,rfl⟩|⟨n,c,rfl,rfl,rfl⟩|⟨d,e,rfl,rfl⟩
 ·have x:=hq c
  have g:=hq f
  rw[AN c f,e6,e6,e6,show iR.size=5 from rfl,show gh.size=1 from rfl]
  omega
 ·have x:=hq c
  rw[AO c,e6,show mc.size=4 from rfl]
  omega
 ·rw[qf d e]
  rcases md d e with rfl|rfl|rfl|rfl<;>exact⟨by decide,by decide⟩
theorem KU {k a b:Int} (h:cM k a b=true):cz k a b≠empty:=fun e=>by
 have:=(akx h).1
 simp_all
theorem aky {k a b:Int}:cz k a b≠empty↔cM k a b=true:=by
 grind [cM,absurd,KT,KU]
abbrev gi:=Int×Int×Int×Unit
theorem YH {n:Nat} (h:n<=1000000000):room n=some ():=by grind [room]
abbrev iS (t:ByteArray):Int×Int->Option ((Int×Int)⊕(Int⊕Int)):=
 fun(s:Int×Int)=>((nl t s.1 s.2).map (Sum.elim (fun(t:Int×Int)=>Sum.inl (t.1,t.2)) (Sum.elim (fun(t:Int)=>Sum.inr (Sum.inl t)) (fun(t:Int)=>Sum.inr (Sum.inr t)))):Option ((Int×Int)⊕(Int⊕Int)))
theorem YI (t:ByteArray) (h:t.size<=100000000): ∀(r k N:Nat) (n:Int),k+r=t.size->r<N-> ∃v,ai (iS t) N (n,(k:Int))=some v
 |r,k,0,n,_,h=>by omega
 |0,k,N+1,n,b,_=>by
  have e:k=t.size:=by omega
  subst e
  rw[ai]
  simp only[iS,nl]
  simp_all
 |r+1,k,N+1,n,b,c=>by
  have a:k<t.size:=by omega
  rw[ai]
  have st:(∃v,iS t (n,(k:Int))=some (.inr v))\/ ∃m,iS t (n,(k:Int))=some (.inl (m,((k+1:Nat):Int))):=by
   simp only[iS,nl]
   rw[an (show(k:Int)<((t.size:Nat):Int) by omega),qd a,wrap64 (x:=(k:Int)+1) (by omega) (by omega)]
   simp only[aw,ac]
   cases decide ((((ao t)[k]'(by grind [ec]):Nat):Int)<48) with
   |true=>simp_all
   |false=>
    cases decide ((((ao t)[k]'(by rw[ec];exact a):Nat):Int)>57)<;>simp_all
  rcases st with⟨v,e⟩|⟨m,e⟩
  ·rw[e]
   simp_all
  ·rw[e]
   exact YI t h r (k+1) N m (by omega) (by omega)
theorem AR (t:ByteArray) (h:t.size<=100000000): ∃v,gJ t=some v:=by
 have e:gJ t=pf t:=by unfold gJ;rfl
 rw[e]
 unfold pf ww
 rw[gs]
 simp only[ac]
 cases c:(decide ((1:Int)<=((t.size:Nat):Int))&&decide (((t.size:Nat):Int)<=6)) with
 |false=>simp_all
 |true=>
  simp only[aT,db] at c
  have go: ∃v,rr t=some v:=by
   unfold rr DZ wx DY DX wy
   obtain⟨v,a⟩:=YI t h t.size 0 LL 0 (by omega) (by grind [LL])
   have b:ai (iS t) LL (0,0)=some v:=a
   simp only[ac]
   rw[show(ai _ LL ((0:Int),(0:Int)):Option (Int⊕Int))=some v from b]
   cases v<;>exact⟨_,rfl⟩
  obtain⟨v,a⟩:=go
  simp only[bo,au]
  grind [Decidable.decide,ByteArray.size,hB,qd,ao,ec]
noncomputable def AS (s:ByteArray) (L:List gi):Option gi:=L.find? fun c=> !(aE s empty)&&aE (cz c.1 c.2.1 c.2.2.1) s
abbrev AT (s:ByteArray) (L:List gi):Int->Option (Int⊕((Bool×Int×Int×Int)⊕Unit)):=
 fun(k:Int)=>((rv s k L).map (Sum.elim (fun(t:Int)=>Sum.inl t) (Sum.elim (fun(t:Bool×Int×Int×Int)=>Sum.inr (Sum.inl t)) (fun(t:Unit)=>Sum.inr (Sum.inr t)))):Option ((Int)⊕((Bool×Int×Int×Int)⊕Unit)))
theorem YJ (s:ByteArray) (a:List gi) (f:a.length<=1000): ∀(r k N:Nat),k+r=a.length->r<N->
  ai (AT s a) N (k:Int)=some (match AS s (a.drop k) with|some c=> .inl (true,c.1,c.2.1,c.2.2.1)|none=> .inr ())
 |r,k,0,_,h=>by omega
 |0,k,N+1,i,_=>by
  have e:k=a.length:=by omega
  subst e
  rw[ai]
  simp only[AT,rv]
  rw[cy (show¬((a.length:Nat):Int)<((a.length:Nat):Int) by omega),List.drop_length]
  rfl
 |r+1,k,N+1,i,l=>by
  have b:k<a.length:=by omega
  have j:=YJ s a f r (k+1) N (by omega) (by omega)
  have i1:ap (k:Int) a.length=some k:=by grind [ap]
  have g:a[k]? =some a[k]:=bh b
  have w:wrap .i64 ((k:Int)+1)=((k+1:Nat):Int):=by grind [wrap64]
  rw[ai]
  have d:a.drop k=a[k]::a.drop (k+1):=e7 b
  unfold AS at j⊢
  rw[d,List.find?_cons]
  have st:AT s a (k:Int)=some (if !(aE s empty)&&aE (cz a[k].1 a[k].2.1 a[k].2.2.1) s then .inr (.inl (true,a[k].1,a[k].2.1,a[k].2.2.1)) else .inl ((k+1:Nat):Int)):=by
   grind [rv,decide_eq_true,List.length,akv,aE,empty,cz]
  grind
noncomputable def cD (s:ByteArray):Bool×Int×Int×Int:=open Classical in
 if h: ∃d:Int×Int×Int,cM d.1 d.2.1 d.2.2=true/\cz d.1 d.2.1 d.2.2=s then(true,h.choose.1,h.choose.2.1,h.choose.2.2) else(false,0,0,0)
theorem YK {k a b:Int} (h:cM k a b=true):cD (cz k a b)=(true,k,a,b):=by
 have c: ∃d:Int×Int×Int,cM d.1 d.2.1 d.2.2=true/\cz d.1 d.2.1 d.2.2=cz k a b:=⟨(k,a,b),h,rfl⟩
 grind [cD,akw]
theorem YL {s:ByteArray} (h: ∀k a b:Int,cM k a b=true->cz k a b≠s):cD s=(false,0,0,0):=by
 grind [cD]
theorem akz {s:ByteArray} {d:List gi} (i: ∀k a b,cM k a b=true->cz k a b=s->(k,a,b,())∈d):
  (match AS s d with|some c=>(true,c.1,c.2.1,c.2.2.1)|none=>(false,(0:Int),(0:Int),(0:Int)))=cD s:=by
 cases f:AS s d with
 |some c=>
  have g:=List.find?_some f
  simp only[aT,gl] at g
  have e:=qe.mp g.2
  have ne:s≠empty:=fun x=>by simp_all
  have b:cM c.1 c.2.1 c.2.2.1=true:=aky.mp (by simp_all)
  grind [YK]
 |none=>
  rw[YL]
  intro k a b j l
  have:=Cd.mp f _ (i k a b j l)
  grind [Bool.not_eq_true',mb,KU,nL]
theorem akA (s:ByteArray) (H:s.size<=100000000):wD s=some (cD s):=by
 have e:wD s=wC s:=by unfold wD;rfl
 obtain⟨out,v,G⟩:=KS s 32 (by omega)
 rw[e]
 unfold wC D6
 rw[show(32:Int)=((32:Nat):Int) from rfl,v]
 simp only[ac]
 have tail: ∀d:List gi,d.length<=1000->(∀k a b,cM k a b=true->cz k a b=s->(k,a,b,())∈d)->Ec s d=some (cD s):=fun d hl y=>by
  unfold Ec O1 Ea O0 OZ Eb
  have E:=YJ s d hl d.length 0 LL (by omega) (by grind [LL])
  have F:ai (AT s d) LL (0:Int)=_:=E
  simp only[ac]
  rw[show(ai _ LL (0:Int):Option ((Bool×Int×Int×Int)⊕Unit))=_ from F,fY,<-akz y]
  grind
 have len:out.length=(bD 32 [] (ao s)).length:=by grind
 have K: ∀k a b,cM k a b=true->cz k a b=s->(2<=k->k<=5->(k,a,b,())∈([(2,0,0,()),(3,0,0,()),(4,0,0,()),(5,0,0,())]:List gi)):=fun k a b i _ r u=>by
  grind [kK,md]
 have q: ∀t∈out,t.size<=100000000:=fun t I=>by
  have:ao t∈bD 32 [] (ao s):=by grind
  have J: ∀(l acc:List Nat) (x:List Nat),x∈bD 32 acc l->x.length<=acc.length+l.length:=by
   intro l
   induction l<;>grind [bD,List.mem_singleton,List.length_nil,List.length_cons,List.length_append]
  grind [ec]
 unfold O2 OY D7
 simp only[ac]
 unfold OX
 by_cases D:out.length=3
 ·rw[show((((out.length:Nat):Int))==3)=true from cb.mpr (by omega)]
  unfold D8
  match out,D with
  |[f,c,g],_=>
   obtain⟨v1,j⟩:=AR c (q c (by simp))
   obtain⟨v2,w⟩:=AR g (q g (by simp))
   have i1:ap 1 [f,c,g].length=some 1:=rfl
   have B:ap 2 [f,c,g].length=some 2:=rfl
   simp only[aw,i1,B,ac,mF,vf,j,w]
   rw[YH (by simp)]
   simp only[bn,ac]
   unfold Ed wB
   rw[show(((([f,c,g].length:Nat):Int))==2)=false from rfl]
   simp only[au,ac]
   refine tail _ (by simp) fun k a b i z=> ?_
   rw[jQ]
   rcases kK i with⟨n,m,p,A,rfl,rfl,rfl⟩|⟨n,p,rfl,rfl,rfl⟩|⟨r,u,rfl,rfl⟩
   ·grind [me,List.cons.injEq,ma,YF,Option.some.inj]
   all_goals grind [mf]
 ·rw[show((((out.length:Nat):Int))==3)=false from dg.mpr (by omega)]
  unfold D9
  simp only[au,bn,ac]
  unfold Ed wB
  by_cases C:out.length=2
  ·rw[show((((out.length:Nat):Int))==2)=true from cb.mpr (by omega)]
   match out,C with
   |[f,c],_=>
    obtain⟨v1,j⟩:=AR c (q c (by simp))
    have i1:ap 1 [f,c].length=some 1:=rfl
    simp only[aw,i1,ac,mF,vf,j]
    rw[YH (by simp)]
    simp only[ac]
    refine tail _ (by simp) fun k a b i z=> ?_
    rw[jQ]
    rcases kK i with⟨n,m,p,A,rfl,rfl,rfl⟩|⟨n,p,rfl,rfl,rfl⟩|⟨r,u,rfl,rfl⟩
    all_goals grind [me,mf,List.cons.injEq,ma,YF,Option.some.inj]
  grind [kK,me,mf]
def cJ (l:List Nat):ByteArray:=ByteArray.mk (l.map Nat.toUInt8).toArray
theorem AU (a:ByteArray):cJ (ao a)=a:=by
 refine ob (oi.mp ?_)
 unfold cJ ao
 simp only[g4]
 have:(Nat.toUInt8∘fun b:UInt8=>b.toNat)=id:=by
  grind [UInt8.ofNat_toNat]
 simp_all
def eT (h:List Int) (w:Nat):List Nat:=((range (w-1)).map (· +1)).filter fun k=>hd h k==w
def hV (h:List Int) (w:Nat):List Nat:=((range (h.length-w)).map (· +(w+1))).filter fun k=>hd h k==w
theorem AW {n k:Nat}:k∈(range n).map (· +1)↔1<=k/\k<=n:=by
 rw[iB]
 constructor
 ·grind
 ·rintro⟨a,b⟩
  exact⟨k-1,by grind,by omega⟩
theorem nN {h:List Int} {w k:Nat} (a:w<=h.length):k∈eT h w↔(1<=k/\k<=h.length)/\hd h k=w/\k<w:=by
 grind [eT,AW]
theorem nO {h:List Int} {w k:Nat}:k∈hV h w↔(1<=k/\k<=h.length)/\hd h k=w/\w<k:=by
 unfold hV
 rw[oj,iB,cb]
 constructor
 ·grind
 ·rintro⟨⟨a,b⟩,e,l⟩
  exact⟨⟨k-(w+1),by grind,by omega⟩,e⟩
theorem YM (n:Nat):((range n).map (· +1)).Pairwise (· < ·):=by
 grind [List.Pairwise.imp,List.pairwise_lt_range]
theorem YN (h:List Int) (w:Nat):(eT h w).Pairwise (· < ·):=(YM _).filter _
theorem YO (h:List Int) (w:Nat):(hV h w).Pairwise (· < ·):=by
 refine List.Pairwise.filter _ ?_
 grind [List.Pairwise.imp,List.pairwise_lt_range]
theorem YP {α c:Type} {f g:α->List c}: ∀{l:List α},(∀x∈l,f x=g x)->l.flatMap f=l.flatMap g
 |[],_=>rfl
 |x::l,h=>by
  rw[List.flatMap_cons,List.flatMap_cons,h x (bl ..),YP (l:=l) (fun b a=>h b (bA _ a))]
def bv (h:List Int):Nat->Nat->List Nat
 |0,_=> []
 |f+1,w=>(eT h w).flatMap (bv h f)++w::(hV h w).flatMap (bv h f)
section
variable {h : List Int} (T : Tree h)
include T
theorem nP {w c:Nat} (a:1<=c) (b:c<=h.length) (d:1<=w) (e:hd h c=w):dep h c=dep h w+1:=by
 grind [Tree.fm]
theorem AX: ∀{f w x:Nat},1<=w->w<=h.length->h.length<=f+dep h w->(x∈bv h f w↔aL h x w)
 |0,w,x,b,d,e=>by
  have:=T.hh b d
  omega
 |f+1,w,x,b,d,e=>by
  have g: ∀c,(1<=c/\c<=h.length)/\hd h c=w->(x∈bv h f c↔aL h x c):=fun c a=>by
   have:=nP T a.1.1 a.1.2 b a.2
   exact AX a.1.1 a.1.2 (by omega)
  grind [bv,Tree.KI,nN,nO,Tree.nD]
theorem YQ {R:Nat->Nat->Prop} (i: ∀w c x,1<=w->w<=h.length->hd h c=w->c<w->aL h x c->R x w) (j: ∀w c x,1<=w->w<=h.length->hd h c=w->w<c->aL h x c->R w x)
  (k: ∀w c d x g,1<=w->w<=h.length->hd h c=w->hd h d=w->c<d->aL h x c->aL h g d->R x g): ∀{f w:Nat},1<=w->w<=h.length->h.length<=f+dep h w->(bv h f w).Pairwise R
 |0,w,b,e,l=>by
  have:=T.hh b e
  omega
 |f+1,w,b,e,l=>by
  have n: ∀c x,(1<=c/\c<=h.length)/\hd h c=w->x∈bv h f c->aL h x c:=fun c x a m=>by
   grind [nP,AX]
  have p: ∀c,(1<=c/\c<=h.length)/\hd h c=w->(bv h f c).Pairwise R:=fun c a=>by
   have:=nP T a.1.1 a.1.2 b a.2
   exact YQ i j k a.1.1 a.1.2 (by omega)
  rw[bv,k4,d9,apy,apy]
  grind [nN,List.Pairwise.imp_of_mem,YN,nO,YO]
theorem YR {f w:Nat} (a:1<=w) (b:w<=h.length) (i:h.length<=f+dep h w):(bv h f w).Nodup:=by
 refine YQ T ?_ ?_ ?_ a b i
 ·grind [Tree.iK,Tree.kF,Tree.iL]
 ·grind [Tree.iK,Tree.kF,Tree.iL]
 ·intro w c d x k a b e g l u v j
  subst j
  have:=T.ajO (by omega) e g u v
  omega
theorem YS: ∀{f w:Nat},1<=w->w<=h.length->h.length<=f+dep h w->bv h (f+1) w=bv h f w
 |0,w,b,d,e=>by
  have:=T.hh b d
  omega
 |f+1,w,b,d,e=>by
  have g: ∀c,(1<=c/\c<=h.length)/\hd h c=w->bv h (f+1) c=bv h f c:=fun c a=>by
   have:=nP T a.1.1 a.1.2 b a.2
   exact YS a.1.1 a.1.2 (by omega)
  grind [eT,bv,YP,nN,hV,nO]
theorem YT {w:Nat} (a:1<=w) (b:w<=h.length) {f:Nat} (c:h.length<=f+dep h w): ∀d,bv h (f+d) w=bv h f w
 |0=>rfl
 |d+1=>by
  rw[<-kU,YS T a b (by omega)]
  exact YT a b c d
def qg (h:List Int):List Nat:=bv h h.length (top h)
theorem YU {x:Nat}:x∈qg h↔1<=x/\x<=h.length:=by
 grind [qg,AX,gt,Tree.gb,Tree.iK,Tree.Ye]
theorem YV:(qg h).Nodup:=YR T (gt h) T.gb (by omega)
theorem akB:(qg h).length=h.length:=by
 have p:(qg h).Perm ((range h.length).map (· +1)):=by
  grind [List.perm_ext_iff_of_nodup,YV,List.Pairwise.imp,Nat.ne_of_lt,YM,YU,AW]
 rw[p.length_eq]
 simp
end
def dt (h:List Int):List Int:=(qg h).map fun(x:Nat)=>(x:Int)
section
variable {h : List Int} (T : Tree h)
include T
theorem kL:(dt h).length=h.length:=by
 unfold dt
 rw[eZ,akB T]
theorem KV:eB (dt h) ((dt h).length:Nat):=by
 grind [AH,kL,dt,YU,Nodup,List.Pairwise.imp,YV]
end
def bZ:List Int->Nat
 |[]=>0
 |x::l=>l.countP (fun y=>decide (y<x))+bZ l
theorem AY (x:Int): ∀l:List Int,bZ (l++ [x])=bZ l+l.countP (fun y=>decide (x<y))
 |[]=>rfl
 |y::l=>by
  rw[fr,bZ,bZ,AY x l,h6,h7]
  grind
theorem YW {x:Int}: ∀{l:List Int},x∉l->l.countP (fun y=>decide (y<x))+l.countP (fun y=>decide (x<y))=l.length
 |[],_=>rfl
 |y::l,h=>by
  have ne:y≠x:=fun e=>h (by simp_all)
  have a:=YW (l:=l) (fun m=>h (bA _ m))
  grind
theorem akC (n:Nat):(n+1)*(n+1-1)/2=n+n*(n-1)/2:=by
 cases n<;>grind
theorem YX: ∀{l:List Int},l.Nodup->bZ l+bZ l.reverse=l.length*(l.length-1)/2
 |[],_=>rfl
 |x::l,h=>by
  rw[List.nodup_cons] at h
  have a:=YX h.2
  have c:=YW h.1
  rw[List.reverse_cons,AY,bZ,List.countP_reverse,cB,akC]
  omega
theorem akD {l:List Int} (h:l.Nodup):bZ l<=l.length*(l.length-1)/2:=by
 grind [YX]
def gP (A L:List Int):Nat:=(A.map fun a=>L.countP (fun y=>decide (y<a))).sum
theorem YY: ∀(A L:List Int),bZ (A++L)=bZ A+gP A L+bZ L
 |[],L=>by simp[bZ,gP]
 |x::A,L=>by
  rw[fr,bZ,bZ,YY A L,h6]
  grind [gP]
theorem akE {a b c:List Int} (p:b.Perm c):gP a b=gP a c:=by
 grind [gP,List.map_congr_left,List.Perm.countP_eq]
theorem KW (h:List Int) (hl:h.length<=1048576):rx h=some (fo h):=by
 unfold rx Ek Eh Pb O9 Ei O8 O7 Ej fo
 simp only[ac]
 cases a:aB h with
 |false=>
  have b:=de (body:=fun(s:Int)=>((ph h s).map (Sum.elim (fun(t:Int)=>Sum.inl t) (Sum.elim (fun(t:Int)=>Sum.inr (Sum.inl t)) (fun(t:Unit)=>Sum.inr (Sum.inr t)))):Option ((Int)⊕(Int⊕Unit))))
   (I:=fun s=>s=0) (μ:=fun s=>0) (f:=fun s=> .inr ())
   (by
    grind [ph,cL,List.length,decide_eq_true,decide_eq_false])
  grind [LL]
 |true=>
  have T:=(bK h).1 a
  have b:=de (body:=fun(s:Int)=>((ph h s).map (Sum.elim (fun(t:Int)=>Sum.inl t) (Sum.elim (fun(t:Int)=>Sum.inr (Sum.inl t)) (fun(t:Unit)=>Sum.inr (Sum.inr t)))):Option ((Int)⊕(Int⊕Unit))))
   (I:=fun s=> ∃k:Nat,s=(k:Int)/\k<top h) (μ:=fun s=>h.length-s.toNat) (f:=fun s=> .inl (top h:Int))
   (by
    rintro _ ⟨k,rfl,l⟩
    have n:=T.gb
    have c:k<h.length:=by omega
    have g:=T.get (w:=k+1) (by omega) (by omega)
    rw[show k+1-1=k by omega,bh c] at g
    have j:h[k]=((hd h (k+1):Nat):Int):=by grind
    simp only[ph]
    rw[cL,a,show decide ((k:Int)<((h.length:Nat):Int))=true from an (by omega),bR c,wrap64 (by omega) (by omega)]
    simp only[aw,ac]
    by_cases e:hd h (k+1)=0
    ·right
     grind [Tree.eA]
    ·left
     have m:k+1≠top h:=fun i=>e ((T.eA (by omega) (by omega)).2 i)
     have d:(h[k]==0)=false:=by simp;omega
     refine⟨((k+1:Nat):Int),by simp[d],⟨k+1,rfl,by omega⟩,by simp;omega,trivial⟩)
  rw[b LL 0 ⟨0,rfl,(gt h)⟩ (by grind [LL])]
  simp
theorem YZ (o:List Int) (m:Int) (hl:o.length<=1048576):wH o m=some (fO o m):=by
 unfold wH EB Et Pt Ps Eu Pr Pq
 have r: ∀k,(b:k<o.length)->Ex o k=some (cond (decide (o[k]∈o.take k)) (.inl false) (.inr ())):=fun k b=>by
  unfold Ex
  have q:=de (body:=fun(s:Int)=>((wG o k s).map (Sum.elim (fun(t:Int)=>Sum.inl t) (Sum.elim (fun(t:Bool)=>Sum.inr (Sum.inl t)) (fun(t:Unit)=>Sum.inr (Sum.inr t)))):Option ((Int)⊕(Bool⊕Unit))))
   (I:=fun s=> ∃j:Nat,s=(j:Int)/\j<=k/\o[k]∉o.take j) (μ:=fun s=>k-s.toNat) (f:=fun _=>cond (decide (o[k]∈o.take k)) (.inl false) (.inr ()))
   (by
    rintro _ ⟨j,rfl,g,u⟩
    simp only[wG]
    by_cases a:j<k
    ·rw[show decide ((j:Int)<(k:Int))=true from an (by omega),bR (show j<o.length by omega),bR b,wrap64 (by omega) (by omega)]
     simp only[aw,ac]
     by_cases e:o[j]=o[k]
     ·right
      grind [List.take,tZ,decide_eq_true]
     ·left
      have d:(o[j]==o[k])=false:=by simpa using e
      refine⟨((j+1:Nat):Int),by simp[d],⟨j+1,rfl,a,?_⟩,by simp;omega,trivial⟩
      grind [List.take_add_one,List.getElem?_eq_getElem,Option.toList_some,List.mem_singleton]
    grind)
  grind [LL]
 have q:=de (body:=fun(s:Int)=>((Ez o m s).map (Sum.elim (fun(t:Int)=>Sum.inl t) (Sum.elim (fun(t:Bool)=>Sum.inr (Sum.inl t)) (fun(t:Unit)=>Sum.inr (Sum.inr t)))):Option ((Int)⊕(Bool⊕Unit))))
  (I:=fun s=> ∃k:Nat,s=(k:Int)/\k<=o.length/\eB (o.take k) m) (μ:=fun s=>o.length-s.toNat) (f:=fun _=>cond (lY o m) (.inr ()) (.inl false))
  (by
   rintro _ ⟨k,rfl,b,hP⟩
   simp only[Ez,Ev]
   by_cases a:k<o.length
   ·rw[show decide ((k:Int)<((o.length:Nat):Int))=true from an (by omega)]
    simp only[aw,ac,Sum.elim_inl]
    unfold Pp Po Pn Ew Pm Ey
    rw[bR a,wrap64 (by omega) (by omega)]
    simp only[ac,gs,r k a]
    by_cases c:1<=o[k]/\o[k]<=m
    ·have d:(decide (1<=o[k])&&decide (o[k]<=m))=true:=by grind
     rw[d]
     by_cases l:o[k]∈o.take k
     ·right
      obtain⟨i,hi,e⟩:=(tZ b).1 l
      rw[an l,tY (fun n=>n.2 i k hi a e)]
      rfl
     ·left
      rw[cy l]
      refine⟨((k+1:Nat):Int),by simp,⟨k+1,rfl,a,?_⟩,by simp;omega,trivial⟩
      have hl:(o.take (k+1)).length=k+1:=by simp;omega
      refine⟨fun i hi=> ?_,fun i j p g=> ?_⟩
      ·rw[hl] at hi
       rw[f1]
       by_cases e:i=k
       ·simp_all
       ·have:=hP.1 i (by simp;omega)
        simp_all
      ·rw[hl] at g
       rw[f1,f1]
       by_cases e:j=k
       ·grind [tZ]
       ·have:=hP.2 i j p (by simp;omega)
        simp_all
    ·right
     have d:(decide (1<=o[k])&&decide (o[k]<=m))=false:=by
      simp_all
     rw[d,tY (fun n=>c (n.1 k a))]
     rfl
   ·right
    grind [List.length,List.take_length,Decidable.decide,decide_eq_false,p9])
 simp only[ac]
 rw[q LL 0 ⟨0,rfl,by omega,⟨fun k b=>by simp at b,fun i j p g=>by simp at g⟩⟩ (by grind [LL])]
 unfold fO
 grind [lY,EA,gs,Decidable.decide]
theorem akF (o:List Int) (hl:o.length<=8) (hP:eB o (o.length:Nat)):
  ai (fun(s:Int×(List Int))=>((rC o s.1 s.2).map (Sum.elim (fun(t:Int×(List Int))=>Sum.inl (t.1,t.2)) (fun(t:(List Int))=>Sum.inr t)):Option ((Int×(List Int))⊕(((List Int)))))) LL (0,replicate (o.length+1) 0)=some (fP o):=by
 have c:=de (body:=fun(s:Int×(List Int))=>((rC o s.1 s.2).map (Sum.elim (fun(t:Int×(List Int))=>Sum.inl (t.1,t.2)) (fun(t:(List Int))=>Sum.inr t)):Option ((Int×(List Int))⊕(((List Int))))))
  (I:=fun s=> ∃k:Nat,s=((k:Int),gd o k)/\k<=o.length) (μ:=fun s=>o.length-s.1.toNat) (f:=fun _=>fP o)
  (by
   rintro _ ⟨k,rfl,b⟩
   simp only[rC]
   by_cases a:k<o.length
   ·left
    have d:=hP.1 k a
    obtain⟨v,g⟩: ∃v:Nat,o[k]=(v:Int):=⟨o[k].toNat,by omega⟩
    refine⟨(((k+1:Nat):Int),gd o (k+1)),?_,⟨k+1,rfl,a⟩,by simp;omega,trivial⟩
    rw[show decide ((k:Int)<((o.length:Nat):Int))=true from an (by omega),bR a,wrap64 (by omega) (by omega)]
    grind [ap,gd,nJ,bS,Yr]
   ·right
    have e:k=o.length:=by omega
    subst e
    rw[show decide (((o.length:Nat):Int)<((o.length:Nat):Int))=false from cy (by omega)]
    rfl)
 grind [LL,gd,Ys]
theorem akG (h o:List Int) (i:o.length<=1048576):EI h o=some (if aB h&&fO o h.length then(true,putRow h o) else(false,[])):=by
 unfold EI EH EC
 rw[cL,YZ o _ i]
 cases g:aB h with
 |false=>simp
 |true=>
  cases a:fO o h.length with
  |false=>simp
  |true=>
   have T:=(bK h).1 g
   unfold fO at a
   simp only[aT,db,cb] at a
   obtain⟨⟨_,r⟩,n⟩:=a
   have hl:o.length=h.length:=by omega
   have q:=T.le
   have hP:eB o (o.length:Nat):=by grind [p9]
   rw[wrap64 (by omega) (by omega),show((h.length:Nat):Int)+1=((o.length+1:Nat):Int) by omega,hg (by omega)]
   simp only[ac,bo,au,Sum.elim_inl,g2,cN]
   unfold PC Pw ED Pv Pu
   rw[akF o (by omega) hP]
   unfold PB EE PA Pz EF Py Px EG
   simp only[ac,bn]
   have j:=de (body:=fun(s:Int×(List Int))=>((wI h o s.1 (fP o) s.2).map (Sum.elim (fun(t:Int×(List Int))=>Sum.inl (t.1,t.2)) (fun(t:(List Int))=>Sum.inr t)):Option ((Int×(List Int))⊕(((List Int))))))
    (I:=fun s=> ∃k:Nat,s.1=(k:Int)/\k<=o.length/\s.2.length<=k) (μ:=fun s=>o.length-s.1.toNat) (f:=fun s=>s.2++(putRow h o).drop s.1.toNat)
    (by
     rintro⟨_,out⟩ ⟨k,rfl,p,l⟩
     simp only at l
     simp only[wI]
     by_cases b:k<o.length
     ·left
      obtain⟨w,x,c,u,d,m,e⟩:=KK T hl hP b
      refine⟨(((k+1:Nat):Int),out++ [kG h o k]),?_,⟨k+1,rfl,b,by simp;omega⟩,by simp;omega,?_⟩
      ·rw[show decide ((k:Int)<((o.length:Nat):Int))=true from an (by omega),bR b]
       simp only[aw,ac]
       rw[c,wrap64 (x:=((w+1:Nat):Int)-1) (by omega) (by omega),show((w+1:Nat):Int)-1=(w:Int) by omega,eN,d,wrap64 (by omega) (by omega)]
       simp only[ac]
       rw[bS (by grind)]
       simp only[ac,e,room_le (show out.length+ [kG h o k].length<=1099511627776 by simp;omega)]
       simp
      grind [Int.toNat_natCast,Yt]
     grind [List.length,Decidable.decide,decide_eq_false,List.drop_of_length_le,Nat.le_of_eq,AG])
   rw[j LL (0,[]) ⟨0,by simp,by omega,by simp⟩ (by grind [LL])]
   simp
theorem nQ {n:Nat} (h:n<=1099511627776):room n=some ():=by grind [room]
def bL (l:List Nat):List Int:=l.map fun(x:Nat)=>(x:Int)
theorem ud (a b:List Nat):bL (a++b)=bL a++bL b:=by simp[bL]
theorem kM (a:List Nat):(bL a).length=a.length:=by simp[bL]
def iT (h:List Int) (w k:Nat):List Nat:=((range k).map (· +1)).filter fun j=>hd h j==w
def iU (h:List Int) (w k:Nat):List Nat:=((range k).map (· +(w+1))).filter fun j=>hd h j==w
theorem akH (h:List Int) (w k:Nat):iT h w (k+1)=iT h w k++(if hd h (k+1)=w then[k+1] else[]):=by
 grind [iT,List.range_succ,hd]
theorem akI (h:List Int) (w k:Nat):iU h w (k+1)=iU h w k++(if hd h (k+(w+1))=w then[k+(w+1)] else[]):=by
 grind [iU,List.range_succ,hd]
theorem AZ {f:Nat->List Nat}: ∀{l:List Nat},(∀x∈l,(f x).length<=8)->(l.flatMap f).length<=8*l.length
 |[],_=>by simp
 |x::l,h=>by
  have a:=h x (bl ..)
  have b:=AZ (l:=l) (fun d c=>h d (bA _ c))
  grind
section
variable {h : List Int} (T : Tree h)
include T
theorem Y0 {f w:Nat} (b:1<=w) (c:w<=h.length) (a:h.length<=f+dep h w):(bv h f w).length<=8:=by
 have:=apz (l₂:=(range h.length).map (· +1)) (YR T b c a) (by
  grind [AW,Tree.iK,AX])
 grind [List.length_map,List.length_range,Tree.le]
theorem Y1: ∀(f w:Nat),1<=w->w<=h.length->h.length<=f+dep h w->lD f h (w:Int)=some (bL (bv h f w))
 |0,w,q,x,z=>by
  have:=T.hh q x
  omega
 |f+1,w,q,x,z=>by
  have D:=T.le
  have u: ∀c,1<=c->c<=h.length->hd h c=w->np f h (c:Int)=some (bL (bv h f c))/\(bv h f c).length<=8:=fun c g i e=>by
   have:=nP T g i q e
   exact⟨Y1 f c g i (by omega),Y0 T g i (by omega)⟩
  have read: ∀c,1<=c->c<=h.length->idx h (wrap .i64 ((c:Int)-1))=some ((hd h c:Nat):Int):=fun c g i=>by
   rw[wrap64 (by omega) (by omega)]
   unfold idx
   rw[aA (by omega),show((c:Int)-1).toNat=c-1 by omega,T.get g i]
  have e:lD (f+1) h (w:Int)=Es (np f) h (w:Int):=rfl
  have F: ∀k,k<=8-> ∀c∈iT h w k,1<=c/\c<=k/\hd h c=w:=fun k m c d=>by
   grind [iT,AW]
  have G: ∀k,∀c∈iU h w k,w<c/\c<=w+k/\hd h c=w:=fun k c d=>by
   unfold iU at d
   rw[oj,iB,cb] at d
   obtain⟨⟨j,E,rfl⟩,J⟩:=d
   grind
  have H: ∀k,(iT h w k).length<=k:=fun k=>by
   unfold iT
   grind
  have I: ∀k,(iU h w k).length<=k:=fun k=>by
   unfold iU
   grind
  have n: ∀k,k<w->((iT h w k).flatMap (bv h f)).length<=64:=fun k m=>by
   have:=AZ (f:=bv h f) (l:=iT h w k) (fun c d=>by
    grind)
   grind
  have A: ∀k,k<=h.length-w->((iU h w k).flatMap (bv h f)).length<=64:=fun k m=>by
   have:=AZ (f:=bv h f) (l:=iU h w k) (fun c d=>by
    grind)
   grind
  have B:=bu (body:=fun(s:Int×(List Int))=>((ry (np f) h (w:Int) s.1 s.2).map (Sum.elim (fun(t:Int×(List Int))=>Sum.inl (t.1,t.2)) (fun(t:(List Int))=>Sum.inr t)):Option ((Int×(List Int))⊕(((List Int))))))
   (fun k=>(((k+1:Nat):Int),bL ((iT h w k).flatMap (bv h f)))) (w-1) (bL ((eT h w).flatMap (bv h f)))
   (by
    intro k m
    have r:wrap .i64 (((k+1:Nat):Int)+1)=((k+1+1:Nat):Int):=by grind [wrap64]
    simp only[ry]
    rw[an (show((k+1:Nat):Int)<(w:Int) by omega),read (k+1) (by omega) (by omega),r,akH]
    simp only[aw,ac]
    by_cases c:hd h (k+1)=w
    ·obtain⟨p,C⟩:=u (k+1) (by omega) (by omega) c
     rw[show(((hd h (k+1):Nat):Int)==(w:Int))=true from cb.mpr (by omega),aA c,p]
     simp only[aw,ac]
     have:=n k (by omega)
     rw[nQ (by grind [kM]),List.flatMap_append,ud]
     simp
    ·rw[show(((hd h (k+1):Nat):Int)==(w:Int))=false from dg.2 (by omega),aG c,fZ]
     rfl)
   (by
    simp only[ry]
    rw[cy (show¬((w-1+1:Nat):Int)<(w:Int) by omega)]
    rfl) LL (by grind [LL])
  have K:=bu (body:=fun(s:Int×(List Int))=>((rz (np f) h (w:Int) s.1 s.2).map (Sum.elim (fun(t:Int×(List Int))=>Sum.inl (t.1,t.2)) (fun(t:(List Int))=>Sum.inr t)):Option ((Int×(List Int))⊕(((List Int))))))
   (fun k=>(((k+(w+1):Nat):Int),(bL ((eT h w).flatMap (bv h f))++ [(w:Int)])++bL ((iU h w k).flatMap (bv h f)))) (h.length-w)
   ((bL ((eT h w).flatMap (bv h f))++ [(w:Int)])++bL ((hV h w).flatMap (bv h f)))
   (by
    intro k m
    have r:wrap .i64 (((k+(w+1):Nat):Int)+1)=((k+1+(w+1):Nat):Int):=by grind [wrap64]
    simp only[rz]
    rw[an (show((k+(w+1):Nat):Int)<=((h.length:Nat):Int) by omega),read (k+(w+1)) (by omega) (by omega),r,akI]
    simp only[aw,ac]
    by_cases c:hd h (k+(w+1))=w
    ·obtain⟨p,C⟩:=u (k+(w+1)) (by omega) (by omega) c
     rw[show(((hd h (k+(w+1)):Nat):Int)==(w:Int))=true from cb.mpr (by omega),aA c,p]
     simp only[aw,ac]
     have a:=A k (by omega)
     have b:=n (w-1) (by omega)
     have y:((eT h w).flatMap (bv h f)).length<=64:=b
     rw[nQ (by grind [List.length_append,kM,List.length_cons,List.length_nil]),List.flatMap_append,ud]
     simp
    ·rw[show(((hd h (k+(w+1)):Nat):Int)==(w:Int))=false from dg.2 (by omega),aG c,fZ]
     rfl)
   (by
    simp only[rz]
    rw[cy (show¬((h.length-w+(w+1):Nat):Int)<=((h.length:Nat):Int) by omega)]
    rfl) LL (by grind [LL])
  rw[e]
  unfold Es Er El Pl Pe Em Pd Pc
  have v:=B
  rw[show((0+1:Nat):Int)=1 from rfl,show bL ((iT h w 0).flatMap (bv h f))=[] from rfl] at v
  simp only[ac]
  rw[v]
  simp only[bn,ac]
  have y:((eT h w).flatMap (bv h f)).length<=64:=n (w-1) (by omega)
  unfold Pk En
  rw[nQ (by grind [kM,List.length_cons,List.length_nil])]
  simp only[ac]
  unfold Pj Ph Eo Pg Pf Ep
  have L:wrap .i64 ((w:Int)+1)=((0+(w+1):Nat):Int):=by grind [wrap64]
  simp_all [bL,iU,bv,fZ,ac,bn,ud,hV]
end
theorem KX (h:List Int) (hl:h.length<=1048576):rB h=some (if aB h=true then dt h else[]):=by
 unfold rB wF
 rw[cL]
 cases t:aB h with
 |false=>rfl
 |true=>
  have T:=(bK h).mp t
  have b:=T.le
  have r:fo h=(top h:Int):=by grind [fo]
  have e:rA h (top h:Int)=lD RR h (top h:Int):=by unfold rA;rfl
  have a:=Y1 T RR (top h) (gt h) T.gb (by grind [RR])
  have m:=YT T (gt h) T.gb (f:=h.length) (by omega) (RR-h.length)
  rw[show h.length+(RR-h.length)=RR by grind [RR]] at m
  simp only[ac,bo,au,KW h hl,r,e,a,m]
  rfl
def nR (o:List Int):Int:=if fO o o.length=true then(bZ o:Int) else-1
theorem KY {o:List Int} {k:Nat} (a:k<o.length):o.take (k+1)=o.take k++ [o[k]]:=i6 a
theorem KZ {o:List Int} (a:o.length<=8): ∀k,k<=o.length->bZ (o.take k)<=8*k
 |0,_=>by simp[bZ]
 |k+1,b=>by
  have:=KZ a k (by omega)
  grind [KY,AY,List.countP_le_length,Decidable.decide,List.take,List.length_take]
theorem akJ (o:List Int) (hl:o.length<=1048576):w3 o=some (nR o):=by
 have e:w3 o=w2 o:=by unfold w3;rfl
 rw[e]
 unfold w2 Fp nR
 rw[YZ o _ hl]
 cases t:fO o o.length with
 |false=>rfl
 |true=>
  have g:o.length<=8:=by
   grind [AI]
  have i: ∀k (a:k<o.length),Fs o (bZ (o.take k):Int) (k:Int)=some (bZ (o.take (k+1)):Int):=by
   intro k a
   unfold Fs
   have q:=KZ g k (by omega)
   have m:=bu (body:=fun(s:Int×Int)=>((rL o s.1 (k:Int) s.2).map (Sum.elim (fun(t:Int×Int)=>Sum.inl (t.1,t.2)) (fun(t:Int)=>Sum.inr t)):Option ((Int×Int)⊕(Int))))
    (fun j=>((bZ (o.take k)+(o.take j).countP (fun b=>decide (o[k]<b)):Nat),(j:Int))) k (bZ (o.take (k+1)):Int)
    (by
     intro j n
     have d:idx o (j:Int)=some o[j]:=by grind [idx,Int.toNat_natCast,List.getElem?_eq_getElem]
     have f:idx o (k:Int)=some o[k]:=by grind [idx,Int.toNat_natCast,List.getElem?_eq_getElem]
     have c:=h8 (p:=fun b=>decide (o[k]<b)) (l:=o.take j)
     rw[mH] at c
     simp only[rL]
     rw[an (show(j:Int)<(k:Int) by omega),d,f,KY (show j<o.length by omega),h6]
     grind [wrap64,bZ,List.take,Decidable.decide,decide_eq_true,decide_eq_false])
    (by
     grind [rL,decide_eq_false,KY,AY]) LL (by grind [LL])
   simp_all
  have m:=bu (body:=fun(s:Int×Int)=>((wZ o s.1 s.2).map (Sum.elim (fun(t:Int×Int)=>Sum.inl (t.1,t.2)) (fun(t:Int)=>Sum.inr t)):Option ((Int×Int)⊕(Int))))
   (fun k=>((bZ (o.take k):Int),(k:Int))) o.length (bZ o:Int)
   (by
    intro k a
    simp only[wZ,wY,Qm,Ql,Qk,Fr,Qj,Ft]
    rw[an (show(k:Int)<((o.length:Nat):Int) by omega),i k a,wrap64 (by omega) (by omega)]
    rfl)
   (by
    simp_all [wZ,wY,cy,List.length,vv,aS]) LL (by grind [LL])
  simp only[ac,bo,au,Sum.elim_inl]
  unfold Qq Qp Fq Qo Qn Fu
  grind [bZ]
theorem A0 {h:List Int} (T:Tree h):fO (dt h) (h.length:Nat)=true:=by
 grind [AI,Tree.pos,Tree.le,kL,KV]
theorem akK (h:List Int) (hl:h.length<=1048576):Fv h=some (if aB h=true then(bZ (dt h):Int) else-1):=by
 unfold Fv w4
 rw[cL,KX h hl]
 grind [aB,bK,kL,Bool.not_true,akJ,nR,A0]
theorem akL (h:List Int) (hl:h.length<=1048576):rD h=some (if aB h=true then putRow h (dt h) else[]):=by
 unfold rD wJ
 grind [KX,aB,Bool.false_eq_true,akG,bK,kL,A0]
def aH (f:Nat->Nat):Nat->Nat
 |0=>0
 |n+1=>aH f n+f n
theorem hW {f g:Nat->Nat}: ∀{n:Nat},(∀i,i<n->f i=g i)->aH f n=aH g n
 |0,_=>rfl
 |n+1,h=>by rw[aH,aH,hW fun i hi=>h i (by omega),h n (by omega)]
theorem ue {f g:Nat->Nat}: ∀{n:Nat},(∀i,i<n->f i<=g i)->aH f n<=aH g n
 |0,_=>aS _
 |n+1,h=>by
  have:=ue fun i (hi:i<n)=>h i (by omega)
  grind [aH]
theorem mg (f g:Nat->Nat): ∀n,aH (fun i=>f i+g i) n=aH f n+aH g n
 |0=>rfl
 |n+1=>by
  rw[aH,aH,aH,mg f g n]
  omega
theorem mh (c:Nat): ∀n,aH (fun _=>c) n=n*c
 |0=>by simp[aH]
 |n+1=>by rw[aH,mh c n,Nat.succ_mul]
theorem Y2 (f:Nat->Nat->Nat) (m:Nat): ∀n,aH (fun i=>aH (f i) m) n=aH (fun j=>aH (fun i=>f i j) n) m
 |0=>by
  simp_all [aH,mh]
 |n+1=>by
  rw[aH,Y2 f m n,<-mg]
  exact hW fun j _=>rfl
theorem Y3 (f:Nat->Nat): ∀n,aH f n=((range n).map f).sum
 |0=>rfl
 |n+1=>by rw[aH,Y3 f n,f0,f2,on];simp
def ind (b:Bool):Nat:=if b then 1 else 0
theorem Y4 (b:Bool):ind b<=1:=by grind [ind]
theorem uf (p:Nat->Bool): ∀n,aH (fun i=>ind (p i)) n=(range n).countP p
 |0=>rfl
 |n+1=>by
  rw[aH,uf p n,f0,h6]
  grind [ind]
theorem nS {f:Nat->Nat}: ∀{n:Nat},aH f n=0↔ ∀i,i<n->f i=0
 |0=>by simp[aH]
 |n+1=>by
  rw[aH]
  constructor
  ·intro h i hi
   by_cases e:i=n
   ·grind
   ·exact(nS (n:=n)).mp (by omega) i (by omega)
  ·intro h
   have:=(nS (n:=n)).mpr fun i hi=>h i (by omega)
   simp_all
theorem qh {f:Nat->Nat}: ∀{n k:Nat},k<n->(∀i,i<n->i≠k->f i=0)->aH f n=f k
 |n+1,k,a,h=>by
  rw[aH]
  by_cases e:k=n
  ·subst e
   rw[nS.mpr fun i hi=>h i (by omega) (by omega)]
   omega
  ·rw[qh (n:=n) (k:=k) (by omega) fun i hi ne=>h i (by omega) ne,h n (by omega) (by omega)]
   omega
def gQ (h:List Int) (w:Nat):Nat:=(range h.length).countP fun i=>hd h (i+1)==w
def bX (h:List Int) (w:Nat):Nat:=gQ h w+if hd h w=0 then 0 else 1
theorem K0 (h:List Int) (w:Nat):gQ h w=aH (fun i=>ind (hd h (i+1)==w)) h.length:=by rw[uf];rfl
section
variable {h : List Int} (T : Tree h)
include T
theorem akM:aH (fun i=>gQ h (i+1)) h.length=h.length-1:=by
 have e:aH (fun i=>gQ h (i+1)) h.length=aH (fun j=>ind (hd h (j+1) !=0)) h.length:=by
  rw[hW fun i _=>K0 h (i+1),Y2]
  refine hW fun j f=> ?_
  have l:=T.cR (show 1<=j+1 by omega) (by omega)
  by_cases z:hd h (j+1)=0
  ·grind [nS,ind]
  ·rw[qh (k:=hd h (j+1)-1) (by omega) fun i _ ne=>by
    rw[show(hd h (j+1)==i+1)=false from dg.mpr (by omega)]
    rfl]
   grind
 have c:aH (fun j=>ind (hd h (j+1) !=0)) h.length+aH (fun j=>ind (hd h (j+1)==0)) h.length=h.length:=by
  rw[<-mg,hW (g:=fun _=>1),mh]
  ·omega
  ·intro i _
   by_cases z:hd h (i+1)=0
   ·rw[z];rfl
   ·rw[show(hd h (i+1) !=0)=true from k8.mpr z,show(hd h (i+1)==0)=false from dg.mpr z]
    rfl
 have d:aH (fun j=>ind (hd h (j+1)==0)) h.length=1:=by
  have a:=gt h
  have b:=T.gb
  rw[qh (k:=top h-1) (by omega) fun i hi ne=> ?_]
  ·rw[show top h-1+1=top h by omega,(T.eA a b).mpr rfl]
   rfl
  ·rw[show(hd h (i+1)==0)=false from dg.mpr fun z=>ne (by
    grind [Tree.eA])]
   rfl
 omega
theorem akN:aH (fun i=>if hd h (i+1)=0 then 0 else 1) h.length=h.length-1:=by
 have e:aH (fun i=>if hd h (i+1)=0 then 0 else 1) h.length+aH (fun j=>ind (hd h (j+1)==0)) h.length=h.length:=by
  rw[<-mg,hW (g:=fun _=>1),mh]
  ·omega
  ·intro i _
   by_cases z:hd h (i+1)=0
   ·rw[z];rfl
   ·rw[aG z,show(hd h (i+1)==0)=false from dg.mpr z]
    rfl
 have c:aH (fun j=>ind (hd h (j+1)==0)) h.length=1:=by
  have a:=gt h
  have b:=T.gb
  rw[qh (k:=top h-1) (by omega) fun i hi ne=> ?_]
  ·rw[show top h-1+1=top h by omega,(T.eA a b).mpr rfl]
   rfl
  ·rw[show(hd h (i+1)==0)=false from dg.mpr fun z=>ne (by
    grind [Tree.eA])]
   rfl
 omega
end
def gj (h:List Int) (w:Nat):Nat:=if hd h w=0 then 0 else max (hd h w) w-min (hd h w) w
def nT (h:List Int):Nat:=aH (fun i=>gj h (i+1)) h.length
section
variable {h : List Int} (T : Tree h)
include T
theorem A1 {w:Nat} (a:1<=w) (b:w<=h.length):hd h w≠w:=by
 intro e
 have:=T.fm a b (by omega)
 simp_all
theorem akO {w:Nat} (a:1<=w) (b:w<=h.length):gj h w<h.length:=by
 grind [gj,Tree.cR]
theorem K1:nT h<=64:=by
 have l:=T.le
 have:=ue (f:=fun i=>gj h (i+1)) (g:=fun _=>8) (n:=h.length) fun i hi=>by
  have:=akO T (show 1<=i+1 by omega) (by omega)
  omega
 rw[mh] at this
 unfold nT
 omega
end
def ed {α:Type} (f:α->α->Nat):List α->Nat
 |[]=>0
 |a::r=>(r.map (f a)).sum+ed f r
section
variable {α : Type}
theorem K2 {f g:α->Nat}: ∀{l:List α},(∀x∈l,f x<=g x)->(l.map f).sum<=(l.map g).sum
 |[],_=>aS _
 |a::r,h=>by
  rw[dJ,dJ,f3,f3]
  have:=h a bl
  have:=K2 fun x b=>h x (bA a b)
  omega
theorem akP {f g:α->Nat} {l:List α} (h: ∀x∈l,f x=g x):(l.map f).sum=(l.map g).sum:=
 Nat.le_antisymm (K2 fun x a=>Nat.le_of_eq (h x a)) (K2 fun x a=>Nat.le_of_eq (h x a).symm)
theorem Y5 {f:α->Nat}: ∀{l:List α},(∀x∈l,f x=0)->(l.map f).sum=0
 |[],_=>rfl
 |a::r,h=>by rw[dJ,f3,h a bl,Y5 fun x b=>h x (bA a b)]
theorem Y6 (f g:α->Nat): ∀l:List α,(l.map fun x=>f x+g x).sum=(l.map f).sum+(l.map g).sum
 |[]=>rfl
 |a::r=>by
  simp only[dJ,f3]
  rw[Y6 f g r]
  omega
theorem Y7 (p:α->Bool): ∀l:List α,(l.map fun x=>ind (p x)).sum=l.countP p
 |[]=>rfl
 |a::r=>by
  rw[dJ,f3,Y7 p r,h7]
  grind [ind]
theorem Y8 (f:α->Nat->Nat) (n:Nat): ∀l:List α,(l.map fun x=>aH (f x) n).sum=aH (fun i=>(l.map fun x=>f x i).sum) n
 |[]=>by
  grind [nS]
 |a::r=>by
  rw[dJ,f3,Y8 f n r,<-mg]
  simp_all
theorem K3 {R:α->α->Prop} {f g:α->α->Nat} (c: ∀a b,R a b->f a b=g a b): ∀{l:List α},l.Pairwise R->ed f l=ed g l
 |[],_=>rfl
 |a::r,h=>by
  rw[d9] at h
  rw[ed,ed,K3 c h.2,akP fun x d=>c a x (h.1 x d)]
theorem Y9 (f g:α->α->Nat): ∀l:List α,ed (fun a b=>f a b+g a b) l=ed f l+ed g l
 |[]=>rfl
 |a::r=>by
  rw[ed,ed,ed,Y9 f g r,Y6]
  omega
theorem Za (f:α->α->Nat->Nat) (n:Nat): ∀l:List α,ed (fun a b=>aH (f a b) n) l=aH (fun i=>ed (fun a b=>f a b i) l) n
 |[]=>by
  grind [nS,ed]
 |a::r=>by
  rw[ed,Za f n r,Y8,<-mg]
  grind [hW,ed]
theorem akQ (c:Nat):(c+1)*c/2=c+c*(c-1)/2:=by
 cases c<;>grind
theorem K4 (p:α->Bool): ∀l:List α,ed (fun a b=>ind (p a&&p b)) l=l.countP p*(l.countP p-1)/2
 |[]=>by simp[ed]
 |a::r=>by
  rw[ed,K4 p r,h7]
  cases h:p a<;>grind [List.map,ind,Y5,Bool.false_eq_true,Nat.add_sub_cancel,Y7,akQ]
end
def gR (h:List Int):List Nat:=(range h.length).filter fun i=>hd h (i+1) !=0
def gv (h:List Int) (w a:Nat):Bool:=a+1==w||hd h (a+1)==w
def kN (h:List Int) (a b:Nat):Bool:=hd h (b+1)==a+1||hd h (a+1)==b+1||hd h (a+1)==hd h (b+1)
def ug (h:List Int):Nat:=ed (fun a b=>ind (!kN h a b)) (gR h)
theorem K5 {h:List Int} {a:Nat}:a∈gR h↔a<h.length/\hd h (a+1)≠0:=by
 grind [gR]
theorem akR (h:List Int):(gR h).Pairwise fun a b=>a<b/\(a<h.length/\hd h (a+1)≠0)/\(b<h.length/\hd h (b+1)≠0):=by
 have p:(gR h).Pairwise (· < ·):=(List.pairwise_lt_range (n:=h.length)).filter _
 exact p.imp_of_mem fun c d lt=>⟨lt,K5.mp c,K5.mp d⟩
section
variable {h : List Int} (T : Tree h)
include T
theorem Zb:(gR h).length=h.length-1:=by
 have:=akN T
 rw[<-this,gR,<-g5,<-uf]
 refine hW fun i _=> ?_
 by_cases z:hd h (i+1)=0
 ·rw[z];rfl
 ·rw[aG z,show(hd h (i+1) !=0)=true from k8.mpr z]
  rfl
theorem Zc {w:Nat} (a:1<=w) (b:w<=h.length):(gR h).countP (gv h w)=bX h w:=by
 unfold gR bX
 rw[List.countP_filter,<-uf,K0]
 have one:(if hd h w=0 then 0 else 1)=aH (fun i=>ind (i+1==w&&hd h (i+1) !=0)) h.length:=by
  rw[qh (k:=w-1) (by omega) fun i _ ne=>by
   rw[show(i+1==w)=false from dg.mpr (by omega)]
   rfl]
  rw[show w-1+1=w by omega,e4,d8]
  by_cases z:hd h w=0
  ·rw[z];rfl
  ·rw[aG z,show(hd h w !=0)=true from k8.mpr z]
   rfl
 rw[one,<-mg]
 refine hW fun i hi=> ?_
 grind [A1,List.length,gv,hd,ind]
theorem akS {a b:Nat} (c:1<=a) (d:a<=h.length) (e:1<=b) (f:b<=h.length) (i:hd h a=b) (j:hd h b=a):False:=by
 have g:=T.fm c d (by omega)
 grind [Tree.fm]
theorem akT {a b:Nat} (r:a<b) (j:a<h.length/\hd h (a+1)≠0) (l:b<h.length/\hd h (b+1)≠0):
  aH (fun i=>ind (gv h (i+1) a&&gv h (i+1) b)) h.length=ind (kN h a b):=by
 have t:=T.cR (show 1<=a+1 by omega) (show a+1<=h.length by omega)
 have u:=T.cR (show 1<=b+1 by omega) (show b+1<=h.length by omega)
 have w:=A1 T (show 1<=a+1 by omega) (show a+1<=h.length by omega)
 have x:=A1 T (show 1<=b+1 by omega) (show b+1<=h.length by omega)
 have v:=fun f g=>akS T (show 1<=a+1 by omega) (show a+1<=h.length by omega) (show 1<=b+1 by omega) (show b+1<=h.length by omega) f g
 have c: ∀i,(gv h (i+1) a&&gv h (i+1) b)=true↔(a=i\/hd h (a+1)=i+1)/\(b=i\/hd h (b+1)=i+1):=by
  grind [gv]
 by_cases s:kN h a b=true
 ·rw[s]
  have d:=s
  unfold kN at d
  simp only[ev,cb] at d
  have: ∃k,k<h.length/\(gv h (k+1) a&&gv h (k+1) b)=true/\ ∀i,(gv h (i+1) a&&gv h (i+1) b)=true->i=k:=by
   rcases d with(e|e)|e
   ·refine⟨a,j.1,(c a).mpr ⟨.inl rfl,.inr e⟩,fun i hi=> ?_⟩
    grind
   ·refine⟨b,l.1,(c b).mpr ⟨.inr e,.inl rfl⟩,fun i hi=> ?_⟩
    grind
   ·refine⟨hd h (a+1)-1,by omega,(c _).mpr ⟨.inr (by omega),.inr (by omega)⟩,fun i hi=> ?_⟩
    grind
  obtain⟨k,m,n,p⟩:=this
  rw[qh m fun i _ ne=>by
   rw[show(gv h (i+1) a&&gv h (i+1) b)=false from k7.mpr fun q=>ne (p i q)]
   rfl]
  rw[n]
 grind [nS,ind,gv,kN]
theorem K6:ug h+aH (fun i=>bX h (i+1)*(bX h (i+1)-1)/2) h.length=(h.length-1)*(h.length-2)/2:=by
 have d:aH (fun i=>bX h (i+1)*(bX h (i+1)-1)/2) h.length=ed (fun a b=>ind (kN h a b)) (gR h):=by
  rw[<-K3 (fun a b r=>akT T r.1 r.2.1 r.2.2) (akR h),Za]
  refine hW fun i hi=> ?_
  rw[K4,Zc T (by omega) (by omega)]
 have c:ed (fun a b=>ind (!kN h a b)+ind (kN h a b)) (gR h)=(h.length-1)*(h.length-2)/2:=by
  rw[K3 (R:=fun _ _=>True) (g:=fun a b=>ind ((fun _=>true) a&&(fun _=>true) b)) (fun a b _=>by cases kN h a b<;>rfl) (List.pairwise_of_forall fun _ _=>trivial),K4,List.countP_true,Zb T]
  rfl
 rw[Y9] at c
 rw[d]
 exact c
end
def jI (h:List Int):Int:=if aB h then((nT h:Nat):Int) else-1
theorem Zd (y z:Nat):imax (y:Int) (z:Int)=((max y z:Nat):Int):=by grind [imax]
theorem K7 (y z:Nat):bV (y:Int) (z:Int)=((min y z:Nat):Int):=by grind [bV]
theorem A2 (f:Nat->Nat): ∀{k n:Nat},k<=n->aH f k<=aH f n
 |k,0,h=>by
  simp_all
 |k,n+1,h=>by
  by_cases e:k=n+1
  ·simp_all
  ·have:=A2 f (k:=k) (n:=n) (by omega)
   grind [aH]
theorem akU (h:List Int):w6 h=some (jI h):=by
 have e:w6 h=w5 h:=by unfold w6;rfl
 rw[e]
 unfold w5 Fw jI
 rw[cL h]
 cases t:aB h with
 |false=>rfl
 |true=>
  have T:=(bK h).mp t
  have c:=K1 T
  have m:=T.le
  have d:=bu (body:=fun(s:Int×Int)=>((rM h s.1 s.2).map (Sum.elim (fun(t:Int×Int)=>Sum.inl (t.1,t.2)) (fun(t:Int)=>Sum.inr t)):Option ((Int×Int)⊕(Int))))
   (fun k=>(((aH (fun i=>gj h (i+1)) k:Nat):Int),(k:Int))) h.length ((nT h:Nat):Int)
   (by
    intro k j
    have g:=T.get (w:=k+1) (by omega) (by omega)
    rw[e9] at g
    have b:=A2 (fun i=>gj h (i+1)) (show k+1<=h.length by omega)
    have f:aH (fun i=>gj h (i+1)) h.length<=64:=c
    have l:=T.cR (w:=k+1) (by omega) (by omega)
    have w:wrap .i64 ((k:Int)+1)=((k+1:Nat):Int):=by grind [wrap64]
    simp only[rM]
    rw[an (show(k:Int)<((h.length:Nat):Int) by omega),eN,g,w]
    simp only[aw,ac]
    rw[Zd,K7]
    by_cases z:hd h (k+1)=0
    ·grind [decide_eq_false,hd,gj,aH]
    ·rw[an (show((hd h (k+1):Nat):Int)>0 by omega)]
     grind [gj,Max.max,hd,Min.min,aH,wrap64])
   (by
    simp only[rM]
    rw[cy (show¬((h.length:Nat):Int)<((h.length:Nat):Int) by omega)]
    rfl) LL (by grind [LL])
  simp only[ac,bo,au,Sum.elim_inl,cN]
  unfold Qv Qt Fx Qs Qr
  have a:=d
  rw[show aH (fun i=>gj h (i+1)) 0=0 from rfl,show((0:Nat):Int)=0 from rfl] at a
  simp only[ac]
  rw[a]
  rfl
def mi (h:List Int):List Int:=if aB h then(range h.length).map fun k=>((bX h (k+1):Nat):Int) else[]
def jJ (h:List Int):Int:=if aB h then((ug h:Nat):Int) else-1
theorem akV {h:List Int} (t:aB h=true):(mi h).length=h.length:=by grind [mi]
theorem akW {h:List Int} (t:aB h=true) {k:Nat} (a:k<h.length):(mi h)[k]? =some ((bX h (k+1):Nat):Int):=by
 grind [mi]
theorem akX (h:List Int) (w:Nat):gQ h w<=h.length:=by
 grind [gQ,Nat.le_trans,List.countP_le_length]
theorem akY (h:List Int) (w:Nat):bX h w<=h.length+1:=by
 grind [bX,akX]
theorem akZ {h:List Int} (T:Tree h) {k a:Nat} (p:k<h.length) (m:a<=1):xk h (k:Int) (a:Int)=some ((gQ h (k+1)+a:Nat):Int):=by
 unfold xk
 have q:=T.le
 have e: ∀j,j<=h.length->aH (fun i=>ind (hd h (i+1)==k+1)) j<=8:=fun j d=>by
  have:=ue (f:=fun i=>ind (hd h (i+1)==k+1)) (g:=fun _=>1) (n:=j) fun i _=>Y4 _
  rw[mh] at this
  omega
 have w0:wrap .i64 ((k:Int)+1)=((k+1:Nat):Int):=by grind [wrap64]
 have r:=bu (body:=fun(s:Int×Int)=>((rR h (k:Int) s.1 s.2).map (Sum.elim (fun(t:Int×Int)=>Sum.inl (t.1,t.2)) (fun(t:Int)=>Sum.inr t)):Option ((Int×Int)⊕(Int))))
  (fun j=>(((aH (fun i=>ind (hd h (i+1)==k+1)) j+a:Nat):Int),(j:Int))) h.length ((gQ h (k+1)+a:Nat):Int)
  (by
   intro j d
   have g:=T.get (w:=j+1) (by omega) (by omega)
   rw[e9] at g
   have b:=e j (by omega)
   simp only[rR]
   rw[an (show(j:Int)<((h.length:Nat):Int) by omega),eN,g,w0]
   simp only[aw,ac]
   have w:wrap .i64 ((j:Int)+1)=((j+1:Nat):Int):=by grind [wrap64]
   have l:wrap .i64 (((aH (fun i=>ind (hd h (i+1)==k+1)) j+a:Nat):Int)+1)=((aH (fun i=>ind (hd h (i+1)==k+1)) j+1+a:Nat):Int):=by grind [wrap64]
   rw[w,l,aH]
   by_cases c:hd h (j+1)=k+1
   ·rw[show(((hd h (j+1):Nat):Int)==((k+1:Nat):Int))=true from cb.mpr (by omega),show(hd h (j+1)==k+1)=true from cb.mpr c]
    rfl
   ·rw[show(((hd h (j+1):Nat):Int)==((k+1:Nat):Int))=false from dg.mpr (by omega),show(hd h (j+1)==k+1)=false from dg.mpr c]
    rfl)
  (by
   grind [rR,decide_eq_false,List.length,K0]) LL (by grind [LL])
 grind [aH,ind,hd]
theorem ak0 (h:List Int):xn h=some (mi h):=by
 have e:xn h=xm h:=by unfold xn;rfl
 rw[e]
 unfold xm FU Rb Ra FV Q9 Q8 FZ mi
 simp only[ac]
 cases t:aB h with
 |false=>
  have l:=bu (body:=fun(s:Int×(List Int))=>((pm h s.1 s.2).map (Sum.elim (fun(t:Int×(List Int))=>Sum.inl (t.1,t.2)) (fun(t:(List Int))=>Sum.inr t)):Option ((Int×(List Int))⊕(((List Int))))))
   (fun _=>((0:Int),([]:List Int))) 0 ([]:List Int) (fun k b=>absurd b (by omega))
   (by
    grind [pm,rQ,cL,List.length,decide_eq_true,decide_eq_false]) LL (by grind [LL])
  grind
 |true=>
  have T:=(bK h).mp t
  have m:=T.le
  have l:=bu (body:=fun(s:Int×(List Int))=>((pm h s.1 s.2).map (Sum.elim (fun(t:Int×(List Int))=>Sum.inl (t.1,t.2)) (fun(t:(List Int))=>Sum.inr t)):Option ((Int×(List Int))⊕(((List Int))))))
   (fun k=>((k:Int),(range k).map fun j=>((bX h (j+1):Nat):Int))) h.length ((range h.length).map fun k=>((bX h (k+1):Nat):Int))
   (by
    intro k b
    have g:=T.get (w:=k+1) (by omega) (by omega)
    rw[e9] at g
    have w:wrap .i64 ((k:Int)+1)=((k+1:Nat):Int):=by grind [wrap64]
    simp only[pm,rQ,Q7,Q6,Q5,FW,Q4,Q3,FX,Q2,FY]
    rw[an (show(k:Int)<((h.length:Nat):Int) by omega),cL,t,eN,g,w]
    simp only[aw,ac,Sum.elim_inl]
    have f: ∀a:Nat,a<=1->xk h (k:Int) (a:Int)=some ((gQ h (k+1)+a:Nat):Int):=fun a i=>akZ T b i
    have c:=f 0 (by omega)
    have d:=f 1 (by omega)
    rw[show((0:Nat):Int)=0 from rfl] at c
    rw[show((1:Nat):Int)=1 from rfl] at d
    have fin: ∀v:Int,xl v ((range k).map fun j=>((bX h (j+1):Nat):Int))=some (((range k).map fun j=>((bX h (j+1):Nat):Int))++ [v]):=fun v=>by
     grind [xl,fp]
    by_cases z:hd h (k+1)=0
    ·rw[cy (show¬((hd h (k+1):Nat):Int)>0 by omega)]
     simp only[au,ac,c,bn,fin,Sum.elim_inl]
     simp_all [bX,gQ,aA,f0,f2,dJ,iA]
    ·rw[an (show((hd h (k+1):Nat):Int)>0 by omega)]
     simp only[aw,ac,d,bn,fin,Sum.elim_inl]
     simp_all [bX,gQ,aG,f0,f2,dJ,iA])
   (by
    grind [pm,rQ,decide_eq_false,List.length]) LL (by grind [LL])
  simp_all
theorem K8 {a:Nat} {b:Nat} (f:0<b) (d:a<=1000000000):quo .i64 (a:Int) (b:Int)=some ((a/b:Nat):Int):=by
 unfold quo
 rw[aG (by omega)]
 have e:(a:Int).tdiv (b:Int)=((a/b:Nat):Int):=rfl
 have c:=Nat.div_le_self a b
 grind [wrap64]
theorem ak1 (h:List Int):xp h=some (jJ h):=by
 have e:xp h=xo h:=by unfold xp;rfl
 rw[e]
 unfold xo F0 jJ
 rw[cL,ak0]
 cases t:aB h with
 |false=>rfl
 |true=>
  have T:=(bK h).mp t
  have u:=T.le
  have r:=T.pos
  have p:=K6 T
  have q:=akV t
  have l:wrap .i64 (((h.length:Nat):Int)-1)=((h.length:Nat):Int)-1:=wrap64 (by omega) (by omega)
  have m:wrap .i64 (((h.length:Nat):Int)-2)=((h.length:Nat):Int)-2:=wrap64 (by omega) (by omega)
  have a:(((h.length:Nat):Int)-1)*(((h.length:Nat):Int)-2)=(((h.length-1)*(h.length-2):Nat):Int):=by
   grind
  have j:(h.length-1)*(h.length-2)<=42:=fu (fv (show h.length-1<=7 by omega) (show h.length-2<=6 by omega)) (by omega)
  have d:quo .i64 (wrap .i64 ((((h.length:Nat):Int)-1)*(((h.length:Nat):Int)-2))) 2=some (((h.length-1)*(h.length-2)/2:Nat):Int):=by
   rw[a,wrap64 (by omega) (by omega)]
   exact K8 (b:=2) (by omega) (by omega)
  rw[l,m,d]
  simp only[ac,bo,au,Sum.elim_inl,cN]
  unfold Rf Re F1 Rd Rc F2
  have v:=bu (body:=fun(s:Int×Int)=>((rS s.1 s.2 (mi h)).map (Sum.elim (fun(t:Int×Int)=>Sum.inl (t.1,t.2)) (fun(t:Int)=>Sum.inr t)):Option ((Int×Int)⊕(Int))))
   (fun k=>((((h.length-1)*(h.length-2)/2-aH (fun i=>bX h (i+1)*(bX h (i+1)-1)/2) k:Nat):Int),(k:Int))) h.length ((ug h:Nat):Int)
   (by
    intro k c
    have b:=A2 (fun i=>bX h (i+1)*(bX h (i+1)-1)/2) (show k+1<=h.length by omega)
    have le:=akY h (k+1)
    have w:wrap .i64 ((k:Int)+1)=((k+1:Nat):Int):=by grind [wrap64]
    have g:=akW t c
    simp only[rS]
    rw[an (show(k:Int)<(((mi h).length:Nat):Int) by omega),bS (by omega),w]
    simp only[aw,ac,g]
    have n:wrap .i64 (((bX h (k+1):Nat):Int)-1)=((bX h (k+1):Nat):Int)-1:=wrap64 (by omega) (by omega)
    have a:((bX h (k+1):Nat):Int)*(((bX h (k+1):Nat):Int)-1)=((bX h (k+1)*(bX h (k+1)-1):Nat):Int):=by
     grind
    have j:bX h (k+1)*(bX h (k+1)-1)<=72:=fu (fv (show bX h (k+1)<=9 by omega) (show bX h (k+1)-1<=8 by omega)) (by omega)
    have f:quo .i64 (wrap .i64 (((bX h (k+1):Nat):Int)*(((bX h (k+1):Nat):Int)-1))) 2=some ((bX h (k+1)*(bX h (k+1)-1)/2:Nat):Int):=by
     rw[a,wrap64 (by omega) (by omega)]
     exact K8 (b:=2) (by omega) (by omega)
    rw[n,f]
    simp only[ac,bn,Sum.elim_inl]
    grind [aH,wrap64])
   (by
    grind [rS,decide_eq_false,List.length]) LL (by grind [LL])
  grind [aH,bX]
theorem ak2 {h:List Int} (T:Tree h):ug h<=21:=by
 have:=K6 T
 have a:=T.le
 have b:(h.length-1)*(h.length-2)<=42:=fu (fv (show h.length-1<=7 by omega) (show h.length-2<=6 by omega)) (by omega)
 omega
abbrev gS:=List Int×List (List Int)
def dV (d:gS):Bool:=d.2.all aB&&(aB d.1&&decide (d.2.length<=8))
def eU (a:gi) (k:Int):Bool:=(a.1==k)&&((a.2.1==0)&&((a.2.2.1==0)&&true))
def K9 (h:List Int):List Int:=if aB h=true then putRow h (dt h) else[]
def ee (h:List Int) (a:gi):List Int:=
 if((a.1==0)&&(decide (1<=a.2.1)&&decide (a.2.1<=h.length)))=true then h.set (a.2.1-1).toNat a.2.2.1
 else if((a.1==1)&&(a.2.2.1==0))=true then h++ [a.2.1]
 else if eU a 2=true then h.dropLast
 else if eU a 3=true then qa h
 else if eU a 4=true then K9 h
 else[]
def mj (p:List (List Int)) (h:List Int):List (List Int):=if p.length<8 then p++ [h] else(p++ [h]).drop 1
def fq (d:gS) (a:gi):Bool×gS:=
 if dV d=true then
  if(eU a 5&& !d.2.isEmpty)=true then(true,d.2.getLastD [],d.2.dropLast)
  else if(ee d.1 a==d.1|| !aB (ee d.1 a))=true then(false,d)
  else(true,ee d.1 a,mj d.2 d.1)
 else(false,[],[])
theorem du {h:List Int} (t:aB h=true):1<=h.length/\h.length<=8:=by
 have T:=(bK h).mp t
 exact⟨T.pos,T.le⟩
theorem Ze: ∀(p:List (List Int)) (x:List Int),x∈p->x.length<=(p.map List.length).sum
 |[],x,h=>by cases h
 |y::p,x,h=>by
  rw[dJ,f3]
  rcases eh.mp h with rfl|h
  ·omega
  ·have:=Ze p x h;omega
theorem Zf (n:List Int) (p:List (List Int)) (i:p.length<=1152921504606846974):ro n p=some (dV (n,p)):=by
 have e:ro n p=wt n p:=by unfold ro;rfl
 rw[e]
 unfold wt DO OJ OI DP OH OG
 have w: ∀k:Nat,k<p.length->wrap .i64 ((k:Int)+1)=((k+1:Nat):Int):=fun k a=>by grind [wrap64]
 have c:=lV (body:=fun(s:Int)=>((pd s p).map (Sum.elim (fun(t:Int)=>Sum.inl t) (Sum.elim (fun(t:Bool)=>Sum.inr (Sum.inl t)) (fun(t:Unit)=>Sum.inr (Sum.inr t)))):Option ((Int)⊕(Bool⊕Unit))))
  (fun k=>(k:Int)) p.length (fun k=>aB (p.getD k [])) (fun b=>cond b (Sum.inr ()) (Sum.inl false))
  (fun k a t=>by
   rw[e8,bh a,ie] at t
   grind [pd,decide_eq_true,List.length,bR,cL,Bool.not_true])
  (fun k a t=>by
   rw[e8,bh a,ie] at t
   grind [pd,decide_eq_true,List.length,bR,cL,Bool.not_false])
  (by
   grind [pd,decide_eq_false,List.length]) LL (by grind [LL])
 have d:ai _ LL (0:Int)=_:=c
 rw[d]
 have f:(range p.length).all (fun k=>aB (p.getD k []))=p.all aB:=by
  rw[e3,bQ,bQ]
  constructor
  ·intro h x g
   obtain⟨k,a,rfl⟩:=kX g
   simp_all
  simp_all
 rw[f]
 unfold dV
 cases p.all aB with
 |false=>rfl
 |true=>
  simp only[aw,bn,Sum.elim_inr,ac,Sum.elim_inl,d8]
  unfold DQ
  rw[cL,ac]
  cases aB n with
  |false=>rfl
  |true=>
   simp only[aw,d8]
   congr 1
   grind
theorem Zg (n:List Int) (p:List (List Int)) (h:n.length+(p.map List.length).sum+p.length<=1048576):rq n p=some (n,p):=by
 have e:rq n p=wu n p:=by unfold rq;rfl
 rw[e]
 unfold wu DR ON OM DS OL OK DT
 rw[room_le (by grind)]
 simp only[ac,hz]
 have d: ∀x,x∈p->x.length<=(p.map List.length).sum:=fun x b=>Ze p x b
 have w: ∀k:Nat,k<p.length->wrap .i64 ((k:Int)+1)=((k+1:Nat):Int):=fun k a=>by grind [wrap64]
 have c:=bu (body:=fun(s:Int×(List (List Int)))=>((rp s.1 p s.2).map (Sum.elim (fun(t:Int×(List (List Int)))=>Sum.inl (t.1,t.2)) (fun(t:(List (List Int)))=>Sum.inr t)):Option ((Int×(List (List Int)))⊕(((List (List Int)))))))
  (fun k=>((k:Int),p.take k)) p.length p
  (fun k a=>by
   have lt:(p.take k).length=k:=by grind
   unfold rp
   simp only
   rw[an (show(k:Int)<((p.length:Nat):Int) by omega),bR a]
   simp only[aw,ac]
   rw[room_le (by grind),room_le (by omega)]
   simp_all)
  (by
   grind [rp,decide_eq_false,List.length,List.take_length]) LL (by grind [LL])
 simp_all
theorem ak3 {h:List Int} (t:aB h=true) (a:gi): ∃n r,pi h a.1 a.2.1 a.2.2.1=some (n,r)/\n<=r.length/\r.take n=ee h a:=by
 obtain⟨j,l⟩:=du t
 obtain⟨k,x,b,u⟩:=a
 have e:pi h k x b=rE h k x b:=by unfold pi;rfl
 simp only
 rw[e]
 unfold rE
 rw[room_le (by grind)]
 simp only[ac,hz,gs,e4,d8,f8]
 have m: ∃n r,(cond ((k==1)&&(b==0)) ((room (h.length+ [x].length)).bind fun _=>some ((h++ [x]).length,h++ [x]))
   (cond ((k==2)&&((x==0)&&(b==0))) ((inc (wrap .i64 ((((h.length:Nat):Int))-1)) h.length).bind fun v=>some (v-0,h))
    (cond ((k==3)&&((x==0)&&(b==0))) ((pg h).bind fun v=>some (v.length,v)) (cond ((k==4)&&((x==0)&&(b==0))) ((rD h).bind fun v=>some (v.length,v)) (some (([]:List Int).length,([]:List Int)))))):Option (Nat×List Int))=some (n,r)/\n<=r.length/\r.take n=
   if((k==1)&&(b==0))=true then h++ [x] else if eU (k,x,b,u) 2=true then h.dropLast else if eU (k,x,b,u) 3=true then qa h else if eU (k,x,b,u) 4=true then K9 h else[]:=by
  unfold eU
  simp only[f8]
  cases f:(k==1)&&(b==0) with
  |true=>
   grind [room_le,List.length_cons,List.length_nil,List.take_length]
  |false=>
   cases g:(k==2)&&((x==0)&&(b==0)) with
   |true=>
    have w:wrap .i64 ((((h.length:Nat):Int))-1)=((h.length-1:Nat):Int):=by grind [wrap64]
    have i:inc ((h.length-1:Nat):Int) h.length=some (h.length-1):=by grind [inc]
    rw[w,i]
    refine⟨h.length-1,h,rfl,by omega,?_⟩
    grind [List.dropLast_eq_take]
   |false=>
    grind [akl,List.take_length,akL,K9]
 cases d:k==0 with
 |false=>
  grind [ee]
 |true=>
  simp only[aw]
  cases c:decide (1<=x)&&decide (x<=((h.length:Nat):Int)) with
  |false=>
   grind [ee]
  |true=>
   simp only[aw]
   grind [wrap,wrap64,bS,List.take_length,ee]
abbrev Zh (n:Nat) (a r:List Int):Bool×Int->Option ((Bool×Int)⊕Bool):=
 fun(s:Bool×Int)=>((pj n s.1 s.2 a r).map (Sum.elim (fun(t:Bool×Int)=>Sum.inl (t.1,t.2)) (fun(t:Bool)=>Sum.inr t)):Option ((Bool×Int)⊕(Bool)))
theorem Zi (n:Nat) (a r:List Int) (g:n<=r.length) (hl:a.length=n) (e:n<=1048576): ∀(m k N:Nat) (b:Bool),k+m=n->m<N->
  ai (Zh n a r) N (b,(k:Int))=some (b&&((r.take n).drop k==a.drop k))
 |m,k,0,b,_,h=>by omega
 |0,k,N+1,b,f,_=>by
  grind [ai,pj,decide_eq_false,List.drop_eq_nil_of_le,List.length_take]
 |m+1,k,N+1,b,f,i=>by
  rw[ai]
  have c:(r.take n).drop k=r[k]::(r.take n).drop (k+1):=by
   rw[e7 (by grind),f1]
  have d:a.drop k=a[k]::a.drop (k+1):=e7 (by omega)
  have w:wrap .i64 ((k:Int)+1)=((k+1:Nat):Int):=by grind [wrap64]
  simp only[Zh,pj]
  rw[an (show((k:Nat):Int)<((n:Nat):Int) by omega)]
  cases b with
  |false=>rfl
  |true=>
   simp only[aw]
   rw[bS (show k<n by omega),ac,ix,bh (show k<r.length by omega),ac,bR (show k<a.length by omega),ac,w]
   simp only[bn,Sum.elim_inl,ac]
   rw[Zi n a r g hl e m (k+1) N _ (by omega) (by omega),c,d,List.cons_beq_cons,d8]
theorem ak4 (n:Nat) (a r:List Int) (b:n<=r.length) (d:a.length<=1048576):EM n ((((n:Nat):Int))==(((a.length:Nat):Int))) a r=some (r.take n==a):=by
 unfold EM
 by_cases c:a.length=n
 ·have:=Zi n a r b c (by omega) n 0 LL ((((n:Nat):Int))==(((a.length:Nat):Int))) (by omega) (by grind [LL])
  simp_all
 grind [List.length,List.take,List.length_take,LL,ai,pj,Decidable.decide]
theorem kO {d:gS} (h:dV d=true):aB d.1=true/\d.2.length<=8/\ ∀x,x∈d.2->aB x=true:=by
 grind [dV,List.all_eq_true]
theorem uh: ∀(p:List (List Int)),(∀x,x∈p->aB x=true)->(p.map List.length).sum<=8*p.length
 |[],_=>vz _
 |x::p,h=>by
  have:=uh p (fun b a=>h b (bA _ a))
  grind [du,List.mem_cons_self,List.length_cons]
theorem ak5 (n:List Int) (p:List (List Int)) (a:gi) (q:p.length<=1152921504606846974):
  wL n p a.1 a.2.1 a.2.2.1=some (fq (n,p) a):=by
 have e:wL n p a.1 a.2.1 a.2.2.1=wK n p a.1 a.2.1 a.2.2.1:=by unfold wL;rfl
 rw[e]
 unfold wK EJ fq
 rw[Zf n p q,ac]
 cases o:dV (n,p) with
 |false=>rfl
 |true=>
  obtain⟨t,u,f⟩:=kO o
  simp only at t u f
  obtain⟨B,C⟩:=du t
  have:=uh p f
  rw[aA rfl,Zg n p (by omega)]
  simp only[bo,au,ac]
  have A: ∀c:Bool×gS,c=(if(ee n a==n|| !aB (ee n a))=true then(false,(n,p)) else(true,ee n a,mj p n))->
    (((pi n a.1 a.2.1 a.2.2.1).bind fun(v:Nat×(List Int))=>some (Sum.inl ((v.1),(((((v.1):Nat):Int))==(((List.length n:Nat):Int))),(v.2),n,p)):Option ((Nat×Bool×(List Int)×(List Int)×(List (List Int)))⊕(Bool×(List Int)×(List (List Int))))).bind
     (Sum.elim (fun(t:Nat×Bool×(List Int)×(List Int)×(List (List Int)))=>EP t.1 t.2.1 n t.2.2.1 t.2.2.2.1 t.2.2.2.2) (fun e=>some ((fun(t:Bool×(List Int)×(List (List Int)))=>t) e))))=some c:=by
   rintro c rfl
   obtain⟨m,r,k,l,d⟩:=ak3 t a
   rw[k]
   simp only[ac,Sum.elim_inl]
   unfold EP PE EL PD
   rw[ac,ak4 m n r l (by omega),bn,ac,d]
   unfold EN
   rw[fY,d,cL,ac]
   cases ee n a==n with
   |true=>rfl
   |false=>
    cases y:aB (ee n a) with
    |false=>rfl
    |true=>
     have:=(du y).2
     have j:(p++ [[]]).set p.length n=p++ [n]:=by simp_all
     rw[room_le (by omega),room_le (by grind),j]
     simp only[bo,au,ac,hz,Bool.or_false,List.length_append,cB,ot]
     grind [mj,List.length,decide_eq_false,decide_eq_true,inc,List.take_of_length_le]
  have g:((a.1==5)&&((a.2.1==0)&&((a.2.2.1==0)&&true)))=eU a 5:=rfl
  rw[g]
  cases z:eU a 5 with
  |false=>
   simp_all
  |true=>
   simp only[aw,d8]
   cases p with
   |nil=>
    simp_all
   |cons x b=>
    have w:wrap .i64 ((((List.length (x::b):Nat):Int))-1)=(((x::b).length-1:Nat):Int):=by grind [wrap64,List.length_cons]
    have i:inc (((x::b).length-1:Nat):Int) ((x::b).set ((x::b).length-1) []).length=some ((x::b).length-1):=by
     grind [inc,List.length_set]
    rw[an (show((((x::b).length:Nat):Int))>0 by simp_all),w,bS (by simp_all)]
    simp only[aw,ac]
    rw[bh (show(x::b).length-1<(x::b).length by simp),ac,i,ac]
    have s:sure (Nat.blt ((x::b).length-1) 0||Nat.ble ((x::b).length-1) ((x::b).length-1))=some ():=by
     have:Nat.ble ((x::b).length-1) ((x::b).length-1)=true:=mY.mpr (aS _)
     rw[this,Bool.or_true];rfl
    grind [List.take_set_of_le,List.dropLast_eq_take]
theorem Zj {n:List Int} {p:List (List Int)} (t:aB n=true) (l:p.length<=8) (h: ∀x,x∈p->aB x=true):dV (n,p)=true:=by
 grind [dV,List.all_eq_true]
theorem ak6 (p:List (List Int)) (h:List Int) (l:p.length<=8):(mj p h).length<=8:=by
 grind [mj,List.length,List.length_append,List.length_cons,List.length_nil,List.length_drop]
theorem ak7 {p:List (List Int)} {h x:List Int} (m:x∈mj p h):x∈p\/x=h:=by
 grind [mj,List.length,List.mem_of_mem_drop]
theorem ak8 {d:gS} (a:gi) (o:dV d=true):dV (fq d a).2=true:=by
 obtain⟨t,l,h⟩:=kO o
 unfold fq
 rw[aA o]
 by_cases c:(eU a 5&& !d.2.isEmpty)=true
 ·rw[aA c]
  rw[aT] at c
  have ne:d.2≠ []:=by simp_all
  grind [Zj,List.length_dropLast,List.dropLast_subset,List.getLast?_eq_some_getLast,List.getLast_mem]
 grind [ee,aB,Bool.not_eq_true',Zj,ak6,ak7]
theorem Zk {d:gS} (a:gi) (o:dV d=false):fq d a=(false,[],[]):=by
 grind [fq]
def marks (k n:Nat):List Int:=(range n).map fun i=>((k+i:Nat):Int)
theorem ui (k n:Nat):(marks k n).length=n:=by simp[marks]
theorem Zl (k n:Nat) {i:Nat} (hi:i<n):(marks k n)[i]'(by rw[ui];exact hi)=((k+i:Nat):Int):=by simp[marks]
theorem ak9 (k n:Nat) {i:Nat} (hi:i<n):(marks k n).drop i=((k+i:Nat):Int)::(marks k n).drop (i+1):=by
 grind [List.drop_eq_getElem_cons,ui,Zl]
theorem Zm (k:Nat) (xs:List Int) (h:xs.length<=1048576) (d:k<=1099511627776):tG k xs=some (((k+xs.length:Nat):Int),marks k xs.length):=by
 unfold tG JO JL Wp Wo JM Wn Wm JN
 have a:=de (body:=fun(s:Int×Int×(List Int))=>((zS s.1 s.2.1 s.2.2).map (Sum.elim (fun(t:Int×Int×(List Int))=>Sum.inl (t.1,t.2.1,t.2.2)) (fun(t:Int×(List Int))=>Sum.inr t)):Option ((Int×Int×(List Int))⊕((Int×(List Int))))))
  (I:=fun s=> ∃i:Nat,s.1=((k+i:Nat):Int)/\s.2.1=(i:Int)/\i<=xs.length/\s.2.2.length=xs.length) (μ:=fun s=>xs.length-s.2.1.toNat)
  (f:=fun s=>(((k+xs.length:Nat):Int),s.2.2.take s.2.1.toNat++(marks k xs.length).drop s.2.1.toNat))
  (by
   rintro⟨_,_,out⟩ ⟨i,rfl,rfl,hi,c⟩
   simp only at c
   simp only[zS,e0]
   by_cases b:i<xs.length
   ·left
    refine⟨(((k+(i+1):Nat):Int),((i+1:Nat):Int),out.set i ((k+i:Nat):Int)),?_,⟨i+1,rfl,rfl,b,by grind⟩,by simp;omega,?_⟩
    all_goals grind [Decidable.decide,decide_eq_true,bS,wrap64,Int.toNat_natCast,KB,ak9,List.length]
   grind [List.length,Decidable.decide,decide_eq_false,List.take_of_length_le,Nat.le_of_eq,List.drop_of_length_le,ui])
 simp only[ac]
 rw[a LL ((k:Int),0,xs) ⟨0,by simp,by simp,by omega,rfl⟩ (by grind [LL])]
 simp
theorem Zn (k n:Nat) (h:n<=1048576) (c:k<=1099511627776):tI (marks k n) k=some ((k+n:Nat):Int):=by
 unfold tI JV JS Wx Ww JT Wv Wu JU
 have a:=de (body:=fun(s:Int×Int)=>((zX (marks k n) s.1 s.2).map (Sum.elim (fun(t:Int×Int)=>Sum.inl (t.1,t.2)) (Sum.elim (fun(t:Int)=>Sum.inr (Sum.inl t)) (fun(t:Int)=>Sum.inr (Sum.inr t)))):Option ((Int×Int)⊕(Int⊕Int))))
  (I:=fun s=> ∃i:Nat,s=(((k+i:Nat):Int),(i:Int))/\i<=n) (μ:=fun s=>n-s.2.toNat) (f:=fun s=> .inr ((k+n:Nat):Int))
  (by
   rintro _ ⟨i,rfl,hi⟩
   simp only[zX,ui]
   by_cases b:i<n
   ·left
    refine⟨(((k+(i+1):Nat):Int),((i+1:Nat):Int)),?_,⟨i+1,rfl,b⟩,by simp;omega,trivial⟩
    grind [Decidable.decide,decide_eq_true,bR,ui,Zl,wrap64]
   grind)
 simp only[ac]
 rw[a LL ((k:Int),0) ⟨0,by simp,by omega⟩ (by grind [LL])]
 simp
end Go.Rv
