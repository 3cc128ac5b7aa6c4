/-
  Plain mathematics of what the law reaches. Conditions: none.
-/
import Derived.Test.YthjlnoplibeclaaGreatDoorGFnDeskSay
import Derived.Lib.AtoiTie
open List (range replicate getD idxOf Nodup)
open Go.IntKind (wrap signed)
open BitVec (ofInt)
open ByteArray (empty extract toList)
set_option linter.all false
namespace Go.Rv
def an:=@decide_eq_true
def cy:=@decide_eq_false
def d5:=@beq_eq_false_iff_ne
def d6:=@Bool.true_and
def d7:=@List.pairwise_cons
def d8:=@Int.toNat_natCast
def d9:=@beq_self_eq_true
def e0:=@Bool.eq_iff_iff
def e1:=@ByteArray.size_append
def e3:=@List.drop_eq_getElem_cons
def e4:=@List.getD_eq_getElem?_getD
def e5:=@Nat.pow_le_pow_right
def e6:=@Nat.add_sub_cancel
def e7:=@List.cons_append
def e8:=@List.getElem_take
def e9:=@List.map_append
def fr:=@List.sum_cons
def f2:=@List.range_succ
def f3:=@Bool.and_true
def f6:=@List.any_eq_true
def f7:=@Bool.and_self
def f8:=@List.map_map
def f9:=@List.countP_eq_length_filter
def g7:=@Int.toNat_zero
def g8:=@Nat.or_lt_two_pow
def g9:=@List.countP_append
def hm:=@List.countP_cons
def hp:=@List.countP_le_length
def hr:=@List.mem_of_mem_drop
def h0:=@List.take_succ_eq_append_getElem
def j1:=@Bool.false_and
def j2:=@Nat.pow_lt_pow_right
def j3:=@List.pairwise_append
def j4:=@Classical.byContradiction
def j5:=@List.ext_getElem
def j6:=@Bool.eq_false_iff
def j7:=@bne_iff_ne
def j8:=@Nat.le_of_eq
def l8:=@Nat.lt_trichotomy
def l9:=@List.replicate_succ
def m0:=@List.set_cons_zero
def m1:=@ByteArray.ext
def m2:=@Array.toList_inj
def m3:=@List.mem_filter
def m4:=@List.sum_append
def o7:=@List.idxOf_lt_length_iff
def o8:=@List.mem_or_eq_of_mem_set
def o9:=@ByteArray.data_append
def p0:=@List.pairwise_flatMap
def p1:=@List.Nodup.length_le_of_subset
theorem dJ {b d:Type} {body:b->Option (b⊕d)} (I:b->Prop) (μ:b->Nat) (f:b->d)
  (h: ∀s,I s->(∃a,body s=some (.inl a)/\I a/\μ a<μ s/\f a=f s)\/body s=some (.inr (f s))): ∀(n:Nat) (s:b),I s->μ s<n->ai body n s=some (f s)
 |0,s,_,i=>by omega
 |n+1,s,hi,i=>by
  rcases h s hi with⟨a,c,g,j,e⟩|c
  ·simp only[ai,c,ac]
   rw[dJ I μ f h n a g (by omega),e]
  grind [ai]
theorem wrap64 {x:Int} (a: -9223372036854775808<=x) (b:x<=9223372036854775807):wrap .i64 x=x:=by
 grind [wrap,IntKind.bits,signed]
theorem fp {α:Type} (xs:List α) (k:Nat):idx xs (k:Int)=xs[k]? :=by simp[idx]
theorem cb {α:Type} {xs:List α} {k:Nat} (h:k<xs.length):idx xs (k:Int)=some xs[k]:=by simp[idx,h]
theorem cg {k n:Nat} (h:k<n):al (k:Int) n=some k:=by
 grind [al]
theorem hn {n:Nat} (h:n<=1099511627776):mk (n:Int) (n:Int)=some n:=by
 grind [mk]
theorem room_le {n:Nat} (h:n<=1099511627776):room n=some ():=by simp[room,h]
def jF (l r a b:Int):Bool:=decide ((l<a/\a<r/\r<b)\/(a<l/\l<b/\b<r))
def gz (a b:Int):Bool:=decide (1<=a/\1<=b/\a≠b)
def jG (a b c d:Int):Bool:=gz a b&&gz c d&&jF (bX a b) (imax a b) (bX c d) (imax c d)
theorem AQ {a b:Int} (h:a≠b):bX a b<imax a b:=by
 grind [bX,imax]
theorem XY {p:Prop} [Decidable p] (h:p):some true=some (decide p):=by simp_all
theorem XZ {p:Prop} [Decidable p] (h: ¬p):some false=some (decide p):=by simp_all
theorem KG (a b:Int):sk a b=some (if gz a b then(true,bX a b,imax a b) else(false,0,0)):=by
 grind [sk,xx,gz,decide_eq_true,decide_eq_false,beq_eq_false_iff_ne]
theorem ajF (l r x:Int):sn l r x=some (decide (l<x/\x<r)):=by
 grind [sn,xz,decide_eq_true,decide_eq_false]
theorem ajG (l r x:Int):so l r x=some (decide (x<l\/r<x)):=by
 grind [so,xA,decide_eq_true,decide_eq_false]
theorem X0 {l r a b:Int} (h:l<r) (h':a<b):xC l r a b=some (jF l r a b):=by
 unfold xC xB
 simp only[ajF,ajG,ac]
 grind [jF,decide_eq_true,XY,decide_eq_false,XZ]
theorem ajH (a b c d:Int):GZ a b c d=some (jG a b c d):=by
 unfold GZ yg jG
 rw[KG,KG]
 simp only[ac]
 by_cases e:gz a b=true
 ·by_cases f:gz c d=true
  ·simp_all [aB,gz,cY,au,X0,AQ,ac,d6]
  simp_all
 simp_all
theorem ajI (a b c d:Int):Il a b c d=some (jG a b c d):=by
 unfold Il Ik Ii Ij jG
 by_cases e:gz a b=true
 ·by_cases f:gz c d=true
  ·rw[e,f]
   unfold gz at e f
   rw[cY] at e f
   rw[cy (show¬a<1 by omega),cy (show¬b<1 by omega),cy (show¬c<1 by omega),cy (show¬d<1 by omega),
    show(a==b)=false from d5.2 e.2.2,show(c==d)=false from d5.2 f.2.2]
   simp only[aq,ac,Sum.elim_inl,d6]
   grind [AQ,bX,imax,jF,decide_eq_true,decide_eq_false,XY,XZ]
  grind [gz,decide_eq_false,decide_eq_true,beq_eq_false_iff_ne]
 grind [gz,decide_eq_true,decide_eq_false,Decidable.decide]
theorem drop_cons {α:Type} {xs:List α} {k:Nat} (h:k<xs.length):xs.drop k=xs[k]::xs.drop (k+1):=e3 h
theorem ajJ {xs a:List Int} {k:Nat} (b:k<xs.length) (c:k<a.length):(xs.drop k==a.drop k)=(xs[k]==a[k]&&xs.drop (k+1)==a.drop (k+1)):=by
 grind [drop_cons]
def bg (h:List Int):Nat->Nat->Option (Nat×Nat)
 |0,_=>none
 |f+1,w=>match h[w-1]? with
  |none=>none
  |some x=>if x=0 then some (w,0) else(bg h f x.toNat).map fun p=>(p.1,p.2+1)
def dX (n:Nat) (x:Int):Bool:=decide (0<=x)&&decide (x<=n)
def fQ (h:List Int):Bool:=h.all (dX h.length)
def aA (h:List Int):Bool:=
 decide (1<=h.length)&&decide (h.length<=8)&&fQ h&&(h.count 0==1)&&(range h.length).all fun k=>(bg h h.length (k+1)).isSome
theorem ajK {h:List Int} {p:Int->Bool} {k:Nat} (a:k<h.length):(h.drop k).all p=(p h[k]&&(h.drop (k+1)).all p):=by
 rw[drop_cons a];rfl
theorem X1 {h:List Int} {k:Nat} (a:k<h.length):(h.drop k).count 0=(if h[k]=0 then 1 else 0)+(h.drop (k+1)).count 0:=by
 grind [drop_cons]
theorem ajL (h:List Int) (hl:h.length<=1048576):E6 h=some (fQ h&&(h.count 0==1)):=by
 have b:=dJ (body:=fun(s:Int×Int)=>((rY h s.1 h.length s.2).map (Sum.elim (fun(t:Int×Int)=>Sum.inl (t.1,t.2)) (Sum.elim (fun(t:Bool)=>Sum.inr (Sum.inl t)) (fun(t:Int)=>Sum.inr (Sum.inr t)))):Option ((Int×Int)⊕(Bool⊕Int))))
  (I:=fun s=> ∃k r:Nat,s=((r:Int),(k:Int))/\k<=h.length/\r<=k) (μ:=fun s=>h.length-s.2.toNat)
  (f:=fun s=>cond ((h.drop s.2.toNat).all (dX h.length)) (.inr (s.1+((h.drop s.2.toNat).count 0:Nat))) (.inl false))
  (by
   rintro _ ⟨k,r,rfl,j,m⟩
   by_cases a:k<h.length
   ·simp only[rY]
    rw[show decide ((k:Int)<((h.length:Nat):Int))=true from an (by omega)]
    simp only[au,cb a,ac,d8]
    rw[wrap64 (x:=(k:Int)+1) (by omega) (by omega),wrap64 (x:=(r:Int)+1) (by omega) (by omega),ajK a,X1 a]
    by_cases c:h[k]<0
    ·grind [dX,List.length]
    ·by_cases d:h[k]>(h.length:Int)
     ·grind [dX,List.length]
     ·left
      have l:dX h.length h[k]=true:=by simp[dX];omega
      by_cases g:h[k]=0
      ·refine⟨(((r+1:Nat):Int),((k+1:Nat):Int)),?_,⟨k+1,r+1,rfl,a,by omega⟩,by simp;omega,?_⟩
       all_goals grind
      ·refine⟨((r:Int),((k+1:Nat):Int)),?_,⟨k+1,r,rfl,a,by omega⟩,by simp;omega,?_⟩
       all_goals grind
   ·right
    have e:k=h.length:=by omega
    subst e
    simp only[rY]
    simp_all)
 unfold E6 E5 E2 PP PO E3 PN PM
 simp only[ac]
 rw[b LL (0,0) ⟨0,0,rfl,by omega,by omega⟩ (by grind [LL])]
 simp only[g7,fl]
 unfold fQ
 cases i:h.all (dX h.length) with
 |false=>simp
 |true=>
  simp only[au,bn,Sum.elim_inr,ac,Sum.elim_inl,E4,d6]
  congr 1
  grind
theorem jH {h:List Int} (b:fQ h=true) {k:Nat} (a:k<h.length):0<=h[k]/\h[k]<=h.length:=by
 have:=bT.1 b h[k] (cT a)
 grind [dX]
theorem X2 (h:List Int) (k:Nat) (s:Nat) (a:k<h.length) (hl:h.length<=1048576) (b:s<=h.length):
  w4 h ((k+1:Nat):Int) (s:Int)=some (if h[k]=0 then(false,((k+1:Nat):Int),(s:Int)) else(true,h[k],((s+1:Nat):Int))):=by
 grind [w4,w3,wrap64,cb]
theorem X3 (h:List Int) (hl:h.length<=1048576) (d:fQ h=true) (k:Nat) (a:k<h.length):
  w6 h ((k+1:Nat):Int)=some (match bg h h.length (k+1) with|some p=>((p.2:Int),true)|none=>(0,false)):=by
 have c:=dJ (body:=fun(s:Int×Int)=>((w5 h s.1 s.2).map (Sum.elim (fun(t:Int×Int)=>Sum.inl (t.1,t.2)) (Sum.elim (fun(t:Int×Bool)=>Sum.inr (Sum.inl t)) (fun(t:Int×Int)=>Sum.inr (Sum.inr t)))):Option ((Int×Int)⊕((Int×Bool)⊕(Int×Int)))))
  (I:=fun s=> ∃k i:Nat,s=(((k+1:Nat):Int),(i:Int))/\k<h.length/\i<h.length) (μ:=fun s=>h.length-s.2.toNat)
  (f:=fun s=>match bg h (h.length-s.2.toNat) s.1.toNat with|some p=> .inr ((p.1:Int),s.2+(p.2:Int))|none=> .inl (0,false))
  (by
   rintro _ ⟨k,i,rfl,a,hi⟩
   simp only[w5]
   rw[X2 h k i a hl (by omega)]
   obtain⟨m,n⟩:=jH d a
   have g:h.length-i=(h.length-i-1)+1:=by omega
   have j:h[k+1-1]? =some h[k]:=by simp[a]
   have b:bg h (h.length-i) (k+1)=if h[k]=0 then some (k+1,0) else(bg h (h.length-i-1) h[k].toNat).map fun p=>(p.1,p.2+1):=by
    grind [bg]
   simp only[ac,d8]
   rw[b]
   by_cases e:h[k]=0
   ·grind
   ·simp only[e,jc,au]
    by_cases l:i+1>=h.length
    ·grind [List.length,Decidable.decide,decide_eq_true,bg]
    ·left
     have hd:decide (((i+1:Nat):Int)>=((h.length:Nat):Int))=false:=cy (by omega)
     refine⟨(h[k],((i+1:Nat):Int)),by grind,⟨h[k].toNat-1,i+1,by
      grind,by omega,by omega⟩,by simp;omega,?_⟩
     grind)
 unfold w6 E9 E7 PS PR PQ
 simp only[ac]
 rw[c LL (((k+1:Nat):Int),0) ⟨k,0,rfl,a,by omega⟩ (by grind [LL])]
 grind [Int.toNat_natCast,Int.toNat_zero,bg,List.length,E8]
theorem fq (h:List Int):eF h=some (aA h):=by
 unfold eF Fc Fa PX PV Fb PU PT
 unfold aA
 by_cases j:h.length<1
 ·simp_all
 ·have b:decide ((((h.length:Nat):Int))<1)=false:=cy (by omega)
  have c:decide (1<=h.length)=true:=an (by omega)
  by_cases l:h.length>8
  ·grind
  ·have d:decide ((((h.length:Nat):Int))>8)=false:=cy (by omega)
   have e:decide (h.length<=8)=true:=an (by omega)
   simp only[b,d,c,e,aq,ajL h (by omega),ac,d6]
   cases i:fQ h with
   |false=>simp
   |true=>
    cases m:(h.count 0==1) with
    |false=>simp
    |true=>
     simp only[d6,bo,aq,ac,Sum.elim_inl]
     have g:=dJ (body:=fun(s:Int)=>((rZ h h.length s).map (Sum.elim (fun(t:Int)=>Sum.inl t) (Sum.elim (fun(t:Bool)=>Sum.inr (Sum.inl t)) (fun(t:Unit)=>Sum.inr (Sum.inr t)))):Option ((Int)⊕(Bool⊕Unit))))
      (I:=fun s=> ∃k:Nat,s=(k:Int)/\k<=h.length) (μ:=fun s=>h.length-s.toNat)
      (f:=fun s=>cond (((range h.length).drop s.toNat).all fun k=>(bg h h.length (k+1)).isSome) (.inr ()) (.inl false))
      (by
       rintro _ ⟨k,rfl,q⟩
       by_cases a:k<h.length
       ·simp only[rZ]
        rw[show decide ((k:Int)<((h.length:Nat):Int))=true from an (by omega)]
        rw[wrap64 (x:=(k:Int)+1) (by omega) (by omega),show(k:Int)+1=((k+1:Nat):Int) by omega,X3 h (by omega) i k a]
        simp only[au,ac,d8]
        have hd:(range h.length).drop k=k::(range h.length).drop (k+1):=by
         grind [List.drop_eq_getElem_cons]
        rw[hd]
        simp only[mO]
        cases n:bg h h.length (k+1) with
        |none=>right;simp
        |some p=>
         left
         refine⟨((k+1:Nat):Int),by simp,⟨k+1,rfl,a⟩,by simp;omega,by simp⟩
       grind [List.length,rZ,Decidable.decide,decide_eq_false,List.drop_of_length_le,range])
     rw[g LL 0 ⟨0,rfl,by omega⟩ (by grind [LL])]
     simp only[g7,fl]
     cases ((range h.length).all fun k=>(bg h h.length (k+1)).isSome)<;>rfl
theorem gA (a b c:Int):gh a b c=some (decide (b<=a)&&decide (a<=c)):=by
 grind [gh,wC,Decidable.decide,decide_eq_true,decide_eq_false]
def goUp (h:List Int):Nat->Int->Bool⊕Int
 |0,a=> .inr a
 |f+1,a=>if 0<a then(match h[a.toNat-1]? with
   |some x=>if dX h.length x then goUp h f x else .inl false
   |none=> .inl false) else .inr a
theorem ajM (h:List Int) (hl:h.length<=8) (a:Int) (u:0<=a) (r:a<=h.length):D3 h h.length a=some (goUp h h.length a):=by
 unfold D3
 have m:=dJ (body:=fun(s:Int×Int)=>((wE h h.length s.1 s.2).map (Sum.elim (fun(t:Int×Int)=>Sum.inl (t.1,t.2)) (Sum.elim (fun(t:Bool)=>Sum.inr (Sum.inl t)) (fun(t:Int)=>Sum.inr (Sum.inr t)))):Option ((Int×Int)⊕(Bool⊕Int))))
  (I:=fun s=> ∃k i:Nat,s=((k:Int),(i:Int))/\k<=h.length/\i<=h.length) (μ:=fun s=>h.length-s.2.toNat)
  (f:=fun s=>goUp h (h.length-s.2.toNat) s.1)
  (by
   rintro _ ⟨k,i,rfl,w,hi⟩
   simp only[wE,d8]
   by_cases p:0<k
   ·have b:decide ((k:Int)>0)=true:=an (by omega)
    by_cases q:i<h.length
    ·have c:decide ((i:Int)<((h.length:Nat):Int))=true:=an (by omega)
     have j:k-1<h.length:=by omega
     rw[b,c,wrap64 (x:=(k:Int)-1) (by omega) (by omega),show(k:Int)-1=((k-1:Nat):Int) by omega,cb j,wrap64 (x:=(i:Int)+1) (by omega) (by omega)]
     simp only[au,ac,gA]
     have v:h.length-i=(h.length-i-1)+1:=by omega
     have g:goUp h (h.length-i) (k:Int)=if dX h.length h[k-1] then goUp h (h.length-i-1) h[k-1] else .inl false:=by
      grind [goUp]
     rw[g]
     by_cases d:dX h.length h[k-1]=true
     ·left
      have e:=d
      simp only[dX,aT,cY] at e
      refine⟨(h[k-1],((i+1:Nat):Int)),?_,⟨h[k-1].toNat,i+1,by
       grind,by omega,by omega⟩,by simp;omega,?_⟩
      all_goals grind
     grind [dX,List.length,Decidable.decide]
    ·right
     have c:decide ((i:Int)<((h.length:Nat):Int))=false:=cy (by omega)
     have n:h.length-i=0:=by omega
     grind [goUp]
   ·right
    have l:k=0:=by omega
    subst l
    have b:decide (((0:Nat):Int)>0)=false:=by simp
    rw[b]
    cases h.length-i<;>simp[goUp])
 exact m LL (a,0) ⟨a.toNat,0,by
  grind,by omega,by omega⟩ (by grind [LL])
theorem KH {h:List Int} (c:fQ h=true): ∀(f k:Nat),k<h.length->goUp h f ((k+1:Nat):Int)=(if(bg h f (k+1)).isSome then .inr 0 else goUp h f ((k+1:Nat):Int))/\
  ((bg h f (k+1)).isSome=false-> ∃a:Int,0<a/\goUp h f ((k+1:Nat):Int)= .inr a)
 |0,k,b=>by
  refine⟨by simp[bg],fun _=>⟨((k+1:Nat):Int),by omega,rfl⟩⟩
 |f+1,k,b=>by
  obtain⟨i,l⟩:=jH c b
  have n:dX h.length h[k]=true:=by simp[dX];omega
  have g:goUp h (f+1) ((k+1:Nat):Int)=goUp h f h[k]:=by
   grind [goUp]
  have d:bg h (f+1) (k+1)=if h[k]=0 then some (k+1,0) else(bg h f h[k].toNat).map fun p=>(p.1,p.2+1):=by
   simp[bg,b]
  rw[g,d]
  by_cases e:h[k]=0
  ·have:goUp h f 0= .inr 0:=by cases f<;>simp[goUp]
   grind
  ·obtain⟨j,m⟩: ∃j:Nat,h[k]=((j+1:Nat):Int):=⟨h[k].toNat-1,by omega⟩
   have q:=KH c f j (by omega)
   simp_all
def kN (h:List Int) (k:Nat):Bool:=match h[k]? with
 |some x=>dX h.length x&& !(x==((k+1:Nat):Int))&&(match goUp h h.length ((k+1:Nat):Int) with| .inr a=> !decide (a>0)| .inl _=>false)
 |none=>false
theorem ajN (h:List Int):di h=some (decide (1<=h.length)&&decide (h.length<=8)&&(range h.length).all (kN h)&&(h.count 0==1)):=by
 unfold di D7 DZ
 rw[gA]
 by_cases i:(decide ((1:Int)<=((h.length:Nat):Int))&&decide (((h.length:Nat):Int)<=8))=true
 ·have j:=i
  simp only[aT,cY] at j
  have p:decide (1<=h.length)=true:=an (by omega)
  have q:decide (h.length<=8)=true:=an (by omega)
  simp only[i,p,q,ac,bo,aq,Sum.elim_inl,d6]
  unfold OL OK D0 OJ OI
  have w:=dJ (body:=fun(s:Int×Int)=>((wF h h.length s.1 s.2).map (Sum.elim (fun(t:Int×Int)=>Sum.inl (t.1,t.2)) (Sum.elim (fun(t:Bool)=>Sum.inr (Sum.inl t)) (fun(t:Int)=>Sum.inr (Sum.inr t)))):Option ((Int×Int)⊕(Bool⊕Int))))
   (I:=fun s=> ∃k r:Nat,s=((r:Int),(k:Int))/\k<=h.length/\r<=k) (μ:=fun s=>h.length-s.2.toNat)
   (f:=fun s=>cond (((range h.length).drop s.2.toNat).all (kN h)) (.inr (s.1+((h.drop s.2.toNat).count 0:Nat))) (.inl false))
   (by
    rintro _ ⟨k,r,rfl,C,D⟩
    by_cases c:k<h.length
    ·have hd:(range h.length).drop k=k::(range h.length).drop (k+1):=by
      grind [List.drop_eq_getElem_cons]
     simp only[wF,wD,d8]
     rw[show decide ((k:Int)<((h.length:Nat):Int))=true from an (by omega)]
     simp only[au,ac,Sum.elim_inl]
     unfold OH OG OF D1 D5 OE OD D2 OC D4
     have x:wrap .i64 ((k:Int)+1)=((k+1:Nat):Int):=by grind [wrap64]
     have y:wrap .i64 ((r:Int)+1)=((r+1:Nat):Int):=by grind [wrap64]
     simp only[cb c,ac,gA,x,y]
     rw[hd,mO,X1 c]
     have z:kN h k=(dX h.length h[k]&& !(h[k]==((k+1:Nat):Int))&&(match goUp h h.length ((k+1:Nat):Int) with| .inr a=> !decide (a>0)| .inl _=>false)):=by
      simp[kN,c]
     have n:=ajM h (by omega) ((k+1:Nat):Int) (by omega) (by omega)
     rw[z]
     cases l:dX h.length h[k] with
     |false=>
      right
      have d:(decide ((0:Int)<=h[k])&&decide (h[k]<=((h.length:Nat):Int)))=false:=l
      rw[d];simp
     |true=>
      have d:(decide ((0:Int)<=h[k])&&decide (h[k]<=((h.length:Nat):Int)))=true:=l
      rw[d]
      simp only[bo,aq,d6]
      cases B:(h[k]==((k+1:Nat):Int)) with
      |true=>right;simp
      |false=>
       simp only[aq,Bool.not_false,d6]
       by_cases m:h[k]=0
       ·simp only[m,d9,au,ac,Sum.elim_inl,bn,n,cU]
        cases v:goUp h h.length ((k+1:Nat):Int) with
        |inl b=>
         right
         have:b=false:=by
          have A: ∀f a b,goUp h f a= .inl b->b=false:=by
           intro f
           induction f<;>grind [goUp]
          grind
         simp_all
        |inr a=>
         by_cases g:a>0
         ·simp_all
         ·left
          refine⟨(((r+1:Nat):Int),((k+1:Nat):Int)),by simp[g],⟨k+1,r+1,rfl,c,by omega⟩,by simp;omega,?_⟩
          grind
       ·have u:(h[k]==0)=false:=by grind
        simp only[u,aq,ac,Sum.elim_inl,bn,n,m,jc]
        cases v:goUp h h.length ((k+1:Nat):Int) with
        |inl b=>
         right
         have:b=false:=by
          have A: ∀f a b,goUp h f a= .inl b->b=false:=by
           intro f
           induction f<;>grind [goUp]
          grind
         simp_all
        |inr a=>
         by_cases g:a>0
         ·simp_all
         ·left
          refine⟨((r:Int),((k+1:Nat):Int)),by simp[g],⟨k+1,r,rfl,c,by omega⟩,by simp;omega,?_⟩
          grind
    grind [List.length,wF,wD,Decidable.decide,decide_eq_false,List.drop_of_length_le,range])
  simp only[ac]
  rw[w LL (0,0) ⟨0,0,rfl,by omega,by omega⟩ (by grind [LL])]
  simp only[g7,fl,ac]
  cases (range h.length).all (kN h) with
  |false=>simp
  |true=>
   simp only[au,bn,Sum.elim_inr,ac,Sum.elim_inl,D6,d6]
   congr 1
   grind
 ·have j:(decide ((1:Int)<=((h.length:Nat):Int))&&decide (((h.length:Nat):Int)<=8))=false:=by grind
  have e:(decide (1<=h.length)&&decide (h.length<=8))=false:=by
   grind
  grind
theorem cH (h:List Int):di h=some (aA h):=by
 rw[ajN]
 congr 1
 unfold aA
 have s:(range h.length).all (kN h)=(fQ h&&(range h.length).all fun k=>(bg h h.length (k+1)).isSome):=by
  cases d:fQ h with
  |false=>
   rw[j1,List.all_eq_false]
   have: ¬ ∀x∈h,dX h.length x=true:=fun b=>by
    grind [fQ,List.all_eq_true]
   have⟨x,m⟩:=Classical.not_forall.1 this
   have⟨l,j⟩:=Classical.not_imp.1 m
   obtain⟨k,a,rfl⟩:=lj l
   refine⟨k,by grind,?_⟩
   simp[kN,a,j]
  |true=>
   rw[d6,e0,bT,bT]
   constructor
   ·grind [List.length,bg,KH,goUp,kN]
   ·intro b k a
    have c:k<h.length:=by grind
    have g:=b k a
    have i:=(KH d h.length k c).1
    rw[aB g] at i
    obtain⟨n,p⟩:=jH d c
    have q:dX h.length h[k]=true:=by simp[dX];omega
    have r: ¬h[k]=((k+1:Nat):Int):=fun e=>by
     have none: ∀f,bg h f (k+1)=none:=by
      intro f
      induction f<;>grind [bg]
     simp_all
    grind [goUp,List.length,kN]
 grind
theorem X4 {h:List Int}: ∀{f w:Nat} {p:Nat×Nat},bg h f w=some p->bg h (f+1) w=some p
 |0,w,p,e=>by simp[bg] at e
 |f+1,w,p,e=>by
  simp only[bg] at e
  rw[bg]
  split at e
  ·cases e
  ·rename_i x c
   split at e
   ·simp_all
   ·rename_i a
    simp only[a,jc]
    obtain⟨d,b,rfl⟩:=cv.1 e
    rw[X4 b];rfl
theorem AR {h:List Int} {f g w:Nat} {p:Nat×Nat} (a:f<=g) (e:bg h f w=some p):bg h g w=some p:=by
 induction a<;>grind [step,X4]
theorem X5 {h:List Int}: ∀{f w:Nat} {p:Nat×Nat},bg h f w=some p->p.2<f
 |0,w,p,e=>by simp[bg] at e
 |f+1,w,p,e=>by
  simp only[bg] at e
  split at e
  ·cases e
  ·split at e
   ·cases e;simp
   ·obtain⟨b,a,rfl⟩:=cv.1 e
    have:=X5 a
    simp;omega
theorem X6 {h:List Int}: ∀{f w:Nat} {p:Nat×Nat},bg h f w=some p->h[p.1-1]? =some 0
 |0,w,p,e=>by simp[bg] at e
 |f+1,w,p,e=>by
  simp only[bg] at e
  split at e
  ·cases e
  ·rename_i x c
   split at e
   ·grind
   ·obtain⟨b,a,rfl⟩:=cv.1 e
    show h[b.1-1]? =some 0
    exact X6 a
theorem X7 {h:List Int} (a:fQ h=true): ∀{f w:Nat} {p:Nat×Nat},1<=w->bg h f w=some p->1<=p.1
 |0,w,p,_,e=>by simp[bg] at e
 |f+1,w,p,j,e=>by
  simp only[bg] at e
  split at e
  ·cases e
  ·rename_i x d
   split at e
   ·grind
   ·rename_i i
    obtain⟨g,c,rfl⟩:=cv.1 e
    obtain⟨b,k⟩:=aO.1 d
    have:=jH a b
    show 1<=g.1
    exact X7 a (by omega) c
structure Tree (h:List Int):Prop where
 pos:1<=h.length
 le:h.length<=8
 aQ:fQ h=true
 one:h.count 0=1
 ue: ∀k,k<h.length->(bg h h.length (k+1)).isSome=true
theorem bM (h:List Int):aA h=true↔Tree h:=by
 unfold aA
 simp only[aT,cY,ce,bT]
 constructor
 ·rintro⟨⟨⟨⟨a,b⟩,c⟩,d⟩,e⟩
  exact⟨a,b,c,d,fun k f=>e k (by grind)⟩
 ·rintro⟨a,b,c,d,e⟩
  simp_all
def hd (h:List Int) (w:Nat):Nat:=(h.getD (w-1) 0).toNat
def dep (h:List Int) (w:Nat):Nat:=((bg h h.length w).getD (0,0)).2
def top (h:List Int):Nat:=h.idxOf 0+1
theorem gB (h:List Int):1<=top h:=by simp[top]
section
variable {h : List Int} (T : Tree h)
include T
theorem Tree.get {w:Nat} (b:1<=w) (c:w<=h.length):h[w-1]? =some ((hd h w:Nat):Int):=by
 have a:w-1<h.length:=by omega
 have:=jH T.aQ a
 grind [List.getElem?_eq_getElem,hd,Option.some.injEq]
theorem Tree.cW {w:Nat} (a:1<=w) (b:w<=h.length):hd h w<=h.length:=by
 have c:w-1<h.length:=by omega
 simp_all [jH,Tree.aQ,hd,e4,bh,ih]
theorem Tree.KI:h.idxOf 0<h.length:=by
 rw[o7]
 exact List.count_pos_iff.1 (by rw[T.one];omega)
theorem Tree.gk:top h<=h.length:=T.KI
theorem Tree.X8 {i:Nat} (hi:h[i]? =some 0):i=h.idxOf 0:=by
 have b:=T.KI
 have a:h[h.idxOf 0]? =some 0:=by simp_all
 have c: ∀(l:List Int) (i j:Nat),i<j->l[i]? =some 0->l[j]? =some 0->2<=l.count 0:=by
  intro l
  induction l<;>grind
 grind [Nat.lt_trichotomy,idxOf,Tree.one]
theorem Tree.eG {w:Nat} (a:1<=w) (b:w<=h.length):hd h w=0↔w=top h:=by
 have c:=T.get a b
 grind [Tree.X8,top,Tree.KI,idxOf,List.getElem?_eq_getElem]
theorem Tree.uf {w:Nat} (c:1<=w) (e:w<=h.length):bg h h.length w=some (top h,dep h w):=by
 have b:=T.ue (w-1) (by omega)
 rw[show w-1+1=w by omega] at b
 obtain⟨p,a⟩:=CF.1 b
 have d:=X6 a
 have f:=T.X8 d
 have g:=X7 T.aQ c a
 grind [top,dep]
theorem Tree.ho {w:Nat} (a:1<=w) (b:w<=h.length):dep h w<h.length:=by
 have:=X5 (T.uf a b)
 exact this
theorem Tree.KJ:dep h (top h)=0:=by
 have b:=T.uf (gB h) T.gk
 have a:=T.get (gB h) T.gk
 rw[(T.eG (gB h) T.gk).2 rfl] at a
 obtain⟨n,c⟩: ∃n,h.length=n+1:=⟨h.length-1,by grind⟩
 grind [bg]
theorem Tree.ft {w:Nat} (b:1<=w) (c:w<=h.length) (i:hd h w≠0):dep h w=dep h (hd h w)+1:=by
 have a:=T.uf b c
 have d:=T.get b c
 have j:=T.uf (w:=hd h w) (by omega) (T.cW b c)
 obtain⟨n,f⟩: ∃n,h.length=n+1:=⟨h.length-1,by omega⟩
 rw[f] at a
 simp only[bg,d] at a
 rw[aG (by omega)] at a
 simp only[d8] at a
 obtain⟨l,g,e⟩:=cv.1 a
 have k:=AR (show n<=h.length by omega) g
 grind
theorem Tree.KK {w:Nat} (a:1<=w) (b:w<=h.length):dep h w=0↔w=top h:=by
 constructor
 all_goals grind [hd,Tree.eG,Tree.ft,Tree.KJ]
end
theorem X9 {l:List Int} {k:Nat} {a:Int} (b:k<l.length):(l.set k a).take (k+1)=l.take k++ [a]:=by
 rw[List.take_set,kn,bh b]
 have hl:(l.take k).length=k:=by simp;omega
 rw[q9 _ _ (by omega),hl]
 simp
theorem bH {c d:Type} {body:c->Option (c⊕d)} (b:Nat->c) (n:Nat) (w:d) (i: ∀k,k<n->body (b k)=some (.inl (b (k+1)))) (g:body (b n)=some (.inr w)):
  ∀(N:Nat),n<N->ai body N (b 0)=some w:=by
 have l: ∀(m k N:Nat),k+m=n->m<N->ai body N (b k)=some w:=by
  intro m
  induction m with
  |zero=>
   intro k N f e
   obtain⟨a,rfl⟩: ∃a,N=a+1:=⟨N-1,by omega⟩
   grind [ai]
  |succ m j=>
   intro k N f e
   obtain⟨a,rfl⟩: ∃a,N=a+1:=⟨N-1,by omega⟩
   grind [ai]
 simp_all
theorem mg {c e:Type} {body:c->Option (c⊕e)} (a:Nat->c) (n:Nat) (p:Nat->Bool) (w:Bool->e) (l: ∀k,k<n->p k=true->body (a k)=some (.inl (a (k+1))))
  (g: ∀k,k<n->p k=false->body (a k)=some (.inr (w false))) (i:body (a n)=some (.inr (w true))) (N:Nat) (d:n<N):
  ai body N (a 0)=some (w ((range n).all p)):=by
 have r: ∀(m k N:Nat),k+m=n->m<N->ai body N (a k)=some (w ((List.range' k m).all p)):=by
  intro m
  induction m with
  |zero=>
   intro k N f d
   obtain⟨b,rfl⟩: ∃b,N=b+1:=⟨N-1,by omega⟩
   grind [ai]
  |succ m q=>
   intro k N f d
   obtain⟨b,rfl⟩: ∃b,N=b+1:=⟨N-1,by omega⟩
   rw[CZ,mO]
   cases j:p k<;>grind [ai]
 grind [List.range_eq_range']
def bt (p:Nat->Bool):Nat->Nat
 |0=>0
 |n+1=>bt p n|||(if p n then 2^n else 0)
theorem fR (p:Nat->Bool): ∀n,bt p n<2^n
 |0=>by simp[bt]
 |n+1=>by
  have a:=fR p n
  have b:2^n<2^(n+1):=by omega
  simp only[bt]
  refine g8 (by omega) ?_
  grind
theorem hS (p:Nat->Bool) (n i:Nat):(bt p n).testBit i=(decide (i<n)&&p i):=by
 induction n<;>grind [bt,Decidable.decide]
theorem nM {m n:Nat} {p:Nat->Bool} (a:m<2^n) (h: ∀i,i<n->m.testBit i=p i):m=bt p n:=by
 apply Nat.eq_of_testBit_eq
 grind [hS,Nat.testBit_lt_two_pow,Nat.lt_of_lt_of_le,Nat.pow_le_pow_right]
theorem KL {p q:Nat->Bool} {n:Nat} (h: ∀i,i<n->p i=q i):bt p n=bt q n:=
 nM (fR p n) (fun i hi=>by grind [hS])
theorem nN {m n:Nat} (h:n<=8) (a:m<2^n):m<256:=
 gH a (e5 (n:=2) (by omega) h)
def gC (h:List Int) (k:Nat):List (Int×Int):=((range k).filter fun i=>decide (h.getD i 0>0)).map fun(i:Nat)=>(bX ((i:Int)+1) (h.getD i 0),imax ((i:Int)+1) (h.getD i 0))
def aZ (h:List Int):List (Int×Int):=gC h h.length
theorem nO (h:List Int) (k:Nat):(gC h k).length<=k:=by
 grind [gC,List.length_map,Nat.le_trans,List.length_filter_le]
theorem Ya (h:List Int) (k:Nat):gC h (k+1)=if h.getD k 0>0 then gC h k++ [(bX ((k:Int)+1) (h.getD k 0),imax ((k:Int)+1) (h.getD k 0))] else gC h k:=by
 unfold gC
 have a:List.filter (fun i=>decide (h.getD i 0>0)) [k]=if decide (h.getD k 0>0)=true then[k] else[]:=by grind
 grind [List.range_succ,getD,decide_eq_true]
def gP (p:Int×Int):List Int:=[p.1,p.2]
def cB (p:Int×Int):Int×Int×Unit:=(p.1,p.2,())
theorem ajO (h:List Int) (hl:h.length<=1048576):zd h=some ((aZ h).map gP):=by
 have e:zd h=zc h:=by unfold zd;rfl
 rw[e]
 unfold zc If TN TM Ig TL TJ Ih
 have d:=bH (body:=fun(s:Int×(List (List Int)))=>((tA h s.1 s.2).map (Sum.elim (fun(t:Int×(List (List Int)))=>Sum.inl (t.1,t.2)) (fun(t:(List (List Int)))=>Sum.inr t)):Option ((Int×(List (List Int)))⊕(((List (List Int)))))))
  (fun k=>((k:Int),(gC h k).map gP)) h.length ((aZ h).map gP)
  (by
   intro k b
   have c:=nO h k
   have a:h.getD k 0=h[k]:=by simp_all
   simp only[tA]
   rw[show decide ((k:Int)<((h.length:Nat):Int))=true from an (by omega),cb b,wrap64 (x:=(k:Int)+1) (by omega) (by omega),Ya,a]
   grind [decide_eq_true,room_le,gP,decide_eq_false])
  (by
   simp only[tA]
   rw[show decide (((h.length:Nat):Int)<((h.length:Nat):Int))=false from cy (by omega)]
   rfl)
 grind [LL,gC,gP]
theorem Tree.qh {h:List Int} (T:Tree h) {k:Nat} (b:k<h.length):h.getD k 0=((hd h (k+1):Nat):Int):=by
 have a:=T.get (w:=k+1) (by omega) (by omega)
 simp_all
theorem Tree.nP {h:List Int} (T:Tree h) {w:Nat} (a:1<=w) (b:w<=h.length):hd h w≠w:=by
 intro e
 have:=T.ft a b (by omega)
 simp_all
theorem KM {h:List Int} (T:Tree h):pC h=some ((aZ h).map cB):=by
 have e:pC h=xy h:=by unfold pC;rfl
 have d:=T.le
 rw[e]
 unfold xy FT QR QQ FU QP QO FV
 have i:mk 0 ((h.length:Nat):Int)=some 0:=by
  grind [mk]
 have g:=bH (body:=fun(s:Int×(List (Int×Int×Unit)))=>((sl h h.length s.1 s.2).map (Sum.elim (fun(t:Int×(List (Int×Int×Unit)))=>Sum.inl (t.1,t.2)) (fun(t:(List (Int×Int×Unit)))=>Sum.inr t)):Option ((Int×(List (Int×Int×Unit)))⊕(((List (Int×Int×Unit)))))))
  (fun k=>((k:Int),(gC h k).map cB)) h.length ((aZ h).map cB)
  (by
   intro k b
   have f:=nO h k
   have a:=T.qh b
   have hi:idx h (k:Int)=some ((hd h (k+1):Nat):Int):=by
    grind [cb,getD]
   have j:=T.nP (w:=k+1) (by omega) (by omega)
   have c:=T.cW (w:=k+1) (by omega) (by omega)
   simp only[sl]
   rw[show decide ((k:Int)<((h.length:Nat):Int))=true from an (by omega),hi,wrap64 (x:=(k:Int)+1) (by omega) (by omega),Ya,a]
   grind [KG,hd,gz,decide_eq_false,decide_eq_true,room_le,cB])
  (by
   simp only[sl]
   rw[show decide (((h.length:Nat):Int)<((h.length:Nat):Int))=false from cy (by omega)]
   rfl)
 grind [LL,replicate,gC,cB]
theorem AS {h:List Int} (T:Tree h) {p:Int×Int}:p∈aZ h↔ ∃w,1<=w/\w<=h.length/\hd h w≠0/\p=(bX (w:Int) ((hd h w:Nat):Int),imax (w:Int) ((hd h w:Nat):Int)):=by
 unfold aZ gC
 rw[iC]
 constructor
 ·grind [Tree.qh]
 ·rintro⟨w,a,b,c,rfl⟩
  refine⟨w-1,?_,?_⟩
  all_goals grind [Tree.qh,List.length]
theorem ug {h:List Int} (T:Tree h) {p:Int×Int} (a:p∈aZ h):1<=p.1/\p.1<p.2/\p.2<=(h.length:Nat):=by
 grind [AS,Tree.cW,Tree.nP,bX,imax]
def AT (h:List Int) (v:Int):Bool:=(aZ h).any fun p=>decide (p.1<v/\v<p.2)
def ci (p q:Int×Int):Bool:=jF p.1 p.2 q.1 q.2
def dj (X:Int×Int->Int×Int->Bool):List (Int×Int)->Nat
 |[]=>0
 |a::r=>r.countP (X a)+dj X r
theorem Yb (X:Int×Int->Int×Int->Bool) (x:Int×Int): ∀l,dj X (l++ [x])=dj X l+l.countP (fun q=>X q x)
 |[]=>by simp[dj]
 |a::r=>by
  simp only[e7,dj]
  rw[Yb X x r,g9,hm,hm,List.countP_nil]
  omega
theorem AU (X:Int×Int->Int×Int->Bool): ∀l,dj X l<=l.length*l.length
 |[]=>by simp[dj]
 |a::r=>by
  simp only[dj,ck]
  have b:=AU X r
  grind
theorem Yc {X:Int×Int->Int×Int->Bool}: ∀l,dj X l=0↔l.Pairwise fun p q=>X p q=false
 |[]=>by simp[dj]
 |a::r=>by
  simp only[dj,d7,<-Yc r]
  simp_all
theorem ajP (p q:Int×Int):ci p q=ci q p:=by
 grind [ci,jF]
def nQ (h:List Int):Nat:=dj ci (aZ h)
def jI (h:List Int):Int:=if aA h then(nQ h:Int) else-1
theorem ajQ {h:List Int} (d:h.length<=8):nQ h<=64:=by
 have a:=AU ci (aZ h)
 have b:=nO h h.length
 have c:(aZ h).length*(aZ h).length<=8*8:=fz (by unfold aZ;omega) (by unfold aZ;omega)
 unfold nQ
 omega
theorem ajR (b:List (Int×Int)) (i:b.length<=8) (m: ∀p∈b,p.1<p.2):xE (b.map cB)=some ((dj ci b:Nat):Int):=by
 have e:xE (b.map cB)=xD (b.map cB):=by unfold xE;rfl
 rw[e]
 unfold xD FW QZ QY FX QX QW F3
 have u: ∀(a:Int×Int) (l:List (Int×Int)),l.countP (ci a)<=l.length:=fun a l=>hp
 have E:=AU ci b
 have C:b.length*b.length<=8*8:=fz i i
 have y: ∀(a:Int×Int) (l:List (Int×Int)) (c:Nat),a.1<a.2->(∀p∈l,p.1<p.2)->l.length<=8->c<=1000->
   F0 (c:Int) (l.map cB) ((l.length:Nat):Int) a.1 a.2=some ((c+l.countP (ci a):Nat):Int):=fun a l c r hl D d=>by
  unfold F0 QS
  have q:=bH (body:=fun(s:Int×Int)=>((sp s.1 (l.map cB) l.length s.2 a.1 a.2).map (Sum.elim (fun(t:Int×Int)=>Sum.inl (t.1,t.2)) (fun(t:Int)=>Sum.inr t)):Option ((Int×Int)⊕(Int))))
   (fun j=>(((c+(l.take j).countP (ci a):Nat):Int),(j:Int))) l.length ((c+l.countP (ci a):Nat):Int)
   (by
    intro j n
    have F:(l.take j).countP (ci a)<=j:=fy (u a _) (by simp;omega)
    have hi:idx (l.map cB) (j:Int)=some (cB l[j]):=by grind [fp]
    simp only[sp]
    rw[show decide ((j:Int)<((l.length:Nat):Int))=true from an (by omega),hi,wrap64 (x:=(j:Int)+1) (by omega) (by omega),wrap64 (by omega) (by omega)]
    simp only[au,ac,cB]
    rw[X0 r (hl l[j] (cT n)),kn,bh n]
    grind [Option.toList_some,jF,ci])
   (by
    grind [sp,Decidable.decide,List.length,decide_eq_false,List.take_length])
  grind [LL]
 have G: ∀k,k<=b.length-> ∃c:Nat,c+dj ci (b.drop k)=dj ci b:=by
  intro k
  induction k with
  |zero=>simp_all
  |succ k B=>
   intro z
   obtain⟨c,d⟩:=B (by omega)
   rw[e3 (show k<b.length by omega)] at d
   simp only[dj] at d
   exact⟨c+(b.drop (k+1)).countP (ci b[k]),by omega⟩
 have q:=dJ (body:=fun(s:Int×Int)=>((F2 (b.map cB) s.1 (b.map cB).length s.2).map (Sum.elim (fun(t:Int×Int)=>Sum.inl (t.1,t.2)) (fun(t:Int)=>Sum.inr t)):Option ((Int×Int)⊕(Int))))
  (I:=fun s=> ∃k c:Nat,s=((c:Int),(k:Int))/\k<=b.length/\c+dj ci (b.drop k)=dj ci b) (μ:=fun s=>b.length-s.2.toNat) (f:=fun _=>((dj ci b:Nat):Int))
  (by
   rintro _ ⟨k,c,rfl,z,d⟩
   simp only[F2,FY,eN]
   by_cases g:k<b.length
   ·left
    rw[show decide ((k:Int)<((b.length:Nat):Int))=true from an (by omega)]
    have hi:idx (b.map cB) (k:Int)=some (cB b[k]):=by grind [fp]
    have w:inc (wrap .i64 ((k:Int)+1)) (b.map cB).length=some (k+1):=by
     grind [wrap64,inc,List.length_map]
    have v:((b.map cB).take b.length).drop (k+1)=(b.drop (k+1)).map cB:=by rw[vN (by simp),List.map_drop]
    rw[e3 g] at d
    simp only[dj] at d
    simp only[au,ac,Sum.elim_inl]
    unfold QV QU QT FZ F1
    rw[hi]
    simp only[ac]
    rw[w]
    simp only[ac,v,eN,cB]
    rw[y b[k] (b.drop (k+1)) c (m _ (cT g)) (fun p A=>m p (hr A)) (by simp;omega) (by omega),wrap64 (by omega) (by omega)]
    exact⟨(((c+(b.drop (k+1)).countP (ci b[k]):Nat):Int),((k+1:Nat):Int)),rfl,⟨k+1,_,rfl,g,by omega⟩,by simp;omega,trivial⟩
   grind [List.length,Decidable.decide,decide_eq_false,List.drop_length,dj])
 simp only[ac]
 rw[q LL (0,0) ⟨0,0,rfl,by omega,by simp⟩ (by grind [LL])]
 rfl
theorem ajS (h:List Int):xF h=some (jI h):=by
 have e:xF h=sr h:=by unfold xF;rfl
 rw[e]
 unfold sr jI
 rw[fq]
 cases a:aA h with
 |false=>rfl
 |true=>
  have T:=(bM h).1 a
  have hl:=nO h h.length
  have c:=T.le
  simp only[ac,bo,aq,KM T,cU]
  rw[ajR (aZ h) (by unfold aZ;omega) (fun p b=>(ug T b).2.1)]
  rfl
theorem ajT {p a:Int×Int} (b:1<=p.1/\p.1<p.2) (c:1<=a.1/\a.1<a.2):jG p.1 p.2 a.1 a.2=ci p a:=by
 grind [bX,imax,gz,decide_eq_true,jG,ci]
theorem ajU (h:List Int) (w:h.length<=1048576):zh h=some (jI h):=by
 have e:zh h=zg h:=by unfold zh;rfl
 rw[e]
 unfold zg Im jI
 rw[cH]
 cases u:aA h with
 |false=>rfl
 |true=>
  have T:=(bM h).1 u
  have H:=T.le
  simp only[ac,bo,aq,ajO h w,Sum.elim_inl,cU]
  unfold TW TV In TU TS Ir
  have q:(aZ h).length<=8:=by grind [nO,List.length,aZ]
  have f: ∀p∈aZ h,1<=p.1/\p.1<p.2:=fun p l=>⟨(ug T l).1,(ug T l).2.1⟩
  have r:nQ h=dj ci (aZ h):=rfl
  rw[r]
  generalize aZ h=a at q f⊢
  have v: ∀k,dj ci (a.take k)<=64:=fun k=>by
   have B:=AU ci (a.take k)
   have i:(a.take k).length<=8:=by simp;omega
   have:(a.take k).length*(a.take k).length<=8*8:=fz i i
   omega
  have F: ∀k,(d:k<a.length)-> ∀c:Nat,c<=1000->Ip (c:Int) (k:Int) (a.map gP)=some ((c+(a.take k).countP (fun b=>ci b a[k]):Nat):Int):=fun k d c D=>by
   unfold Ip Io TP TO
   have y:=bH (body:=fun(s:Int×Int)=>((tB s.1 k s.2 (a.map gP)).map (Sum.elim (fun(t:Int×Int)=>Sum.inl (t.1,t.2)) (fun(t:Int)=>Sum.inr t)):Option ((Int×Int)⊕(Int))))
    (fun j=>(((c+(a.take j).countP (fun b=>ci b a[k]):Nat):Int),(j:Int))) k ((c+(a.take k).countP (fun b=>ci b a[k]):Nat):Int)
    (by
     intro j G
     have g:j<a.length:=by omega
     have E:(a.take j).countP (fun b=>ci b a[k])<=j:=fy hp (by simp;omega)
     have m:(a.map gP)[j]? =some (gP a[j]):=by simp[g]
     have n:(a.map gP)[k]? =some (gP a[k]):=by simp[d]
     have z: ∀p,idx (gP p) 0=some p.1:=fun p=>rfl
     have A: ∀p,idx (gP p) 1=some p.2:=fun p=>rfl
     simp only[tB]
     rw[show decide ((j:Int)<(k:Int))=true from an (by omega),cg (by grind),cg (by grind)]
     simp only[au,ac,m,n,z,A,ajI]
     rw[ajT (f _ (cT g)) (f _ (cT d)),wrap64 (x:=(j:Int)+1) (by omega) (by omega),wrap64 (by omega) (by omega),kn,bh g]
     grind)
    (by
     grind [tB,Decidable.decide,decide_eq_false])
   grind [LL]
  have y:=bH (body:=fun(s:Int×Int)=>((zf s.1 s.2 (a.map gP)).map (Sum.elim (fun(t:Int×Int)=>Sum.inl (t.1,t.2)) (fun(t:Int)=>Sum.inr t)):Option ((Int×Int)⊕(Int))))
   (fun k=>(((dj ci (a.take k):Nat):Int),(k:Int))) a.length ((dj ci a:Nat):Int)
   (by
    intro k d
    have C:=v k
    simp only[zf,ze,eN]
    rw[show decide ((k:Int)<((a.length:Nat):Int))=true from an (by omega)]
    simp only[au,ac,Sum.elim_inl]
    unfold TR TQ Iq
    grind [wrap64,List.take_add_one,List.getElem?_eq_getElem,Option.toList_some,Yb])
   (by
    grind [zf,ze,List.length_map,Decidable.decide,List.length,decide_eq_false,List.take_length])
  grind [LL,dj,ci]
def dk (h:List Int) (v:Int):Bool:=aA h&&(decide (1<=v)&&decide (v<=(h.length:Nat)))
theorem Yd (h:List Int) (v:Int):yK h v=some (dk h v):=by
 grind [yK,yJ,dk,fq,aA]
theorem nR {h:List Int} {a:Int}:dk h a=true↔ ∃w:Nat,a=(w:Int)/\Tree h/\1<=w/\w<=h.length:=by
 unfold dk
 simp only[aT,cY,bM]
 constructor
 ·rintro⟨T,b,c⟩
  exact⟨a.toNat,by omega,T,by omega,by omega⟩
 grind
theorem ajV {h:List Int} (T:Tree h) {a:Nat}:AT h (a:Int)=true↔ ∃w,1<=w/\w<=h.length/\hd h w≠0/\((w<a/\a<hd h w)\/(hd h w<a/\a<w)):=by
 unfold AT
 rw[f6]
 constructor
 ·grind [AS,bX,imax]
 ·rintro⟨w,b,c,d,e⟩
  refine⟨_,(AS T).2 ⟨w,b,c,d,rfl⟩,?_⟩
  grind [bX,imax]
theorem uh {x:Int} (a:0<=x) (b:x<18446744073709551616):wrap .u64 x=x:=by
 grind [wrap,IntKind.bits,signed]
theorem ui {a:Nat} (h:a<18446744073709551616):(ofInt 64 (a:Int)).toNat=a:=by
 simp_all
theorem Ye {a b:Nat} (c:a<2^62) (d:b<2^62):ji .u64 (a:Int) (b:Int)=((a|||b:Nat):Int):=by
 have h:=g8 c d
 show wrap .u64 ((ofInt 64 (a:Int)|||ofInt 64 (b:Int)).toNat:Int)=_
 grind [BitVec.toNat_or,ui,uh]
theorem ajW {a b:Nat} (c:a<2^62) (d:b<2^62):ji .i64 (a:Int) (b:Int)=((a|||b:Nat):Int):=by
 have h:=g8 c d
 show wrap .i64 ((ofInt 64 (a:Int)|||ofInt 64 (b:Int)).toNat:Int)=_
 grind [BitVec.toNat_or,ui,wrap64]
theorem KN {a b:Nat} (d:a<2^62) (c:b<2^62):dO .u64 (a:Int) (b:Int)=((a&&&b:Nat):Int):=by
 have h:a&&&b<2^62:=Nat.and_lt_two_pow a c
 show wrap .u64 ((ofInt 64 (a:Int)&&&ofInt 64 (b:Int)).toNat:Int)=_
 grind [BitVec.toNat_and,ui,uh]
theorem ajX {a b:Nat} (d:a<2^62) (c:b<2^62):dO .i64 (a:Int) (b:Int)=((a&&&b:Nat):Int):=by
 have h:a&&&b<2^62:=Nat.and_lt_two_pow a c
 show wrap .i64 ((ofInt 64 (a:Int)&&&ofInt 64 (b:Int)).toNat:Int)=_
 grind [BitVec.toNat_and,ui,wrap64]
theorem gQ {n:Nat} {p:Nat->Bool} (h:(range n).all p=true) {i:Nat} (hi:i<n):p i=true:=
 bT.1 h i (fm.2 hi)
theorem ajY:((range 8).all fun i=>kB ((i:Int)+1)==some ((2^i:Nat):Int))=true:=by decide+kernel
theorem Yf {w:Nat} (a:1<=w) (b:w<=8):kB (w:Int)=some ((2^(w-1):Nat):Int):=by
 grind [gQ,ajY]
theorem ajZ {w:Nat} (h:w<=8) (a:1<=w):2^(w-1)<256:=by
 have:2^(w-1)<2^8:=j2 (by omega) (by omega)
 omega
def cn (m:Nat):List Int:=((range 8).filter fun i=>m.testBit i).map fun i=>((i+1:Nat):Int)
theorem Yg (p:Nat->Bool) (n:Nat): ∀N,n<=N->(range N).filter (fun i=>decide (i<n)&&p i)=(range n).filter p
 |0,h=>by
  simp_all
 |N+1,h=>by
  by_cases e:n=N+1
  ·grind [List.filter_congr]
  ·rw[f2,List.filter_append,Yg p n N (by omega)]
   grind
theorem KO (p:Nat->Bool) {n:Nat} (h:n<=8):cn (bt p n)=((range n).filter p).map fun i=>((i+1:Nat):Int):=by
 simp_all [cn,Yg,List.filter_congr,hS]
theorem KP {p:Nat->Bool} {n:Nat} (h:n<=8) {x:Int}:x∈cn (bt p n)↔ ∃i,i<n/\p i=true/\x=((i+1:Nat):Int):=by
 grind [KO]
theorem kO (m:Nat):(cn m).length<=8:=by
 grind [cn,List.length_map,Nat.le_trans,List.length_filter_le]
def dl (h:List Int) (v:Int) (i:Nat):Bool:=h.getD i 0==v
theorem uj (h:List Int) (a:Int) (hl:h.length<=8):lP h a=some ((bt (dl h a) h.length:Nat):Int):=by
 have e:lP h a=xr h a:=by unfold lP;rfl
 rw[e]
 unfold xr Qu Qs FH Qr Qq FG
 have f:=bH (body:=fun(s:Int×Int)=>((sb h a s.1 h.length s.2).map (Sum.elim (fun(t:Int×Int)=>Sum.inl (t.1,t.2)) (fun(t:Int)=>Sum.inr t)):Option ((Int×Int)⊕(Int))))
  (fun k=>(((bt (dl h a) k:Nat):Int),(k:Int))) h.length ((bt (dl h a) h.length:Nat):Int)
  (by
   intro k b
   have d:dl h a k=(h[k]==a):=by simp[dl,getD,b]
   have g:=fR (dl h a) k
   have c:(2:Nat)^k<2^62:=j2 (by omega) (by omega)
   simp only[sb]
   rw[show decide ((k:Int)<((h.length:Nat):Int))=true from an (by omega),cb b,wrap64 (by omega) (by omega),show(k:Int)+1=((k+1:Nat):Int) by omega,
    Yf (by omega) (by omega),e6]
   simp only[au,ac,<-d,bt]
   rw[Ye (by omega) c]
   cases dl h a k<;>simp_all)
  (by
   grind [sb,Decidable.decide,List.length,decide_eq_false])
 simp only[ac]
 have:=f LL (by grind [LL])
 simp only[bt] at this
 rw[show(((0:Nat):Int),((0:Nat):Int))=((0:Int),(0:Int)) from rfl] at this
 rw[this]
 rfl
theorem aj0:((range 256).all fun m=>jv (m:Int)==some (cn m))=true:=by decide+kernel
theorem qi {m:Nat} (h:m<256):jv (m:Int)=some (cn m):=by simpa using gQ aj0 h
def fu (h:List Int):Int:=if aA h then(top h:Int) else-1
theorem AW (h:List Int):pz h=some (fu h):=by
 unfold pz FE FC Qp Qo Qn fu
 rw[fq]
 cases b:aA h with
 |false=>simp
 |true=>
  have T:=(bM h).1 b
  simp only[ac,bo,aq,Sum.elim_inl,cU]
  have d:=dJ (body:=fun(s:Int×Int)=>((xq h s.1 s.2).map (Sum.elim (fun(t:Int×Int)=>Sum.inl (t.1,t.2)) (fun(t:Int×Int)=>Sum.inr t)):Option ((Int×Int)⊕((Int×Int)))))
   (I:=fun s=> ∃k i:Nat,s=(((k+1:Nat):Int),(i:Int))/\k<h.length/\i+dep h (k+1)<h.length) (μ:=fun s=>dep h s.1.toNat)
   (f:=fun s=>((top h:Int),s.2+(dep h s.1.toNat:Int)))
   (by
    rintro _ ⟨k,i,rfl,a,hi⟩
    have j:=T.le
    simp only[xq]
    rw[X2 h k i a (by omega) (by omega)]
    have c:=T.get (w:=k+1) (by omega) (by omega)
    rw[show k+1-1=k by omega,bh a] at c
    have g:h[k]=((hd h (k+1):Nat):Int):=by grind
    by_cases e:hd h (k+1)=0
    ·grind [Tree.eG,dep,Tree.KJ]
    ·left
     have m:=T.ft (w:=k+1) (by omega) (by omega) e
     have l:=T.cW (w:=k+1) (by omega) (by omega)
     rw[aG (by omega)]
     refine⟨(h[k],((i+1:Nat):Int)),by simp,⟨hd h (k+1)-1,i+1,?_,by omega,?_⟩,?_,?_⟩
     all_goals grind)
  rw[d LL (1,0) ⟨0,0,rfl,by have:=T.pos;omega,by simp_all [Tree.ho,Tree.pos]⟩ (by
   have:=T.ho (w:=1) (by omega) T.pos;grind [Tree.le,LL])]
  simp[FD]
inductive aL (h:List Int):Nat->Nat->Prop
 |refl {a:Nat} (h1:1<=a) (h2:a<=h.length):aL h a a
 |step {a b:Nat} (h1:1<=a) (h2:a<=h.length) (h3:hd h a≠0) (u:aL h (hd h a) b):aL h a b
theorem Tree.Yh {h:List Int} (T:Tree h) {P:Nat->Prop} (b:P (top h)) (i: ∀w,1<=w->w<=h.length->hd h w≠0->P (hd h w)->P w): ∀w,1<=w->w<=h.length->P w:=by
 have k: ∀(d w:Nat),dep h w=d->1<=w->w<=h.length->P w:=by
  intro d
  induction d with
  |zero=>
   grind [Tree.KK]
  |succ d j=>
   intro w e c f
   have g:hd h w≠0:=fun a=>by
    grind [Tree.KK,Tree.eG]
   grind [Tree.ft,Tree.cW]
 simp_all
theorem Tree.Yi {h:List Int} (T:Tree h) {P:Nat->Prop} (g: ∀w,1<=w->w<=h.length->(∀c,1<=c->c<=h.length->hd h c=w->P c)->P w): ∀w,1<=w->w<=h.length->P w:=by
 have f: ∀(d w:Nat),h.length-dep h w<=d->1<=w->w<=h.length->P w:=by
  intro d
  induction d with
  |zero=>
   intro w e a b
   have:=T.ho a b
   omega
  |succ d i=>
   grind [Tree.ft,Tree.ho]
 intro w
 exact f _ w (aS _)
theorem Tree.iM {h:List Int} (T:Tree h) {a b:Nat} (u:aL h a b):(1<=a/\a<=h.length)/\(1<=b/\b<=h.length):=by
 induction u<;>omega
theorem Tree.iN {h:List Int} (T:Tree h) {a:Nat} (b:1<=a) (c:a<=h.length) (d:hd h a≠0):aL h a (hd h a):=
 .step b c d (.refl (by omega) (T.cW b c))
theorem Tree.Yj {h:List Int} (T:Tree h) {a:Nat} (e:1<=a) (f:a<=h.length):aL h a (top h):=
 T.Yh (P:=fun w=>aL h w (top h)) (.refl (gB h) T.gk) (fun w a b c d=> .step a b c d) a e f
theorem Tree.KQ {h:List Int} (T:Tree h) {a b c:Nat} (u:aL h a b) (d:aL h b c):aL h a c:=by
 induction u with
 |refl=>exact d
 |step e f g u i=>exact .step e f g (i d)
theorem Tree.AX {h:List Int} (T:Tree h) {a b:Nat} (u:aL h a b):dep h b<=dep h a/\(dep h b=dep h a->a=b):=by
 induction u<;>grind [step,Tree.ft]
theorem Tree.kP {h:List Int} (T:Tree h) {a b:Nat} (u:aL h a b) (c:aL h b a):a=b:=by
 have d:=T.AX u
 have e:=T.AX c
 omega
theorem Tree.mh {h:List Int} (T:Tree h) {a b:Nat} (c:1<=a) (d:a<=h.length):aL h a b↔a=b\/(hd h a≠0/\aL h (hd h a) b):=by
 constructor
 ·intro u
  cases u<;>simp_all
 ·rintro(rfl|⟨e,u⟩)
  ·exact .refl c d
  ·exact .step c d e u
theorem Tree.AY {h:List Int} (T:Tree h) {b:Nat} (u:aL h (top h) b):b=top h:=by
 grind [Tree.mh,gB,Tree.gk,absurd,Tree.eG]
theorem Tree.aj1 {h:List Int} (T:Tree h) {a b c:Nat} (u:aL h a b) (v:aL h a c):aL h b c\/aL h c b:=by
 induction u<;>grind [step,Tree.mh]
theorem Tree.KR {h:List Int} (T:Tree h) {a b:Nat}:aL h a b↔(a=b/\1<=a/\a<=h.length)\/(b≠0/\ ∃c,1<=c/\c<=h.length/\hd h c=b/\aL h a c):=by
 constructor
 ·intro u
  induction u with
  |refl d f=>omega
  |step d f m u n=>
   rcases n with⟨e,p,_⟩|⟨k,c,g,i,l,j⟩
   ·exact .inr ⟨by omega,_,d,f,e,.refl d f⟩
   ·exact .inr ⟨k,c,g,i,l,.step d f m j⟩
 ·rintro(⟨rfl,d,f⟩|⟨k,c,g,i,rfl,j⟩)
  ·exact .refl d f
  grind [Tree.KQ,Tree.iN]
theorem Tree.aj2 {h:List Int} (T:Tree h) {a b c d:Nat} (l:b≠0) (g:hd h c=b) (i:hd h d=b) (u:aL h a c) (m:aL h a d):c=d:=by
 have one: ∀c d,hd h c=b->hd h d=b->aL h c d->c=d:=by
  intro c d g i u
  have f:=T.iM u
  rcases(T.mh f.1.1 f.1.2).1 u with e|⟨_,j⟩
  ·exact e
  ·have k:=T.AX j
   grind [Tree.ft]
 grind [Tree.aj1,Tree.one]
noncomputable def eU (h:List Int) (a b:Nat):Bool:= @decide (aL h a b) (Classical.propDecidable _)
theorem jJ {h:List Int} {a b:Nat}:eU h a b=true↔aL h a b:=by simp[eU]
theorem aj3 {h:List Int} {a b:Nat}:eU h a b=false↔ ¬aL h a b:=by simp[eU]
noncomputable def bq (h:List Int) (k:Nat):Nat:=bt (fun i=>eU h (i+1) k) h.length
theorem fS {h:List Int} (hl:h.length<=8) (k:Nat):bq h k<256:=nN hl (fR _ _)
theorem AZ {h:List Int} {k i:Nat} (T:Tree h):(bq h k).testBit i=eU h (i+1) k:=by
 unfold bq
 rw[hS]
 by_cases hi:i<h.length
 ·simp[hi]
 ·have:eU h (i+1) k=false:=aj3.2 fun u=>by have:=T.iM u;omega
  grind
def eV (h:List Int) (w:Nat):List Int:=cn (bt (dl h (w:Int)) h.length)
theorem KS {h:List Int} (T:Tree h) {w:Nat} {x:Int}:x∈eV h w↔ ∃c,1<=c/\c<=h.length/\hd h c=w/\x=(c:Int):=by
 unfold eV
 rw[KP T.le]
 constructor
 ·rintro⟨i,a,b,e⟩
  refine⟨i+1,by omega,by omega,?_,e⟩
  have f:=T.get (w:=i+1) (by omega) (by omega)
  grind [Nat.add_sub_cancel,dl]
 ·rintro⟨c,a,b,d,rfl⟩
  refine⟨c-1,by omega,?_,by omega⟩
  grind [Tree.get,dl]
theorem aj4 (h:List Int) (w:Nat):(eV h w).length<=8:=kO _
noncomputable def hT (h:List Int) (w:Nat) (cs:List Int) (i:Nat):Bool:=(i+1==w)||cs.any fun c=>eU h (i+1) c.toNat
theorem Yk {h:List Int} (T:Tree h) {w:Nat} (f:1<=w) (g:w<=h.length) {i:Nat} (hi:i<h.length):hT h w (eV h w) i=eU h (i+1) w:=by
 rw[e0,jJ,T.KR]
 simp only[hT,eA,ce,f6,jJ]
 constructor
 ·grind [KS]
 ·rintro(⟨e,_⟩|⟨_,c,a,b,d,u⟩)
  ·exact .inl e
  ·exact .inr ⟨(c:Int),(KS T).2 ⟨c,a,b,d,rfl⟩,by simpa using u⟩
theorem aj5 (h:List Int) (w:Nat) (a:List Int) {j:Nat} (b:j<a.length) {n:Nat}:
  bt (hT h w (a.take (j+1))) n=bt (hT h w (a.take j)) n|||bt (fun i=>eU h (i+1) a[j].toNat) n:=by
 refine(nM (g8 (fR _ _) (fR _ _)) fun i hi=> ?_).symm
 rw[Nat.testBit_or,hS,hS]
 simp only[hi,decide_true,d6,hT]
 grind [List.take_add_one,List.getElem?_eq_getElem,Option.toList_some,Bool.or_assoc]
theorem aj6 (h:List Int) {w n:Nat} (a:1<=w) (b:w<=n):bt (hT h w []) n=2^(w-1):=by
 refine(nM (j2 (by omega) (by omega)) fun i hi=> ?_).symm
 grind [hT]
noncomputable def gl (h:List Int) (b a:List Int):List Int:=(range h.length).map fun i=>if(a.any fun c=>eU h (i+1) c.toNat)=true then((bq h (i+1):Nat):Int) else b.getD i 0
theorem nS (h b a:List Int):(gl h b a).length=h.length:=by simp[gl]
theorem mi (h b a:List Int) {i:Nat} (hi:i<h.length):(gl h b a)[i]? =some (if(a.any fun c=>eU h (i+1) c.toNat)=true then((bq h (i+1):Nat):Int) else b.getD i 0):=by
 simp[gl,hi]
theorem aj7 {h a:List Int} (hl:a.length=h.length):gl h a []=a:=by
 apply hB
 grind [List.length,mi,getD,List.getElem?_eq_none,nS]
theorem aj8 (h b a:List Int) {j:Nat} (c:j<a.length):gl h (gl h b (a.take j)) [a[j]]=gl h b (a.take (j+1)):=by
 apply hB
 intro i
 by_cases hi:i<h.length
 ·rw[mi h _ _ hi,mi h _ _ hi,e4,mi h _ _ hi,kn,bh c]
  grind
 grind [List.getElem?_eq_none,nS]
theorem aj9 {h c:List Int} (T:Tree h) {w:Nat} (a:1<=w) (b:w<=h.length):(gl h c (eV h w)).set (w-1) ((bq h w:Nat):Int)=gl h c [(w:Int)]:=by
 apply hB
 intro i
 by_cases hi:i<h.length
 ·by_cases e:i=w-1
  ·subst e
   rw[List.getElem?_set_self (by rw[nS];omega),mi h _ _ hi,aB]
   ·simp_all
   ·have:eU h (w-1+1) w=true:=jJ.2 (by rw[show w-1+1=w by omega];exact .refl a b)
    simp_all
  ·rw[hA (fun d=>e d.symm),mi h _ _ hi,mi h _ _ hi]
   have f:=Yk T a b hi
   grind [beq_eq_false_iff_ne,hT]
 grind [List.getElem?_eq_none,List.length_set,nS]
theorem aka {h:List Int} (T:Tree h): ∀w,1<=w->w<=h.length-> ∀(f:Nat) (a:List Int),h.length-dep h w<f->a.length=h.length->
  lQ f h (w:Int) a=some (((bq h w:Nat):Int),gl h a [(w:Int)]):=by
 refine T.Yi (P:=fun w=> ∀(f:Nat) (a:List Int),h.length-dep h w<f->a.length=h.length->lQ f h (w:Int) a=some (((bq h w:Nat):Int),gl h a [(w:Int)])) ?_
 intro w l n y f a B v
 obtain⟨f,rfl⟩: ∃g,f=g+1:=⟨f-1,by omega⟩
 have m:=T.le
 simp only[lQ]
 generalize r:lQ f=R0
 have z: ∀c,1<=c->c<=h.length->hd h c=w-> ∀zs:List Int,zs.length=h.length->R0 h (c:Int) zs=some (((bq h c:Nat):Int),gl h zs [(c:Int)]):=by
  intro c d e k zs x
  rw[<-r]
  refine y c d e k f zs ?_ x
  have:=T.ft d e (by omega)
  rw[k] at this
  have:=T.ho l n
  omega
 have C:=aj4 h w
 have u:=bH (body:=fun(s:Int×Int×(List Int))=>((pD R0 h s.1 (eV h w).length s.2.1 s.2.2 (eV h w)).map (Sum.elim (fun(t:Int×Int×(List Int))=>Sum.inl (t.1,t.2.1,t.2.2)) (fun(t:Int×(List Int))=>Sum.inr t)):Option ((Int×Int×(List Int))⊕((Int×(List Int))))))
  (fun j=>(((bt (hT h w ((eV h w).take j)) h.length:Nat):Int),(j:Int),gl h a ((eV h w).take j))) (eV h w).length (((bt (hT h w (eV h w)) h.length:Nat):Int),gl h a (eV h w))
  (by
   intro j b
   simp only[pD]
   obtain⟨c,d,e,k,p⟩:=(KS T).1 (cT b)
   have A:=z c d e k (gl h a ((eV h w).take j)) (nS _ _ _)
   have E:bt (hT h w ((eV h w).take j)) h.length<256:=nN m (fR _ _)
   have F:=fS m c
   rw[show decide ((j:Int)<(((eV h w).length:Nat):Int))=true from an (by omega),cg b,wrap64 (by omega) (by omega)]
   simp only[au,ac,bh b]
   rw[p,A]
   simp only[ac]
   rw[Ye (by omega) (by omega),aj5 h w _ b,<-aj8 h a _ b,p]
   rfl)
  (by
   grind [pD,Decidable.decide,eV,decide_eq_false,List.take_length])
 have hl:=u LL (by grind [LL])
 rw[List.take_zero,aj6 h l n,aj7 v] at hl
 unfold Q4 F8 F5 Q3 Q2 F6 Q1 Q0 F7
 rw[Yf l (by omega),uj h _ m]
 simp only[ac]
 rw[qi (nN m (fR _ _))]
 show(((((some _).bind fun q=>some (((List.length q:Nat):Int),q)).bind _):Option _).bind _)=_
 simp only[ac]
 change ((Option.map _ (ai (fun(s:Int×Int×(List Int))=>((pD R0 h s.1 (eV h w).length s.2.1 s.2.2 (eV h w)).map (Sum.elim (fun(t:Int×Int×(List Int))=>Sum.inl (t.1,t.2.1,t.2.2)) (fun(t:Int×(List Int))=>Sum.inr t)):Option ((Int×Int×(List Int))⊕((Int×(List Int)))))) LL (((2^(w-1):Nat):Int),((0:Nat):Int),a))).bind _)=_
 rw[hl]
 simp only[bn,ac]
 rw[wrap64 (by omega) (by omega),show(w:Int)-1=((w-1:Nat):Int) by omega,cg (by rw[nS];omega)]
 simp only[ac]
 have D:bt (hT h w (eV h w)) h.length=bq h w:=KL fun i hi=>Yk T l n hi
 grind [aj9]
noncomputable def eW (h:List Int):List Int:=(range h.length).map fun i=>((bq h (i+1):Nat):Int)
theorem jK (h:List Int):(eW h).length=h.length:=by simp[eW]
theorem nT (h:List Int) {i:Nat} (hi:i<h.length):(eW h)[i]? =some ((bq h (i+1):Nat):Int):=by simp[eW,hi]
theorem uk {h:List Int} (T:Tree h):lR h=some (eW h):=by
 have c:=T.le
 have e:lR h=su h:=by unfold lR;rfl
 rw[e]
 unfold su
 rw[hn (by omega),AW]
 have b:aA h=true:=(bM h).2 T
 simp only[ac,fu,b,cU]
 have a:ss h (top h:Int) (replicate h.length 0)=lQ RR h (top h:Int) (replicate h.length 0):=by unfold ss pE;rfl
 rw[a,aka T (top h) (gB h) T.gk RR _ (by grind [RR]) (by simp)]
 simp only[ac]
 congr 1
 apply hB
 intro i
 by_cases hi:i<h.length
 ·rw[mi h _ _ hi,nT h hi,aB]
  have:eU h (i+1) (top h)=true:=jJ.2 (T.Yj (by omega) (by omega))
  simp_all
 grind [List.getElem?_eq_none,nS,jK]
noncomputable def iO (h:List Int) (w k i:Nat):Bool:=(i+1==w)||(range k).any fun c=>(hd h (c+1)==w)&&eU h (i+1) (c+1)
theorem akb {h:List Int} (T:Tree h) {w:Nat} (f:1<=w) (g:w<=h.length) {i:Nat} (hi:i<h.length):iO h w h.length i=eU h (i+1) w:=by
 rw[e0,jJ,T.KR]
 simp only[iO,eA,ce,f6,jJ,aT,fm]
 constructor
 ·grind
 ·rintro(⟨e,_⟩|⟨_,c,a,b,d,u⟩)
  ·exact .inl e
  ·exact .inr ⟨c-1,by omega,by simp_all,by simp_all⟩
theorem akc (h:List Int) (w:Nat) (k n:Nat):bt (iO h w (k+1)) n=bt (iO h w k) n|||(if hd h (k+1)=w then bt (fun i=>eU h (i+1) (k+1)) n else 0):=by
 refine(nM (g8 (fR _ _) ?_) fun i hi=> ?_).symm
 ·split
  ·exact fR _ _
  grind
 ·rw[Nat.testBit_or,hS]
  simp only[hi,decide_true,d6,iO]
  grind [List.range_succ,Bool.or_assoc,hd,hS]
theorem akd (h:List Int) {w n:Nat} (a:1<=w) (b:w<=n):bt (iO h w 0) n=2^(w-1):=by
 refine(nM (j2 (by omega) (by omega)) fun i hi=> ?_).symm
 grind [iO]
theorem Yl:((range 8).all fun i=>shl .i64 1 (i:Int)==some ((2^i:Nat):Int))=true:=by decide+kernel
theorem ake {w:Nat} (a:1<=w) (b:w<=8):shl .i64 1 (wrap .i64 ((w:Int)-1))=some ((2^(w-1):Nat):Int):=by
 grind [wrap64,gQ,Yl]
theorem akf {h:List Int} (T:Tree h): ∀w,1<=w->w<=h.length-> ∀(f:Nat),h.length-dep h w<f->lX f h (w:Int)=some ((bq h w:Nat):Int):=by
 refine T.Yi (P:=fun w=> ∀(f:Nat),h.length-dep h w<f->lX f h (w:Int)=some ((bq h w:Nat):Int)) ?_
 intro w a b x f z
 obtain⟨f,rfl⟩: ∃g,f=g+1:=⟨f-1,by omega⟩
 have p:=T.le
 simp only[lX]
 generalize q:lX f=R0
 have y: ∀c,1<=c->c<=h.length->hd h c=w->R0 h (c:Int)=some ((bq h c:Nat):Int):=by
  intro c d j l
  rw[<-q]
  refine x c d j l f ?_
  have:=T.ft d j (by omega)
  rw[l] at this
  have:=T.ho a b
  omega
 have u:=bH (body:=fun(s:Int×Int)=>((tC R0 h w s.1 s.2).map (Sum.elim (fun(t:Int×Int)=>Sum.inl (t.1,t.2)) (fun(t:Int)=>Sum.inr t)):Option ((Int×Int)⊕(Int))))
  (fun k=>(((bt (iO h w k) h.length:Nat):Int),(k:Int))) h.length ((bt (iO h w h.length) h.length:Nat):Int)
  (by
   intro k n
   have m:=T.get (w:=k+1) (by omega) (by omega)
   rw[e6,bh n] at m
   have r:h[k]=((hd h (k+1):Nat):Int):=ga m
   have A:bt (iO h w k) h.length<256:=nN p (fR _ _)
   simp only[tC]
   rw[show decide ((k:Int)<((h.length:Nat):Int))=true from an (by omega),cb n,wrap64 (by omega) (by omega),r,show(k:Int)+1=((k+1:Nat):Int) by omega]
   simp only[au,ac]
   rw[akc]
   by_cases e:hd h (k+1)=w
   ·have B:=fS p (k+1)
    rw[show((((hd h (k+1):Nat):Int))==(w:Int))=true by simp_all,y (k+1) (by omega) (by omega) e,aB e]
    simp only[au,ac]
    rw[ajW (by omega) (by omega)]
    rfl
   grind)
  (by
   grind [tC,Decidable.decide,List.length,decide_eq_false])
 have hl:=u LL (by grind [LL])
 rw[akd h a b] at hl
 unfold T1 Iv Is T0 TZ It TY TX Iu
 rw[ake a (by omega)]
 simp only[ac]
 rw[show((((2^(w-1):Nat):Int)),(0:Int))=(((2^(w-1):Nat):Int),((0:Nat):Int)) from rfl,hl]
 simp only[bn,ac]
 have v:bt (iO h w h.length) h.length=bq h w:=KL fun i hi=>akb T a b hi
 rw[v]
theorem nU {h:List Int} (T:Tree h) {w:Nat} (a:1<=w) (b:w<=h.length):hO h (w:Int)=some ((bq h w:Nat):Int):=by
 have e:hO h (w:Int)=lX RR h (w:Int):=by unfold hO pY;rfl
 grind [Tree.le,akf,RR]
theorem akg:((range 256).all fun m=>zt (m:Int)==some (cn m))=true:=by decide+kernel
theorem Ym {m:Nat} (h:m<256):zt (m:Int)=some (cn m):=by simpa using gQ akg h
theorem akh:((range 256).all fun m=>(range 8).all fun i=>((shr .i64 (m:Int) (i:Int)).bind fun v=>rem v 2)==some (if m.testBit i then 1 else 0))=true:=by decide+kernel
theorem Yn {m:Nat} (h:m<256) {i:Nat} (hi:i<8):((shr .i64 (m:Int) (i:Int)).bind fun v=>rem v 2)=some (if m.testBit i then 1 else 0):=by
 simpa using gQ (gQ akh h) hi
noncomputable def hU (h:List Int) (v:Int):List Int:=if dk h v then cn (bq h v.toNat) else[]
theorem Yo (h:List Int) (v:Int):(hU h v).length<=8:=by
 grind [hU,kO]
theorem aki (h:List Int) (a:Int):yL h a=some (hU h a):=by
 have e:yL h a=th h a:=by unfold yL;rfl
 rw[e]
 unfold th hU
 rw[Yd]
 cases b:dk h a with
 |false=>rfl
 |true=>
  obtain⟨w,rfl,T,c,d⟩:=nR.1 b
  have f:=T.le
  simp only[ac,bo,aq,uk T,cU]
  rw[wrap64 (by omega) (by omega),show(w:Int)-1=((w-1:Nat):Int) by omega,cg (by rw[jK];omega)]
  grind [nT,List.length,qi,fS,Int.toNat_natCast]
theorem akj (h:List Int) (a:Int):Ac h a=some (hU h a):=by
 have e:Ac h a=tW h a:=by unfold Ac;rfl
 rw[e]
 unfold tW hU
 rw[cH,gA]
 simp only[ac]
 cases b:aA h with
 |false=>simp[dk,b]
 |true=>
  simp only[bo,aq]
  cases g:(decide (1<=a)&&decide (a<=((h.length:Nat):Int))) with
  |false=>simp[dk,b,g]
  |true=>
   have c:dk h a=true:=by grind [dk]
   obtain⟨w,rfl,T,d,f⟩:=nR.1 c
   rw[c]
   simp only[bo,aq,nU T d f,ac,Ym (fS T.le w),cU,d8]
def hq (m:Nat):Bool:=(range 8).all fun c=>(range c).all fun b=>(range b).all fun a=> !(m.testBit a&&m.testBit c)||m.testBit b
theorem akk (m:Nat):hq m=true↔ ∀a b c,a<b->b<c->c<8->m.testBit a=true->m.testBit c=true->m.testBit b=true:=by
 grind [hq,List.all_eq_true,Bool.not_eq_true',Bool.and_eq_false_iff,Nat.testBit]
theorem akl:((range 256).all fun m=>GU (m:Int)==some (hq m))=true:=by decide+kernel
theorem Yp {m:Nat} (h:m<256):GU (m:Int)=some (hq m):=by simpa using gQ akl h
theorem akm:((range 255).all fun m=>Jd ((m+1:Nat):Int)==some (hq (m+1)))=true:=by decide+kernel
theorem Yq {m:Nat} (a:0<m) (h:m<256):Jd (m:Int)=some (hq m):=by
 have:=gQ akm (i:=m-1) (by omega)
 grind
def dt (h:List Int):Prop:= ∀k a b c,a<b->b<c->aL h a k->aL h c k->aL h b k
noncomputable def A0 (h:List Int):Bool:= @decide (dt h) (Classical.propDecidable _)
theorem qj {h:List Int}:A0 h=true↔dt h:=by simp[A0]
noncomputable def dm (h:List Int):Bool:=aA h&&A0 h
theorem Yr {h:List Int} (T:Tree h) (k:Nat):hq (bq h k)=true↔ ∀a b c,a<b->b<c->aL h a k->aL h c k->aL h b k:=by
 rw[akk]
 simp only[AZ T,jJ]
 have g:=T.le
 constructor
 ·intro x a b c e f u d
  have i:=T.iM u
  have j:=T.iM d
  have:=x (a-1) (b-1) (c-1) (by omega) (by omega) (by omega) (by simp_all) (by simp_all)
  grind
 grind
theorem Ys {h:List Int} (T:Tree h):A0 h=(range h.length).all fun i=>hq (bq h (i+1)):=by
 rw[e0,qj,bT]
 constructor
 ·intro F i hi
  exact(Yr T (i+1)).2 (F (i+1))
 ·intro x k a b c d e u g
  have f:=T.iM u
  have:=(Yr T (k-1+1)).1 (x (k-1) (by grind))
  grind
theorem A1 (h:List Int):nD h=some (dm h):=by
 have e:nD h=yd h:=by unfold nD;rfl
 rw[e]
 unfold yd GV R6 R5 GW R4 R3 GX dm
 rw[fq]
 cases c:aA h with
 |false=>rfl
 |true=>
  have T:=(bM h).1 c
  have f:=T.le
  simp only[ac,bo,aq,Sum.elim_inl,uk T,jK,d6]
  have g:=mg (body:=fun(s:Int)=>((pJ h.length s (eW h)).map (Sum.elim (fun(t:Int)=>Sum.inl t) (Sum.elim (fun(t:Bool)=>Sum.inr (Sum.inl t)) (fun(t:Unit)=>Sum.inr (Sum.inr t)))):Option ((Int)⊕(Bool⊕Unit))))
   (fun k=>(k:Int)) h.length (fun i=>hq (bq h (i+1))) (fun b=>cond b (.inr ()) (.inl false))
   (by
    intro k a d
    simp only[pJ]
    rw[show decide ((k:Int)<((h.length:Nat):Int))=true from an (by omega),cg (by rw[jK];exact a),wrap64 (by omega) (by omega)]
    grind [nT,Yp,fS])
   (by
    intro k a d
    simp only[pJ]
    rw[show decide ((k:Int)<((h.length:Nat):Int))=true from an (by omega),cg (by rw[jK];exact a),wrap64 (by omega) (by omega)]
    grind [nT,Yp,fS])
   (by
    grind [pJ,Decidable.decide,List.length,decide_eq_false])
  grind [LL,Ys,range,List.length,hq,bq]
theorem qk (h:List Int) (hl:h.length<=1048576):nI h=some (dm h):=by
 have e:nI h=zM h:=by unfold nI;rfl
 rw[e]
 unfold zM Je Vf Ve Jf Vd Vc Jg dm
 rw[cH]
 cases a:aA h with
 |false=>
  have m:ai (fun(s:Int)=>((lY h s).map (Sum.elim (fun(t:Int)=>Sum.inl t) (Sum.elim (fun(t:Bool)=>Sum.inr (Sum.inl t)) (fun(t:Unit)=>Sum.inr (Sum.inr t)))):Option ((Int)⊕(Bool⊕Unit)))) LL 1=some (.inr ()):=by
   refine bH (fun _=>(1:Int)) 0 (Sum.inr ():Bool⊕Unit) (fun k c=>by omega) ?_ LL (by grind [LL])
   grind [lY,cH,Decidable.decide,List.length]
  simp_all
 |true=>
  have T:=(bM h).1 a
  have j:=T.le
  have l:=mg (body:=fun(s:Int)=>((lY h s).map (Sum.elim (fun(t:Int)=>Sum.inl t) (Sum.elim (fun(t:Bool)=>Sum.inr (Sum.inl t)) (fun(t:Unit)=>Sum.inr (Sum.inr t)))):Option ((Int)⊕(Bool⊕Unit))))
   (fun k=>((k+1:Nat):Int)) h.length (fun i=>hq (bq h (i+1))) (fun b=>cond b (.inr ()) (.inl false))
   (by
    intro k c g
    have d:0<bq h (k+1):=by
     have f:(bq h (k+1)).testBit k=true:=by rw[AZ T,jJ];exact .refl (by omega) (by omega)
     grind
    simp only[lY,cH,a]
    rw[show decide (((k+1:Nat):Int)<=((h.length:Nat):Int))=true from an (by omega),wrap64 (by omega) (by omega),nU T (by omega) (by omega)]
    grind [Yq,fS])
   (by
    intro k c g
    have d:0<bq h (k+1):=by
     have f:(bq h (k+1)).testBit k=true:=by rw[AZ T,jJ];exact .refl (by omega) (by omega)
     grind
    simp only[lY,cH,a]
    grind [Decidable.decide,List.length,decide_eq_true,wrap64,nU,Yq,fS])
   (by
    grind [lY,Decidable.decide,List.length,decide_eq_false])
  grind [LL,Ys,range,List.length,hq,bq]
def Yt (o:List Int):Bool:=(range o.length).any fun j=>(range j).any fun i=>o.getD i 0==o.getD j 0
def mj (o:List Int) (m:Int):Bool:=o.all (fun x=>decide (1<=x)&&decide (x<=m))&& !Yt o
def fT (o:List Int) (m:Int):Bool:=decide (1<=m)&&decide (m<=8)&&(((o.length:Nat):Int)==m)&&mj o m
def eH (o:List Int) (m:Int):Prop:=(∀(k:Nat) (c:k<o.length),1<=o[k]/\o[k]<=m)/\ ∀(i j:Nat) (a:i<j) (b:j<o.length),o[i]≠o[j]
theorem ql (o:List Int) (m:Int):mj o m=true↔eH o m:=by
 unfold mj Yt eH
 simp only[aT,bT,cY,gv,List.any_eq_false,fm]
 constructor
 ·rintro⟨a,b⟩
  refine⟨fun k d=>a _ (cT d),fun i j f c e=> ?_⟩
  have:=b j c
  rw[f6] at this
  refine this ⟨i,by grind,?_⟩
  grind
 grind [List.getElem_of_mem,List.any_eq_true,getD,List.getElem?_eq_getElem,List.length]
theorem ul {o:List Int} {m:Int} (h: ¬eH o m):mj o m=false:=by
 grind [mj,absurd,ql]
theorem um {o:List Int} {k:Nat} {x:Int} (a:k<=o.length):x∈o.take k↔ ∃(i:Nat) (hi:i<k),o[i]'(by omega)=x:=by
 constructor
 ·grind [List.getElem_of_mem]
 ·rintro⟨i,hi,e⟩
  have:(o.take k)[i]'(by simp;omega)=x:=by simpa using e
  grind
theorem Yu (o:List Int) (m:Int):xL o m=some (fT o m):=by
 unfold xL Gj Gg Rc Rb Gh Ra Q9 Gi fT
 by_cases y:m<1
 ·grind
 rw[cy y,show decide (1<=m)=true from an (by omega)]
 by_cases z:m>8
 ·grind
 rw[cy z,show decide (m<=8)=true from an (by omega)]
 by_cases q:((o.length:Nat):Int)=m
 ·rw[show(((o.length:Nat):Int) !=m)=false by simp[q],show(((o.length:Nat):Int)==m)=true by simp[q]]
  simp only[aq,ac,Sum.elim_inl,d6]
  have B:=dJ (body:=fun(s:Int×(List Bool))=>((xK m o o.length s.1 s.2).map (Sum.elim (fun(t:Int×(List Bool))=>Sum.inl (t.1,t.2)) (Sum.elim (fun(t:Bool)=>Sum.inr (Sum.inl t)) (fun(t:Unit)=>Sum.inr (Sum.inr t)))):Option ((Int×(List Bool))⊕(Bool⊕Unit))))
   (I:=fun s=> ∃k:Nat,s.1=(k:Int)/\k<=o.length/\s.2.length=9/\(∀a:Nat,a<9->s.2[a]? =some (decide ((a:Int)∈o.take k)))/\eH (o.take k) m) (μ:=fun s=>o.length-s.1.toNat)
   (f:=fun _=>cond (mj o m) (.inr ()) (.inl false))
   (by
    rintro⟨_,seen⟩ ⟨k,rfl,l,v,w,hP⟩
    simp only at v w
    simp only[xK]
    by_cases c:k<o.length
    ·rw[show decide ((k:Int)<((o.length:Nat):Int))=true from an (by omega),cb c,wrap64 (by omega) (by omega)]
     simp only[au,ac]
     by_cases n:o[k]<1
     ·right
      rw[an n,ul (fun b=>by have:=(b.1 k c).1;omega)]
      rfl
     rw[cy n]
     by_cases p:o[k]>m
     ·right
      rw[an p,ul (fun b=>by have:=(b.1 k c).2;omega)]
      rfl
     rw[cy p]
     obtain⟨a,x⟩: ∃a:Nat,o[k]=(a:Int):=⟨o[k].toNat,by omega⟩
     have D:a<9:=by omega
     have A:al o[k] 9=some a:=by grind [cg]
     have C:same seen.length 9=some ():=by simp[same,v]
     simp only[aq,C,A,ac,w a D]
     by_cases d:(a:Int)∈o.take k
     ·right
      rw[an d]
      obtain⟨i,hi,e⟩:=(um l).1 d
      rw[ul (fun b=>b.2 i k hi c (by rw[e,x]))]
      rfl
     ·left
      rw[cy d]
      refine⟨(((k+1:Nat):Int),seen.set a true),by simp,⟨k+1,rfl,c,by grind,fun u E=> ?_,?_⟩,by simp;omega,trivial⟩
      ·grind [List.take_add_one,List.getElem?_eq_getElem,Option.toList_some,List.mem_singleton,List.getElem?_set_ne]
      ·have hl:(o.take (k+1)).length=k+1:=by simp;omega
       refine⟨fun i hi=> ?_,fun i j r g=> ?_⟩
       ·rw[hl] at hi
        rw[e8]
        by_cases e:i=k
        ·grind
        ·have:=hP.1 i (by simp;omega)
         simp_all
       ·rw[hl] at g
        rw[e8,e8]
        by_cases e:j=k
        ·subst e
         simp_all [um]
        ·have:=hP.2 i j r (by simp;omega)
         simp_all
    grind [List.length,List.take_length,Decidable.decide,decide_eq_false,ql])
  rw[B LL (0,replicate 9 false) ⟨0,by simp,by omega,by simp,fun a x=>by grind,⟨fun k l=>by simp at l,fun i j r g=>by simp at g⟩⟩ (by grind [LL])]
  grind
 grind
def gm (o:List Int) (k:Nat):List Int:=(range (o.length+1)).map fun(v:Nat)=>if(v:Int)∈o.take k then(o.idxOf (v:Int):Int)+1 else 0
def fU (o:List Int):List Int:=gm o o.length
theorem nV (o:List Int) (k:Nat):(gm o k).length=o.length+1:=by simp[gm]
theorem un (o:List Int) (k a:Nat) (b:a<o.length+1):(gm o k)[a]? =some (if(a:Int)∈o.take k then(o.idxOf (a:Int):Int)+1 else 0):=by
 simp[gm,b]
theorem Yv {o:List Int} {m:Int} (hP:eH o m) {k:Nat} (b:k<o.length):o.idxOf o[k]=k:=by
 have d:o[k]∈o:=cT b
 have c:o.idxOf o[k]<o.length:=o7.2 d
 have a:o[o.idxOf o[k]]=o[k]:=by simp
 rcases l8 (o.idxOf o[k]) k with h|h|h
 ·exact absurd a (hP.2 _ _ h b)
 ·exact h
 ·exact absurd a.symm (hP.2 _ _ h c)
theorem Yw {o:List Int} (hP:eH o (o.length:Nat)) {k b:Nat} (a:k<o.length) (d:o[k]=(b:Int)):(gm o k).set b ((k+1:Nat):Int)=gm o (k+1):=by
 have e:=hP.1 k a
 apply hB
 intro u
 by_cases c:u<o.length+1
 ·rw[un o (k+1) u c]
  rw[kn,bh a,d]
  simp only[Option.toList_some,jb,uY]
  grind [List.getElem?_set_self,nV,idxOf,Yv,List.getElem?_set_ne,un]
 grind [List.getElem?_eq_none,List.length_set,nV]
theorem Yx (o:List Int):gm o 0=replicate (o.length+1) 0:=by
 apply hB
 grind [List.length,un,List.getElem?_eq_none,nV]
theorem akn (o:List Int) (hl:o.length<=8) (hP:eH o (o.length:Nat)):
  ai (fun(s:Int×(List Int))=>((tn o o.length s.1 s.2).map (Sum.elim (fun(t:Int×(List Int))=>Sum.inl (t.1,t.2)) (fun(t:(List Int))=>Sum.inr t)):Option ((Int×(List Int))⊕(((List Int)))))) LL (0,replicate (o.length+1) 0)=some (fU o):=by
 have d:=dJ (body:=fun(s:Int×(List Int))=>((tn o o.length s.1 s.2).map (Sum.elim (fun(t:Int×(List Int))=>Sum.inl (t.1,t.2)) (fun(t:(List Int))=>Sum.inr t)):Option ((Int×(List Int))⊕(((List Int))))))
  (I:=fun s=> ∃k:Nat,s=((k:Int),gm o k)/\k<=o.length) (μ:=fun s=>o.length-s.1.toNat) (f:=fun _=>fU o)
  (by
   rintro _ ⟨k,rfl,c⟩
   simp only[tn]
   by_cases a:k<o.length
   ·left
    have g:=hP.1 k a
    obtain⟨b,i⟩: ∃b:Nat,o[k]=(b:Int):=⟨o[k].toNat,by omega⟩
    refine⟨(((k+1:Nat):Int),gm o (k+1)),?_,⟨k+1,rfl,a⟩,by simp;omega,trivial⟩
    rw[show decide ((k:Int)<((o.length:Nat):Int))=true from an (by omega),cb a,wrap64 (by omega) (by omega)]
    grind [al,gm,nV,cg,Yw]
   ·right
    have e:k=o.length:=by omega
    subst e
    rw[show decide (((o.length:Nat):Int)<((o.length:Nat):Int))=false from cy (by omega)]
    rfl)
 grind [LL,gm,Yx]
theorem ako (o:List Int) (hl:o.length<=8) (hP:eH o (o.length:Nat)):HE o=some (fU o):=by
 unfold HE HD HA S8 S7 HB S6 S5 HC
 rw[wrap64 (by omega) (by omega),show((o.length:Nat):Int)+1=((o.length+1:Nat):Int) by omega,hn (by omega)]
 grind [akn]
def kQ (h o:List Int) (k:Nat):Int:=(fU o).getD (h.getD (o.getD k 0-1).toNat 0).toNat 0
def putRow (h o:List Int):List Int:=(range o.length).map (kQ h o)
theorem uo (h o:List Int):(putRow h o).length=o.length:=by simp[putRow]
theorem Yy (h o:List Int) {k:Nat} (a:k<o.length):(putRow h o).drop k=kQ h o k::(putRow h o).drop (k+1):=by
 grind [List.drop_eq_getElem_cons,uo,putRow]
theorem KT {h o:List Int} (T:Tree h) (hl:o.length=h.length) (hP:eH o (o.length:Nat)) {k:Nat} (c:k<o.length):
  ∃w x:Nat,o[k]=((w+1:Nat):Int)/\w<h.length/\h[w]? =some (x:Int)/\x<o.length+1/\(fU o)[x]? =some (kQ h o k):=by
 have f:=hP.1 k c
 refine⟨o[k].toNat-1,(h[o[k].toNat-1]'(by omega)).toNat,by omega,by omega,?_,?_,?_⟩
 ·have:=jH T.aQ (k:=o[k].toNat-1) (by omega)
  grind
 ·have:=jH T.aQ (k:=o[k].toNat-1) (by omega);omega
 ·have e:=jH T.aQ (k:=o[k].toNat-1) (by omega)
  have d:(h[o[k].toNat-1]'(by omega)).toNat<(fU o).length:=by rw[fU,nV];omega
  rw[bh d]
  have a:o.getD k 0=o[k]:=by grind
  have b:h.getD (o[k]-1).toNat 0=h[o[k].toNat-1]'(by omega):=by
   rw[show(o[k]-1).toNat=o[k].toNat-1 by omega]
   grind
  simp only[kQ,a,b]
  simp_all
theorem Yz (h o:List Int):yU h o=some (if aA h&&fT o h.length then(true,putRow h o) else(false,[])):=by
 unfold yU yT
 rw[fq,Yu]
 cases e:aA h with
 |false=>simp
 |true=>
  cases a:fT o h.length with
  |false=>simp
  |true=>
   have T:=(bM h).1 e
   unfold fT at a
   simp only[aT,cY,ce] at a
   obtain⟨⟨_,r⟩,m⟩:=a
   have hl:o.length=h.length:=by omega
   have q:=T.le
   have hP:eH o (o.length:Nat):=by grind [ql]
   simp only[ac,bo,aq,ako o (by omega) hP,f7,cU]
   unfold Td HJ HG Tc Tb HH Ta S9 HI
   rw[hn (by omega)]
   simp only[ac]
   have g:=dJ (body:=fun(s:Int×(List Int))=>((yS h o o.length s.1 (fU o) s.2).map (Sum.elim (fun(t:Int×(List Int))=>Sum.inl (t.1,t.2)) (fun(t:(List Int))=>Sum.inr t)):Option ((Int×(List Int))⊕(((List Int))))))
    (I:=fun s=> ∃k:Nat,s.1=(k:Int)/\k<=o.length/\s.2.length=o.length) (μ:=fun s=>o.length-s.1.toNat) (f:=fun s=>s.2.take s.1.toNat++(putRow h o).drop s.1.toNat)
    (by
     rintro⟨_,out⟩ ⟨k,rfl,p,i⟩
     simp only at i
     simp only[yS]
     by_cases b:k<o.length
     ·left
      obtain⟨w,x,c,u,d,j,l⟩:=KT T hl hP b
      refine⟨(((k+1:Nat):Int),out.set k (kQ h o k)),?_,⟨k+1,rfl,b,by grind⟩,by simp;omega,?_⟩
      ·rw[show decide ((k:Int)<((o.length:Nat):Int))=true from an (by omega),cb b]
       simp only[au,ac]
       rw[c,wrap64 (x:=((w+1:Nat):Int)-1) (by omega) (by omega),show((w+1:Nat):Int)-1=(w:Int) by omega,fp,d,wrap64 (by omega) (by omega)]
       have n:HF (x:Int) (fU o)=some (kQ h o k):=by
        grind [HF,yR,cg,fU,nV]
       grind [cg]
      grind [Int.toNat_natCast,X9,Yy]
     grind [List.length,Decidable.decide,decide_eq_false,List.take_of_length_le,Nat.le_of_eq,List.drop_of_length_le,uo])
   rw[g LL (0,replicate o.length 0) ⟨0,by simp,by omega,by simp⟩ (by grind [LL])]
   simp
theorem A2 (o:List Int) (m:Int):eH o m↔(∀x∈o,1<=x/\x<=m)/\o.Nodup:=by
 grind [eH,Nodup,List.pairwise_iff_getElem,List.getElem_of_mem,List.getElem_mem]
theorem A3 (o:List Int) (m:Int):fT o m=true↔1<=m/\m<=8/\(o.length:Int)=m/\eH o m:=by
 grind [fT,ql]
def pl (o:List Int) (v:Nat):Nat:=((fU o).getD v 0).toNat
theorem KU {o:List Int} {a:Nat} (b:a<=o.length):pl o a=if(a:Int)∈o then o.idxOf (a:Int)+1 else 0:=by
 grind [pl,fU,un,List.take_length]
theorem akp {o:List Int} {a:Nat} (b:a<=o.length):(fU o)[a]? =some ((pl o a:Nat):Int):=by
 grind [KU,fU,un,List.take_length]
section
variable {o : List Int} (hP : eH o (o.length : Nat))
include hP
theorem akq:pl o 0=0:=by
 rw[KU (by omega),aG]
 intro b
 obtain⟨k,a,e⟩:=lj b
 have:=hP.1 k a
 omega
theorem akr {k:Nat} (a:k<o.length):pl o o[k].toNat=k+1:=by
 have:=hP.1 k a
 grind [KU,List.getElem_mem,Yv]
end
section
variable {h o : List Int} (T : Tree h) (hl : o.length = h.length) (hP : eH o (o.length : Nat))
include T hl hP
theorem aks {k:Nat} (b:k<o.length):(putRow h o)[k]? =some ((pl o (hd h o[k].toNat):Nat):Int):=by
 obtain⟨w,x,e,g,c,i,d⟩:=KT T hl hP b
 have a:=T.get (w:=w+1) (by omega) (by omega)
 rw[e6,c] at a
 have f:(x:Int)=((hd h (w+1):Nat):Int):=ga a
 have j:x=hd h (w+1):=by omega
 rw[akp (by omega)] at d
 have:(putRow h o)[k]? =some (kQ h o k):=by simp[putRow,b]
 simp_all
end
def gn (n:Nat):List Int:=(range n).map fun(k:Nat)=>(n:Int)-(k:Int)
theorem iP (n:Nat):(gn n).length=n:=by simp[gn]
theorem uq (n:Nat) {k:Nat} (a:k<n):(gn n)[k]'(by rw[iP];exact a)=((n-k:Nat):Int):=by simp[gn];omega
theorem apA (n:Nat) {k:Nat} (a:k<n):(gn n)[k]? =some ((n-k:Nat):Int):=by
 grind [List.getElem?_eq_getElem,iP,uq]
theorem A4 (n:Nat):eH (gn n) ((gn n).length:Nat):=by
 refine⟨fun k c=> ?_,fun i j a b e=> ?_⟩
 all_goals grind [iP,uq]
theorem akt {n:Nat} (a:1<=n) (b:n<=8):fT (gn n) (n:Int)=true:=by
 grind [A3,A4,iP]
theorem aku {n a:Nat} (b:1<=a) (c:a<=n):pl (gn n) a=n+1-a:=by
 have:=akr (A4 n) (k:=n-a) (by rw[iP];omega)
 grind [uq,Int.toNat_natCast]
def ml (h:List Int):List Int:=putRow h (gn h.length)
theorem akv (h:List Int):(ml h).length=h.length:=by rw[ml,uo,iP]
def qm (h:List Int):List Int:=if aA h then ml h else[]
theorem akw (n:Nat) (f:n<=8):yQ (n:Int)=some (gn n):=by
 have e:yQ (n:Int)=yP (n:Int):=by unfold yQ;rfl
 rw[e]
 unfold yP Hw S4 S3 Hy S2 S1 Hz
 rw[hn (by omega)]
 have d:=bH (body:=fun(s:Int×(List Int))=>((tm n n s.1 s.2).map (Sum.elim (fun(t:Int×(List Int))=>Sum.inl (t.1,t.2)) (fun(t:(List Int))=>Sum.inr t)):Option ((Int×(List Int))⊕(((List Int))))))
  (fun k=>((k:Int),(gn n).take k++replicate (n-k) 0)) n (gn n)
  (by
   intro k a
   simp only[tm]
   have hl:((gn n).take k++replicate (n-k) (0:Int)).length=n:=by simp[iP];omega
   rw[show decide ((k:Int)<(n:Int))=true from an (by omega),cg (by omega),wrap64 (x:=(k:Int)+1) (by omega) (by omega),wrap64 (x:=(n:Int)-(k:Int)) (by omega) (by omega)]
   simp only[au,ac,bn,Sum.elim_inl,eB,Sum.inl.injEq,gI]
   refine⟨by omega,?_⟩
   have c:k<(gn n).length:=by rw[iP];exact a
   rw[kn,bh c,uq n a,q9 _ _ (by grind)]
   have b:k-((gn n).take k).length=0:=by grind
   rw[b,show n-k=(n-(k+1))+1 by omega,l9,m0,pf]
   grind)
  (by
   grind [tm,Decidable.decide,decide_eq_false,List.take_of_length_le,Nat.le_of_eq,iP])
 have hl:=d LL (by grind [LL])
 simp_all
theorem akx (h:List Int):yV h=some (qm h):=by
 have e:yV h=to h:=by unfold yV;rfl
 rw[e]
 unfold to qm
 rw[fq]
 cases a:aA h with
 |false=>rfl
 |true=>
  have T:=(bM h).1 a
  simp only[ac,bo,aq,akw h.length T.le,Yz,a,akt T.pos T.le,f7,cU]
  rfl
theorem aky {h:List Int} (T:Tree h) {k:Nat} (a:k<h.length):(ml h)[k]? =some (if hd h (h.length-k)=0 then 0 else((h.length+1-hd h (h.length-k):Nat):Int)):=by
 have b:=aks T (iP h.length) (A4 h.length) (k:=k) (by rw[iP];exact a)
 unfold ml
 rw[b,uq _ a,d8]
 grind [hd,List.length,akq,A4,Tree.cW,aku]
theorem akz (h:List Int):ps h=some (qm h):=by
 have e:ps h=wQ h:=by unfold ps;rfl
 rw[e]
 unfold wQ Ex Pn Pm Ey Pl Pk Ez qm
 cases a:aA h with
 |false=>
  have l: ∀s:Int,ai (fun(s:Int×(List Int))=>((nx h h.length s.1 s.2).map (Sum.elim (fun(t:Int×(List Int))=>Sum.inl (t.1,t.2)) (fun(t:(List Int))=>Sum.inr t)):Option ((Int×(List Int))⊕(((List Int)))))) LL (s,[])=some []:=fun s=>by
   refine bH (fun _=>(s,([]:List Int))) 0 [] (fun k b=>by omega) ?_ LL (by grind [LL])
   grind [nx,cH,Decidable.decide]
  simp_all
 |true=>
  have T:=(bM h).1 a
  have g:=T.le
  have i:=akv h
  have j:=bH (body:=fun(s:Int×(List Int))=>((nx h h.length s.1 s.2).map (Sum.elim (fun(t:Int×(List Int))=>Sum.inl (t.1,t.2)) (fun(t:(List Int))=>Sum.inr t)):Option ((Int×(List Int))⊕(((List Int))))))
   (fun k=>((h.length:Int)-1-(k:Int),(ml h).take k)) h.length (ml h)
   (by
    intro k b
    have c:=aky T b
    have d:=T.get (w:=h.length-k) (by omega) (by omega)
    have f:=T.cW (w:=h.length-k) (by omega) (by omega)
    have hi:idx h ((h.length:Int)-1-(k:Int))=some ((hd h (h.length-k):Nat):Int):=by
     grind [List.length,fp]
    simp only[nx,cH,a,hi]
    rw[show decide ((h.length:Int)-1-(k:Int)>=0)=true from an (by omega)]
    simp only[au,ac]
    rw[kn,c,wrap64 (x:=(h.length:Int)-1-(k:Int)-1) (by omega) (by omega),wrap64 (x:=(h.length:Int)+1) (by omega) (by omega),wrap64 (by omega) (by omega)]
    have m:((ml h).take k).length<=8:=by simp;omega
    by_cases e:hd h (h.length-k)=0
    ·grind [room_le,Option.toList_some,Option.some.injEq,Sum.inl.injEq,Prod.mk.injEq]
    ·rw[aG e,show(((hd h (h.length-k):Nat):Int)==0)=false from d5.2 (by omega)]
     grind [room_le,Option.toList_some,Option.some.injEq,Sum.inl.injEq,Prod.mk.injEq])
   (by
    grind [nx,Decidable.decide,List.length,decide_eq_false,List.take_of_length_le,Nat.le_of_eq])
  grind [LL,wrap64,List.length]
def bD (a b j:Nat):Prop:=(a<j/\j<b)\/(b<j/\j<a)
def iQ (a b j:Nat):Prop:=(j<a/\j<b)\/(a<j/\b<j)
def nW (h:List Int) (w v:Nat):Prop:=
 (bD w (hd h w) v/\iQ w (hd h w) (hd h v))\/(bD w (hd h w) (hd h v)/\iQ w (hd h w) v)
structure A5 (h:List Int) (M:Nat->Prop) (r:Nat):Prop where
 own:M r
 ue: ∀w,M w->aL h w r
 up: ∀w,M w->w≠r->M (hd h w)
theorem A5.YA {h:List Int} (T:Tree h) {b:Nat->Prop} {r:Nat} (C:A5 h b r) {x:Nat} (k: ¬b x): ∀a,b a->bD a r x-> ∃w,b w/\w≠r/\bD w (hd h w) x:=by
 intro a c
 have u:=C.ue a c
 induction u with
 |refl=>grind [bD]
 | @step a r d f g u l=>
  intro i
  by_cases e:a=r
  ·grind [bD]
  ·have j:=C.up a c e
   grind [bD,hd]
theorem A5.hV {h:List Int} (T:Tree h) {c:Nat->Prop} {r:Nat} (C:A5 h c r) {a b x:Nat} (i:c a) (j:c b) (d: ¬c x) (f:a<x) (g:x<b): ∃w,c w/\w≠r/\bD w (hd h w) x:=by
 have l:x≠r:=fun e=>d (e▸C.own)
 by_cases k:x<r
 ·exact C.YA T d a i (.inl ⟨f,k⟩)
 ·exact C.YA T d b j (.inr ⟨by omega,g⟩)
def YB (h:List Int):Prop:= ∀w j,1<=w->w<=h.length->hd h w≠0->((w<j/\j<hd h w)\/(hd h w<j/\j<w))->aL h j (hd h w)
theorem qn {h:List Int} (T:Tree h):dt h↔YB h:=by
 constructor
 ·intro F w j d f g n
  have i:=T.cW d f
  have u:=T.iN d f g
  have r:aL h (hd h w) (hd h w):= .refl (by omega) i
  rcases n with⟨a,b⟩|⟨a,b⟩
  ·exact F (hd h w) w j (hd h w) a b u r
  ·exact F (hd h w) (hd h w) j w a b r u
 ·intro m
  have l: ∀k a,aL h a k-> ∀b,bD a k b->aL h b k:=by
   intro k a u
   induction u with
   |refl d f=>grind [bD]
   | @step a k d f g u t=>
    intro b s
    have i:=T.cW d f
    by_cases e:b=hd h a
    ·grind
    ·by_cases p:(a<b/\b<hd h a)\/(hd h a<b/\b<a)
     ·exact T.KQ (m a b d f g p) u
     grind [bD]
  intro k a b c d f u q
  by_cases e:b=k
  ·have r:=T.iM u
   rw[e];exact .refl r.2.1 r.2.2
  ·rcases CB b k with h|h
   ·exact l k a u b (.inl ⟨d,h⟩)
   ·exact l k c q b (.inr ⟨by omega,f⟩)
def YC (h:List Int):Prop:=
 (∀w,1<=w->w<=h.length->hd h w≠0-> ¬bD w (hd h w) (top h))/\ ∀w v,1<=w->w<=h.length->hd h w≠0->1<=v->v<=h.length->hd h v≠0-> ¬nW h w v
theorem akA {h:List Int} (T:Tree h):YB h↔YC h:=by
 constructor
 ·intro g
  refine⟨fun w b c e d=> ?_,fun w a b c e v1 v2 f m=> ?_⟩
  ·have u:=g w (top h) b c e d
   grind [Tree.AY,bD]
  ·have r:=T.cW b c
   have q:=T.cW v1 v2
   have A:aL h (hd h a) (hd h w):=by
    rcases m with⟨d,n⟩|⟨d,n⟩
    ·have u:=g w a b c e d
     grind [Tree.mh,bD]
    ·exact g w (hd h a) b c e d
   have B:aL h (hd h w) (hd h a):=by
    have p:(bD a (hd h a) w)\/(bD a (hd h a) (hd h w)):=by
     grind [nW,bD,iQ]
    rcases p with d|d
    ·have u:=g a w v1 v2 f d
     grind [Tree.mh,bD]
    ·exact g a (hd h w) v1 v2 f d
   grind [Tree.kP,nW,bD,iQ]
 ·rintro⟨k,l⟩ w j b c e i
  have r:=T.cW b c
  have t:1<=j:=by omega
  have v:j<=h.length:=by omega
  revert i
  refine T.Yh (P:=fun j=>(w<j/\j<hd h w)\/(hd h w<j/\j<w)->aL h j (hd h w)) (fun i=>absurd i (k w b c e)) (fun a v1 v2 f s i=> ?_) j t v
  have q:=T.cW v1 v2
  have z:=l w a b c e v1 v2 f
  by_cases x:hd h a=hd h w
  ·grind [Tree.iN]
  ·by_cases y:hd h a=w
   ·refine .step v1 v2 f ?_
    grind [Tree.iN]
   ·refine .step v1 v2 f (s ?_)
    grind [nW,bD,iQ]
theorem YD {α:Type} {R:α->α->Prop} (d: ∀x b,R x b->R b x) (c: ∀x,R x x): ∀l:List α,l.Pairwise R↔ ∀x∈l,∀b∈l,R x b
 |[]=>by simp
 |a::r=>by
  rw[d7,YD d c r]
  simp_all
theorem YE {h:List Int} (T:Tree h):nQ h=0↔ ∀w c,1<=w->w<=h.length->hd h w≠0->1<=c->c<=h.length->hd h c≠0-> ¬nW h w c:=by
 have one: ∀w c,hd h w≠w->hd h c≠c->(ci (bX (w:Int) ((hd h w:Nat):Int),imax (w:Int) ((hd h w:Nat):Int)) (bX (c:Int) ((hd h c:Nat):Int),imax (c:Int) ((hd h c:Nat):Int))=true↔nW h w c):=by
  intro w c d f
  unfold ci jF nW bD iQ
  rw[cY]
  have g:=AQ (a:=(w:Int)) (b:=((hd h w:Nat):Int)) (by omega)
  have i:=AQ (a:=(c:Int)) (b:=((hd h c:Nat):Int)) (by omega)
  grind [bX,imax]
 unfold nQ
 rw[Yc,YD (fun x j e=>by rw[ajP];exact e) (fun x=>by grind [ci,jF,decide_eq_false_iff_not])]
 grind [AS,Tree.nP,ci,bX,hd,imax,absurd]
theorem akB {h:List Int} (T:Tree h):dt h↔nQ h=0/\AT h ((top h:Nat):Int)=false:=by
 rw[qn T,akA T,YE T]
 grind [YC,AT,top,ajV,absurd,bD]
theorem gp {h:List Int} {s:Nat} (a:1<=s) (b:s<=h.length) (g w:Nat) (c:1<=w):hd (h.set (s-1) (g:Int)) w=if w=s then g else hd h w:=by
 grind [hd,getD,List.length]
theorem qo {h:List Int} {s g:Nat} (j:1<=s) (k:s<=h.length) (z:hd h s=0) {a b:Nat} (u:aL h a b):aL (h.set (s-1) (g:Int)) a b:=by
 induction u with
 |refl c d=>exact .refl c (by grind)
 |step c d f u i=>
  rename_i a b
  have ne:a≠s:=fun e=>f (by grind)
  refine .step c (by grind) ?_ ?_
  all_goals grind [gp]
theorem kR {h:List Int} {a b c:Nat} (u:aL h a b) (f:aL h b c):aL h a c:=by
 induction u with
 |refl d e=>exact f
 |step d e g u i=>exact .step d e g (i f)
structure ew (n i:Nat) (st:List Nat) (h:List Int):Prop where
 len:h.length=n
 lo:1<=i
 hi:i<=n+1
 ne:st=[]->i=1
 dec:st.Pairwise (· > ·)
 aQ: ∀s∈st,1<=s/\s<i/\hd h s=0
 num: ∀x∈h,0<=x/\x<=(n:Int)
 kS: ∃(m:Nat) (ρ:Nat->Nat),m+st.length+1=i/\ ∀w,1<=w->w<i->w∉st->ρ w<m/\1<=hd h w/\hd h w<i/\(hd h w∈st\/ρ w<ρ (hd h w))
 iR: ∀j,1<=j->j<i-> ∃s∈st,aL h j s/\ ∀t∈st,¬bD j s t
 below: ∀w j,1<=w->w<i->hd h w≠0->bD w (hd h w) j->aL h j (hd h w)
theorem ew.start (n:Nat):ew n 1 [] (replicate n 0) where
 len:=by simp
 lo:=by omega
 hi:=by omega
 ne:=fun _=>rfl
 dec:= .nil
 aQ:=fun s c=>by cases c
 num:=fun x d=>by
  simp_all
 kS:=⟨0,fun _=>0,rfl,fun w a b=>by omega⟩
 iR:=fun j a b=>by omega
 below:=fun w j a b=>by omega
theorem ew.shift {n i:Nat} {st:List Nat} {h:List Int} (a:ew n i st h) (hi:i<=n) (z:hd h i=0):ew n (i+1) (i::st) h where
 len:=a.len
 lo:=by omega
 hi:=by omega
 ne:=fun e=>by cases e
 dec:= .cons (fun s c=>(a.aQ s c).2.1) a.dec
 aQ:=fun s c=>by
  rcases ej.mp c with e|e
  ·subst e
   exact⟨a.lo,by omega,z⟩
  ·have:=a.aQ s e
   omega
 num:=a.num
 kS:=by
  obtain⟨m,l,e,r⟩:=a.kS
  refine⟨m,l,by grind,?_⟩
  grind
 iR:=fun j d g=>by
  by_cases e:j=i
  ·subst e
   refine⟨j,bk ..,.refl d (by rw[a.len];exact hi),?_⟩
   grind [bD]
  ·obtain⟨s,c,u,q⟩:=a.iR j d (by omega)
   refine⟨s,bB _ c,u,?_⟩
   intro t k b
   rcases ej.mp k with f|f
   ·subst f
    have:=(a.aQ s c).2.1
    grind [bD]
   simp_all
 below:=fun w j d g p b=>by
  grind [ew.below]
theorem ew.hV {n i s t:Nat} {k:List Nat} {h:List Int} (f:ew n i (s::t::k) h) {a g:Nat} (c:(a=t/\g=s)\/(a=s/\g=t)):
  ew n i (g::k) (h.set (a-1) (g:Int)):=by
 have ms:s∈s::t::k:=bk ..
 have mt:t∈s::t::k:=bB _ (bk ..)
 have R: ∀{x},x∈k->x∈s::t::k:=fun x=>bB _ (bB _ x)
 have d:=f.dec
 rw[d7] at d
 obtain⟨z,d⟩:=d
 rw[d7] at d
 obtain⟨A,B⟩:=d
 have lt:t<s:=z t (bk ..)
 have S:=f.aQ s ms
 have U:=f.aQ t mt
 have hl:=f.len
 have hi:=f.hi
 have G:a∈s::t::k:=by grind
 have H:g∈s::t::k:=by grind
 have J:=f.aQ a G
 have K:=f.aQ g H
 have O:a≠g:=by omega
 have l:1<=a/\a<=h.length:=by omega
 have D (w:Nat) (L:1<=w):=gp l.1 l.2 g w L
 have mono {x y:Nat} (u:aL h x y):aL (h.set (a-1) (g:Int)) x y:=qo l.1 l.2 J.2.2 u
 have F:(h.set (a-1) (g:Int)).length=n:=by simp[hl]
 have V:aL (h.set (a-1) (g:Int)) a g:=by
  have e:hd (h.set (a-1) (g:Int)) a=g:=by simp_all
  refine .step l.1 (by omega) (by omega) ?_
  rw[e]
  exact .refl K.1 (by omega)
 have Q: ∀x∈k,x<t:=A
 have split: ∀x,x∈s::t::k->x=a\/x=g\/x∈k:=by
  grind
 refine⟨F,f.lo,f.hi,(fun e=>by cases e),?_,?_,?_,?_,?_,?_⟩
 ·refine .cons ?_ B
  grind
 ·intro x p
  have E:x∈s::t::k:=by
   grind
  have r:=f.aQ x E
  grind
 ·intro x p
  rcases o8 p with e|e
  ·exact f.num x e
  omega
 ·obtain⟨m,N,e,r⟩:=f.kS
  refine⟨m+1,fun w=>if w=a then m else N w,by grind,?_⟩
  grind
 ·intro j q v
  obtain⟨x,p,u,I⟩:=f.iR j q v
  grind [List.mem_cons_self,kR,bD,List.mem_cons_of_mem]
 ·intro w j q v C b
  rw[D w q] at C b⊢
  by_cases M:w=a
  ·subst M
   simp only[aB] at b⊢
   have P:t<j/\j<s:=by
    grind [bD]
   obtain⟨x,p,u,I⟩:=f.iR j (by omega) (by omega)
   grind [kR,bD]
  grind [ew.below]
theorem akC {l:List Int} (a: ∀i:Nat,l[i]? ≠some (0:Int)):l.count 0=0:=by
 rw[List.count_eq_zero]
 intro m
 obtain⟨i,hi,e⟩:=lj m
 exact a i (by simp_all)
theorem KV: ∀{l:List Int} {r:Nat},l[r]? =some (0:Int)->(∀i:Nat,l[i]? =some (0:Int)->i=r)->l.count 0=1
 |[],r,h,_=>by simp at h
 |x::xs,0,h,u=>by
  have e:x=0:=by simpa using h
  subst e
  rw[List.count_cons_self,akC]
  intro i hi
  have:=u (i+1) (by grind)
  omega
 |x::xs,r+1,h,u=>by
  have ne:x≠0:=by
   intro e
   have:=u 0 (by simp[e])
   omega
  rw[List.count_cons_of_ne ne]
  refine KV (r:=r) (by simpa using h) ?_
  intro i hi
  have:=u (i+1) (by grind)
  omega
theorem ew.get {n i:Nat} {st:List Nat} {h:List Int} (a:ew n i st h) {w:Nat} (b:1<=w) (c:w<=n):h[w-1]? =some ((hd h w:Nat):Int):=by
 have hl:=a.len
 have lt:w-1<h.length:=by omega
 have:=a.num _ (cT lt)
 grind [List.getElem?_eq_getElem,hd]
theorem ew.tree {n r:Nat} {h:List Int} (a:ew n (n+1) [r] h) (C:n<=8):Tree h/\dt h/\top h=r:=by
 have hl:=a.len
 have s:=a.aQ r (bk ..)
 obtain⟨m,l,e,k⟩:=a.kS
 simp only[ck,jh] at e
 have u: ∀w,1<=w->w<=n->w≠r->l w<m/\1<=hd h w/\hd h w<=n/\(hd h w=r\/l w<l (hd h w)):=by
  grind
 have ue: ∀f w,1<=w->w<=n->(w=r\/m-l w<=f)->(bg h (f+1) w).isSome=true:=by
  intro f
  induction f with
  |zero=>
   grind [bg,ew.get]
  |succ f B=>
   intro w d p c
   unfold bg
   rw[a.get d p]
   by_cases q:w=r
   ·simp_all
   ·obtain⟨x,y,z,A⟩:=u w d p q
    have c:=c.resolve_left q
    simp only
    rw[aG (by omega),Option.isSome_map]
    grind [hd]
 have T:Tree h:=by
  refine⟨by omega,by omega,?_,?_,?_⟩
  ·grind [fQ,List.all_eq_true,ew.num,dX,decide_eq_true]
  ·refine KV (r:=r-1) (by grind [ew.get]) ?_
   intro i hi
   have lt:i<n:=by
    grind
   have g:=a.get (w:=i+1) (by omega) (by omega)
   grind
  grind
 have t:top h=r:=((T.eG s.1 (by omega)).mp s.2.2).symm
 refine⟨T,?_,t⟩
 rw[qn T]
 intro w j d p v b
 exact a.below w j d (by omega) v b
def gR (i:Nat) (st:List Nat) (w:Nat):Prop:=w∈st\/i<=w
def du (H:List Int) (i:Nat) (st:List Nat) (w:Nat):Prop:= ∀c,1<=c->c<=H.length->gR i st c->hd H c≠w
def ur (H:List Int) (i:Nat) (st:List Nat) (y x:Nat):Prop:= ¬(hd H x=y/\du H i st x)/\ ¬(hd H y=x/\du H i st y)
structure gq (H:List Int) (i:Nat) (st:List Nat) (h:List Int):Prop where
 base:ew H.length i st h
 agree: ∀w,1<=w->w<i->w∉st->hd h w=hd H w
 hs: ∀w,1<=w->w<=H.length->gR i st w->hd H w≠0->gR i st (hd H w)
 block: ∀p y x q,st=p++y::x::q->p≠ []->ur H i st y x
theorem gq.start (a:List Int) (T:Tree a):gq a 1 [] (replicate a.length 0) where
 base:=ew.start _
 agree:=fun w b c=>by omega
 hs:=fun w b c f d=> .inr (Nat.pos_of_ne_zero d)
 block:=fun p i x g e=>by
  simp_all
theorem KW {i:Nat} {st:List Nat} {w:Nat}:gR (i+1) (i::st) w↔gR i st w:=by
 grind [gR]
theorem akD {H:List Int} {i:Nat} {st:List Nat} {w:Nat}:du H (i+1) (i::st) w↔du H i st w:=by
 grind [du,KW]
theorem gq.shift {a:List Int} {i:Nat} {st:List Nat} {h:List Int} (d:gq a i st h) (hi:i<=a.length) (z:hd h i=0)
  (b: ∀c x k,st=c::x::k->ur a i st c x):gq a (i+1) (i::st) h where
 base:=d.base.shift hi z
 agree:=fun w f g j=>by
  grind [List.mem_cons_self,gq.agree,List.mem_cons_of_mem]
 hs:=fun w f g j l=>KW.mpr (d.hs w f g (KW.mp j) l)
 block:=fun p c x k e m=>by
  have s:ur a i st c x:=by
   cases p<;>grind [absurd,List.cons.injEq,gq.block]
  grind [ur,akD]
theorem gq.hV {j:List Int} {i s t:Nat} {f:List Nat} {h:List Int} (n:gq j i (s::t::f) h) {a g:Nat} (c:(a=t/\g=s)\/(a=s/\g=t))
  (M:hd j a=g) (H:du j i (s::t::f) a):gq j i (g::f) (h.set (a-1) (g:Int)):=by
 have m:=n.base
 have d:=m.dec
 rw[d7] at d
 obtain⟨E,d⟩:=d
 rw[d7] at d
 obtain⟨K,L⟩:=d
 have lt:t<s:=E t (bk ..)
 have S:=m.aQ s (bk ..)
 have U:=m.aQ t (bB _ (bk ..))
 have hl:=m.len
 have hi:=m.hi
 have R:1<=a/\a<i:=by omega
 have P: ∀x,x∈s::t::f↔x=a\/x∈g::f:=by
  grind
 have Q:a∉g::f:=by
  grind
 have y: ∀w,gR i (g::f) w↔gR i (s::t::f) w/\w≠a:=by
  grind [gR,absurd]
 refine⟨m.hV c,?_,?_,?_⟩
 ·grind [gp,gq.agree]
 ·intro w u v r G
  rw[y] at r⊢
  exact⟨n.hs w u v r.1 G,H w u v r.1⟩
 ·intro p A x I e N
  cases p with
  |nil=>simp_all
  |cons J p=>
   rw[e7,lE] at e
   have b:=n.block (s::t::p) A x I (by rw[e.2];rfl) (by simp)
   have up: ∀z,z∈f->du j i (g::f) z->du j i (s::t::f) z:=by
    intro z O l q B C D
    by_cases F:q=a
    ·grind
    ·exact l q B C ((y q).mpr ⟨D,F⟩)
   refine⟨fun k=>b.1 ⟨k.1,up x (by grind) k.2⟩,fun k=>b.2 ⟨k.1,up A (by grind) k.2⟩⟩
theorem YF (c:List Int): ∀(st:List Nat),st≠ []-> ∃x∈st,∀d∈st,dep c d<=dep c x
 |[],h=>absurd rfl h
 |[a],_=>⟨a,bk ..,fun d f=>by simp_all⟩
 |a::b::l,_=>by
  obtain⟨x,e,m⟩:=YF c (b::l) (by simp)
  grind
theorem akE {st:List Nat} (d:st.Pairwise (· > ·)) {g x:Nat} (a:g∈st) (b:x∈st) (lt:x<g): ∃p c f,st=p++g::c::f/\x<=c/\c<g:=by
 obtain⟨p,r,rfl⟩:=List.append_of_mem a
 rw[j3] at d
 obtain⟨_,i,j⟩:=d
 rcases jb.mp b with e|e
 ·grind
 ·rcases ej.mp e with e|e
  ·omega
  ·cases r<;>grind [List.pairwise_cons,List.mem_cons_self]
theorem akF {st:List Nat} (d:st.Pairwise (· > ·)) {g x:Nat} (a:g∈st) (l:x∈st) (lt:g<x): ∃p c b,st=p++c::g::b/\c<=x/\g<c:=by
 obtain⟨p,r,rfl⟩:=List.append_of_mem a
 rw[j3] at d
 obtain⟨f,i,j⟩:=d
 have k:x∈p:=by
  grind [List.pairwise_cons]
 rcases List.eq_nil_or_concat p with e|⟨m,c,e⟩
 all_goals grind
theorem gq.move {a:List Int} (T:Tree a) (F:dt a) {s t:Nat} {b:List Nat} {h:List Int} (k:gq a (a.length+1) (s::t::b) h):
  (hd a t=s/\du a (a.length+1) (s::t::b) t)\/(hd a s=t/\du a (a.length+1) (s::t::b) s):=by
 have G:=(qn T).mp F
 have j:=k.base
 have ms:s∈s::t::b:=bk ..
 have mt:t∈s::t::b:=bB _ (bk ..)
 have D: ∀w,w∈s::t::b->1<=w/\w<=a.length:=fun w B=>by
  have:=j.aQ w B
  omega
 have J: ∀w,w<=a.length->gR (a.length+1) (s::t::b) w->w∈s::t::b:=by
  intro w B u
  rcases u with u|u
  all_goals omega
 obtain⟨x,l,O⟩:=YF a (s::t::b) (by simp)
 have f:=D x l
 have lt:t<s:=by
  have:=j.dec
  simp_all
 have v:hd a x≠0:=by
  grind [Tree.KK,Tree.eG]
 have I:=T.cW f.1 f.2
 have C:hd a x∈s::t::b:=J _ I (k.hs x f.1 f.2 (.inl l) v)
 have N:=T.ft f.1 f.2 v
 have leaf: ∀c,c∈s::t::b->hd a c=hd a x->du a (a.length+1) (s::t::b) c:=by
  intro c A e d E n P Q
  grind [Tree.ft]
 have y: ∀c,c∈s::t::b->c≠hd a x->(c=x\/bD x (hd a x) c)->hd a c=hd a x:=by
  intro c A ne q
  rcases q with q|q
  ·rw[q]
  ·have u:=G x c f.1 f.2 v q
   have m:=D c A
   rcases(T.mh m.1 m.2).mp u with e|⟨H,K⟩
   ·omega
   ·have L:=T.ft m.1 m.2 H
    have M:=T.AX K
    grind
 have ne:x≠hd a x:=by
  grind
 by_cases c:x<hd a x
 ·obtain⟨p,d,q,e,E,n⟩:=akE j.dec C l c
  have i:d∈s::t::b:=by
   simp_all
  have g:=y d i (by omega) (by
   by_cases z:d=x
   ·exact .inl z
   ·exact .inr (.inl ⟨by omega,n⟩))
  by_cases r:p=[]
  ·simp_all
  ·exact absurd ⟨g,leaf d i g⟩ (k.block p _ _ q e r).1
 ·obtain⟨p,d,q,e,E,n⟩:=akF j.dec C l (by omega)
  have i:d∈s::t::b:=by
   simp_all
  have g:=y d i (by omega) (by
   by_cases z:d=x
   ·exact .inl z
   ·exact .inr (.inr ⟨n,by omega⟩))
  by_cases r:p=[]
  ·simp_all
  ·exact absurd ⟨g,leaf d i g⟩ (k.block p _ _ q e r).2
abbrev cD:=Nat×List Nat×List Int
def eI (n m:Nat) (c:cD):Option cD:=
 if m=83 then(if c.1<=n then some (c.1+1,c.1::c.2.1,c.2.2) else none) else
 match c.2.1 with
 |s::t::a=>if m=76 then some (c.1,s::a,c.2.2.set (t-1) (s:Int)) else if m=82 then some (c.1,t::a,c.2.2.set (s-1) (t:Int)) else none
 |_=>none
structure iS (n:Nat) (c:cD):Prop where
 base:ew n c.1 c.2.1 c.2.2
 dv: ∀w,c.1<=w->w<=n->hd c.2.2 w=0
theorem iS.start (n:Nat):iS n (1,[],replicate n 0) where
 base:=ew.start n
 dv:=fun w a b=>by
  grind [hd,getD]
theorem iS.push {n i:Nat} {st:List Nat} {h:List Int} (R:iS n (i,st,h)) (hi:i<=n):iS n (i+1,i::st,h) where
 base:=R.base.shift hi (R.dv i (aS _) hi)
 dv:=fun w b a=>R.dv w (by omega) a
theorem iS.hV {n i s t:Nat} {e:List Nat} {h:List Int} (R:iS n (i,s::t::e,h)) {a g:Nat} (c:(a=t/\g=s)\/(a=s/\g=t)):iS n (i,g::e,h.set (a-1) (g:Int)) where
 base:=R.base.hV c
 dv:=fun w d f=>by
  have b:=R.base
  have k:=b.aQ s (bk ..)
  have l:=b.aQ t (bB _ (bk ..))
  have hl:=b.len
  have hi:=b.hi
  simp only at k l hl hi d⊢
  have j:1<=a/\a<i:=by omega
  rw[gp j.1 (by omega) g w (by omega),aG (by omega)]
  exact R.dv w d f
open Classical in
noncomputable def cC (a:List Int) (i:Nat) (st:List Nat):Nat:=
 match st with
 |s::t::b=>if hd a t=s/\du a i (s::t::b) t then 76 else if hd a s=t/\du a i (s::t::b) s then 82 else 83
 |_=>83
noncomputable def ht (H:List Int):Nat->cD->Option (List Nat×cD)
 |0,c=>some ([],c)
 |k+1,c=>(eI H.length (cC H c.1 c.2.1) c).bind fun d=>(ht H k d).map fun r=>(cC H c.1 c.2.1::r.1,r.2)
structure hu (H:List Int) (c:cD):Prop where
 o:gq H c.1 c.2.1 c.2.2
 dv: ∀w,c.1<=w->w<=H.length->hd c.2.2 w=0
theorem hu.done {a:List Int} (T:Tree a) {r:Nat} {h:List Int} (f:hu a (a.length+1,[r],h)):h=a:=by
 have d:=f.o.base
 have hl:=d.len
 have g:=d.aQ r (bk ..)
 simp only at g hl
 have m:hd a r=0:=by
  refine j4 fun z=> ?_
  have:=f.o.hs r g.1 (by omega) (.inl (bk ..)) z
  have l:=T.cW g.1 (by omega)
  rcases this with q|q
  all_goals grind [List.mem_singleton,Tree.nP]
 apply j5 hl
 intro k i j
 have b:=d.get (w:=k+1) (by omega) (by omega)
 have c:=T.get (w:=k+1) (by omega) (by omega)
 rw[show k+1-1=k by omega,bh i] at b
 rw[show k+1-1=k by omega,bh j] at c
 injection b with b
 injection c with c
 rw[b,c]
 by_cases e:k+1=r
 ·simp_all
 ·rw[f.o.agree (k+1) (by omega) (by omega) (by simpa using e)]
theorem KX {a:List Int} (T:Tree a) (F:dt a) {c:cD} (f:hu a c) (k: ¬(c.1=a.length+1/\c.2.1.length=1)):
  ∃d,eI a.length (cC a c.1 c.2.1) c=some d/\hu a d/\2*d.1+c.2.1.length=2*c.1+d.2.1.length+1:=by
 obtain⟨i,st,h⟩:=c
 have R:iS a.length (i,st,h):=⟨f.o.base,f.dv⟩
 have hi:=f.o.base.hi
 have u:=T.pos
 simp only at hi k
 have push:i<=a.length->(∀m x l,st=m::x::l->ur a i st m x)-> ∃d,eI a.length 83 (i,st,h)=some d/\hu a d/\2*d.1+st.length=2*i+d.2.1.length+1:=by
  intro le b
  refine⟨(i+1,i::st,h),by simp[eI,le],⟨f.o.shift le (f.dv i (aS _) le) b,(R.push le).dv⟩,by grind⟩
 match st,f,R,k,push with
 |[],f,R,k,push=>
  have:i=1:=f.o.base.ne rfl
  exact push (by omega) (fun m x l e=>by cases e)
 |[s],f,R,k,push=>
  refine push ?_ (fun m x l e=>by cases e)
  grind
 |s::t::n,f,R,k,push=>
  simp only[cC]
  by_cases g:hd a t=s/\du a i (s::t::n) t
  ·rw[aB g]
   exact⟨(i,s::n,h.set (t-1) (s:Int)),by simp[eI],⟨f.o.hV (.inl ⟨rfl,rfl⟩) g.1 g.2,(R.hV (.inl ⟨rfl,rfl⟩)).dv⟩,by grind⟩
  ·rw[aG g]
   by_cases j:hd a s=t/\du a i (s::t::n) s
   ·rw[aB j]
    exact⟨(i,t::n,h.set (s-1) (t:Int)),by simp[eI],⟨f.o.hV (.inr ⟨rfl,rfl⟩) j.1 j.2,(R.hV (.inr ⟨rfl,rfl⟩)).dv⟩,by grind⟩
   ·rw[aG j]
    refine push ?_ ?_
    ·refine j4 fun l=> ?_
     have e:i=a.length+1:=by omega
     subst e
     rcases f.o.move T F with z|z
     all_goals simp_all
    ·intro m x l e
     rw[lE,lE] at e
     obtain⟨p,q,r⟩:=e
     subst p q r
     exact⟨g,j⟩
theorem YG {a:List Int} (T:Tree a) (F:dt a): ∀(k:Nat) (c:cD),hu a c->2*c.1+k=2*a.length+1+c.2.1.length-> ∃ms,ht a k c=some (ms,(a.length+1,[top a],a))
 |0,c,b,e=>by
  obtain⟨i,st,h⟩:=c
  have hi:=b.o.base.hi
  have s:=T.pos
  simp only at e hi
  obtain⟨m,u,em,_⟩:=b.o.base.kS
  simp only at em
  have n:st≠ []:=fun z=>by
   grind
  have t:1<=st.length:=List.length_pos_iff.mpr n
  have f:i=a.length+1:=by omega
  have g:st.length=1:=by omega
  obtain⟨r,rfl⟩:=Mw.mp g
  subst f
  have l:=b.done T
  subst l
  have:=b.o.base.tree T.le
  simp_all [ht]
 |k+1,c,b,e=>by
  have p: ¬(c.1=a.length+1/\c.2.1.length=1):=by
   omega
  obtain⟨d,f,j,g⟩:=KX T F b p
  obtain⟨ms,q⟩:=YG T F k d j (by omega)
  grind [cC,ht]
theorem nX {b d:Type} {body:b->Option (b⊕d)} (I:b->Prop) (μ:b->Nat) (Q:d->Prop)
  (h: ∀s,I s->(∃a,body s=some (.inl a)/\I a/\μ a<μ s)\/(∃o,body s=some (.inr o)/\Q o)): ∀(n:Nat) (s:b),I s->μ s<n-> ∃o,ai body n s=some o/\Q o
 |0,s,_,f=>by omega
 |n+1,s,hi,f=>by
  rcases h s hi with⟨a,c,e,g⟩|⟨o,c,i⟩
  ·simp only[ai,c,ac]
   exact nX I μ Q h n a e (by omega)
  grind [ai]
structure Bytes (b:List Int):Prop where
 aQ: ∀x∈b,0<=x/\x<=255
 len:b.length<=2000
theorem us {a b:Int} (h:1<=b) (d:0<=a): ∃c,rem a b=some c/\0<=c/\c<b:=by
 refine⟨a.tmod b,by simp[rem];omega,?_,?_⟩
 ·exact Int.tmod_nonneg _ d
 ·exact Int.tmod_lt_of_pos _ (by omega)
theorem A6 {b:List Int} {i:Int} (c:0<=i) (d:i<b.length): ∃a,idx b i=some a/\a∈b:=by
 have:i.toNat<b.length:=by omega
 simp_all [Int.toNat,idx,cT]
theorem A7 {a b:Int} (h:1<=b) (d:0<=a) (g:a<=9223372036854775807): ∃c,quo .i64 a b=some c/\0<=c/\c<=a:=by
 have e:0<=a.tdiv b:=Int.tdiv_nonneg d (by omega)
 have f:a.tdiv b<=a:=Int.tdiv_le_self _ d
 grind [Int.tdiv,quo,wrap64]
theorem akG {a b:Int} (f:0<=a) (g:a<9223372036854775808) (i:0<=b) (j:b<9223372036854775808):0<=oH .i64 a b:=by
 have e:(ofInt 64 a^^^ofInt 64 b).toNat<9223372036854775808:=by
  rw[BitVec.toNat_xor]
  have c:(ofInt 64 a).toNat<2^63:=by
   rw[BitVec.toNat_ofInt];omega
  have d:(ofInt 64 b).toNat<2^63:=by
   rw[BitVec.toNat_ofInt];omega
  exact Nat.xor_lt_two_pow c d
 grind [oH,IntKind.bits,wrap,ofInt,wrap64]
theorem akH {b c p a:Int} (d:0<=b/\b<=255) (e:0<=c/\c<=255) (f:0<=p) (g:p<=1000000000) (i:0<=a) (j:a<=p):
  wrap .i64 (wrap .i64 (wrap .i64 (wrap .i64 (wrap .i64 b*131)+wrap .i64 (wrap .i64 c*1117))+wrap .i64 (p*29))+wrap .i64 (a*53))=b*131+c*1117+p*29+a*53:=by
 grind [wrap64]
theorem akI {b c p a:Int} (d:0<=b/\b<=255) (e:0<=c/\c<=255) (f:0<=p) (g:p<=1000000000) (i:0<=a) (j:a<=p):
  0<=b*131+c*1117+p*29+a*53/\b*131+c*1117+p*29+a*53<=1000000000000:=by omega
theorem mm {α c:Type} {o:Option α} {a:α} {f:α->Option c} {b:c->Prop} (h:o=some a) (d: ∃r,f a=some r/\b r): ∃r,o.bind f=some r/\b r:=by
 simp_all
theorem akJ {b:List Int} (g:Bytes b) {n:Int} (V:1<=n) {p:Int} (c:0<=p) (i:p<=1000000000) (Q:((b.length:Nat):Int)<=p) (hl:1<=b.length) (f:Int×Int->Prop) (U: ∀d,0<=d->d<n->f (d,p+1)):
  ∃r,((rem p ((b.length:Nat):Int)).bind fun(K:Int)=>(idx b K).bind fun(q:Int)=>(rem (wrap .i64 ((wrap .i64 (p*7))+3)) ((b.length:Nat):Int)).bind fun(L:Int)=>(idx b L).bind fun(s:Int)=>(quo .i64 p ((b.length:Nat):Int)).bind fun(t:Int)=>(quo .i64 (wrap .i64 ((wrap .i64 ((wrap .i64 ((wrap .i64 ((wrap .i64 q)*131))+(wrap .i64 ((wrap .i64 s)*1117))))+(wrap .i64 (p*29))))+(wrap .i64 (t*53)))) 64).bind fun(M:Int)=>
   (rem (oH .i64 (wrap .i64 ((wrap .i64 ((wrap .i64 ((wrap .i64 ((wrap .i64 q)*131))+(wrap .i64 ((wrap .i64 s)*1117))))+(wrap .i64 (p*29))))+(wrap .i64 (t*53)))) M) n).bind fun(N:Int)=>some (N,p+1))=some r/\f r:=by
 obtain⟨i1,w,E,F⟩:=us (a:=p) (b:=b.length) (by omega) c
 refine mm w ?_
 obtain⟨u,y,C⟩:=A6 E F
 have j:=g.aQ u C
 refine mm y ?_
 obtain⟨G,P,H,I⟩:=us (a:=p*7+3) (b:=b.length) (by omega) (by omega)
 have x:rem (wrap .i64 ((wrap .i64 (p*7))+3)) ((b.length:Nat):Int)=some G:=by
  grind [wrap64]
 refine mm x ?_
 obtain⟨v,z,D⟩:=A6 H I
 have k:=g.aQ v D
 refine mm z ?_
 obtain⟨J,eq,l,m⟩:=A7 (a:=p) (b:=b.length) (by omega) c (by omega)
 refine mm eq ?_
 rw[akH j k c i l m]
 obtain⟨e,B⟩:=akI j k c i l m
 generalize u*131+v*1117+p*29+J*53=X at e B⊢
 obtain⟨Y,A,O,Z⟩:=A7 (a:=X) (b:=64) (by omega) e (by omega)
 refine mm A ?_
 obtain⟨d,W,R,S⟩:=us (b:=n) (by omega) (akG e (by omega) O (by omega))
 simp_all
theorem cI {b:List Int} (e:Bytes b) (n:Int) (y:n<=1000000) {p:Int} (j:0<=p) (q:p<=1000000000):
  ∃c,bC n b p=some (c,p+1)/\0<=c/\(1<=n->c<n)/\(n<1->c=0):=by
 suffices u: ∃r,bC n b p=some r/\(r.2=p+1/\0<=r.1/\(1<=n->r.1<n)/\(n<1->r.1=0)) by
  grind
 unfold bC ww
 have w:=e.len
 rw[wrap64 (x:=p+1) (by omega) (by omega),show p+1-1=p by omega,wrap64 (x:=p) (by omega) (by omega)]
 by_cases f:n<1
 ·rw[an f]
  grind
 rw[cy f]
 by_cases v:b.length=0
 ·have k:((((b.length:Nat):Int))==0)=true:=by simp_all
  rw[k]
  grind
 have l:((((b.length:Nat):Int))==0)=false:=by simp_all
 rw[l]
 by_cases d:p<((b.length:Nat):Int)
 ·rw[an d]
  obtain⟨x,t,m⟩:=A6 j d
  have s:=e.aQ x m
  simp only[au,aq]
  refine mm t ?_
  obtain⟨c,z,g,i⟩:=us (b:=n) (by omega) s.1
  refine mm (a:=c) (by grind [wrap64]) ?_
  grind
 ·rw[cy d]
  simp only[aq]
  exact akJ e (by omega) j q (by omega) (by omega) _ (fun c g i=>⟨rfl,g,fun _=>i,fun h=>by omega⟩)
theorem KY {b:List Int} (d:Bytes b) (n:Int) (e:n<=1000000) {p:Int} (f:0<=p) (g:p<=1000000000):
  ∃(c:Bool) (a:Int),lN n b p=some (c,a)/\p<=a/\a<=p+1:=by
 unfold lN wz
 by_cases h:n>0
 ·obtain⟨c,i,_⟩:=cI d n e f g
  rw[an h,i]
  exact⟨_,_,rfl,by omega,by omega⟩
 ·rw[cy h]
  grind
theorem akK (x:List Int) (w: ∀n∈x,(Lit.int .u8 n).wf=true) (l:x.length<=maxLen): ∃b,DR x=some b/\Bytes b:=by
 have c: ∀n∈x,0<=n/\n<=255:=fun n a=>by
  have:=w n a
  simp only[Lit.wf,aT,cY] at this
  have d:IntKind.u8.min=0:=rfl
  have e:IntKind.u8.max=255:=rfl
  omega
 unfold DR wv
 by_cases h:((x.length:Nat):Int)>2000
 ·rw[an h]
  have:inc 2000 x.length=some 2000:=by grind [inc]
  rw[this]
  exact⟨_,rfl,⟨fun n a=>c n (vK (hr a)),by simp;omega⟩⟩
 ·rw[cy h]
  exact⟨x,rfl,⟨c,by omega⟩⟩
theorem qp {i:Int} {n:Nat} (a:0<=i) (b:i<=n):inc i n=some i.toNat:=by grind [inc]
theorem kT {i:Int} {n:Nat} (a:0<=i) (b:i<n):al i n=some i.toNat:=by grind [al]
theorem akL {o:List Int} {i:Nat} {x:Int} (hi:i<=o.length) (hl:o.length<=1000):
  (room ((List.length ([]:List Int))+List.length ((o.drop 0).take (i-0))))=some ()/\room ((List.length (([]:List Int)++((o.drop 0).take (i-0))))+List.length ([x]))=some ()/\
  room ((List.length ((([]:List Int)++((o.drop 0).take (i-0)))++([x])))+List.length ((o.drop i).take ((List.length o)-i)))=some ()/\
  (((([]:List Int)++((o.drop 0).take (i-0)))++([x]))++((o.drop i).take ((List.length o)-i)))=o.take i++ [x]++o.drop i:=by
 grind [room_le,List.take_of_length_le,List.drop]
theorem YH {b:List Int} (g:Bytes b) (n:Nat) (X:n<=20) {p:Int} (H:0<=p) (Y:p<=999999000):
  ∃(a:Int) (o:List Int),wy n b p=some (a,o)/\p<=a/\a<=p+100/\o.length=n/\ ∀x∈o,1<=x/\x<=(n:Int):=by
 unfold wy DU DS
 obtain⟨w,u,_⟩:=cI g 2 (by omega) H (by omega)
 rw[u]
 simp only[ac]
 unfold Ox Ov DT Ou Ot
 obtain⟨⟨a,o⟩,C,D,r,E,F⟩:=nX (body:=fun(s:Int×Int×List Int)=>((wx n w s.1 b s.2.1 s.2.2).map (Sum.elim (fun(t:Int×Int×List Int)=>Sum.inl (t.1,t.2.1,t.2.2)) (fun(t:Int×List Int)=>Sum.inr t)):Option ((Int×Int×List Int)⊕((Int×List Int)))))
  (I:=fun s=> ∃(k:Nat) (a:Int) (o:List Int),s=(((k+1:Nat):Int),a,o)/\k<=n/\p<=a/\a<=p+1+2*k/\o.length=k/\ ∀x∈o,1<=x/\x<=(k:Int)) (μ:=fun s=>n+1-s.1.toNat)
  (Q:=fun t=>p<=t.1/\t.1<=p+100/\t.2.length=n/\ ∀x∈t.2,1<=x/\x<=(n:Int))
  (by
   rintro _ ⟨k,a,o,rfl,u,J,Z,G,N⟩
   simp only[wx]
   by_cases W:k<n
   ·left
    rw[show decide (((k+1:Nat):Int)<=(n:Int))=true from an (by omega),wrap64 (x:=((k+1:Nat):Int)+1) (by omega) (by omega)]
    have fin: ∀(i:Nat) (c:Int),i<=o.length->p<=c->c<=a+2->(∃f q m,((((k+1:Nat):Int)+1,c,o.take i++ [((k+1:Nat):Int)]++o.drop i):Int×Int×List Int)=(((f+1:Nat):Int),q,m)/\f<=n/\p<=q/\q<=p+1+2*(f:Int)/\m.length=f/\ ∀x∈m,1<=x/\x<=(f:Int))/\
      n+1-(((k+1:Nat):Int)+1).toNat<n+1-(((k+1:Nat):Int)).toNat:=fun i c hi K a0=>by
     refine⟨⟨k+1,c,_,by push_cast;rfl,by omega,K,by omega,by simp;omega,fun x a2=> ?_⟩,by omega⟩
     grind
    have one: ∀(d:Int),0<=d->d<=o.length-> ∀c:Int,(inc d (List.length o)).bind (fun(j:Nat)=>(room ((List.length ([]:List Int))+List.length ((o.drop 0).take (j-0)))).bind fun(a7:Unit)=>(room ((List.length (([]:List Int)++((o.drop 0).take (j-0))))+List.length ([((k+1:Nat):Int)]))).bind fun(a8:Unit)=>(inc d (List.length o)).bind fun(l:Nat)=>(room ((List.length ((([]:List Int)++((o.drop 0).take (j-0)))++([((k+1:Nat):Int)])))+List.length ((o.drop l).take ((List.length o)-l)))).bind fun(a9:Unit)=>
      some (Sum.inl ((((k+1:Nat):Int)+1),c,(((([]:List Int)++((o.drop 0).take (j-0)))++([((k+1:Nat):Int)]))++((o.drop l).take ((List.length o)-l))))))=(some (Sum.inl ((((k+1:Nat):Int)+1),c,o.take d.toNat++ [((k+1:Nat):Int)]++o.drop d.toNat)):Option ((Int×Int×List Int)⊕(Int×List Int))):=fun d a1 v c=>by
     obtain⟨a3,a4,a5,a6⟩:=akL (o:=o) (i:=d.toNat) (x:=((k+1:Nat):Int)) (by omega) (by omega)
     grind [qp]
    obtain⟨v1,v,y,A,_⟩:=cI g ((k+1:Nat):Int) (by omega) (p:=a) (by omega) (by omega)
    have R:=A (by omega)
    obtain⟨O,M,P,U,_⟩:=cI g 3 (by omega) (p:=a) (by omega) (by omega)
    obtain⟨v2,L,z,B,_⟩:=cI g ((k+1:Nat):Int) (by omega) (p:=a+1) (by omega) (by omega)
    have S:=B (by omega)
    cases V:(w==0) with
    |true=>
     simp only[au,v,ac]
     rw[one v1 y (by omega) (a+1)]
     exact⟨_,rfl,fin v1.toNat (a+1) (by omega) (by omega) (by omega)⟩
    |false=>
     simp only[au,aq,M,ac]
     cases r:(O==0) with
     |true=>
      simp only[au,L,ac]
      rw[one v2 z (by omega) (a+1+1)]
      exact⟨_,rfl,fin v2.toNat (a+1+1) (by omega) (by omega) (by omega)⟩
     |false=>
      simp only[aq]
      rw[one ((o.length:Nat):Int) (by omega) (by omega) (a+1)]
      exact⟨_,rfl,fin (((o.length:Nat):Int)).toNat (a+1) (by omega) (by omega) (by omega)⟩
   ·right
    have e:k=n:=by omega
    subst e
    rw[show decide (((k+1:Nat):Int)<=(k:Int))=false from cy (by omega)]
    exact⟨_,rfl,J,by omega,G,N⟩) LL (1,p+1,[]) ⟨0,p+1,[],rfl,by omega,by omega,by omega,rfl,by simp⟩ (by grind [LL])
 rw[C]
 exact⟨a,o,rfl,D,r,E,F⟩
def aF (st:List Nat):List Int:=(st.map fun(x:Nat)=>(x:Int)).reverse
theorem eX (st:List Nat):(aF st).length=st.length:=by simp[aF]
theorem eY (s:Nat) (st:List Nat):aF (s::st)=aF st++ [(s:Int)]:=by simp[aF]
theorem fv {n:Nat} (h:n<=1099511627776):room n=some ():=by grind [room]
def ap (mv:ByteArray):List Nat:=mv.data.toList.map fun b=>b.toNat
theorem ee (mv:ByteArray):(ap mv).length=mv.size:=by rw[ap,eN,vM];rfl
theorem qq {mv:ByteArray} {k:Nat} (a:k<mv.size):hE mv (k:Int)=some ((((ap mv)[k]'(by rw[ee];exact a):Nat)):Int):=by
 unfold hE
 rw[aB (by omega)]
 simp only[d8]
 rw[getElem?_pos mv k a]
 simp only[bn,ap,List.getElem_map]
 rfl
theorem YI (b:ByteArray): ∀(n i:Nat) (r:List UInt8),i+n=b.size->ByteArray.toList.loop b i r=r.reverse++b.data.toList.drop i
 |0,i,r,h=>by
  have a:b.size=b.data.toList.length:=by simp_all
  grind [ByteArray.toList.loop,List.drop_eq_nil_of_le]
 |n+1,i,r,h=>by
  have a:b.size=b.data.toList.length:=by simp_all
  rw[ByteArray.toList.loop,aB (by omega),YI b n (i+1) _ (by omega),List.reverse_cons,pf]
  have e:b.get! i=b.data.toList[i]'(by omega):=by
   have hi:i<b.data.size:=by grind
   show b.data[i]! =_
   grind
  grind [List.drop_eq_getElem_cons]
theorem toList_data (b:ByteArray):b.toList=b.data.toList:=by
 have:=YI b b.size 0 [] (by omega)
 grind [toList]
theorem mn {a b:ByteArray} (h:ap a=ap b):a=b:=by
 have c:a.data.toList=b.data.toList:=by
  unfold ap at h
  refine List.map_inj_right (f:=fun b:UInt8=>b.toNat) (fun x d e=>UInt8.toNat_inj.mp e)|>.mp h
 exact m1 (m2.mp c)
theorem qr {a b:ByteArray}:aD a b=true↔a=b:=by
 unfold aD
 rw[ce,toList_data,toList_data]
 exact⟨fun h=>m1 (m2.mp h),fun h=>by rw[h]⟩
theorem jL (a:ByteArray):aD a a=true:=qr.mpr rfl
theorem kU {a b:ByteArray} (h:a≠b):aD a b=false:=by
 rw[j6]
 exact fun x=>h (qr.mp x)
theorem jM (a b:ByteArray):ap (a++b)=ap a++ap b:=by
 simp[ap,o9]
theorem nY (a:ByteArray) (i j:Nat):ap (a.extract i j)=((ap a).take j).drop i:=by
 unfold ap
 rw[ByteArray.data_extract,Array.toList_extract,List.extract_eq_take_drop,List.map_take,List.map_drop,List.drop_take]
theorem KZ {a:ByteArray}: ∀x∈ap a,x<256:=by
 intro x c
 unfold ap at c
 obtain⟨b,_,rfl⟩:=iC.mp c
 exact b.toNat_lt
theorem jN {a b:ByteArray} (h:a.size+b.size<=1000000000):cat a b=some (a++b):=by
 grind [cat,maxLen]
def bE (sep:Nat):List Nat->List Nat->List (List Nat)
 |acc,[]=> [acc]
 |acc,x::r=>if x=sep then acc::bE sep [] r else bE sep (acc++ [x]) r
theorem ut {sep:Nat}: ∀{l acc:List Nat},sep∉l->bE sep acc l=[acc++l]
 |[],acc,_=>by simp[bE]
 |x::l,acc,h=>by
  have a:x≠sep:=fun e=>h (by simp_all)
  rw[bE,aG a,ut (fun m=>h (bB _ m))]
  simp
theorem A8 {sep:Nat} {r:List Nat}: ∀{l acc:List Nat},sep∉l->bE sep acc (l++sep::r)=(acc++l)::bE sep [] r
 |[],acc,_=>by simp[bE]
 |x::l,acc,h=>by
  have a:x≠sep:=fun e=>h (by simp_all)
  rw[e7,bE,aG a,A8 (fun m=>h (bB _ m))]
  simp
abbrev uu (s:ByteArray) (sep:Int):Int×Int×List ByteArray->Option ((Int×Int×List ByteArray)⊕(Int×List ByteArray)):=
 fun(t:Int×Int×(List ByteArray))=>((pW s sep t.1 t.2.1 t.2.2).map (Sum.elim (fun(t:Int×Int×(List ByteArray))=>Sum.inl (t.1,t.2.1,t.2.2)) (fun(t:Int×(List ByteArray))=>Sum.inr t)):Option ((Int×Int×(List ByteArray))⊕((Int×(List ByteArray)))))
theorem K0 (s:ByteArray) (sep:Nat) (m:s.size<=1000000000): ∀(r k f:Nat) (out:List ByteArray) (N:Nat),k+r=s.size->r<N->f<=k->out.length<=k->
  ∃(a:Nat) (b:List ByteArray),ai (uu s (sep:Int)) N ((f:Int),(k:Int),out)=some ((a:Int),b)/\a<=s.size/\b.length<=s.size/\
   b.map ap++ [((ap s).take s.size).drop a]=out.map ap++bE sep (((ap s).take k).drop f) ((ap s).drop k)
 |r,k,f,out,0,_,h,_,_=>by omega
 |0,k,f,out,N+1,q,_,j,l=>by
  have e:k=s.size:=by omega
  subst e
  refine⟨f,out,?_,j,l,?_⟩
  all_goals grind [ai,pW,decide_eq_false,ByteArray.size,ap,List.drop_eq_nil_of_le,ee,bE]
 |r+1,k,f,out,N+1,q,u,j,l=>by
  have t:k<s.size:=by omega
  have hl:k<(ap s).length:=by grind [ee]
  have n:(ap s).drop k=(ap s)[k]::(ap s).drop (k+1):=e3 hl
  rw[ai]
  by_cases c:(ap s)[k]=sep
  ·have i1:inc (k:Int) s.size=some k:=by grind [inc]
   have v:inc (f:Int) k=some f:=by grind [inc]
   have st:uu s (sep:Int) ((f:Int),(k:Int),out)=some (.inl (((k+1:Nat):Int),((k+1:Nat):Int),out++ [s.extract f k])):=by
    simp only[uu,pW]
    rw[an (show(k:Int)<((s.size:Nat):Int) by omega),qq t,c]
    grind [room,List.length,extract,List.length_cons,List.length_nil,wrap64]
   obtain⟨a,b,p,d,g,i⟩:=K0 s sep m r (k+1) (k+1) (out++ [s.extract f k]) N (by omega) (by omega) (aS _) (by simp;omega)
   refine⟨a,b,?_,d,g,?_⟩
   ·grind
   ·rw[i,n,bE,aB c,e9,dM,iB,nY,pf]
    simp_all
  ·have st:uu s (sep:Int) ((f:Int),(k:Int),out)=some (.inl ((f:Int),((k+1:Nat):Int),out)):=by
    grind [pW,decide_eq_true,ByteArray.size,qq,wrap64]
   obtain⟨a,b,p,d,g,i⟩:=K0 s sep m r (k+1) f out N (by omega) (by omega) (by omega) (by omega)
   grind [bE,List.take_succ_eq_append_getElem,List.length_take]
theorem A9 (s:ByteArray) (sep:Nat) (f:s.size<=1000000000): ∃out,kD s (sep:Int)=some out/\out.map ap=bE sep [] (ap s):=by
 have e:kD s (sep:Int)=y2 s (sep:Int):=by unfold kD;rfl
 obtain⟨a,b,c,g,i,j⟩:=K0 s sep f s.size 0 0 [] LL (by omega) (by grind [LL]) (aS _) (by simp)
 have i1:inc (a:Int) s.size=some a:=by grind [inc]
 refine⟨b++ [s.extract a s.size],?_,?_⟩
 ·rw[e]
  unfold y2 HN Tm Tl HO Tk Tj
  have d:ai (uu s (sep:Int)) LL (0,0,[])=_:=c
  simp only[ac]
  rw[show(ai _ LL ((0:Int),(0:Int),([]:List ByteArray)):Option (Int×List ByteArray))=some ((a:Int),b) from d]
  grind [HP,room,extract,ByteArray.size,List.length_cons,List.length_nil]
 grind [nY]
noncomputable def bF (n:Nat):ByteArray:=(cG (n:Int)).getD empty
def cJ (l:List Nat):Nat:=l.foldl (fun a x=>10*a+(x-48)) 0
def YJ (n:Nat):Bool:=match cG (n:Int) with
 |some t=>decide (1<=t.size)&&decide (t.size<=2)&&(ap t).all (fun x=>decide (48<=x)&&decide (x<=57))&&(cJ (ap t)==n)
 |none=>false
theorem akM:((range 100).all YJ)=true:=by decide+kernel
theorem hv {n:Nat} (h:n<100):cG (n:Int)=some (bF n)/\1<=(bF n).size/\(bF n).size<=2/\(∀x∈ap (bF n),48<=x/\x<=57)/\cJ (ap (bF n))=n:=by
 have a:=bT.mp akM n (fm.mpr h)
 grind [YJ,bF]
def YK (n:Nat):Bool:=match cG (n:Int) with
 |some t=>gN t==some (n:Int)
 |none=>false
theorem akN:((range 100).all YK)=true:=by decide+kernel
theorem YL {n:Nat} (h:n<100):gN (bF n)=some (n:Int):=by
 have a:=bT.mp akN n (fm.mpr h)
 grind [YK,hv]
def cK (k a b:Int):Bool:=
 (k==0&&decide (0<=a)&&decide (a<=99)&&decide (0<=b)&&decide (b<=99))||(k==1&&decide (0<=a)&&decide (a<=99)&&b==0)||(decide (2<=k)&&decide (k<=5)&&a==0&&b==0)
noncomputable def cj (k a b:Int):ByteArray:=(iE k a b).getD empty
def iT:ByteArray:=ByteArray.mk #[104,101,97,100,32]
def mo:ByteArray:=ByteArray.mk #[97,100,100,32]
def gr:ByteArray:=ByteArray.mk #[32]
def hW (k:Int):ByteArray:=if k=2 then ByteArray.mk #[100,114,111,112] else if k=3 then ByteArray.mk #[116,117,114,110] else if k=4 then ByteArray.mk #[102,108,97,116] else ByteArray.mk #[98,97,99,107]
theorem uv (k a b:Int): ∃t,iE k a b=some t/\(cK k a b=false->t=empty)/\
  (∀n m:Nat,n<100->m<100->k=0->a=(n:Int)->b=(m:Int)->t=iT++bF n++gr++bF m)/\
  (∀n:Nat,n<100->k=1->a=(n:Int)->b=0->t=mo++bF n)/\(2<=k->k<=5->a=0->b=0->t=hW k):=by
 have e:iE k a b=wY k a b:=by unfold iE;rfl
 rw[e]
 unfold wY EW PL PJ PI EX
 simp only[ac]
 by_cases j:k=0
 ·subst j
  rw[gA,gA]
  by_cases r:(0<=a/\a<=99)/\(0<=b/\b<=99)
  ·obtain⟨n,rfl⟩: ∃n:Nat,a=(n:Int):=⟨a.toNat,by omega⟩
   obtain⟨m,rfl⟩: ∃m:Nat,b=(m:Int):=⟨b.toNat,by omega⟩
   obtain⟨i,x,y,_⟩:=hv (n:=n) (by omega)
   obtain⟨w,A,B,_⟩:=hv (n:=m) (by omega)
   refine⟨iT++bF n++gr++bF m,?_,fun f=> ?_,fun g v _ _ _ c d=> ?_,fun _ _ h=>by omega,fun h=>by omega⟩
   ·simp only[d9,au,ac]
    rw[an r.1.1,an r.1.2,an r.2.1,an r.2.2]
    simp only[f7,au,ac]
    unfold E0 EY
    have C:(iT++bF n).size<=7:=by rw[e1];show 5+_<=7;omega
    have D:(iT++bF n++gr).size<=8:=by rw[e1];show _+1<=8;omega
    rw[i,w]
    simp only[ac]
    grind [cat,bF,iT,jN,gr]
   all_goals grind [cK]
  ·refine⟨empty,?_,fun _=>rfl,fun g v _ _ _ c d=>absurd ⟨⟨by omega,by omega⟩,by omega,by omega⟩ r,fun _ _ h=>by omega,fun h=>by omega⟩
   simp only[d9,au,ac]
   have f:(cond (decide (0<=a)&&decide (a<=99)) (some (decide (0<=b)&&decide (b<=99))) (some false))=some false:=by
    grind
   rw[f]
   rfl
 ·rw[d5.mpr j]
  simp only[aq,ac]
  unfold E0 PH EZ
  simp only[aq]
  by_cases l:k=1
  ·subst l
   rw[gA]
   by_cases r:(0<=a/\a<=99)/\b=0
   ·obtain⟨n,rfl⟩: ∃n:Nat,a=(n:Int):=⟨a.toNat,by omega⟩
    obtain⟨i,x,y,_⟩:=hv (n:=n) (by omega)
    refine⟨mo++bF n,?_,fun f=> ?_,fun _ _ _ _ h=>by omega,fun g _ _ c _=> ?_,fun h=>by omega⟩
    ·simp only[d9,au,ac]
     rw[an r.1.1,an r.1.2,r.2]
     simp only[f7,au,d9,ac]
     unfold wX
     simp only[au]
     rw[i]
     simp only[ac]
     rw[show cat (ByteArray.mk #[97,100,100,32]) (bF n)=some (mo++bF n) from jN (by show 4+_<=_;omega)]
     rfl
    all_goals grind [cK]
   ·refine⟨empty,?_,fun _=>rfl,fun _ _ _ _ h=>by omega,fun g _ _ c d=>absurd ⟨⟨by omega,by omega⟩,d⟩ r,fun h=>by omega⟩
    simp only[d9,au,ac]
    have f:(cond (decide (0<=a)&&decide (a<=99)) (some (b==0)) (some false))=some false:=by
     grind
    rw[f]
    rfl
  ·rw[d5.mpr l]
   simp only[aq,ac]
   unfold wX
   simp only[aq,f3]
   by_cases z:a=0/\b=0
   ·obtain⟨rfl,rfl⟩:=z
    simp only[d9,f3]
    by_cases p:k=2
    ·subst p
     exact⟨_,rfl,fun f=>by simp[cK] at f,fun _ _ _ _ h=>by omega,fun _ _ h=>by omega,fun _ _ _ _=>rfl⟩
    ·rw[d5.mpr p]
     by_cases q:k=3
     ·subst q
      exact⟨_,rfl,fun f=>by simp[cK] at f,fun _ _ _ _ h=>by omega,fun _ _ h=>by omega,fun _ _ _ _=>rfl⟩
     ·rw[d5.mpr q]
      by_cases s:k=4
      ·subst s
       exact⟨_,rfl,fun f=>by simp[cK] at f,fun _ _ _ _ h=>by omega,fun _ _ h=>by omega,fun _ _ _ _=>rfl⟩
      ·rw[d5.mpr s]
       by_cases u:k=5
       ·subst u
        exact⟨_,rfl,fun f=>by simp[cK] at f,fun _ _ _ _ h=>by omega,fun _ _ h=>by omega,fun _ _ _ _=>rfl⟩
       ·rw[d5.mpr u]
        exact⟨_,rfl,fun _=>rfl,fun _ _ _ _ h=>by omega,fun _ _ h=>by omega,fun _ _ _ _=>by omega⟩
   ·have f:((a==0)&&(b==0))=false:=by
     simp_all
    rw[f]
    simp only[Bool.and_false]
    exact⟨_,rfl,fun _=>rfl,fun _ _ _ _ h=>by omega,fun _ _ h=>by omega,fun _ _ c d=>absurd ⟨c,d⟩ z⟩
theorem YM (k a b:Int):iE k a b=some (cj k a b):=by
 obtain⟨t,h,_⟩:=uv k a b
 grind [cj]
theorem Ba {k a b:Int} {t:ByteArray} (h:iE k a b=some t):cj k a b=t:=by grind [cj]
theorem K1 {k a b:Int} (h:cK k a b=false):cj k a b=empty:=by
 obtain⟨t,c,d,_⟩:=uv k a b
 rw[Ba c,d h]
theorem Bb {n m:Nat} (d:n<100) (c:m<100):cj 0 (n:Int) (m:Int)=iT++bF n++gr++bF m:=by
 obtain⟨t,a,_,b,_⟩:=uv 0 (n:Int) (m:Int)
 grind [Ba]
theorem Bc {n:Nat} (c:n<100):cj 1 (n:Int) 0=mo++bF n:=by
 obtain⟨t,a,_,_,b,_⟩:=uv 1 (n:Int) 0
 grind [Ba]
theorem qs {k:Int} (b:2<=k) (c:k<=5):cj k 0 0=hW k:=by
 obtain⟨t,a,_,_,_,h⟩:=uv k 0 0
 grind [Ba]
theorem kV {k a b:Int} (h:cK k a b=true):(∃n m:Nat,n<100/\m<100/\k=0/\a=(n:Int)/\b=(m:Int))\/(∃n:Nat,n<100/\k=1/\a=(n:Int)/\b=0)\/(2<=k/\k<=5/\a=0/\b=0):=by
 unfold cK at h
 simp only[eA,aT,ce,cY] at h
 rcases h with(h|h)|h
 ·exact .inl ⟨a.toNat,b.toNat,by omega,by omega,by omega,by omega,by omega⟩
 ·exact .inr (.inl ⟨a.toNat,by omega,by omega,by omega,by omega⟩)
 omega
theorem mq {k:Int} (a:2<=k) (b:k<=5):k=2\/k=3\/k=4\/k=5:=by omega
theorem Bd {n:Nat} (h:n<100):32∉ap (bF n):=fun m=>by
 grind [hv]
theorem mr {n m:Nat} (b:n<100) (a:m<100):bE 32 [] (ap (cj 0 (n:Int) (m:Int)))=[[104,101,97,100],ap (bF n),ap (bF m)]:=by
 rw[Bb b a,jM,jM,jM]
 have e:ap iT++ap (bF n)++ap gr++ap (bF m)=[104,101,97,100]++32::(ap (bF n)++32::ap (bF m)):=by
  grind [ap,iT,gr]
 grind [A8,Bd,ut]
theorem mu {n:Nat} (a:n<100):bE 32 [] (ap (cj 1 (n:Int) 0))=[[97,100,100],ap (bF n)]:=by
 rw[Bc a,jM]
 have e:ap mo++ap (bF n)=[97,100,100]++32::ap (bF n):=by
  simp_all [ap,mo]
 grind [A8,ut,Bd]
theorem Be {k:Int} (a:2<=k) (b:k<=5):bE 32 [] (ap (cj k 0 0))=[ap (hW k)]:=by
 rw[qs a b]
 rcases mq a b with rfl|rfl|rfl|rfl<;>exact ut (by decide)
theorem YN {n m:Nat} (b:n<100) (a:m<100) (h:ap (bF n)=ap (bF m)):n=m:=by
 grind [hv]
theorem akO {k a b g d f:Int} (h:cK k a b=true) (h':cK g d f=true) (e:cj k a b=cj g d f):k=g/\a=d/\b=f:=by
 rcases kV h with⟨n,m,q,t,rfl,rfl,rfl⟩|⟨n,q,rfl,rfl,rfl⟩|⟨i,l,rfl,rfl⟩<;>
  rcases kV h' with⟨s,v,r,u,rfl,rfl,rfl⟩|⟨s,r,rfl,rfl,rfl⟩|⟨j,p,rfl,rfl⟩
 ·grind [bE,ap,mr,List.cons.injEq,YN]
 ·grind [bE,ap,mr,mu]
 ·grind [bE,ap,mr,Be]
 ·grind [bE,ap,mr,mu]
 ·grind [bE,ap,mu,List.cons.injEq,YN]
 ·grind [bE,ap,mu,Be]
 ·grind [bE,ap,mr,Be]
 ·grind [bE,ap,mu,Be]
 ·rw[qs i l,qs j p] at e
  have c:=aR ap e
  rcases mq i l with rfl|rfl|rfl|rfl<;>rcases mq j p with rfl|rfl|rfl|rfl<;>first|exact⟨rfl,rfl,rfl⟩|exact absurd c (by decide)
theorem K2 {k a b:Int} (h:cK k a b=true):1<=(cj k a b).size/\(cj k a b).size<=10:=by
 rcases kV h with⟨n,m,c,f,rfl,rfl,rfl⟩|⟨n,c,rfl,rfl,rfl⟩|⟨d,e,rfl,rfl⟩
 ·have x:=hv c
  have g:=hv f
  rw[Bb c f,e1,e1,e1,show iT.size=5 from rfl,show gr.size=1 from rfl]
  omega
 ·have x:=hv c
  rw[Bc c,e1,show mo.size=4 from rfl]
  omega
 ·rw[qs d e]
  rcases mq d e with rfl|rfl|rfl|rfl<;>exact⟨by decide,by decide⟩
theorem K3 {k a b:Int} (h:cK k a b=true):cj k a b≠empty:=fun e=>by
 have:=(K2 h).1
 simp_all
theorem YO {k a b:Int}:cj k a b≠empty↔cK k a b=true:=by
 grind [cK,absurd,K1,K3]
abbrev gs:=Int×Int×Int×Unit
theorem YP {n:Nat} (h:n<=1000000000):room n=some ():=by grind [room]
abbrev iU (t:ByteArray):Int×Int->Option ((Int×Int)⊕(Int⊕Int)):=
 fun(s:Int×Int)=>((nG t s.1 s.2).map (Sum.elim (fun(t:Int×Int)=>Sum.inl (t.1,t.2)) (Sum.elim (fun(t:Int)=>Sum.inr (Sum.inl t)) (fun(t:Int)=>Sum.inr (Sum.inr t)))):Option ((Int×Int)⊕(Int⊕Int)))
theorem YQ (t:ByteArray) (h:t.size<=100000000): ∀(r k N:Nat) (n:Int),k+r=t.size->r<N-> ∃a,ai (iU t) N (n,(k:Int))=some a
 |r,k,0,n,_,h=>by omega
 |0,k,N+1,n,c,_=>by
  have e:k=t.size:=by omega
  subst e
  rw[ai]
  simp only[iU,nG]
  simp_all
 |r+1,k,N+1,n,c,d=>by
  have b:k<t.size:=by omega
  rw[ai]
  have st:(∃a,iU t (n,(k:Int))=some (.inr a))\/ ∃m,iU t (n,(k:Int))=some (.inl (m,((k+1:Nat):Int))):=by
   simp only[iU,nG]
   rw[an (show(k:Int)<((t.size:Nat):Int) by omega),qq b,wrap64 (x:=(k:Int)+1) (by omega) (by omega)]
   simp only[au,ac]
   cases decide ((((ap t)[k]'(by grind [ee]):Nat):Int)<48) with
   |true=>simp_all
   |false=>
    cases decide ((((ap t)[k]'(by rw[ee];exact b):Nat):Int)>57)<;>simp_all
  rcases st with⟨a,e⟩|⟨m,e⟩
  ·rw[e]
   simp_all
  ·rw[e]
   exact YQ t h r (k+1) N m (by omega) (by omega)
theorem Bf (t:ByteArray) (h:t.size<=100000000): ∃a,gN t=some a:=by
 have e:gN t=pX t:=by unfold gN;rfl
 rw[e]
 unfold pX y3
 rw[gA]
 simp only[ac]
 cases c:(decide ((1:Int)<=((t.size:Nat):Int))&&decide (((t.size:Nat):Int)<=6)) with
 |false=>simp_all
 |true=>
  simp only[aT,cY] at c
  have go: ∃a,tv t=some a:=by
   unfold tv HS y4 HR HQ y5
   obtain⟨a,b⟩:=YQ t h t.size 0 LL 0 (by omega) (by grind [LL])
   have d:ai (iU t) LL (0,0)=some a:=b
   simp only[ac]
   rw[show(ai _ LL ((0:Int),(0:Int)):Option (Int⊕Int))=some a from d]
   cases a<;>exact⟨_,rfl⟩
  obtain⟨a,b⟩:=go
  simp only[bo,aq]
  grind [Decidable.decide,ByteArray.size,hE,qq,ap,ee]
noncomputable def Bg (s:ByteArray) (L:List gs):Option gs:=L.find? fun c=> !(aD s empty)&&aD (cj c.1 c.2.1 c.2.2.1) s
abbrev Bh (s:ByteArray) (L:List gs):Int->Option (Int⊕((Bool×Int×Int×Int)⊕Unit)):=
 fun(k:Int)=>((tw s k L).map (Sum.elim (fun(t:Int)=>Sum.inl t) (Sum.elim (fun(t:Bool×Int×Int×Int)=>Sum.inr (Sum.inl t)) (fun(t:Unit)=>Sum.inr (Sum.inr t)))):Option ((Int)⊕((Bool×Int×Int×Int)⊕Unit)))
theorem YR (s:ByteArray) (a:List gs) (f:a.length<=1000): ∀(r k N:Nat),k+r=a.length->r<N->
  ai (Bh s a) N (k:Int)=some (match Bg s (a.drop k) with|some c=> .inl (true,c.1,c.2.1,c.2.2.1)|none=> .inr ())
 |r,k,0,_,h=>by omega
 |0,k,N+1,i,_=>by
  have e:k=a.length:=by omega
  subst e
  rw[ai]
  simp only[Bh,tw]
  rw[cy (show¬((a.length:Nat):Int)<((a.length:Nat):Int) by omega),List.drop_length]
  rfl
 |r+1,k,N+1,i,l=>by
  have b:k<a.length:=by omega
  have j:=YR s a f r (k+1) N (by omega) (by omega)
  have i1:al (k:Int) a.length=some k:=by grind [al]
  have g:a[k]? =some a[k]:=bh b
  have w:wrap .i64 ((k:Int)+1)=((k+1:Nat):Int):=by grind [wrap64]
  rw[ai]
  have d:a.drop k=a[k]::a.drop (k+1):=e3 b
  unfold Bg at j⊢
  rw[d,List.find?_cons]
  have st:Bh s a (k:Int)=some (if !(aD s empty)&&aD (cj a[k].1 a[k].2.1 a[k].2.2.1) s then .inr (.inl (true,a[k].1,a[k].2.1,a[k].2.2.1)) else .inl ((k+1:Nat):Int)):=by
   grind [tw,decide_eq_true,List.length,YM,aD,empty,cj]
  grind
noncomputable def bO (s:ByteArray):Bool×Int×Int×Int:=open Classical in
 if h: ∃d:Int×Int×Int,cK d.1 d.2.1 d.2.2=true/\cj d.1 d.2.1 d.2.2=s then(true,h.choose.1,h.choose.2.1,h.choose.2.2) else(false,0,0,0)
theorem YS {k a b:Int} (h:cK k a b=true):bO (cj k a b)=(true,k,a,b):=by
 have c: ∃d:Int×Int×Int,cK d.1 d.2.1 d.2.2=true/\cj d.1 d.2.1 d.2.2=cj k a b:=⟨(k,a,b),h,rfl⟩
 grind [bO,akO]
theorem YT {s:ByteArray} (h: ∀k a b:Int,cK k a b=true->cj k a b≠s):bO s=(false,0,0,0):=by
 grind [bO]
theorem akQ {s:ByteArray} {d:List gs} (i: ∀k a b,cK k a b=true->cj k a b=s->(k,a,b,())∈d):
  (match Bg s d with|some c=>(true,c.1,c.2.1,c.2.2.1)|none=>(false,(0:Int),(0:Int),(0:Int)))=bO s:=by
 cases f:Bg s d with
 |some c=>
  have g:=List.find?_some f
  simp only[aT,gv] at g
  have e:=qr.mp g.2
  have ne:s≠empty:=fun x=>by simp_all
  have b:cK c.1 c.2.1 c.2.2.1=true:=YO.mp (by simp_all)
  grind [YS]
 |none=>
  rw[YT]
  intro k a b j l
  have:=Cz.mp f _ (i k a b j l)
  grind [Bool.not_eq_true',kU,K3,jL]
theorem akR (s:ByteArray) (H:s.size<=100000000):y8 s=some (bO s):=by
 have e:y8 s=y7 s:=by unfold y8;rfl
 obtain⟨out,v,G⟩:=A9 s 32 (by omega)
 rw[e]
 unfold y7 HT
 rw[show(32:Int)=((32:Nat):Int) from rfl,v]
 simp only[ac]
 have tail: ∀d:List gs,d.length<=1000->(∀k a b,cK k a b=true->cj k a b=s->(k,a,b,())∈d)->HZ s d=some (bO s):=fun d hl y=>by
  unfold HZ Tr HX Tq Tp HY
  have E:=YR s d hl d.length 0 LL (by omega) (by grind [LL])
  have F:ai (Bh s d) LL (0:Int)=_:=E
  simp only[ac]
  rw[show(ai _ LL (0:Int):Option ((Bool×Int×Int×Int)⊕Unit))=_ from F,fl,<-akQ y]
  grind
 have len:out.length=(bE 32 [] (ap s)).length:=by grind
 have K: ∀k a b,cK k a b=true->cj k a b=s->(2<=k->k<=5->(k,a,b,())∈([(2,0,0,()),(3,0,0,()),(4,0,0,()),(5,0,0,())]:List gs)):=fun k a b i _ r u=>by
  grind [kV,mq]
 have q: ∀t∈out,t.size<=100000000:=fun t I=>by
  have:ap t∈bE 32 [] (ap s):=by grind
  have J: ∀(l acc:List Nat) (x:List Nat),x∈bE 32 acc l->x.length<=acc.length+l.length:=by
   intro l
   induction l<;>grind [bE,List.mem_singleton,List.length_nil,List.length_cons,List.length_append]
  grind [ee]
 unfold Ts To HU
 simp only[ac]
 unfold Tn
 by_cases D:out.length=3
 ·rw[show((((out.length:Nat):Int))==3)=true from ce.mpr (by omega)]
  unfold HV
  match out,D with
  |[f,c,g],_=>
   obtain⟨v1,j⟩:=Bf c (q c (by simp))
   obtain⟨v2,w⟩:=Bf g (q g (by simp))
   have i1:al 1 [f,c,g].length=some 1:=rfl
   have B:al 2 [f,c,g].length=some 2:=rfl
   simp only[au,i1,B,ac,mP,vw,j,w]
   rw[YP (by simp)]
   simp only[bn,ac]
   unfold H0 y6
   rw[show(((([f,c,g].length:Nat):Int))==2)=false from rfl]
   simp only[aq,ac]
   refine tail _ (by simp) fun k a b i z=> ?_
   rw[jb]
   rcases kV i with⟨n,m,p,A,rfl,rfl,rfl⟩|⟨n,p,rfl,rfl,rfl⟩|⟨r,u,rfl,rfl⟩
   ·grind [mr,List.cons.injEq,mn,YL,Option.some.inj]
   all_goals grind [mu]
 ·rw[show((((out.length:Nat):Int))==3)=false from d5.mpr (by omega)]
  unfold HW
  simp only[aq,bn,ac]
  unfold H0 y6
  by_cases C:out.length=2
  ·rw[show((((out.length:Nat):Int))==2)=true from ce.mpr (by omega)]
   match out,C with
   |[f,c],_=>
    obtain⟨v1,j⟩:=Bf c (q c (by simp))
    have i1:al 1 [f,c].length=some 1:=rfl
    simp only[au,i1,ac,mP,vw,j]
    rw[YP (by simp)]
    simp only[ac]
    refine tail _ (by simp) fun k a b i z=> ?_
    rw[jb]
    rcases kV i with⟨n,m,p,A,rfl,rfl,rfl⟩|⟨n,p,rfl,rfl,rfl⟩|⟨r,u,rfl,rfl⟩
    all_goals grind [mr,mu,List.cons.injEq,mn,YL,Option.some.inj]
  grind [kV,mr,mu]
def cR (l:List Nat):ByteArray:=ByteArray.mk (l.map Nat.toUInt8).toArray
theorem Bi (a:ByteArray):cR (ap a)=a:=by
 refine m1 (m2.mp ?_)
 unfold cR ap
 simp only[f8]
 have:(Nat.toUInt8∘fun b:UInt8=>b.toNat)=id:=by
  grind [UInt8.ofNat_toNat]
 simp_all
def eZ (h:List Int) (w:Nat):List Nat:=((range (w-1)).map (· +1)).filter fun k=>hd h k==w
def hX (h:List Int) (w:Nat):List Nat:=((range (h.length-w)).map (· +(w+1))).filter fun k=>hd h k==w
theorem Bj {n k:Nat}:k∈(range n).map (· +1)↔1<=k/\k<=n:=by
 rw[iC]
 constructor
 ·grind
 ·rintro⟨a,b⟩
  exact⟨k-1,by grind,by omega⟩
theorem nZ {h:List Int} {w k:Nat} (a:w<=h.length):k∈eZ h w↔(1<=k/\k<=h.length)/\hd h k=w/\k<w:=by
 grind [eZ,Bj]
theorem oa {h:List Int} {w k:Nat}:k∈hX h w↔(1<=k/\k<=h.length)/\hd h k=w/\w<k:=by
 unfold hX
 rw[m3,iC,ce]
 constructor
 ·grind
 ·rintro⟨⟨a,b⟩,e,l⟩
  exact⟨⟨k-(w+1),by grind,by omega⟩,e⟩
theorem YU (n:Nat):((range n).map (· +1)).Pairwise (· < ·):=by
 grind [List.Pairwise.imp,List.pairwise_lt_range]
theorem YV (h:List Int) (w:Nat):(eZ h w).Pairwise (· < ·):=(YU _).filter _
theorem YW (h:List Int) (w:Nat):(hX h w).Pairwise (· < ·):=by
 refine List.Pairwise.filter _ ?_
 grind [List.Pairwise.imp,List.pairwise_lt_range]
theorem YX {α c:Type} {f g:α->List c}: ∀{l:List α},(∀x∈l,f x=g x)->l.flatMap f=l.flatMap g
 |[],_=>rfl
 |x::l,h=>by
  rw[List.flatMap_cons,List.flatMap_cons,h x (bk ..),YX (l:=l) (fun b a=>h b (bB _ a))]
def bv (h:List Int):Nat->Nat->List Nat
 |0,_=> []
 |f+1,w=>(eZ h w).flatMap (bv h f)++w::(hX h w).flatMap (bv h f)
section
variable {h : List Int} (T : Tree h)
include T
theorem oc {w c:Nat} (a:1<=c) (b:c<=h.length) (d:1<=w) (e:hd h c=w):dep h c=dep h w+1:=by
 grind [Tree.ft]
theorem Bk: ∀{f w x:Nat},1<=w->w<=h.length->h.length<=f+dep h w->(x∈bv h f w↔aL h x w)
 |0,w,x,b,d,e=>by
  have:=T.ho b d
  omega
 |f+1,w,x,b,d,e=>by
  have g: ∀c,(1<=c/\c<=h.length)/\hd h c=w->(x∈bv h f c↔aL h x c):=fun c a=>by
   have:=oc T a.1.1 a.1.2 b a.2
   exact Bk a.1.1 a.1.2 (by omega)
  grind [bv,Tree.KR,nZ,oa,Tree.nP]
theorem YY {R:Nat->Nat->Prop} (i: ∀w c x,1<=w->w<=h.length->hd h c=w->c<w->aL h x c->R x w) (j: ∀w c x,1<=w->w<=h.length->hd h c=w->w<c->aL h x c->R w x)
  (k: ∀w c d x g,1<=w->w<=h.length->hd h c=w->hd h d=w->c<d->aL h x c->aL h g d->R x g): ∀{f w:Nat},1<=w->w<=h.length->h.length<=f+dep h w->(bv h f w).Pairwise R
 |0,w,b,e,l=>by
  have:=T.ho b e
  omega
 |f+1,w,b,e,l=>by
  have n: ∀c x,(1<=c/\c<=h.length)/\hd h c=w->x∈bv h f c->aL h x c:=fun c x a m=>by
   grind [oc,Bk]
  have p: ∀c,(1<=c/\c<=h.length)/\hd h c=w->(bv h f c).Pairwise R:=fun c a=>by
   have:=oc T a.1.1 a.1.2 b a.2
   exact YY i j k a.1.1 a.1.2 (by omega)
  rw[bv,j3,d7,p0,p0]
  grind [nZ,List.Pairwise.imp_of_mem,YV,oa,YW]
theorem YZ {f w:Nat} (a:1<=w) (b:w<=h.length) (i:h.length<=f+dep h w):(bv h f w).Nodup:=by
 refine YY T ?_ ?_ ?_ a b i
 ·grind [Tree.iM,Tree.kP,Tree.iN]
 ·grind [Tree.iM,Tree.kP,Tree.iN]
 ·intro w c d x m a b e g l u k j
  subst j
  have:=T.aj2 (by omega) e g u k
  omega
theorem Y0: ∀{f w:Nat},1<=w->w<=h.length->h.length<=f+dep h w->bv h (f+1) w=bv h f w
 |0,w,b,d,e=>by
  have:=T.ho b d
  omega
 |f+1,w,b,d,e=>by
  have g: ∀c,(1<=c/\c<=h.length)/\hd h c=w->bv h (f+1) c=bv h f c:=fun c a=>by
   have:=oc T a.1.1 a.1.2 b a.2
   exact Y0 a.1.1 a.1.2 (by omega)
  grind [eZ,bv,YX,nZ,hX,oa]
theorem Y1 {w:Nat} (a:1<=w) (b:w<=h.length) {f:Nat} (c:h.length<=f+dep h w): ∀d,bv h (f+d) w=bv h f w
 |0=>rfl
 |d+1=>by
  rw[<-lg,Y0 T a b (by omega)]
  exact Y1 a b c d
def qt (h:List Int):List Nat:=bv h h.length (top h)
theorem Y2 {x:Nat}:x∈qt h↔1<=x/\x<=h.length:=by
 grind [qt,Bk,gB,Tree.gk,Tree.iM,Tree.Yj]
theorem Y3:(qt h).Nodup:=YZ T (gB h) T.gk (by omega)
theorem akS:(qt h).length=h.length:=by
 have p:(qt h).Perm ((range h.length).map (· +1)):=by
  grind [List.perm_ext_iff_of_nodup,Y3,List.Pairwise.imp,Nat.ne_of_lt,YU,Y2,Bj]
 rw[p.length_eq]
 simp
end
def dw (h:List Int):List Int:=(qt h).map fun(x:Nat)=>(x:Int)
section
variable {h : List Int} (T : Tree h)
include T
theorem kW:(dw h).length=h.length:=by
 unfold dw
 rw[eN,akS T]
theorem K4:eH (dw h) ((dw h).length:Nat):=by
 grind [A2,kW,dw,Y2,Nodup,List.Pairwise.imp,Y3]
end
def cc:List Int->Nat
 |[]=>0
 |x::l=>l.countP (fun y=>decide (y<x))+cc l
theorem Bl (x:Int): ∀l:List Int,cc (l++ [x])=cc l+l.countP (fun y=>decide (x<y))
 |[]=>rfl
 |y::l=>by
  rw[e7,cc,cc,Bl x l,g9,hm]
  grind
theorem Y4 {x:Int}: ∀{l:List Int},x∉l->l.countP (fun y=>decide (y<x))+l.countP (fun y=>decide (x<y))=l.length
 |[],_=>rfl
 |y::l,h=>by
  have ne:y≠x:=fun e=>h (by simp_all)
  have a:=Y4 (l:=l) (fun m=>h (bB _ m))
  grind
theorem akT (n:Nat):(n+1)*(n+1-1)/2=n+n*(n-1)/2:=by
 cases n<;>grind
theorem Y5: ∀{l:List Int},l.Nodup->cc l+cc l.reverse=l.length*(l.length-1)/2
 |[],_=>rfl
 |x::l,h=>by
  rw[List.nodup_cons] at h
  have a:=Y5 h.2
  have c:=Y4 h.1
  rw[List.reverse_cons,Bl,cc,List.countP_reverse,ck,akT]
  omega
theorem akU {l:List Int} (h:l.Nodup):cc l<=l.length*(l.length-1)/2:=by
 grind [Y5]
def gS (A L:List Int):Nat:=(A.map fun a=>L.countP (fun y=>decide (y<a))).sum
theorem Y6: ∀(A L:List Int),cc (A++L)=cc A+gS A L+cc L
 |[],L=>by simp[cc,gS]
 |x::A,L=>by
  rw[e7,cc,cc,Y6 A L,g9]
  grind [gS]
theorem akV {a b c:List Int} (p:b.Perm c):gS a b=gS a c:=by
 grind [gS,List.map_congr_left,List.Perm.countP_eq]
theorem K5 (h:List Int) (hl:h.length<=1048576):rN h=some (fu h):=by
 unfold rN ED EA Pr Pq EB Pp Po EC fu
 simp only[ac]
 cases a:aA h with
 |false=>
  have b:=dJ (body:=fun(s:Int)=>((pt h s).map (Sum.elim (fun(t:Int)=>Sum.inl t) (Sum.elim (fun(t:Int)=>Sum.inr (Sum.inl t)) (fun(t:Unit)=>Sum.inr (Sum.inr t)))):Option ((Int)⊕(Int⊕Unit))))
   (I:=fun s=>s=0) (μ:=fun s=>0) (f:=fun s=> .inr ())
   (by
    grind [pt,cH,List.length,decide_eq_true,decide_eq_false])
  grind [LL]
 |true=>
  have T:=(bM h).1 a
  have b:=dJ (body:=fun(s:Int)=>((pt h s).map (Sum.elim (fun(t:Int)=>Sum.inl t) (Sum.elim (fun(t:Int)=>Sum.inr (Sum.inl t)) (fun(t:Unit)=>Sum.inr (Sum.inr t)))):Option ((Int)⊕(Int⊕Unit))))
   (I:=fun s=> ∃k:Nat,s=(k:Int)/\k<top h) (μ:=fun s=>h.length-s.toNat) (f:=fun s=> .inl (top h:Int))
   (by
    rintro _ ⟨k,rfl,l⟩
    have n:=T.gk
    have c:k<h.length:=by omega
    have g:=T.get (w:=k+1) (by omega) (by omega)
    rw[show k+1-1=k by omega,bh c] at g
    have j:h[k]=((hd h (k+1):Nat):Int):=by grind
    simp only[pt]
    rw[cH,a,show decide ((k:Int)<((h.length:Nat):Int))=true from an (by omega),cb c,wrap64 (by omega) (by omega)]
    simp only[au,ac]
    by_cases e:hd h (k+1)=0
    ·right
     grind [Tree.eG]
    ·left
     have m:k+1≠top h:=fun i=>e ((T.eG (by omega) (by omega)).2 i)
     have d:(h[k]==0)=false:=by simp;omega
     refine⟨((k+1:Nat):Int),by simp[d],⟨k+1,rfl,by omega⟩,by simp;omega,trivial⟩)
  rw[b LL 0 ⟨0,rfl,(gB h)⟩ (by grind [LL])]
  simp
theorem Y7 (o:List Int) (m:Int) (hl:o.length<=1048576):wH o m=some (fT o m):=by
 unfold wH Eg D8 OT OS D9 OR OQ
 have r: ∀k,(b:k<o.length)->Ec o k=some (cond (decide (o[k]∈o.take k)) (.inl false) (.inr ())):=fun k b=>by
  unfold Ec
  have q:=dJ (body:=fun(s:Int)=>((wG o k s).map (Sum.elim (fun(t:Int)=>Sum.inl t) (Sum.elim (fun(t:Bool)=>Sum.inr (Sum.inl t)) (fun(t:Unit)=>Sum.inr (Sum.inr t)))):Option ((Int)⊕(Bool⊕Unit))))
   (I:=fun s=> ∃j:Nat,s=(j:Int)/\j<=k/\o[k]∉o.take j) (μ:=fun s=>k-s.toNat) (f:=fun _=>cond (decide (o[k]∈o.take k)) (.inl false) (.inr ()))
   (by
    rintro _ ⟨j,rfl,g,u⟩
    simp only[wG]
    by_cases a:j<k
    ·rw[show decide ((j:Int)<(k:Int))=true from an (by omega),cb (show j<o.length by omega),cb b,wrap64 (by omega) (by omega)]
     simp only[au,ac]
     by_cases e:o[j]=o[k]
     ·right
      grind [List.take,um,decide_eq_true]
     ·left
      have d:(o[j]==o[k])=false:=by simpa using e
      refine⟨((j+1:Nat):Int),by simp[d],⟨j+1,rfl,a,?_⟩,by simp;omega,trivial⟩
      grind [List.take_add_one,List.getElem?_eq_getElem,Option.toList_some,List.mem_singleton]
    grind)
  grind [LL]
 have q:=dJ (body:=fun(s:Int)=>((Ee o m s).map (Sum.elim (fun(t:Int)=>Sum.inl t) (Sum.elim (fun(t:Bool)=>Sum.inr (Sum.inl t)) (fun(t:Unit)=>Sum.inr (Sum.inr t)))):Option ((Int)⊕(Bool⊕Unit))))
  (I:=fun s=> ∃k:Nat,s=(k:Int)/\k<=o.length/\eH (o.take k) m) (μ:=fun s=>o.length-s.toNat) (f:=fun _=>cond (mj o m) (.inr ()) (.inl false))
  (by
   rintro _ ⟨k,rfl,b,hP⟩
   simp only[Ee,Ea]
   by_cases a:k<o.length
   ·rw[show decide ((k:Int)<((o.length:Nat):Int))=true from an (by omega)]
    simp only[au,ac,Sum.elim_inl]
    unfold OP OO ON Eb OM Ed
    rw[cb a,wrap64 (by omega) (by omega)]
    simp only[ac,gA,r k a]
    by_cases c:1<=o[k]/\o[k]<=m
    ·have d:(decide (1<=o[k])&&decide (o[k]<=m))=true:=by grind
     rw[d]
     by_cases l:o[k]∈o.take k
     ·right
      obtain⟨i,hi,e⟩:=(um b).1 l
      rw[an l,ul (fun n=>n.2 i k hi a e)]
      rfl
     ·left
      rw[cy l]
      refine⟨((k+1:Nat):Int),by simp,⟨k+1,rfl,a,?_⟩,by simp;omega,trivial⟩
      have hl:(o.take (k+1)).length=k+1:=by simp;omega
      refine⟨fun i hi=> ?_,fun i j p g=> ?_⟩
      ·rw[hl] at hi
       rw[e8]
       by_cases e:i=k
       ·simp_all
       ·have:=hP.1 i (by simp;omega)
        simp_all
      ·rw[hl] at g
       rw[e8,e8]
       by_cases e:j=k
       ·grind [um]
       ·have:=hP.2 i j p (by simp;omega)
        simp_all
    ·right
     have d:(decide (1<=o[k])&&decide (o[k]<=m))=false:=by
      simp_all
     rw[d,ul (fun n=>c (n.1 k a))]
     rfl
   ·right
    grind [List.length,List.take_length,Decidable.decide,decide_eq_false,ql])
 simp only[ac]
 rw[q LL 0 ⟨0,rfl,by omega,⟨fun k b=>by simp at b,fun i j p g=>by simp at g⟩⟩ (by grind [LL])]
 unfold fT
 grind [mj,Ef,gA,Decidable.decide]
theorem akW (o:List Int) (hl:o.length<=8) (hP:eH o (o.length:Nat)):
  ai (fun(s:Int×(List Int))=>((rF o s.1 s.2).map (Sum.elim (fun(t:Int×(List Int))=>Sum.inl (t.1,t.2)) (fun(t:(List Int))=>Sum.inr t)):Option ((Int×(List Int))⊕(((List Int)))))) LL (0,replicate (o.length+1) 0)=some (fU o):=by
 have d:=dJ (body:=fun(s:Int×(List Int))=>((rF o s.1 s.2).map (Sum.elim (fun(t:Int×(List Int))=>Sum.inl (t.1,t.2)) (fun(t:(List Int))=>Sum.inr t)):Option ((Int×(List Int))⊕(((List Int))))))
  (I:=fun s=> ∃k:Nat,s=((k:Int),gm o k)/\k<=o.length) (μ:=fun s=>o.length-s.1.toNat) (f:=fun _=>fU o)
  (by
   rintro _ ⟨k,rfl,c⟩
   simp only[rF]
   by_cases a:k<o.length
   ·left
    have g:=hP.1 k a
    obtain⟨b,i⟩: ∃b:Nat,o[k]=(b:Int):=⟨o[k].toNat,by omega⟩
    refine⟨(((k+1:Nat):Int),gm o (k+1)),?_,⟨k+1,rfl,a⟩,by simp;omega,trivial⟩
    rw[show decide ((k:Int)<((o.length:Nat):Int))=true from an (by omega),cb a,wrap64 (by omega) (by omega)]
    grind [al,gm,nV,cg,Yw]
   ·right
    have e:k=o.length:=by omega
    subst e
    rw[show decide (((o.length:Nat):Int)<((o.length:Nat):Int))=false from cy (by omega)]
    rfl)
 grind [LL,gm,Yx]
theorem Y8 (h o:List Int) (i:o.length<=1048576):wJ h o=some (if aA h&&fT o h.length then(true,putRow h o) else(false,[])):=by
 unfold wJ Em Eh
 rw[cH,Y7 o _ i]
 cases g:aA h with
 |false=>simp
 |true=>
  cases a:fT o h.length with
  |false=>simp
  |true=>
   have T:=(bM h).1 g
   unfold fT at a
   simp only[aT,cY,ce] at a
   obtain⟨⟨_,r⟩,n⟩:=a
   have hl:o.length=h.length:=by omega
   have q:=T.le
   have hP:eH o (o.length:Nat):=by grind [ql]
   rw[wrap64 (by omega) (by omega),show((h.length:Nat):Int)+1=((o.length+1:Nat):Int) by omega,hn (by omega)]
   simp only[ac,bo,aq,Sum.elim_inl,f7,cU]
   unfold O2 OW Ei OV OU
   rw[akW o (by omega) hP]
   unfold O1 Ej O0 OZ Ek OY OX El
   simp only[ac,bn]
   have j:=dJ (body:=fun(s:Int×(List Int))=>((wI h o s.1 (fU o) s.2).map (Sum.elim (fun(t:Int×(List Int))=>Sum.inl (t.1,t.2)) (fun(t:(List Int))=>Sum.inr t)):Option ((Int×(List Int))⊕(((List Int))))))
    (I:=fun s=> ∃k:Nat,s.1=(k:Int)/\k<=o.length/\s.2.length<=k) (μ:=fun s=>o.length-s.1.toNat) (f:=fun s=>s.2++(putRow h o).drop s.1.toNat)
    (by
     rintro⟨_,out⟩ ⟨k,rfl,p,l⟩
     simp only at l
     simp only[wI]
     by_cases b:k<o.length
     ·left
      obtain⟨w,x,c,u,d,m,e⟩:=KT T hl hP b
      refine⟨(((k+1:Nat):Int),out++ [kQ h o k]),?_,⟨k+1,rfl,b,by simp;omega⟩,by simp;omega,?_⟩
      ·rw[show decide ((k:Int)<((o.length:Nat):Int))=true from an (by omega),cb b]
       simp only[au,ac]
       rw[c,wrap64 (x:=((w+1:Nat):Int)-1) (by omega) (by omega),show((w+1:Nat):Int)-1=(w:Int) by omega,fp,d,wrap64 (by omega) (by omega)]
       simp only[ac]
       rw[cg (by grind)]
       simp only[ac,e,room_le (show out.length+ [kQ h o k].length<=1099511627776 by simp;omega)]
       simp
      grind [Int.toNat_natCast,Yy]
     grind [List.length,Decidable.decide,decide_eq_false,List.drop_of_length_le,Nat.le_of_eq,uo])
   rw[j LL (0,[]) ⟨0,by simp,by omega,by simp⟩ (by grind [LL])]
   simp
theorem od {n:Nat} (h:n<=1099511627776):room n=some ():=by grind [room]
def bN (l:List Nat):List Int:=l.map fun(x:Nat)=>(x:Int)
theorem uw (a b:List Nat):bN (a++b)=bN a++bN b:=by simp[bN]
theorem kX (a:List Nat):(bN a).length=a.length:=by simp[bN]
def iV (h:List Int) (w k:Nat):List Nat:=((range k).map (· +1)).filter fun j=>hd h j==w
def iW (h:List Int) (w k:Nat):List Nat:=((range k).map (· +(w+1))).filter fun j=>hd h j==w
theorem akX (h:List Int) (w k:Nat):iV h w (k+1)=iV h w k++(if hd h (k+1)=w then[k+1] else[]):=by
 grind [iV,List.range_succ,hd]
theorem akY (h:List Int) (w k:Nat):iW h w (k+1)=iW h w k++(if hd h (k+(w+1))=w then[k+(w+1)] else[]):=by
 grind [iW,List.range_succ,hd]
theorem Bm {f:Nat->List Nat}: ∀{l:List Nat},(∀x∈l,(f x).length<=8)->(l.flatMap f).length<=8*l.length
 |[],_=>by simp
 |x::l,h=>by
  have a:=h x (bk ..)
  have b:=Bm (l:=l) (fun d c=>h d (bB _ c))
  grind
section
variable {h : List Int} (T : Tree h)
include T
theorem Y9 {f w:Nat} (b:1<=w) (c:w<=h.length) (a:h.length<=f+dep h w):(bv h f w).length<=8:=by
 have:=p1 (l₂:=(range h.length).map (· +1)) (YZ T b c a) (by
  grind [Bj,Tree.iM,Bk])
 grind [List.length_map,List.length_range,Tree.le]
theorem Za: ∀(f w:Nat),1<=w->w<=h.length->h.length<=f+dep h w->lO f h (w:Int)=some (bN (bv h f w))
 |0,w,q,x,z=>by
  have:=T.ho q x
  omega
 |f+1,w,q,x,z=>by
  have D:=T.le
  have u: ∀c,1<=c->c<=h.length->hd h c=w->ny f h (c:Int)=some (bN (bv h f c))/\(bv h f c).length<=8:=fun c g i e=>by
   have:=oc T g i q e
   exact⟨Za f c g i (by omega),Y9 T g i (by omega)⟩
  have read: ∀c,1<=c->c<=h.length->idx h (wrap .i64 ((c:Int)-1))=some ((hd h c:Nat):Int):=fun c g i=>by
   rw[wrap64 (by omega) (by omega)]
   unfold idx
   rw[aB (by omega),show((c:Int)-1).toNat=c-1 by omega,T.get g i]
  have e:lO (f+1) h (w:Int)=EL (ny f) h (w:Int):=rfl
  have F: ∀k,k<=8-> ∀c∈iV h w k,1<=c/\c<=k/\hd h c=w:=fun k m c d=>by
   grind [iV,Bj]
  have G: ∀k,∀c∈iW h w k,w<c/\c<=w+k/\hd h c=w:=fun k c d=>by
   unfold iW at d
   rw[m3,iC,ce] at d
   obtain⟨⟨j,E,rfl⟩,J⟩:=d
   grind
  have H: ∀k,(iV h w k).length<=k:=fun k=>by
   unfold iV
   grind
  have I: ∀k,(iW h w k).length<=k:=fun k=>by
   unfold iW
   grind
  have n: ∀k,k<w->((iV h w k).flatMap (bv h f)).length<=64:=fun k m=>by
   have:=Bm (f:=bv h f) (l:=iV h w k) (fun c d=>by
    grind)
   grind
  have A: ∀k,k<=h.length-w->((iW h w k).flatMap (bv h f)).length<=64:=fun k m=>by
   have:=Bm (f:=bv h f) (l:=iW h w k) (fun c d=>by
    grind)
   grind
  have B:=bH (body:=fun(s:Int×(List Int))=>((rO (ny f) h (w:Int) s.1 s.2).map (Sum.elim (fun(t:Int×(List Int))=>Sum.inl (t.1,t.2)) (fun(t:(List Int))=>Sum.inr t)):Option ((Int×(List Int))⊕(((List Int))))))
   (fun k=>(((k+1:Nat):Int),bN ((iV h w k).flatMap (bv h f)))) (w-1) (bN ((eZ h w).flatMap (bv h f)))
   (by
    intro k m
    have r:wrap .i64 (((k+1:Nat):Int)+1)=((k+1+1:Nat):Int):=by grind [wrap64]
    simp only[rO]
    rw[an (show((k+1:Nat):Int)<(w:Int) by omega),read (k+1) (by omega) (by omega),r,akX]
    simp only[au,ac]
    by_cases c:hd h (k+1)=w
    ·obtain⟨p,C⟩:=u (k+1) (by omega) (by omega) c
     rw[show(((hd h (k+1):Nat):Int)==(w:Int))=true from ce.mpr (by omega),aB c,p]
     simp only[au,ac]
     have:=n k (by omega)
     rw[od (by grind [kX]),List.flatMap_append,uw]
     simp
    ·rw[show(((hd h (k+1):Nat):Int)==(w:Int))=false from d5.2 (by omega),aG c,gd]
     rfl)
   (by
    simp only[rO]
    rw[cy (show¬((w-1+1:Nat):Int)<(w:Int) by omega)]
    rfl) LL (by grind [LL])
  have K:=bH (body:=fun(s:Int×(List Int))=>((rP (ny f) h (w:Int) s.1 s.2).map (Sum.elim (fun(t:Int×(List Int))=>Sum.inl (t.1,t.2)) (fun(t:(List Int))=>Sum.inr t)):Option ((Int×(List Int))⊕(((List Int))))))
   (fun k=>(((k+(w+1):Nat):Int),(bN ((eZ h w).flatMap (bv h f))++ [(w:Int)])++bN ((iW h w k).flatMap (bv h f)))) (h.length-w)
   ((bN ((eZ h w).flatMap (bv h f))++ [(w:Int)])++bN ((hX h w).flatMap (bv h f)))
   (by
    intro k m
    have r:wrap .i64 (((k+(w+1):Nat):Int)+1)=((k+1+(w+1):Nat):Int):=by grind [wrap64]
    simp only[rP]
    rw[an (show((k+(w+1):Nat):Int)<=((h.length:Nat):Int) by omega),read (k+(w+1)) (by omega) (by omega),r,akY]
    simp only[au,ac]
    by_cases c:hd h (k+(w+1))=w
    ·obtain⟨p,C⟩:=u (k+(w+1)) (by omega) (by omega) c
     rw[show(((hd h (k+(w+1)):Nat):Int)==(w:Int))=true from ce.mpr (by omega),aB c,p]
     simp only[au,ac]
     have a:=A k (by omega)
     have b:=n (w-1) (by omega)
     have y:((eZ h w).flatMap (bv h f)).length<=64:=b
     rw[od (by grind [List.length_append,kX,List.length_cons,List.length_nil]),List.flatMap_append,uw]
     simp
    ·rw[show(((hd h (k+(w+1)):Nat):Int)==(w:Int))=false from d5.2 (by omega),aG c,gd]
     rfl)
   (by
    simp only[rP]
    rw[cy (show¬((h.length-w+(w+1):Nat):Int)<=((h.length:Nat):Int) by omega)]
    rfl) LL (by grind [LL])
  rw[e]
  unfold EL EJ EE PA Pu EF Pt Ps
  have v:=B
  rw[show((0+1:Nat):Int)=1 from rfl,show bN ((iV h w 0).flatMap (bv h f))=[] from rfl] at v
  simp only[ac]
  rw[v]
  simp only[bn,ac]
  have y:((eZ h w).flatMap (bv h f)).length<=64:=n (w-1) (by omega)
  unfold Pz EG
  rw[od (by grind [kX,List.length_cons,List.length_nil])]
  simp only[ac]
  unfold Py Px EH Pw Pv EI
  have L:wrap .i64 ((w:Int)+1)=((0+(w+1):Nat):Int):=by grind [wrap64]
  simp_all [bN,iW,bv,gd,ac,bn,uw,hX]
end
theorem K6 (h:List Int) (hl:h.length<=1048576):rR h=some (if aA h=true then dw h else[]):=by
 unfold rR wR
 rw[cH]
 cases t:aA h with
 |false=>rfl
 |true=>
  have T:=(bM h).mp t
  have b:=T.le
  have r:fu h=(top h:Int):=by grind [fu]
  have e:rQ h (top h:Int)=lO RR h (top h:Int):=by unfold rQ;rfl
  have a:=Za T RR (top h) (gB h) T.gk (by grind [RR])
  have m:=Y1 T (gB h) T.gk (f:=h.length) (by omega) (RR-h.length)
  rw[show h.length+(RR-h.length)=RR by grind [RR]] at m
  simp only[ac,bo,aq,K5 h hl,r,e,a,m]
  rfl
def oe (o:List Int):Int:=if fT o o.length=true then(cc o:Int) else-1
theorem K7 {o:List Int} {k:Nat} (a:k<o.length):o.take (k+1)=o.take k++ [o[k]]:=h0 a
theorem K8 {o:List Int} (a:o.length<=8): ∀k,k<=o.length->cc (o.take k)<=8*k
 |0,_=>by simp[cc]
 |k+1,b=>by
  have:=K8 a k (by omega)
  grind [K7,Bl,List.countP_le_length,Decidable.decide,List.take,List.length_take]
theorem akZ (o:List Int) (hl:o.length<=1048576):zo o=some (oe o):=by
 have e:zo o=zn o:=by unfold zo;rfl
 rw[e]
 unfold zn Iz oe
 rw[Y7 o _ hl]
 cases t:fT o o.length with
 |false=>rfl
 |true=>
  have g:o.length<=8:=by
   grind [A3]
  have i: ∀k (a:k<o.length),IC o (cc (o.take k):Int) (k:Int)=some (cc (o.take (k+1)):Int):=by
   intro k a
   unfold IC
   have q:=K8 g k (by omega)
   have m:=bH (body:=fun(s:Int×Int)=>((tE o s.1 (k:Int) s.2).map (Sum.elim (fun(t:Int×Int)=>Sum.inl (t.1,t.2)) (fun(t:Int)=>Sum.inr t)):Option ((Int×Int)⊕(Int))))
    (fun j=>((cc (o.take k)+(o.take j).countP (fun b=>decide (o[k]<b)):Nat),(j:Int))) k (cc (o.take (k+1)):Int)
    (by
     intro j n
     have d:idx o (j:Int)=some o[j]:=by grind [idx,Int.toNat_natCast,List.getElem?_eq_getElem]
     have f:idx o (k:Int)=some o[k]:=by grind [idx,Int.toNat_natCast,List.getElem?_eq_getElem]
     have c:=hp (p:=fun b=>decide (o[k]<b)) (l:=o.take j)
     rw[mR] at c
     simp only[tE]
     rw[an (show(j:Int)<(k:Int) by omega),d,f,K7 (show j<o.length by omega),g9]
     grind [wrap64,cc,List.take,Decidable.decide,decide_eq_true,decide_eq_false])
    (by
     grind [tE,decide_eq_false,K7,Bl]) LL (by grind [LL])
   simp_all
  have m:=bH (body:=fun(s:Int×Int)=>((zm o s.1 s.2).map (Sum.elim (fun(t:Int×Int)=>Sum.inl (t.1,t.2)) (fun(t:Int)=>Sum.inr t)):Option ((Int×Int)⊕(Int))))
   (fun k=>((cc (o.take k):Int),(k:Int))) o.length (cc o:Int)
   (by
    intro k a
    simp only[zm,zl,Ue,Ud,Uc,IB,Ub,ID]
    rw[an (show(k:Int)<((o.length:Nat):Int) by omega),i k a,wrap64 (by omega) (by omega)]
    rfl)
   (by
    simp_all [zm,zl,cy,List.length,vN,aS]) LL (by grind [LL])
  simp only[ac,bo,aq,Sum.elim_inl]
  unfold Ui Uh IA Ug Uf IE
  grind [cc]
theorem Bn {h:List Int} (T:Tree h):fT (dw h) (h.length:Nat)=true:=by
 grind [A3,Tree.pos,Tree.le,kW,K4]
theorem ak0 (h:List Int) (hl:h.length<=1048576):IF h=some (if aA h=true then(cc (dw h):Int) else-1):=by
 unfold IF zp
 rw[cH,K6 h hl]
 grind [aA,bM,kW,Bool.not_true,akZ,oe,Bn]
theorem ak1 (h:List Int) (hl:h.length<=1048576):rS h=some (if aA h=true then putRow h (dw h) else[]):=by
 unfold rS wS
 grind [K6,aA,Bool.false_eq_true,Y8,bM,kW,Bn]
def aH (f:Nat->Nat):Nat->Nat
 |0=>0
 |n+1=>aH f n+f n
theorem hY {f g:Nat->Nat}: ∀{n:Nat},(∀i,i<n->f i=g i)->aH f n=aH g n
 |0,_=>rfl
 |n+1,h=>by rw[aH,aH,hY fun i hi=>h i (by omega),h n (by omega)]
theorem ux {f g:Nat->Nat}: ∀{n:Nat},(∀i,i<n->f i<=g i)->aH f n<=aH g n
 |0,_=>aS _
 |n+1,h=>by
  have:=ux fun i (hi:i<n)=>h i (by omega)
  grind [aH]
theorem mw (f g:Nat->Nat): ∀n,aH (fun i=>f i+g i) n=aH f n+aH g n
 |0=>rfl
 |n+1=>by
  rw[aH,aH,aH,mw f g n]
  omega
theorem mx (c:Nat): ∀n,aH (fun _=>c) n=n*c
 |0=>by simp[aH]
 |n+1=>by rw[aH,mx c n,Nat.succ_mul]
theorem Zb (f:Nat->Nat->Nat) (m:Nat): ∀n,aH (fun i=>aH (f i) m) n=aH (fun j=>aH (fun i=>f i j) n) m
 |0=>by
  simp_all [aH,mx]
 |n+1=>by
  rw[aH,Zb f m n,<-mw]
  exact hY fun j _=>rfl
theorem Zc (f:Nat->Nat): ∀n,aH f n=((range n).map f).sum
 |0=>rfl
 |n+1=>by rw[aH,Zc f n,f2,e9,m4];simp
def ind (b:Bool):Nat:=if b then 1 else 0
theorem Zd (b:Bool):ind b<=1:=by grind [ind]
theorem uy (p:Nat->Bool): ∀n,aH (fun i=>ind (p i)) n=(range n).countP p
 |0=>rfl
 |n+1=>by
  rw[aH,uy p n,f2,g9]
  grind [ind]
theorem og {f:Nat->Nat}: ∀{n:Nat},aH f n=0↔ ∀i,i<n->f i=0
 |0=>by simp[aH]
 |n+1=>by
  rw[aH]
  constructor
  ·intro h i hi
   by_cases e:i=n
   ·grind
   ·exact(og (n:=n)).mp (by omega) i (by omega)
  ·intro h
   have:=(og (n:=n)).mpr fun i hi=>h i (by omega)
   simp_all
theorem qu {f:Nat->Nat}: ∀{n k:Nat},k<n->(∀i,i<n->i≠k->f i=0)->aH f n=f k
 |n+1,k,a,h=>by
  rw[aH]
  by_cases e:k=n
  ·subst e
   rw[og.mpr fun i hi=>h i (by omega) (by omega)]
   omega
  ·rw[qu (n:=n) (k:=k) (by omega) fun i hi ne=>h i (by omega) ne,h n (by omega) (by omega)]
   omega
def gT (h:List Int) (w:Nat):Nat:=(range h.length).countP fun i=>hd h (i+1)==w
def ca (h:List Int) (w:Nat):Nat:=gT h w+if hd h w=0 then 0 else 1
theorem K9 (h:List Int) (w:Nat):gT h w=aH (fun i=>ind (hd h (i+1)==w)) h.length:=by rw[uy];rfl
section
variable {h : List Int} (T : Tree h)
include T
theorem ak2:aH (fun i=>gT h (i+1)) h.length=h.length-1:=by
 have e:aH (fun i=>gT h (i+1)) h.length=aH (fun j=>ind (hd h (j+1) !=0)) h.length:=by
  rw[hY fun i _=>K9 h (i+1),Zb]
  refine hY fun j f=> ?_
  have l:=T.cW (show 1<=j+1 by omega) (by omega)
  by_cases z:hd h (j+1)=0
  ·grind [og,ind]
  ·rw[qu (k:=hd h (j+1)-1) (by omega) fun i _ ne=>by
    rw[show(hd h (j+1)==i+1)=false from d5.mpr (by omega)]
    rfl]
   grind
 have c:aH (fun j=>ind (hd h (j+1) !=0)) h.length+aH (fun j=>ind (hd h (j+1)==0)) h.length=h.length:=by
  rw[<-mw,hY (g:=fun _=>1),mx]
  ·omega
  ·intro i _
   by_cases z:hd h (i+1)=0
   ·rw[z];rfl
   ·rw[show(hd h (i+1) !=0)=true from j7.mpr z,show(hd h (i+1)==0)=false from d5.mpr z]
    rfl
 have d:aH (fun j=>ind (hd h (j+1)==0)) h.length=1:=by
  have a:=gB h
  have b:=T.gk
  rw[qu (k:=top h-1) (by omega) fun i hi ne=> ?_]
  ·rw[show top h-1+1=top h by omega,(T.eG a b).mpr rfl]
   rfl
  ·rw[show(hd h (i+1)==0)=false from d5.mpr fun z=>ne (by
    grind [Tree.eG])]
   rfl
 omega
theorem ak3:aH (fun i=>if hd h (i+1)=0 then 0 else 1) h.length=h.length-1:=by
 have e:aH (fun i=>if hd h (i+1)=0 then 0 else 1) h.length+aH (fun j=>ind (hd h (j+1)==0)) h.length=h.length:=by
  rw[<-mw,hY (g:=fun _=>1),mx]
  ·omega
  ·intro i _
   by_cases z:hd h (i+1)=0
   ·rw[z];rfl
   ·rw[aG z,show(hd h (i+1)==0)=false from d5.mpr z]
    rfl
 have c:aH (fun j=>ind (hd h (j+1)==0)) h.length=1:=by
  have a:=gB h
  have b:=T.gk
  rw[qu (k:=top h-1) (by omega) fun i hi ne=> ?_]
  ·rw[show top h-1+1=top h by omega,(T.eG a b).mpr rfl]
   rfl
  ·rw[show(hd h (i+1)==0)=false from d5.mpr fun z=>ne (by
    grind [Tree.eG])]
   rfl
 omega
end
def gt (h:List Int) (w:Nat):Nat:=if hd h w=0 then 0 else max (hd h w) w-min (hd h w) w
def oh (h:List Int):Nat:=aH (fun i=>gt h (i+1)) h.length
section
variable {h : List Int} (T : Tree h)
include T
theorem Bo {w:Nat} (a:1<=w) (b:w<=h.length):hd h w≠w:=by
 intro e
 have:=T.ft a b (by omega)
 simp_all
theorem ak4 {w:Nat} (a:1<=w) (b:w<=h.length):gt h w<h.length:=by
 grind [gt,Tree.cW]
theorem La:oh h<=64:=by
 have l:=T.le
 have:=ux (f:=fun i=>gt h (i+1)) (g:=fun _=>8) (n:=h.length) fun i hi=>by
  have:=ak4 T (show 1<=i+1 by omega) (by omega)
  omega
 rw[mx] at this
 unfold oh
 omega
end
def ef {α:Type} (f:α->α->Nat):List α->Nat
 |[]=>0
 |a::r=>(r.map (f a)).sum+ef f r
section
variable {α : Type}
theorem Lb {f g:α->Nat}: ∀{l:List α},(∀x∈l,f x<=g x)->(l.map f).sum<=(l.map g).sum
 |[],_=>aS _
 |a::r,h=>by
  rw[dM,dM,fr,fr]
  have:=h a bk
  have:=Lb fun x b=>h x (bB a b)
  omega
theorem ak5 {f g:α->Nat} {l:List α} (h: ∀x∈l,f x=g x):(l.map f).sum=(l.map g).sum:=
 Nat.le_antisymm (Lb fun x a=>j8 (h x a)) (Lb fun x a=>j8 (h x a).symm)
theorem Ze {f:α->Nat}: ∀{l:List α},(∀x∈l,f x=0)->(l.map f).sum=0
 |[],_=>rfl
 |a::r,h=>by rw[dM,fr,h a bk,Ze fun x b=>h x (bB a b)]
theorem Zf (f g:α->Nat): ∀l:List α,(l.map fun x=>f x+g x).sum=(l.map f).sum+(l.map g).sum
 |[]=>rfl
 |a::r=>by
  simp only[dM,fr]
  rw[Zf f g r]
  omega
theorem Zg (p:α->Bool): ∀l:List α,(l.map fun x=>ind (p x)).sum=l.countP p
 |[]=>rfl
 |a::r=>by
  rw[dM,fr,Zg p r,hm]
  grind [ind]
theorem Zh (f:α->Nat->Nat) (n:Nat): ∀l:List α,(l.map fun x=>aH (f x) n).sum=aH (fun i=>(l.map fun x=>f x i).sum) n
 |[]=>by
  grind [og]
 |a::r=>by
  rw[dM,fr,Zh f n r,<-mw]
  simp_all
theorem Lc {R:α->α->Prop} {f g:α->α->Nat} (c: ∀a b,R a b->f a b=g a b): ∀{l:List α},l.Pairwise R->ef f l=ef g l
 |[],_=>rfl
 |a::r,h=>by
  rw[d7] at h
  rw[ef,ef,Lc c h.2,ak5 fun x d=>c a x (h.1 x d)]
theorem Zi (f g:α->α->Nat): ∀l:List α,ef (fun a b=>f a b+g a b) l=ef f l+ef g l
 |[]=>rfl
 |a::r=>by
  rw[ef,ef,ef,Zi f g r,Zf]
  omega
theorem Zj (f:α->α->Nat->Nat) (n:Nat): ∀l:List α,ef (fun a b=>aH (f a b) n) l=aH (fun i=>ef (fun a b=>f a b i) l) n
 |[]=>by
  grind [og,ef]
 |a::r=>by
  rw[ef,Zj f n r,Zh,<-mw]
  grind [hY,ef]
theorem ak6 (c:Nat):(c+1)*c/2=c+c*(c-1)/2:=by
 cases c<;>grind
theorem Ld (p:α->Bool): ∀l:List α,ef (fun a b=>ind (p a&&p b)) l=l.countP p*(l.countP p-1)/2
 |[]=>by simp[ef]
 |a::r=>by
  rw[ef,Ld p r,hm]
  cases h:p a<;>grind [List.map,ind,Ze,Bool.false_eq_true,Nat.add_sub_cancel,Zg,ak6]
end
def gU (h:List Int):List Nat:=(range h.length).filter fun i=>hd h (i+1) !=0
def gD (h:List Int) (w a:Nat):Bool:=a+1==w||hd h (a+1)==w
def kY (h:List Int) (a b:Nat):Bool:=hd h (b+1)==a+1||hd h (a+1)==b+1||hd h (a+1)==hd h (b+1)
def uz (h:List Int):Nat:=ef (fun a b=>ind (!kY h a b)) (gU h)
theorem Le {h:List Int} {a:Nat}:a∈gU h↔a<h.length/\hd h (a+1)≠0:=by
 grind [gU]
theorem ak7 (h:List Int):(gU h).Pairwise fun a b=>a<b/\(a<h.length/\hd h (a+1)≠0)/\(b<h.length/\hd h (b+1)≠0):=by
 have p:(gU h).Pairwise (· < ·):=(List.pairwise_lt_range (n:=h.length)).filter _
 exact p.imp_of_mem fun c d lt=>⟨lt,Le.mp c,Le.mp d⟩
section
variable {h : List Int} (T : Tree h)
include T
theorem Zk:(gU h).length=h.length-1:=by
 have:=ak3 T
 rw[<-this,gU,<-f9,<-uy]
 refine hY fun i _=> ?_
 by_cases z:hd h (i+1)=0
 ·rw[z];rfl
 ·rw[aG z,show(hd h (i+1) !=0)=true from j7.mpr z]
  rfl
theorem Zl {w:Nat} (a:1<=w) (b:w<=h.length):(gU h).countP (gD h w)=ca h w:=by
 unfold gU ca
 rw[List.countP_filter,<-uy,K9]
 have one:(if hd h w=0 then 0 else 1)=aH (fun i=>ind (i+1==w&&hd h (i+1) !=0)) h.length:=by
  rw[qu (k:=w-1) (by omega) fun i _ ne=>by
   rw[show(i+1==w)=false from d5.mpr (by omega)]
   rfl]
  rw[show w-1+1=w by omega,d9,d6]
  by_cases z:hd h w=0
  ·rw[z];rfl
  ·rw[aG z,show(hd h w !=0)=true from j7.mpr z]
   rfl
 rw[one,<-mw]
 refine hY fun i hi=> ?_
 grind [Bo,List.length,gD,hd,ind]
theorem ak8 {a b:Nat} (c:1<=a) (d:a<=h.length) (e:1<=b) (f:b<=h.length) (i:hd h a=b) (j:hd h b=a):False:=by
 have g:=T.ft c d (by omega)
 grind [Tree.ft]
theorem ak9 {a b:Nat} (r:a<b) (j:a<h.length/\hd h (a+1)≠0) (l:b<h.length/\hd h (b+1)≠0):
  aH (fun i=>ind (gD h (i+1) a&&gD h (i+1) b)) h.length=ind (kY h a b):=by
 have t:=T.cW (show 1<=a+1 by omega) (show a+1<=h.length by omega)
 have u:=T.cW (show 1<=b+1 by omega) (show b+1<=h.length by omega)
 have w:=Bo T (show 1<=a+1 by omega) (show a+1<=h.length by omega)
 have x:=Bo T (show 1<=b+1 by omega) (show b+1<=h.length by omega)
 have v:=fun f g=>ak8 T (show 1<=a+1 by omega) (show a+1<=h.length by omega) (show 1<=b+1 by omega) (show b+1<=h.length by omega) f g
 have c: ∀i,(gD h (i+1) a&&gD h (i+1) b)=true↔(a=i\/hd h (a+1)=i+1)/\(b=i\/hd h (b+1)=i+1):=by
  grind [gD]
 by_cases s:kY h a b=true
 ·rw[s]
  have d:=s
  unfold kY at d
  simp only[eA,ce] at d
  have: ∃k,k<h.length/\(gD h (k+1) a&&gD h (k+1) b)=true/\ ∀i,(gD h (i+1) a&&gD h (i+1) b)=true->i=k:=by
   rcases d with(e|e)|e
   ·refine⟨a,j.1,(c a).mpr ⟨.inl rfl,.inr e⟩,fun i hi=> ?_⟩
    grind
   ·refine⟨b,l.1,(c b).mpr ⟨.inr e,.inl rfl⟩,fun i hi=> ?_⟩
    grind
   ·refine⟨hd h (a+1)-1,by omega,(c _).mpr ⟨.inr (by omega),.inr (by omega)⟩,fun i hi=> ?_⟩
    grind
  obtain⟨k,m,n,p⟩:=this
  rw[qu m fun i _ ne=>by
   rw[show(gD h (i+1) a&&gD h (i+1) b)=false from j6.mpr fun q=>ne (p i q)]
   rfl]
  rw[n]
 grind [og,ind,gD,kY]
theorem Lf:uz h+aH (fun i=>ca h (i+1)*(ca h (i+1)-1)/2) h.length=(h.length-1)*(h.length-2)/2:=by
 have d:aH (fun i=>ca h (i+1)*(ca h (i+1)-1)/2) h.length=ef (fun a b=>ind (kY h a b)) (gU h):=by
  rw[<-Lc (fun a b r=>ak9 T r.1 r.2.1 r.2.2) (ak7 h),Zj]
  refine hY fun i hi=> ?_
  rw[Ld,Zl T (by omega) (by omega)]
 have c:ef (fun a b=>ind (!kY h a b)+ind (kY h a b)) (gU h)=(h.length-1)*(h.length-2)/2:=by
  rw[Lc (R:=fun _ _=>True) (g:=fun a b=>ind ((fun _=>true) a&&(fun _=>true) b)) (fun a b _=>by cases kY h a b<;>rfl) (List.pairwise_of_forall fun _ _=>trivial),Ld,List.countP_true,Zk T]
  rfl
 rw[Zi] at c
 rw[d]
 exact c
end
def jO (h:List Int):Int:=if aA h then((oh h:Nat):Int) else-1
theorem Zm (y z:Nat):imax (y:Int) (z:Int)=((max y z:Nat):Int):=by grind [imax]
theorem Lg (y z:Nat):bX (y:Int) (z:Int)=((min y z:Nat):Int):=by grind [bX]
theorem Bp (f:Nat->Nat): ∀{k n:Nat},k<=n->aH f k<=aH f n
 |k,0,h=>by
  simp_all
 |k,n+1,h=>by
  by_cases e:k=n+1
  ·simp_all
  ·have:=Bp f (k:=k) (n:=n) (by omega)
   grind [aH]
theorem ala (h:List Int):zr h=some (jO h):=by
 have e:zr h=zq h:=by unfold zr;rfl
 rw[e]
 unfold zq IG jO
 rw[cH h]
 cases t:aA h with
 |false=>rfl
 |true=>
  have T:=(bM h).mp t
  have c:=La T
  have m:=T.le
  have d:=bH (body:=fun(s:Int×Int)=>((tF h s.1 s.2).map (Sum.elim (fun(t:Int×Int)=>Sum.inl (t.1,t.2)) (fun(t:Int)=>Sum.inr t)):Option ((Int×Int)⊕(Int))))
   (fun k=>(((aH (fun i=>gt h (i+1)) k:Nat):Int),(k:Int))) h.length ((oh h:Nat):Int)
   (by
    intro k j
    have g:=T.get (w:=k+1) (by omega) (by omega)
    rw[e6] at g
    have b:=Bp (fun i=>gt h (i+1)) (show k+1<=h.length by omega)
    have f:aH (fun i=>gt h (i+1)) h.length<=64:=c
    have l:=T.cW (w:=k+1) (by omega) (by omega)
    have w:wrap .i64 ((k:Int)+1)=((k+1:Nat):Int):=by grind [wrap64]
    simp only[tF]
    rw[an (show(k:Int)<((h.length:Nat):Int) by omega),fp,g,w]
    simp only[au,ac]
    rw[Zm,Lg]
    by_cases z:hd h (k+1)=0
    ·grind [decide_eq_false,hd,gt,aH]
    ·rw[an (show((hd h (k+1):Nat):Int)>0 by omega)]
     grind [gt,Max.max,hd,Min.min,aH,wrap64])
   (by
    simp only[tF]
    rw[cy (show¬((h.length:Nat):Int)<((h.length:Nat):Int) by omega)]
    rfl) LL (by grind [LL])
  simp only[ac,bo,aq,Sum.elim_inl,cU]
  unfold Un Ul IH Uk Uj
  have a:=d
  rw[show aH (fun i=>gt h (i+1)) 0=0 from rfl,show((0:Nat):Int)=0 from rfl] at a
  simp only[ac]
  rw[a]
  rfl
def my (h:List Int):List Int:=if aA h then(range h.length).map fun k=>((ca h (k+1):Nat):Int) else[]
def jP (h:List Int):Int:=if aA h then((uz h:Nat):Int) else-1
theorem alb {h:List Int} (t:aA h=true):(my h).length=h.length:=by grind [my]
theorem alc {h:List Int} (t:aA h=true) {k:Nat} (a:k<h.length):(my h)[k]? =some ((ca h (k+1):Nat):Int):=by
 grind [my]
theorem ald (h:List Int) (w:Nat):gT h w<=h.length:=by
 grind [gT,Nat.le_trans,List.countP_le_length]
theorem ale (h:List Int) (w:Nat):ca h w<=h.length+1:=by
 grind [ca,ald]
theorem alf {h:List Int} (T:Tree h) {k a:Nat} (p:k<h.length) (m:a<=1):zG h (k:Int) (a:Int)=some ((gT h (k+1)+a:Nat):Int):=by
 unfold zG
 have q:=T.le
 have e: ∀j,j<=h.length->aH (fun i=>ind (hd h (i+1)==k+1)) j<=8:=fun j d=>by
  have:=ux (f:=fun i=>ind (hd h (i+1)==k+1)) (g:=fun _=>1) (n:=j) fun i _=>Zd _
  rw[mx] at this
  omega
 have w0:wrap .i64 ((k:Int)+1)=((k+1:Nat):Int):=by grind [wrap64]
 have r:=bH (body:=fun(s:Int×Int)=>((tK h (k:Int) s.1 s.2).map (Sum.elim (fun(t:Int×Int)=>Sum.inl (t.1,t.2)) (fun(t:Int)=>Sum.inr t)):Option ((Int×Int)⊕(Int))))
  (fun j=>(((aH (fun i=>ind (hd h (i+1)==k+1)) j+a:Nat):Int),(j:Int))) h.length ((gT h (k+1)+a:Nat):Int)
  (by
   intro j d
   have g:=T.get (w:=j+1) (by omega) (by omega)
   rw[e6] at g
   have b:=e j (by omega)
   simp only[tK]
   rw[an (show(j:Int)<((h.length:Nat):Int) by omega),fp,g,w0]
   simp only[au,ac]
   have w:wrap .i64 ((j:Int)+1)=((j+1:Nat):Int):=by grind [wrap64]
   have l:wrap .i64 (((aH (fun i=>ind (hd h (i+1)==k+1)) j+a:Nat):Int)+1)=((aH (fun i=>ind (hd h (i+1)==k+1)) j+1+a:Nat):Int):=by grind [wrap64]
   rw[w,l,aH]
   by_cases c:hd h (j+1)=k+1
   ·rw[show(((hd h (j+1):Nat):Int)==((k+1:Nat):Int))=true from ce.mpr (by omega),show(hd h (j+1)==k+1)=true from ce.mpr c]
    rfl
   ·rw[show(((hd h (j+1):Nat):Int)==((k+1:Nat):Int))=false from d5.mpr (by omega),show(hd h (j+1)==k+1)=false from d5.mpr c]
    rfl)
  (by
   grind [tK,decide_eq_false,List.length,K9]) LL (by grind [LL])
 grind [aH,ind,hd]
theorem alg (h:List Int):zJ h=some (my h):=by
 have e:zJ h=zI h:=by unfold zJ;rfl
 rw[e]
 unfold zI I4 U3 U2 I5 U1 U0 I9 my
 simp only[ac]
 cases t:aA h with
 |false=>
  have m:=bH (body:=fun(s:Int×(List Int))=>((pZ h s.1 s.2).map (Sum.elim (fun(t:Int×(List Int))=>Sum.inl (t.1,t.2)) (fun(t:(List Int))=>Sum.inr t)):Option ((Int×(List Int))⊕(((List Int))))))
   (fun _=>((0:Int),([]:List Int))) 0 ([]:List Int) (fun k b=>absurd b (by omega))
   (by
    grind [pZ,tJ,cH,List.length,decide_eq_true,decide_eq_false]) LL (by grind [LL])
  grind
 |true=>
  have T:=(bM h).mp t
  have n:=T.le
  have m:=bH (body:=fun(s:Int×(List Int))=>((pZ h s.1 s.2).map (Sum.elim (fun(t:Int×(List Int))=>Sum.inl (t.1,t.2)) (fun(t:(List Int))=>Sum.inr t)):Option ((Int×(List Int))⊕(((List Int))))))
   (fun k=>((k:Int),(range k).map fun j=>((ca h (j+1):Nat):Int))) h.length ((range h.length).map fun k=>((ca h (k+1):Nat):Int))
   (by
    intro k b
    have g:=T.get (w:=k+1) (by omega) (by omega)
    rw[e6] at g
    have w:wrap .i64 ((k:Int)+1)=((k+1:Nat):Int):=by grind [wrap64]
    simp only[pZ,tJ,UZ,UY,UX,I6,UW,UV,I7,UU,I8]
    rw[an (show(k:Int)<((h.length:Nat):Int) by omega),cH,t,fp,g,w]
    simp only[au,ac,Sum.elim_inl]
    have i: ∀a:Nat,a<=1->zG h (k:Int) (a:Int)=some ((gT h (k+1)+a:Nat):Int):=fun a l=>alf T b l
    have d:=i 0 (by omega)
    have f:=i 1 (by omega)
    rw[show((0:Nat):Int)=0 from rfl] at d
    rw[show((1:Nat):Int)=1 from rfl] at f
    have fin: ∀c:Int,zH c ((range k).map fun j=>((ca h (j+1):Nat):Int))=some (((range k).map fun j=>((ca h (j+1):Nat):Int))++ [c]):=fun c=>by
     grind [zH,fv]
    by_cases z:hd h (k+1)=0
    ·rw[cy (show¬((hd h (k+1):Nat):Int)>0 by omega)]
     simp only[aq,ac,d,bn,fin,Sum.elim_inl]
     simp_all [ca,gT,aB,f2,e9,dM,iB]
    ·rw[an (show((hd h (k+1):Nat):Int)>0 by omega)]
     simp only[au,ac,f,bn,fin,Sum.elim_inl]
     simp_all [ca,gT,aG,f2,e9,dM,iB])
   (by
    grind [pZ,tJ,decide_eq_false,List.length]) LL (by grind [LL])
  simp_all
theorem Lh {a:Nat} {b:Nat} (f:0<b) (d:a<=1000000000):quo .i64 (a:Int) (b:Int)=some ((a/b:Nat):Int):=by
 unfold quo
 rw[aG (by omega)]
 have e:(a:Int).tdiv (b:Int)=((a/b:Nat):Int):=rfl
 have c:=Nat.div_le_self a b
 grind [wrap64]
theorem alh (h:List Int):zL h=some (jP h):=by
 have e:zL h=zK h:=by unfold zL;rfl
 rw[e]
 unfold zK Ja jP
 rw[cH,alg]
 cases t:aA h with
 |false=>rfl
 |true=>
  have T:=(bM h).mp t
  have u:=T.le
  have r:=T.pos
  have p:=Lf T
  have q:=alb t
  have l:wrap .i64 (((h.length:Nat):Int)-1)=((h.length:Nat):Int)-1:=wrap64 (by omega) (by omega)
  have m:wrap .i64 (((h.length:Nat):Int)-2)=((h.length:Nat):Int)-2:=wrap64 (by omega) (by omega)
  have a:(((h.length:Nat):Int)-1)*(((h.length:Nat):Int)-2)=(((h.length-1)*(h.length-2):Nat):Int):=by
   grind
  have j:(h.length-1)*(h.length-2)<=42:=fy (fz (show h.length-1<=7 by omega) (show h.length-2<=6 by omega)) (by omega)
  have d:quo .i64 (wrap .i64 ((((h.length:Nat):Int)-1)*(((h.length:Nat):Int)-2))) 2=some (((h.length-1)*(h.length-2)/2:Nat):Int):=by
   rw[a,wrap64 (by omega) (by omega)]
   exact Lh (b:=2) (by omega) (by omega)
  rw[l,m,d]
  simp only[ac,bo,aq,Sum.elim_inl,cU]
  unfold U7 U6 Jb U5 U4 Jc
  have v:=bH (body:=fun(s:Int×Int)=>((tL s.1 s.2 (my h)).map (Sum.elim (fun(t:Int×Int)=>Sum.inl (t.1,t.2)) (fun(t:Int)=>Sum.inr t)):Option ((Int×Int)⊕(Int))))
   (fun k=>((((h.length-1)*(h.length-2)/2-aH (fun i=>ca h (i+1)*(ca h (i+1)-1)/2) k:Nat):Int),(k:Int))) h.length ((uz h:Nat):Int)
   (by
    intro k c
    have b:=Bp (fun i=>ca h (i+1)*(ca h (i+1)-1)/2) (show k+1<=h.length by omega)
    have le:=ale h (k+1)
    have w:wrap .i64 ((k:Int)+1)=((k+1:Nat):Int):=by grind [wrap64]
    have g:=alc t c
    simp only[tL]
    rw[an (show(k:Int)<(((my h).length:Nat):Int) by omega),cg (by omega),w]
    simp only[au,ac,g]
    have n:wrap .i64 (((ca h (k+1):Nat):Int)-1)=((ca h (k+1):Nat):Int)-1:=wrap64 (by omega) (by omega)
    have a:((ca h (k+1):Nat):Int)*(((ca h (k+1):Nat):Int)-1)=((ca h (k+1)*(ca h (k+1)-1):Nat):Int):=by
     grind
    have j:ca h (k+1)*(ca h (k+1)-1)<=72:=fy (fz (show ca h (k+1)<=9 by omega) (show ca h (k+1)-1<=8 by omega)) (by omega)
    have f:quo .i64 (wrap .i64 (((ca h (k+1):Nat):Int)*(((ca h (k+1):Nat):Int)-1))) 2=some ((ca h (k+1)*(ca h (k+1)-1)/2:Nat):Int):=by
     rw[a,wrap64 (by omega) (by omega)]
     exact Lh (b:=2) (by omega) (by omega)
    rw[n,f]
    simp only[ac,bn,Sum.elim_inl]
    grind [aH,wrap64])
   (by
    grind [tL,decide_eq_false,List.length]) LL (by grind [LL])
  grind [aH,ca]
theorem ali {h:List Int} (T:Tree h):uz h<=21:=by
 have:=Lf T
 have a:=T.le
 have b:(h.length-1)*(h.length-2)<=42:=fy (fz (show h.length-1<=7 by omega) (show h.length-2<=6 by omega)) (by omega)
 omega
abbrev fa:=List Int×List (List Int)
def cS (d:fa):Bool:=d.2.all aA&&(aA d.1&&decide (d.2.length<=8))
def eJ (a:gs) (k:Int):Bool:=(a.1==k)&&((a.2.1==0)&&((a.2.2.1==0)&&true))
def Li (h:List Int):List Int:=if aA h=true then putRow h (dw h) else[]
def dY (h:List Int) (a:gs):List Int:=
 if((a.1==0)&&(decide (1<=a.2.1)&&decide (a.2.1<=h.length)))=true then h.set (a.2.1-1).toNat a.2.2.1
 else if((a.1==1)&&(a.2.2.1==0))=true then h++ [a.2.1]
 else if eJ a 2=true then h.dropLast
 else if eJ a 3=true then qm h
 else if eJ a 4=true then Li h
 else[]
def mz (p:List (List Int)) (h:List Int):List (List Int):=if p.length<8 then p++ [h] else(p++ [h]).drop 1
def eg (d:fa) (a:gs):Bool×fa:=
 if cS d=true then
  if(eJ a 5&& !d.2.isEmpty)=true then(true,d.2.getLastD [],d.2.dropLast)
  else if(dY d.1 a==d.1|| !aA (dY d.1 a))=true then(false,d)
  else(true,dY d.1 a,mz d.2 d.1)
 else(false,[],[])
theorem dd {h:List Int} (t:aA h=true):1<=h.length/\h.length<=8:=by
 have T:=(bM h).mp t
 exact⟨T.pos,T.le⟩
theorem Zn: ∀(p:List (List Int)) (x:List Int),x∈p->x.length<=(p.map List.length).sum
 |[],x,h=>by cases h
 |y::p,x,h=>by
  rw[dM,fr]
  rcases ej.mp h with rfl|h
  ·omega
  ·have:=Zn p x h;omega
theorem Lj (n:List Int) (p:List (List Int)) (i:p.length<=1152921504606846974):nw n p=some (cS (n,p)):=by
 have e:nw n p=wO n p:=by unfold nw;rfl
 rw[e]
 unfold wO Er Pe Pd Es Pc Pb
 have w: ∀k:Nat,k<p.length->wrap .i64 ((k:Int)+1)=((k+1:Nat):Int):=fun k a=>by grind [wrap64]
 have c:=mg (body:=fun(s:Int)=>((pr s p).map (Sum.elim (fun(t:Int)=>Sum.inl t) (Sum.elim (fun(t:Bool)=>Sum.inr (Sum.inl t)) (fun(t:Unit)=>Sum.inr (Sum.inr t)))):Option ((Int)⊕(Bool⊕Unit))))
  (fun k=>(k:Int)) p.length (fun k=>aA (p.getD k [])) (fun b=>cond b (Sum.inr ()) (Sum.inl false))
  (fun k a t=>by
   rw[e4,bh a,ih] at t
   grind [pr,decide_eq_true,List.length,cb,cH,Bool.not_true])
  (fun k a t=>by
   rw[e4,bh a,ih] at t
   grind [pr,decide_eq_true,List.length,cb,cH,Bool.not_false])
  (by
   grind [pr,decide_eq_false,List.length]) LL (by grind [LL])
 have d:ai _ LL (0:Int)=_:=c
 rw[d]
 have f:(range p.length).all (fun k=>aA (p.getD k []))=p.all aA:=by
  rw[e0,bT,bT]
  constructor
  ·intro h x g
   obtain⟨k,a,rfl⟩:=lj g
   simp_all
  simp_all
 rw[f]
 unfold cS
 cases p.all aA with
 |false=>rfl
 |true=>
  simp only[au,bn,Sum.elim_inr,ac,Sum.elim_inl,d6]
  unfold Et
  rw[cH,ac]
  cases aA n with
  |false=>rfl
  |true=>
   simp only[au,d6]
   congr 1
   grind
theorem Zo (n:List Int) (p:List (List Int)) (h:n.length+(p.map List.length).sum+p.length<=1048576):rM n p=some (n,p):=by
 have e:rM n p=wP n p:=by unfold rM;rfl
 rw[e]
 unfold wP Eu Pj Ph Ev Pg Pf Ew
 rw[room_le (by grind)]
 simp only[ac,hC]
 have d: ∀x,x∈p->x.length<=(p.map List.length).sum:=fun x b=>Zn p x b
 have w: ∀k:Nat,k<p.length->wrap .i64 ((k:Int)+1)=((k+1:Nat):Int):=fun k a=>by grind [wrap64]
 have c:=bH (body:=fun(s:Int×(List (List Int)))=>((rL s.1 p s.2).map (Sum.elim (fun(t:Int×(List (List Int)))=>Sum.inl (t.1,t.2)) (fun(t:(List (List Int)))=>Sum.inr t)):Option ((Int×(List (List Int)))⊕(((List (List Int)))))))
  (fun k=>((k:Int),p.take k)) p.length p
  (fun k a=>by
   have lt:(p.take k).length=k:=by grind
   unfold rL
   simp only
   rw[an (show(k:Int)<((p.length:Nat):Int) by omega),cb a]
   simp only[au,ac]
   rw[room_le (by grind),room_le (by omega)]
   simp_all)
  (by
   grind [rL,decide_eq_false,List.length,List.take_length]) LL (by grind [LL])
 simp_all
end Go.Rv
