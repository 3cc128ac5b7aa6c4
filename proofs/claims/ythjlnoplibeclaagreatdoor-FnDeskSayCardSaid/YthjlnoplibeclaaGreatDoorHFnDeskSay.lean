/-
  Plain mathematics of what the law reaches. Conditions: none.
-/
import Derived.Test.YthjlnoplibeclaaGreatDoorHFnDeskSayb
open Go.IntKind (wrap)
open ByteArray (empty)
open List (replicate range getD)
set_option linter.all false
namespace Go.Rv
def m9:=@List.singleton_append
def vy:=@List.pairwise_iff_getElem
def wp:=@List.drop_of_length_le
abbrev ou (n:Int):ByteArray×Int×List ByteArray->Option ((ByteArray×Int×List ByteArray)⊕(ByteArray×Int×List ByteArray)):=
 fun(s:ByteArray×Int×(List ByteArray))=>((py s.1 (ByteArray.mk #[32]) 0 n s.2.1 s.2.2).map (Sum.elim (fun(t:ByteArray×Int×(List ByteArray))=>Sum.inl (t.1,t.2.1,t.2.2)) (fun(t:ByteArray×Int×(List ByteArray))=>Sum.inr t)):Option ((ByteArray×Int×(List ByteArray))⊕((ByteArray×Int×(List ByteArray)))))
theorem aaN (s t:ByteArray):Fg s t=(kx s t).bind some:=by
 unfold Fg w8 P3
 rfl
theorem Mg {n i:Int} {t:ByteArray} {row:List ByteArray} (h: ¬i<n):ou n (t,i,row)=some (.inr (t,i,row)):=by
 grind [py,decide_eq_false]
theorem aaO {n i:Int} {t:ByteArray} {row:List ByteArray} (h:i<n) (c:32∉ap t):ou n (t,i,row)=some (.inr (t,i,row)):=by
 simp_all [ou,py,an,aaN,alT]
theorem aaP {n:Int} {k:Nat} {t:ByteArray} {row:List ByteArray} {a b:List Nat} (h:(k:Int)<n) (e:k<row.length) (l:k<=1000) (m:t.size<=1000000000) (c:ap t=a++32::b) (d:32∉a):
  ou n (t,(k:Int),row)=some (.inl (cR b,((k+1:Nat):Int),row.set k (cR a))):=by
 obtain⟨_,_,j⟩:=LF c
 have f:wrap .i64 (((a.length:Nat):Int)+0)=((a.length:Nat):Int):=by grind [wrap64]
 have g:wrap .i64 (((a.length:Nat):Int)+(((ByteArray.mk #[32]).size:Nat):Int))=((a.length+1:Nat):Int):=by
  show wrap .i64 (((a.length:Nat):Int)+1)=_
  grind [wrap64]
 have i:wrap .i64 ((k:Int)+1)=((k+1:Nat):Int):=by grind [wrap64]
 simp only[ou,py]
 rw[an h,aaN,alU (c:=32) c d]
 simp only[au,ac]
 rw[cy (by omega),f,g,i,aq,qp (by omega) (by omega),ac,cg e,ac,qp (by omega) (by omega),ac,d8,d8,alV c,alW c]
 rfl
def Mh (s:ByteArray) (n:Nat) (row:List ByteArray):Prop:=
 n<=row.length/\1<=n/\n<=3/\(∀x∈row,x.size<=s.size)/\
 (32∉ap s->n=1/\row[0]? =some s)/\
 (∀a b,ap s=a++32::b->32∉a->32∉b->n=2/\row[0]? =some (cR a)/\row[1]? =some (cR b))/\
 (∀a b c,ap s=a++32::(b++32::c)->32∉a->32∉b->n=3/\row[0]? =some (cR a)/\row[1]? =some (cR b)/\row[2]? =some (cR c))
theorem uU (l:List Nat):(cR l).size=l.length:=by
 show(Array.size _)=_
 simp[cR]
theorem aaQ {s:ByteArray} (h: ¬32∉ap s): ∃a b,ap s=a++32::b/\32∉a:=by
 rcases LD s 32 with⟨_,c⟩|⟨a,b,d,c,_⟩
 all_goals grind
theorem anq (s:ByteArray) (O:s.size<=1000000000): ∃n row,xb s (ByteArray.mk #[32]) 3=some (n,row)/\Mh s n row:=by
 obtain⟨N,v⟩:=Bw
 have e:xb s (ByteArray.mk #[32]) 3=r0 s (ByteArray.mk #[32]) 3:=by unfold xb;rfl
 have I:Fi s (ByteArray.mk #[32]) 0 3=xa s (ByteArray.mk #[32]) 0 3:=by unfold Fi;rfl
 rw[e]
 unfold r0
 rw[I]
 unfold xa Fh
 have w:wrap .i64 (((s.size:Nat):Int)+1)=((s.size+1:Nat):Int):=by grind [wrap64]
 have R:aD (ByteArray.mk #[32]) empty=false:=kU (by decide)
 rw[R,w,show((3:Int)==0)=false from rfl,show decide ((3:Int)<0)=false from rfl]
 simp only[aq]
 obtain⟨m,M,a4,a6,ms⟩: ∃m:Nat,bX 3 ((s.size+1:Nat):Int)=(m:Int)/\1<=m/\m<=3/\ ∀l,l<=s.size->l<=2->l<m:=by
  by_cases c:s.size+1<=3
  ·refine⟨s.size+1,?_,by omega,by omega,fun l o j=>by omega⟩
   grind [bX]
  ·refine⟨3,?_,by omega,by omega,fun l o j=>by omega⟩
   grind [bX]
 rw[M,hn (by omega),ac,wrap64 (x:=(m:Int)-1) (by omega) (by omega)]
 simp only[ac,Sum.elim_inl]
 unfold P6 P5 P4
 have fin: ∀(t:ByteArray) (k:Nat) (row:List ByteArray),row.length=m->k<m->ai (ou ((m:Int)-1)) LL (s,((0:Nat):Int),replicate m empty)=some (t,((k:Nat):Int),row)->Mh s (k+1) (row.set k t)->
   ∃n A,((((ai (ou ((m:Int)-1)) LL (s,((0:Nat):Int),replicate m empty)).map (fun(t:ByteArray×Int×(List ByteArray))=>(t.1,t.2.1,t.2.2))).bind (fun(t:ByteArray×Int×(List ByteArray))=>w9 t.1 t.2.1 t.2.2)).bind fun(C:Nat×(List ByteArray))=>some ((C.1),(C.2)))=some (n,A)/\Mh s n A:=by
  intro t k row K a1 J a0
  rw[J]
  simp only[bn,ac]
  grind [w9,wrap,wrap64,cg,qp,List.length_set,Int.toNat_natCast]
 have Q:(replicate m empty).length=m:=List.length_replicate ..
 have r: ∀x∈replicate m empty,x.size<=s.size:=fun x P=>by simp_all
 have g: ∀{row:List ByteArray} {k:Nat} {u:ByteArray},(∀x∈row,x.size<=s.size)->u.size<=s.size-> ∀x∈row.set k u,x.size<=s.size:=fun {row k u} h a2 x P=>by
  grind
 by_cases i:32∉ap s
 ·refine fin s 0 _ Q (by omega) ?_ ⟨by simp_all,by omega,by omega,g r (aS _),fun _=>⟨rfl,by simp_all⟩,fun f d h _ _=>absurd (by rw[h];simp) i,fun f d a3 h _ _=>absurd (by rw[h];simp) i⟩
  grind [qx,aaO,Mg]
 ·obtain⟨f,d,o,G⟩:=aaQ i
  obtain⟨W,E,K⟩:=LF o
  have a5:1<m:=ms 1 (by omega) (by omega)
  have B:=aaP (n:=(m:Int)-1) (k:=0) (t:=s) (row:=replicate m empty) (by omega) (by omega) (by omega) O o G
  have D:(cR f).size<=s.size:=by rw[uU];omega
  have T:(cR d).size<=s.size:=by rw[uU];omega
  have F:ap (cR d)=d:=alX E
  by_cases Z:32∉d
  ·refine fin (cR d) 1 ((replicate m empty).set 0 (cR f)) (by simp_all) (by omega) ?_ ⟨by grind,by omega,by omega,g (g r D) T,fun h=>absurd h i,fun a b h p q=> ?_,fun a b c h p q=> ?_⟩
   ·rw[v,qw B]
    grind [qx,aaO,Mg]
   all_goals grind [Bx,List.getElem?_set_self,List.length_set,List.getElem?_set_ne,absurd]
  ·obtain⟨y,z,j,H⟩:=aaQ (s:=cR d) (by simp_all)
   obtain⟨X,Y,L⟩:=LF j
   rw[uU] at L
   have a7:2<m:=ms 2 (by omega) (by omega)
   have S:=aaP (n:=(m:Int)-1) (k:=1) (t:=cR d) (row:=(replicate m empty).set 0 (cR f)) (by omega) (by simp_all) (by omega) (by omega) j H
   have U:(cR y).size<=s.size:=by rw[uU];omega
   have V:(cR z).size<=s.size:=by rw[uU];omega
   rw[F] at j
   refine fin (cR z) 2 (((replicate m empty).set 0 (cR f)).set 1 (cR y)) (by grind) (by omega) ?_ ⟨by grind,by omega,by omega,g (g (g r D) U) V,fun h=>absurd h i,fun a b h p q=> ?_,fun a b c h p q=> ?_⟩
   ·rw[v,qw B,qw S]
    grind [qx,Mg]
   all_goals grind [Bx,absurd,List.getElem?_set_self,List.length_set,List.getElem?_set_ne]
theorem anr (w:ByteArray): ∃k,jt w=some k:=by
 have e:jt w=xd w:=by unfold jt;rfl
 rw[e]
 unfold xd Fj Qa P9 Fk P8 P7 Fl
 rw[show same (List.length cM) 6=some () from rfl]
 simp only[ac]
 obtain⟨r,b,_⟩:=nX (body:=fun(s:Int)=>((xc w (cM.getD 0 empty) (cM.getD 1 empty) (cM.getD 2 empty) (cM.getD 3 empty) (cM.getD 4 empty) (cM.getD 5 empty) s).map (Sum.elim (fun(t:Int)=>Sum.inl t) (Sum.elim (fun(t:Int)=>Sum.inr (Sum.inl t)) (fun(t:Unit)=>Sum.inr (Sum.inr t)))):Option ((Int)⊕(Int⊕Unit))))
  (I:=fun s=>0<=s/\s<=6) (μ:=fun s=>(6-s).toNat) (Q:=fun _=>True)
  (by
   intro s ⟨f,g⟩
   unfold xc
   by_cases c:s<6
   ·rw[an c]
    obtain⟨j,rfl⟩:=rs f
    have a:j< [cM.getD 0 empty,cM.getD 1 empty,cM.getD 2 empty,cM.getD 3 empty,cM.getD 4 empty,cM.getD 5 empty].length:=by simp;omega
    rw[au,cb a,ac,wrap64 (by omega) (by omega)]
    cases aD _ w with
    |true=>simp_all
    |false=>exact .inl ⟨_,rfl,⟨by omega,by omega⟩,by omega⟩
   simp_all [cy,trivial]) LL 0 ⟨by omega,by omega⟩ (by grind [LL])
 have d:ai _ LL (0:Int)=some r:=b
 rw[d]
 cases r<;>simp_all
theorem Mi:jt (ByteArray.mk #[104,101,97,100])=some 0/\jt (ByteArray.mk #[97,100,100])=some 1/\jt (hW 2)=some 2/\jt (hW 3)=some 3/\jt (hW 4)=some 4/\jt (hW 5)=some 5:=by
 decide+kernel
theorem aaR {t:ByteArray} (h:t.size<=1000000000):strconv_Atoi t=some (ed t):=by
 grind [strconv_Atoi,rt]
def BR (s:ByteArray) (k x y:Int) (t:ByteArray):Bool×Int×Int×Int:=cond (aD s empty) (false,0,0,0) (cond (!(aD t s)) (false,0,0,0) (true,k,x,y))
theorem ans (s:ByteArray) (L:s.size<=100000000):r6 s=some (bO s):=by
 obtain⟨n,row,B,K,N,O,M,F,G,H⟩:=anq s (by omega)
 have e:r6 s=r5 s:=by unfold r6;rfl
 have w: ∀i (hi:i<row.length),row[i].size<=1000000000:=fun i hi=>by grind
 obtain⟨k,m⟩:=anr (row[0]'(by omega))
 have y:r6 s=some (BR s k (if h:1<n then(ed (row[1]'(by omega))).1 else 0) (if h:2<n then(ed (row[2]'(by omega))).1 else 0) (cj k (if h:1<n then(ed (row[1]'(by omega))).1 else 0) (if h:2<n then(ed (row[2]'(by omega))).1 else 0))):=by
  rw[e]
  unfold r5 BR
  rw[B]
  simp only[ac,iz]
  rw[show(0:Int)=((0:Nat):Int) from rfl,cg (show 0<n by omega),ac,bh (show 0<row.length by omega),ac,m,ac]
  by_cases g:1<n
  ·rw[an (show(n:Int)>1 by omega),au,show(1:Int)=((1:Nat):Int) from rfl,cg g,ac,bh (show 1<row.length by omega),ac,aaR (w 1 _),ac,dif_pos g]
   by_cases j:2<n
   ·rw[an (show(n:Int)>2 by omega),au,show(2:Int)=((2:Nat):Int) from rfl,cg j,ac,bh (show 2<row.length by omega),ac,aaR (w 2 _),ac,dif_pos j,LC]
    cases aD s empty<;>grind
   ·rw[cy (show¬(n:Int)>2 by omega),aq,dif_neg j]
    have:=LC k (ed (row[1]'(by omega))).1 0
    rw[show((0:Nat):Int)=0 from rfl,this]
    cases aD s empty<;>grind
  ·rw[cy (show¬(n:Int)>1 by omega),aq,cy (show¬(n:Int)>2 by omega),aq,dif_neg g,dif_neg (show¬2<n by omega)]
   have:=LC k 0 0
   rw[show((0:Nat):Int)=0 from rfl,this]
   cases aD s empty<;>grind
 rw[y]
 by_cases v: ∃d:Int×Int×Int,cK d.1 d.2.1 d.2.2=true/\cj d.1 d.2.1 d.2.2=s
 ·obtain⟨⟨r,a,b⟩,d,t⟩:=v
  simp only at d t
  have R:=YS d
  rw[t] at R
  have ne:=K3 d
  rw[t] at ne
  rw[R]
  have same:k=r/\(if h:1<n then(ed (row[1]'(by omega))).1 else 0)=a/\(if h:2<n then(ed (row[2]'(by omega))).1 else 0)=b:=by
   have q: ∀{x:ByteArray},row[0]? =some x->row[0]'(by omega)=x:=fun h=>by
    grind
   rcases kV d with⟨u,J,c,D,rfl,rfl,rfl⟩|⟨u,c,rfl,rfl,rfl⟩|⟨z,A,rfl,rfl⟩
   ·have l:ap s=[104,101,97,100]++32::(ap (bF u)++32::ap (bF J)):=by
     rw[<-t,Bb c D,jM,jM,jM]
     simp_all [ap,iT,gr]
    obtain⟨rfl,f,p,I⟩:=H _ _ _ l (by decide) (Bd c)
    rw[Bi] at p I
    have o:=q f
    rw[o,show cR [104,101,97,100]=ByteArray.mk #[104,101,97,100] from rfl,Mi.1] at m
    grind [List.getElem?_eq_getElem,Option.some.inj,ZM]
   ·have l:ap s=[97,100,100]++32::ap (bF u):=by
     rw[<-t,Bc c,jM]
     simp_all [ap,mo]
    obtain⟨rfl,f,p⟩:=G _ _ l (by decide) (Bd c)
    rw[Bi] at p
    have o:=q f
    rw[o,show cR [97,100,100]=ByteArray.mk #[97,100,100] from rfl,Mi.2.1] at m
    grind [List.getElem?_eq_getElem,Option.some.inj,ZM]
   ·have E:s=hW r:=by grind [qs]
    obtain⟨rfl,f⟩:=F (by
     rw[E]
     rcases mq z A with rfl|rfl|rfl|rfl<;>decide)
    grind [Mi,mq,Option.some.inj]
  grind [same,BR,kU,jL]
 ·rw[YT (fun k a b hd C=>v ⟨(k,a,b),hd,C⟩)]
  unfold BR
  by_cases em:s=empty
  all_goals grind [jL,kU,ed,aD,cj,cK,K1]
def uV:Nat->List (List Bool)
 |0=> [[]]
 |n+1=>(uV n).flatMap fun l=> [true::l,false::l]
theorem aaS: ∀(l:List Bool),l∈uV l.length
 |[]=>by simp[uV]
 |b::l=>by
  simp only[ck,uV,List.mem_flatMap]
  refine⟨l,aaS l,?_⟩
  simp_all
theorem ant (h:List Int) (a b:Int):iY h b a=iY h a b:=by
 grind [iY,al4,Bool.and_comm,dk]
theorem anu:((range 256).all fun m=>Gb (m:Int)==some ((fb m:Nat)-1:Int))=true:=by decide+kernel
theorem anv {m:Nat} (h:m<256):Gb (m:Int)=some ((fb m:Nat)-1:Int):=by simpa using gQ anu h
theorem anw (h:List Int):xI h=some (jR h):=by
 have e:xI h=xH h:=by unfold xI;rfl
 rw[e]
 unfold xH Gc jR
 rw[fq]
 cases c:aA h with
 |false=>rfl
 |true=>
  have T:=(bM h).mp c
  have b:=T.le
  have l:=T.pos
  simp only[ac,bo,aq,Sum.elim_inl]
  unfold Q8 Q7 Gd Q6 Q5 Ge
  rw[uk T]
  simp only[ac]
  have one: ∀i,i<h.length->1<=fb (bq h (i+1)):=fun i hi=>ZS (fS b _) (ZU T (by omega) (by omega))
  have m: ∀k,dn h k<=8:=by
   intro k
   induction k<;>grind [dn,List.range_succ,LM,bq]
  have f:=bH (body:=fun(s:Int×Int)=>((sv s.1 ((eW h).length:Nat) s.2 (eW h)).map (Sum.elim (fun(t:Int×Int)=>Sum.inl (t.1,t.2)) (fun(t:Int)=>Sum.inr t)):Option ((Int×Int)⊕(Int))))
   (fun j=>(((dn h j-1:Nat):Int),(j:Int))) h.length ((dn h h.length-1:Nat):Int)
   (by
    intro j a
    simp only[sv,jK]
    rw[an (show(j:Int)<((h.length:Nat):Int) by omega),cg a]
    simp only[au,ac,nT h a,anv (fS b (j+1))]
    rw[wrap64 (by omega) (by omega)]
    have o:=one j a
    have st:dn h (j+1)=max (dn h j) (fb (bq h (j+1))):=by
     grind [dn,List.range_succ]
    grind [imax,dn,fb,bq])
   (by
    grind [sv,jK,decide_eq_false])
  have d:=f LL (by grind [LL])
  rw[show((0:Int),(0:Int))=(((dn h 0-1:Nat):Int),((0:Nat):Int)) from rfl,d]
  have:1<=dn h h.length:=by
   obtain⟨k,g⟩: ∃k,h.length=k+1:=⟨h.length-1,by omega⟩
   grind [dn,List.range_succ]
  grind
def BS (f:Int->Int->Option Bool) (c a:Int) (l:List Int) (n j:Int):Option ((Int×Int)⊕Int):=
 cond (decide (j<n)) ((idx l j).bind fun(y:Int)=>(f a y).bind fun(b:Bool)=>cond b (some (Sum.inl ((wrap .i64 (c+1)),(wrap .i64 (j+1))))) (some (Sum.inl (c,(wrap .i64 (j+1)))))) (some (Sum.inr c))
def Mj (f:Int->Int->Option Bool) (c a:Int) (l:List Int) (n:Int):Option Int:=
 (ai (fun(s:Int×Int)=>((BS f s.1 a l n s.2).map (Sum.elim (fun(t:Int×Int)=>Sum.inl (t.1,t.2)) (fun(t:Int)=>Sum.inr t)):Option ((Int×Int)⊕(Int)))) LL (c,0)).map (fun(t:Int)=>t)
def w1 (l:List Int) (k:Int):Option (Int×List Int×Int):=
 (idx l k).bind fun(v:Int)=>(inc (wrap .i64 (k+1)) (List.length l)).bind fun(w:Nat)=>some (v,((l.take (List.length l)).drop w),(((List.length ((l.take (List.length l)).drop w):Nat):Int)))
def aaT (f:Int->Int->Option Bool) (l:List Int) (c k:Int):Option (Int×Int):=
 (((w1 l k).bind (fun(t:Int×(List Int)×Int)=>Mj f c t.1 t.2.1 t.2.2)).map (fun(t:Int)=>t)).bind (fun(t:Int)=>(some (wrap .i64 (k+1))).map (fun(u:Int)=>(t,u)))
def Mk (f:Int->Int->Option Bool) (l:List Int) (c n k:Int):Option ((Int×Int)⊕Int):=
 (cond (decide (k<n)) (some (Sum.inl ())) (some (Sum.inr c)):Option (Unit⊕Int)).bind (Sum.elim (fun(t:Unit)=>(aaT f l c k).map (fun(t:Int×Int)=>(Sum.inl (t.1,t.2)))) (fun e=>some ((fun(t:Int)=>(Sum.inr t)) e)))
def uW (f:Int->Int->Option Bool) (l:List Int):Option Int:=
 ((ai (fun(s:Int×Int)=>((Mk f l s.1 ((List.length l:Nat):Int) s.2).map (Sum.elim (fun(t:Int×Int)=>Sum.inl (t.1,t.2)) (fun(t:Int)=>Sum.inr t)):Option ((Int×Int)⊕(Int)))) LL (0,0)).map (fun(t:Int)=>t)).bind (fun(t:Int)=>some t)
theorem anx (l:List Int):G3 l=uW sR l:=by
 unfold G3
 kernel_rfl
theorem anz (l r:List Int):G2 l r=uW (fun a b=>sP a b r) l:=by
 unfold G2
 kernel_rfl
theorem anA (l:List Int) (a b:Int):G1 l a b=uW (fun c d=>G0 c d a b) l:=by
 unfold G1
 kernel_rfl
def fd (X:Int->Int->Bool):List Int->Nat
 |[]=>0
 |a::r=>r.countP (X a)+fd X r
theorem aaU (X:Int->Int->Bool): ∀l,fd X l<=l.length*l.length
 |[]=>vP _
 |a::r=>by
  simp only[fd,ck]
  have b:=aaU X r
  grind
theorem ov {X:Int->Int->Bool}: ∀{l:List Int},l.Pairwise (· < ·)->(0<fd X l↔ ∃a∈l,∃b∈l,a<b/\X a b=true)
 |[],_=>by simp[fd]
 |a::r,h=>by
  rw[d7] at h
  obtain⟨d,c⟩:=h
  simp only[fd,Nat.add_pos_iff_pos_or_pos,List.countP_pos_iff,ov c]
  grind
theorem Ml {f:Int->Int->Option Bool} {X:Int->Int->Bool} (b:List Int) (g:b.length<=8) (A: ∀x∈b,∀i∈b,f x i=some (X x i)):uW f b=some ((fd X b:Nat):Int):=by
 unfold uW
 have m: ∀(a:Int) (l:List Int),l.countP (X a)<=l.length:=fun a l=>hp
 have y:=aaU X b
 have u:b.length*b.length<=8*8:=fz g g
 have q: ∀(a:Int) (l:List Int) (c:Nat),a∈b->(∀p∈l,p∈b)->l.length<=8->c<=1000->
   Mj f (c:Int) a l ((l.length:Nat):Int)=some ((c+l.countP (X a):Nat):Int):=fun a l c w D v d=>by
  unfold Mj
  have h:=bH (body:=fun(s:Int×Int)=>((BS f s.1 a l ((l.length:Nat):Int) s.2).map (Sum.elim (fun(t:Int×Int)=>Sum.inl (t.1,t.2)) (fun(t:Int)=>Sum.inr t)):Option ((Int×Int)⊕(Int))))
   (fun j=>(((c+(l.take j).countP (X a):Nat):Int),(j:Int))) l.length ((c+l.countP (X a):Nat):Int)
   (by
    intro j B
    have z:(l.take j).countP (X a)<=j:=fy (m a _) (by simp;omega)
    have hi:idx l (j:Int)=some l[j]:=by grind [fp]
    simp only[BS]
    rw[show decide ((j:Int)<((l.length:Nat):Int))=true from an (by omega),hi,wrap64 (x:=(j:Int)+1) (by omega) (by omega),wrap64 (by omega) (by omega)]
    grind [List.getElem_mem,List.take_add_one,List.getElem?_eq_getElem,Option.toList_some])
   (by
    grind [BS,Decidable.decide,List.length,decide_eq_false,List.take_length])
  grind [LL]
 have h:=dJ (body:=fun(s:Int×Int)=>((Mk f b s.1 ((b.length:Nat):Int) s.2).map (Sum.elim (fun(t:Int×Int)=>Sum.inl (t.1,t.2)) (fun(t:Int)=>Sum.inr t)):Option ((Int×Int)⊕(Int))))
  (I:=fun s=> ∃k c:Nat,s=((c:Int),(k:Int))/\k<=b.length/\c+fd X (b.drop k)=fd X b) (μ:=fun s=>b.length-s.2.toNat) (f:=fun _=>((fd X b:Nat):Int))
  (by
   rintro _ ⟨k,c,rfl,C,d⟩
   simp only[Mk]
   by_cases e:k<b.length
   ·left
    rw[show decide ((k:Int)<((b.length:Nat):Int))=true from an (by omega)]
    have hi:idx b (k:Int)=some b[k]:=by grind [fp]
    have o:inc (wrap .i64 ((k:Int)+1)) b.length=some (k+1):=by
     grind [wrap64,inc]
    have n:(b.take b.length).drop (k+1)=b.drop (k+1):=by simp_all
    rw[e3 e] at d
    simp only[fd] at d
    simp only[au,ac,Sum.elim_inl]
    unfold aaT w1
    rw[hi]
    simp only[ac]
    rw[o]
    simp only[ac,n]
    rw[q b[k] (b.drop (k+1)) c (cT e) (fun p r=>hr r) (by simp;omega) (by omega),wrap64 (by omega) (by omega)]
    exact⟨(((c+(b.drop (k+1)).countP (X b[k]):Nat):Int),((k+1:Nat):Int)),rfl,⟨k+1,_,rfl,e,by omega⟩,by simp;omega,trivial⟩
   grind [List.length,Decidable.decide,decide_eq_false,List.drop_length,fd])
 rw[h LL (0,0) ⟨0,0,rfl,by omega,by simp⟩ (by grind [LL])]
 rfl
theorem ie {m:Nat} {x:Int}:x∈cn m↔ ∃i,i<8/\m.testBit i=true/\x=((i+1:Nat):Int):=by
 grind [cn]
theorem qE (m:Nat):(cn m).Pairwise (· < ·):=by
 grind [cn,List.Pairwise.imp,List.pairwise_lt_range]
theorem Mm {a b c d:Int} (e:1<=a) (f:a<b) (g:1<=c) (h:c<d):jG a b c d=true↔(a<c/\c<b/\b<d)\/(c<a/\a<d/\d<b):=by
 grind [bX,imax,jG,gz,jF]
noncomputable def mJ (n:Nat) (a b:Int):Bool:=decide (0<fd (fun c d=>jG a b c d) (cn n))
theorem anB (n:Nat) (a b:Int):sP a b (cn n)=some (mJ n a b):=by
 have e:sP a b (cn n)=sO a b (cn n):=by unfold sP;rfl
 rw[e]
 unfold sO
 rw[anA,Ml (X:=fun c d=>jG a b c d) (cn n) (kO n)]
 all_goals grind [mJ,G0,yh,ajH]
theorem anC {m n:Nat} (w:m<256) (y:n<256):sR (m:Int) (n:Int)=some (decide (m&&&n=0)&&jQ m n):=by
 have e:sR (m:Int) (n:Int)=sQ (m:Int) (n:Int):=by unfold sR;rfl
 rw[e]
 unfold sQ
 rw[KN (by omega) (by omega)]
 by_cases r:m&&&n=0
 ·rw[r]
  simp only[qi w,qi y,ac]
  rw[show((((0:Nat):Int)) !=0)=false from rfl,aq,anz,Ml (X:=mJ n) (cn m) (kO m) (fun x _ E _=>anB n x E)]
  simp only[ac,decide_true,d6]
  congr 1
  apply e0.2
  rw[cY,ZT]
  constructor
  ·intro h
   obtain⟨a,t,b,u,lt,s⟩:=(ov (X:=mJ n) (qE m)).mp (by omega)
   unfold mJ at s
   rw[cY] at s
   obtain⟨c,v,d,hd,z,x⟩:=(ov (qE n)).mp s
   obtain⟨i,N,f,rfl⟩:=ie.mp t
   obtain⟨j,O,g,rfl⟩:=ie.mp u
   obtain⟨k,P,p,rfl⟩:=ie.mp v
   obtain⟨l,Q,q,rfl⟩:=ie.mp hd
   rw[Mm (by omega) lt (by omega) z] at x
   by_cases o:i<k
   ·exact⟨i,k,j,l,by omega,by omega,by omega,by omega,.inl ⟨f,p,g,q⟩⟩
   ·exact⟨k,i,l,j,by omega,by omega,by omega,by omega,.inr ⟨p,f,q,g⟩⟩
  ·rintro⟨a,b,c,d,J,K,L,M,h⟩
   have:0<fd (mJ n) (cn m):=by
    rcases h with⟨A,G,C,I⟩|⟨F,B,H,D⟩
    ·refine(ov (qE m)).mpr ⟨_,ie.mpr ⟨a,by omega,A,rfl⟩,_,ie.mpr ⟨c,by omega,C,rfl⟩,by omega,?_⟩
     unfold mJ
     rw[cY]
     refine(ov (qE n)).mpr ⟨_,ie.mpr ⟨b,by omega,G,rfl⟩,_,ie.mpr ⟨d,by omega,I,rfl⟩,by omega,?_⟩
     grind [Mm]
    ·refine(ov (qE m)).mpr ⟨_,ie.mpr ⟨b,by omega,B,rfl⟩,_,ie.mpr ⟨d,by omega,D,rfl⟩,by omega,?_⟩
     unfold mJ
     rw[cY]
     refine(ov (qE n)).mpr ⟨_,ie.mpr ⟨a,by omega,F,rfl⟩,_,ie.mpr ⟨c,by omega,H,rfl⟩,by omega,?_⟩
     grind [Mm]
   omega
 grind
theorem aaV {X:Int->Int->Bool}: ∀l,fd X l=0↔l.Pairwise fun p q=>X p q=false
 |[]=>by simp[fd]
 |a::r=>by
  simp only[fd,d7,<-aaV r]
  simp_all
noncomputable def qF (a b:Int):Bool:=decide (a.toNat&&&b.toNat=0)&&jQ a.toNat b.toNat
theorem anD (h:List Int):yi h=some (om h):=by
 have e:yi h=sS h:=by unfold yi;rfl
 rw[e]
 unfold sS om
 rw[fq]
 cases a:aA h with
 |false=>simp_all
 |true=>
  have T:=(bM h).mp a
  have c:=T.le
  simp only[ac,au,uk T,f3,anx]
  rw[Ml (X:=qF) (eW h) (by grind [jK]) (by
   grind [eW,anC,fS,qF,Int.toNat_natCast])]
  simp only[ac]
  congr 1
  apply e0.2
  have z:(((fd qF (eW h):Nat):Int)==0)=true↔fd qF (eW h)=0:=by
   simp_all
  rw[z,aaV,vy]
  simp only[bT,fm,uD,gv,jK]
  have b: ∀i (hi:i<(eW h).length),(eW h)[i]=((bq h (i+1):Nat):Int):=by
   intro i hi
   have:=nT h (show i<h.length by grind [jK])
   simp_all
  have d: ∀i j,i<h.length->j<h.length->iY h ((i+1:Nat):Int) ((j+1:Nat):Int)=qF ((bq h (i+1):Nat):Int) ((bq h (j+1):Nat):Int):=by
   grind [iY,qF,nR,Int.toNat_natCast]
  grind [ant]
theorem anE (a b:Int):Gu a b=some (wrap .i64 (b-a)):=by
 unfold Gu
 rfl
def lc (h:List Int):List Nat:=((range h.length).filter fun i=>decide (h.getD i 0>0)).map fun i=>gt h (i+1)
theorem anF (h:List Int):(lc h).length=(aZ h).length:=by simp[lc,aZ,gC]
theorem anG {h:List Int} (T:Tree h) {k:Nat} (a:k<(aZ h).length):
  ∃(lo d:Nat),((aZ h).map cB)[k]? =some ((lo:Int),(((lo+d:Nat):Int),()))/\(lc h)[k]? =some d/\lo+d<=8:=by
 have e:=T.le
 unfold aZ gC at a⊢
 rw[eN] at a
 have b:=cT a
 unfold lc
 rw[ek,ek,ek,bh a]
 generalize ((range h.length).filter fun i=>decide (h.getD i 0>0))[k]=i at b
 rw[m3,fm,cY] at b
 obtain⟨hi,c⟩:=b
 simp only[bn]
 grind [Tree.qh,Tree.cW,Min.min,hd,gt,cB,Lg,Zm]
theorem anH {h:List Int} (T:Tree h) {i:Nat} (hi:i<h.length) (a:decide (h.getD i 0>0)=false):gt h (i+1)=0:=by
 grind [Tree.qh,decide_eq_false_iff_not,gt]
theorem aaW {h:List Int} (T:Tree h):(lc h).sum=oh h:=by
 unfold lc oh
 rw[Zc]
 have: ∀l:List Nat,(∀i∈l,i<h.length)->((l.filter fun i=>decide (h.getD i 0>0)).map fun i=>gt h (i+1)).sum=(l.map fun i=>gt h (i+1)).sum:=by
  intro l
  induction l with
  |nil=>intro _;rfl
  |cons i l a=>
   intro c
   have a:=a fun j b=>c j (bB _ b)
   grind [Decidable.decide,getD,List.filter_cons_of_pos,List.filter_cons_of_neg,anH,List.mem_cons_self]
 simp_all
theorem anI (l:List Nat) (k:Nat):(l.take k).sum<=l.sum:=by
 grind [List.take,List.drop,List.sum,List.take_append_drop]
theorem aaX {l:List Nat} {k d:Nat} (h:l[k]? =some d):l.take (k+1)=l.take k++ [d]:=by
 rw[kn,h]
 rfl
theorem anJ (h:List Int):xW h=some (jO h):=by
 have e:xW h=xV h:=by unfold xW;rfl
 rw[e]
 unfold xV Gv jO
 rw[fq]
 cases t:aA h with
 |false=>rfl
 |true=>
  have T:=(bM h).mp t
  have o:=La T
  have m:=anF h
  simp only[ac,bo,aq,Sum.elim_inl,cU]
  unfold Rt Rr Gw
  rw[KM T]
  simp only[ac]
  unfold Rq Rp
  have g:((aZ h).map cB).length=(aZ h).length:=eN ..
  have l:(aZ h).length<=h.length:=nO h _
  have n:=T.le
  have j:=bH (body:=fun(s:Int×Int)=>((sC s.1 ((((aZ h).map cB).length:Nat):Int) s.2 ((aZ h).map cB)).map (Sum.elim (fun(t:Int×Int)=>Sum.inl (t.1,t.2)) (fun(t:Int)=>Sum.inr t)):Option ((Int×Int)⊕(Int))))
   (fun k=>((((((lc h).take k).sum:Nat):Int)),(k:Int))) (aZ h).length ((oh h:Nat):Int)
   (by
    intro k c
    obtain⟨lo,d,i,a,b⟩:=anG T c
    have st:=anI (lc h) (k+1)
    rw[aaX a,m4,List.sum_singleton,aaW T] at st
    have w:wrap .i64 ((k:Int)+1)=((k+1:Nat):Int):=by grind [wrap64]
    simp only[sC]
    rw[g,an (show(k:Int)<(((aZ h).length:Nat):Int) by omega),cg c,w]
    simp only[au,ac,i,anE,bn,Sum.elim_inl]
    rw[wrap64 (x:=((lo+d:Nat):Int)-(lo:Int)) (by omega) (by omega),aaX a,m4,List.sum_singleton,wrap64 (by omega) (by omega)]
    grind)
   (by
    grind [sC,decide_eq_false,aZ,List.take_length,aaW]) LL (by grind [LL])
  have f:=j
  rw[show(((lc h).take 0).sum)=0 from rfl,show((0:Nat):Int)=0 from rfl] at f
  rw[f]
  rfl
theorem anK {l:List Nat} (d:l.Pairwise (· <= ·)) {x j:Nat} (k:j<=l.length) (up: ∀i,j<=i->i<l.length->x<l.getD i 0) (lo:j=0\/l.getD (j-1) 0<=x):
  l.take j++ [x]++l.drop j=hz l x:=by
 have h: ∀i (hi:i<l.length),l.getD i 0=l[i]:=fun i hi=>by simp_all
 have mono:=vy.mp d
 refine aav ?_ (aau d x) ?_
 ·rw[pf,j3]
  refine⟨d.sublist (List.take_sublist ..),?_,?_⟩
  ·rw[m9,d7]
   grind [List.Pairwise.sublist,List.drop_sublist,List.getElem_of_mem,List.length_drop]
  ·intro a f b c
   obtain⟨i,hi,rfl⟩:=lj f
   rw[mR] at hi
   rw[e8]
   have e:l[i]<=x:=by
    grind
   rw[m9] at c
   rcases ej.mp c with rfl|c
   ·exact e
   ·obtain⟨m,g,rfl⟩:=lj c
    rw[oz] at g
    rw[List.getElem_drop]
    grind
 grind [L5,List.append_assoc,List.singleton_append,List.perm_middle,List.take,List.drop,List.take_append_drop]
theorem aaY (x:Nat) {l:List Nat} (c:l.length<=100): ∀(n:Nat) (N:Nat),n<=l.length->n<N->(∀i,n<=i->i<l.length->x<l.getD i 0)->
  ∃j,j<=l.length/\(∀i,j<=i->i<l.length->x<l.getD i 0)/\(j=0\/l.getD (j-1) 0<=x)/\
   ai (fun(s:Int)=>((pH (x:Int) s (bl l)).map (Sum.elim (fun(t:Int)=>Sum.inl t) (fun(t:Int)=>Sum.inr t)):Option ((Int)⊕(Int)))) N (n:Int)=some (j:Int)
 |0,N,d,b,up=>by
  obtain⟨a,rfl⟩: ∃a,N=a+1:=⟨N-1,by omega⟩
  grind [ai,pH]
 |n+1,N,d,b,up=>by
  obtain⟨a,rfl⟩: ∃a,N=a+1:=⟨N-1,by omega⟩
  have g:(bl l)[n]? =some ((l.getD n 0:Nat):Int):=by
   grind [qz,getD,List.length]
  have w:wrap .i64 (((n+1:Nat):Int)-1)=(n:Int):=by grind [wrap64]
  have st:(pH (x:Int) ((n+1:Nat):Int) (bl l))=if x<l.getD n 0 then some (Sum.inl (n:Int)) else some (Sum.inr ((n+1:Nat):Int)):=by
   grind [pH,decide_eq_true,cg,gG,getD,decide_eq_false]
  by_cases o:x<l.getD n 0
  ·obtain⟨j,e,f,h,k⟩:=aaY x c n a (by omega) (by omega) (fun i hi m=>by
    grind)
   grind [ai]
  grind [ai]
theorem anL (x:Nat) {l:List Nat} (h:l.length<=100) (m:l.Pairwise (· <= ·)):xZ (x:Int) (bl l)=some (bl (hz l x)):=by
 have e:xZ (x:Int) (bl l)=xY (x:Int) (bl l):=by unfold xZ;rfl
 rw[e]
 unfold xY Gy Ry Rx Rw
 obtain⟨j,c,d,f,g⟩:=aaY x h l.length LL (aS _) (by grind [LL]) (fun i a b=>by omega)
 simp only[ac,gG]
 rw[g]
 simp only[bn,ac]
 unfold Gz Ru rr
 have k:inc (j:Int) (bl l).length=some j:=by
  grind [inc,gG,Int.toNat_natCast]
 simp only[k,ac]
 rw[room_le (by grind [gG])]
 simp only[ac]
 rw[<-anK m c d f]
 simp[bl]
theorem anM {h:List Int} (T:Tree h) (w:Nat):cn (bt (dl h (w:Int)) h.length)=bl (dZ h w):=by
 rw[KO _ T.le]
 unfold dZ bl
 rw[List.filter_map,f8]
 have:(range h.length).filter (dl h (w:Int))=(range h.length).filter ((fun k=>hd h k==w)∘fun x=>x+1):=by
  grind [List.filter_congr,dl,Tree.qh]
 rw[this]
 rfl
theorem anN {h:List Int} {w c:Nat} (m:c∈dZ h w):1<=c/\c<=h.length:=by
 grind [dZ]
theorem anO {h:List Int} (T:Tree h) {w:Nat} (n:1<=w) (d:w<=h.length):x1 h (eW h) (w:Int)=some (bl (eL h w)):=by
 have e:x1 h (eW h) (w:Int)=x0 h (eW h) (w:Int):=by unfold x1;rfl
 have b:=T.le
 have p:=aaD T n d
 rw[e]
 unfold x0 GA RD RB GB
 rw[uj _ _ b]
 have j:bt (dl h (w:Int)) h.length<256:=by
  have:=fR (dl h (w:Int)) h.length
  have:(2:Nat)^h.length<=2^8:=e5 (by omega) b
  omega
 simp only[ac,qi j,anM T w]
 unfold RA Rz
 have i:=bH (body:=fun(s:Int×(List Int))=>((sD (eW h) (((bl (dZ h w)).length:Nat):Int) s.1 s.2 (bl (dZ h w))).map (Sum.elim (fun(t:Int×(List Int))=>Sum.inl (t.1,t.2)) (fun(t:(List Int))=>Sum.inr t)):Option ((Int×(List Int))⊕(((List Int))))))
  (fun k=>((k:Int),bl (ic (((dZ h w).take k).map (iZ h))))) (dZ h w).length (bl (eL h w))
  (by
   intro k a
   have g:(bl (dZ h w))[k]? =some (((dZ h w)[k]:Nat):Int):=by rw[qz,bh a];rfl
   have m:=anN (cT a)
   have l:(dZ h w).take (k+1)=(dZ h w).take k++ [(dZ h w)[k]]:=by simp_all
   have q:(ic (((dZ h w).take k).map (iZ h))).length<=100:=by rw[(uN _).length_eq,eN,mR];omega
   have o:wrap .i64 ((k:Int)+1)=((k+1:Nat):Int):=by grind [wrap64]
   generalize (dZ h w)[k]=c at g m l
   have d:wrap .i64 ((c:Int)-1)=((c-1:Nat):Int):=by grind [wrap64]
   simp only[sD]
   rw[gG,an (show(k:Int)<(((dZ h w).length:Nat):Int) by omega),cg a,o]
   simp only[au,ac,g,d]
   rw[fp,nT h (show c-1<h.length by omega),show c-1+1=c by omega]
   simp only[ac]
   rw[count_eq (fS b c),aaw T]
   grind [anL,amS,aax])
  (by
   simp only[sD]
   rw[gG,cy (show¬(((dZ h w).length:Nat):Int)<(((dZ h w).length:Nat):Int) by omega),lD]
   rfl) LL (by grind [LL])
 have f:=i
 rw[show((0:Nat):Int)=0 from rfl,show bl (ic (((dZ h w).take 0).map (iZ h)))=[] from rfl] at f
 rw[f]
 rfl
def jU (l:List Nat) (s:Nat) (a:Nat×Nat×Nat) (k:Nat):Nat×Nat×Nat:=
 if s/2^k%2=1 then(a.1+(a.2.2+1),a.2.1,a.2.2+l.getD k 0) else(a.1+(a.2.1+1),a.2.1+l.getD k 0,a.2.2)
theorem aaZ (x:Nat) (r:List Nat) (s:Nat):cd (x::r) s=if s%2=1 then(x::(cd r (s/2)).1,(cd r (s/2)).2) else((cd r (s/2)).1,x::(cd r (s/2)).2):=by rw[cd]
theorem aa0: ∀(l:List Nat) (s:Nat) (a:Nat×Nat×Nat),(range l.length).foldl (jU l s) a=
  (a.1+l.length+fY (cd l s).1+fY (cd l s).2+a.2.2*(cd l s).1.length+a.2.1*(cd l s).2.length,a.2.1+(cd l s).2.sum,a.2.2+(cd l s).1.sum)
 |[],s,(c,b,d)=>by simp[cd,fY]
 |x::r,s,(c,b,d)=>by
  rw[ck,List.range_succ_eq_map,k0,List.foldl_map]
  have e:(fun(a:Nat×Nat×Nat) (k:Nat)=>jU (x::r) s a (k+1))=jU r (s/2):=by
   grind [jU,List.getD_cons_succ,Nat.pow_succ,Nat.mul_comm,Nat.div_div_eq_div_mul]
  show(range r.length).foldl (fun(a:Nat×Nat×Nat) (k:Nat)=>jU (x::r) s a (k+1)) _=_
  rw[e,aa0 r (s/2)]
  unfold jU
  rw[aaZ,Nat.pow_zero,Nat.div_one,List.getD_cons_zero]
  grind [fY,List.length_cons,Nat.mul_add,Nat.add_mul]
theorem aa1: ∀(l:List Nat) (s:Nat),s<2^l.length->cd l (2^l.length-1-s)=((cd l s).2,(cd l s).1)
 |[],s,_=>rfl
 |x::r,s,h=>by
  rw[ck,j9] at h⊢
  have a:=aa1 r (s/2) (by omega)
  grind [List.length,aaZ]
theorem anP (l:List Nat) (root:Bool) {s:Nat} (h:s<2^l.length):fw l root (2^l.length-1-s)=fY (cd l s).1+fY (cd l s).2+if root=true then 0 else(cd l s).2.sum:=by
 grind [fw,aa1]
theorem anQ {a k:Nat} (b:k<=64):shr .u64 (a:Int) (k:Int)=some ((a/2^k:Nat):Int):=by
 grind [shr,Int.toNat_natCast,Min.min,IntKind.bits,Int.fdiv_eq_ediv_of_nonneg,Int.pow_nonneg,Int.natCast_ediv]
theorem aa2 {l:List Nat} (o: ∀x∈l,x<=8) (j:l.length<=7) {s:Nat} (p:s<2^l.length) (root:Bool):
  pI (bl l) (s:Int) (!root)=some ((l.length+fw l root (2^l.length-1-s):Nat):Int):=by
 have e:pI (bl l) (s:Int) (!root)=x2 (bl l) (s:Int) (!root):=by unfold pI;rfl
 rw[e]
 unfold x2 GC RH RG GD RF RE
 have z:s<128:=by
  have:(2:Nat)^l.length<=2^7:=e5 (by omega) j
  omega
 have r: ∀k,l.getD k 0<=8:=fun k=>by
  rw[e4]
  cases g:l[k]? with
  |none=>simp
  |some x=>exact o x (jf g)
 let c:Nat->Nat×Nat×Nat:=fun k=>(range k).foldl (jU l s) (0,0,0)
 have n: ∀k,c (k+1)=jU l s (c k) k:=fun k=>by
  grind [range,List.range_succ]
 have i: ∀k,k<=7->(c k).1<=60*k/\(c k).2.1<=8*k/\(c k).2.2<=8*k:=by
  intro k
  induction k<;>grind [jU]
 have u:=bH (body:=fun(t:Int×Int×(List Int))=>((sE (s:Int) t.1 (bl l) ((l.length:Nat):Int) t.2.1 t.2.2).map (Sum.elim (fun(t:Int×Int×(List Int))=>Sum.inl (t.1,t.2.1,t.2.2)) (fun(t:Int×(List Int))=>Sum.inr t)):Option ((Int×Int×(List Int))⊕((Int×(List Int))))))
  (fun k=>((((c k).1:Nat):Int),(k:Int),[(((c k).2.1:Nat):Int),(((c k).2.2:Nat):Int)])) l.length ((((c l.length).1:Nat):Int),[(((c l.length).2.1:Nat):Int),(((c l.length).2.2:Nat):Int)])
  (by
   intro k w
   obtain⟨d,f,h⟩:=i k (by omega)
   have y:=r k
   have g:idx (bl l) (k:Int)=some ((l.getD k 0:Nat):Int):=by
    grind [fp,qz,getD]
   have v:wrap .i64 ((k:Int)+1)=((k+1:Nat):Int):=by grind [wrap64]
   have A:s/2^k<=s:=Nat.div_le_self ..
   have q:dO .u64 ((s/2^k:Nat):Int) 1=((s/2^k%2:Nat):Int):=by
    have:=KN (a:=s/2^k) (b:=1) (by omega) (by omega)
    simp_all
   simp only[sE]
   rw[an (show(k:Int)<((l.length:Nat):Int) by omega),g,anQ (by omega),v]
   simp only[au,ac,q,same,ck,jh,cU]
   rw[n]
   unfold jU
   have c2:s/2^k%2=0\/s/2^k%2=1:=by omega
   rcases c2 with c2|c2
   ·rw[c2,aG (by omega),cg (show 0<2 by omega)]
    grind [List.getElem?_cons_zero,wrap64]
   ·rw[c2,aB rfl,cg (show 1<2 by omega)]
    grind [List.getElem?_cons_succ,List.getElem?_cons_zero,wrap64])
  (by
   grind [sE,decide_eq_false,List.length]) LL (by grind [LL])
 simp only[ac,gG]
 have m:=u
 rw[show((((c 0).1:Nat):Int),((0:Nat):Int),[(((c 0).2.1:Nat):Int),(((c 0).2.2:Nat):Int)])=((0:Int),(0:Int),replicate 2 (0:Int)) from rfl] at m
 rw[m]
 simp only[bn,ac]
 obtain⟨d,f,h⟩:=i l.length j
 have fin:c l.length=(l.length+fY (cd l s).1+fY (cd l s).2,(cd l s).2.sum,(cd l s).1.sum):=by
  grind [range,List.length,aa0]
 unfold GF
 rw[anP l root p]
 rw[fin] at d f h⊢
 dsimp only at d f h
 cases root with
 |true=>
  grind
 |false=>
  grind [Bool.not_false,same,List.length_cons,List.length_nil,al,List.getElem?_cons_zero,wrap64]
def mK (F:Nat->Nat):Nat->Nat
 |0=>F 0
 |k+1=>min (mK F k) (F k)
theorem aa3 (F:Nat->Nat): ∀k,mK F (k+1)=ja F k
 |0=>by simp[mK,ja]
 |k+1=>by
  rw[mK,aa3 F k]
  rfl
theorem anR (l:List Nat) (root:Bool):ja (fun s=>l.length+fw l root (2^l.length-1-s)) (2^l.length-1)=l.length+jS l root:=by
 have p:1<=2^l.length:=m7
 refine Nat.le_antisymm ?_ ?_
 ·obtain⟨k,a,e⟩:=BF (f:=fw l root) (2^l.length-1)
  unfold jS
  rw[e]
  have:=L4 (f:=fun s=>l.length+fw l root (2^l.length-1-s)) (n:=2^l.length-1) (k:=2^l.length-1-k) (by omega)
  grind
 ·obtain⟨k,a,e⟩:=BF (f:=fun s=>l.length+fw l root (2^l.length-1-s)) (2^l.length-1)
  grind [amR,List.length]
theorem anS {l:List Nat} (g: ∀x∈l,x<=8) (b:l.length<=7) (root:Bool):x4 (bl l) (!root)=some ((l.length+jS l root:Nat):Int):=by
 have e:x4 (bl l) (!root)=x3 (bl l) (!root):=by unfold x4;rfl
 have p:1<=2^l.length:=m7
 have o:(2:Nat)^l.length<=2^7:=e5 (by omega) b
 rw[e]
 unfold x3 GG
 have d:=aa2 g b (s:=0) (by omega) root
 rw[show(0:Int)=((0:Nat):Int) from rfl,d]
 simp only[ac]
 unfold RM RL GH
 have i:shl .u64 1 ((l.length:Nat):Int)=some ((2^l.length:Nat):Int):=by
  grind [shl,Int.toNat_natCast,Min.min,List.length,IntKind.bits,uh]
 rw[gG,i]
 simp only[ac]
 unfold RJ RI
 generalize a:(fun s=>l.length+fw l root (2^l.length-1-s))=F
 have j: ∀s:Nat,s<2^l.length->pI (bl l) (s:Int) (!root)=some ((F s:Nat):Int):=fun s n=>by grind [aa2]
 have h:=bH (body:=fun(s:Int×Int)=>((sF (bl l) (!root) s.1 ((2^l.length:Nat):Int) s.2).map (Sum.elim (fun(t:Int×Int)=>Sum.inl (t.1,t.2)) (fun(t:Int)=>Sum.inr t)):Option ((Int×Int)⊕(Int))))
  (fun k=>(((mK F k:Nat):Int),(k:Int))) (2^l.length) ((mK F (2^l.length):Nat):Int)
  (by
   intro k m
   have q:wrap .u64 ((k:Int)+1)=((k+1:Nat):Int):=by grind [uh]
   grind [sF,decide_eq_true,List.length,Lg,mK])
  (by
   grind [sF,decide_eq_false,List.length]) LL (by grind [LL])
 have f:l.length+fw l root (2^l.length-1-0)=mK F 0:=by rw[<-a];rfl
 rw[f]
 have c:=h
 rw[show((0:Nat):Int)=0 from rfl] at c
 rw[c]
 simp only[bn,ac]
 unfold GI
 have lo:=aa3 F (2^l.length-1)
 rw[show 2^l.length-1+1=2^l.length by omega] at lo
 rw[lo,<-a,anR]
theorem anT {h:List Int} {w:Nat}:(eL h w).length=gT h w:=by
 unfold eL dZ gT
 rw[(uN _).length_eq,eN,List.filter_map,eN,f9]
 rfl
theorem anU (h:List Int):x6 h=some (jT h):=by
 have e:x6 h=x5 h:=by unfold x6;rfl
 rw[e]
 unfold x5 GJ jT
 rw[fq]
 cases t:aA h with
 |false=>rfl
 |true=>
  have T:=(bM h).mp t
  have n:=T.le
  have m:=T.pos
  simp only[ac,bo,aq,cU,uk T,Sum.elim_inl]
  unfold RS RP GK
  simp only[ac]
  unfold RO RN
  have one: ∀i,i<h.length->(eL h (i+1)).length+gW h (i+1)<=1160:=fun i hi=>by
   grind [BG,BH]
  have f: ∀k,k<=h.length->aH (fun i=>(eL h (i+1)).length+gW h (i+1)) k<=1160*k:=by
   intro k
   induction k<;>grind [aH]
  have l:aH (fun i=>(eL h (i+1)).length+gW h (i+1)) h.length=ot h:=by
   rw[mw,ot]
   grind [hY,gT,anT,ak2]
  have d:=bH (body:=fun(s:Int×Int)=>((sG h s.1 ((h.length:Nat):Int) s.2 (eW h)).map (Sum.elim (fun(t:Int×Int)=>Sum.inl (t.1,t.2)) (fun(t:Int)=>Sum.inr t)):Option ((Int×Int)⊕(Int))))
   (fun k=>(((aH (fun i=>(eL h (i+1)).length+gW h (i+1)) k:Nat):Int),(k:Int))) h.length ((ot h:Nat):Int)
   (by
    intro k c
    have g:=T.get (w:=k+1) (by omega) (by omega)
    rw[e6] at g
    have b:=f k (by omega)
    have o:=one k c
    have j:wrap .i64 ((k:Int)+1)=((k+1:Nat):Int):=by grind [wrap64]
    simp only[sG]
    rw[an (show(k:Int)<((h.length:Nat):Int) by omega),fp,g,j]
    simp only[au,ac]
    rw[anO T (by omega) (by omega)]
    have r:(((hd h (k+1):Nat):Int) !=0)= !(hd h (k+1)==0):=by
     grind
    rw[r]
    simp only[ac]
    rw[anS (L8 T) (BG T (by omega) (by omega))]
    simp only[ac,bn,Sum.elim_inl]
    grind [aH,jS,eL,hd,gW,wrap64])
   (by
    grind [sG,decide_eq_false,List.length]) LL (by grind [LL])
  have a:=d
  rw[show aH (fun i=>(eL h (i+1)).length+gW h (i+1)) 0=0 from rfl,show((0:Nat):Int)=0 from rfl] at a
  rw[a]
  rfl
def bw (A:List (Int×Int)) (v:Nat):Nat:=A.countP fun p=>p.1==(v:Int)||p.2==(v:Int)
def ld (A:List (Int×Int)):List Int:=(range 9).map fun v=>((bw A v:Nat):Int)
theorem Mn (A:List (Int×Int)):(ld A).length=9:=by simp[ld]
theorem BT (b:List (Int×Int)) {a:Nat} (c:a<9):(ld b)[a]? =some ((bw b a:Nat):Int):=by simp[ld,c]
theorem Mo (A:List (Int×Int)) (v:Nat):bw A v<=A.length:=hp
theorem anV {c:List (Int×Int)} {p:Int×Int} {a b:Nat} (f:p.1=(a:Int)) (g:p.2=(b:Int)) (d:a<b) (e:b<9):
  ((ld c).set a (((bw c a:Nat):Int)+1)).set b (((bw c b:Nat):Int)+1)=ld (c++ [p]):=by
 refine hB fun i=> ?_
 rw[ox,ox]
 grind [List.length_set,Mn,BT,bw,List.countP_singleton,List.getElem?_eq_none]
theorem anW {c:List (Int×Int)} (r:c.length<=8) (i: ∀p∈c,1<=p.1/\p.1<p.2/\p.2<=8):
  sL (c.map cB)=some (((bw c 0:Nat):Int),((bw c 1:Nat):Int),((bw c 2:Nat):Int),((bw c 3:Nat):Int),((bw c 4:Nat):Int),((bw c 5:Nat):Int),((bw c 6:Nat):Int),((bw c 7:Nat):Int),((bw c 8:Nat):Int)):=by
 have e:sL (c.map cB)=x8 (c.map cB):=by unfold sL;rfl
 rw[e]
 unfold x8 GM RW RV GN RU RT GO
 have n:=bH (body:=fun(s:Int×(List Int))=>((sK (c.map cB) ((c.length:Nat):Int) s.1 s.2).map (Sum.elim (fun(t:Int×(List Int))=>Sum.inl (t.1,t.2)) (fun(t:(List Int))=>Sum.inr t)):Option ((Int×(List Int))⊕(((List Int))))))
  (fun k=>((k:Int),ld (c.take k))) c.length (ld c)
  (by
   intro k j
   have hi:idx (c.map cB) (k:Int)=some (cB c[k]):=by grind [fp]
   obtain⟨u,v,x⟩:=i c[k] (cT j)
   obtain⟨a,g⟩: ∃a:Nat,c[k].1=(a:Int):=⟨c[k].1.toNat,by omega⟩
   obtain⟨b,h⟩: ∃b:Nat,c[k].2=(b:Int):=⟨c[k].2.toNat,by omega⟩
   have q:a<b:=by omega
   have f:b<9:=by omega
   have w:wrap .i64 ((k:Int)+1)=((k+1:Nat):Int):=by grind [wrap64]
   have l:=Mo (c.take k) a
   have m:=Mo (c.take k) b
   rw[mR] at l m
   have o:wrap .i64 (((bw (c.take k) a:Nat):Int)+1)=((bw (c.take k) a:Nat):Int)+1:=wrap64 (by omega) (by omega)
   have y:wrap .i64 (((bw (c.take k) b:Nat):Int)+1)=((bw (c.take k) b:Nat):Int)+1:=wrap64 (by omega) (by omega)
   simp only[sK]
   rw[an (show(k:Int)<((c.length:Nat):Int) by omega),hi]
   simp only[au,ac,cB,g,h,Mn,q8]
   rw[show same 9 9=some () from rfl,cg (show a<9 by omega),cg f]
   simp only[ac,BT _ (show a<9 by omega),o]
   grind [List.getElem?_set_ne,BT,anV,List.take_append_getElem])
  (by
   grind [sK,decide_eq_false,List.length,List.take_length]) LL (by grind [LL])
 simp only[ac,eN]
 have z:(replicate 9 (0:Int))=ld (c.take 0):=rfl
 rw[z]
 have d:=n
 rw[show((0:Nat):Int)=0 from rfl] at d
 rw[d]
 simp only[bn,ac,Mn]
 rfl
theorem aa4 {h:List Int} (T:Tree h):aZ h=(gU h).map fun(i:Nat)=>(bX ((i:Int)+1) ((hd h (i+1):Nat):Int),imax ((i:Int)+1) ((hd h (i+1):Nat):Int)):=by
 have e:aZ h=(gU h).map fun(i:Nat)=>(bX ((i:Int)+1) (h.getD i 0),imax ((i:Int)+1) (h.getD i 0)):=by
  unfold aZ gC gU
  congr 1
  refine List.filter_congr fun i hi=> ?_
  rw[fm] at hi
  have g:=T.get (show 1<=i+1 by omega) (show i+1<=h.length by omega)
  grind
 rw[e]
 refine m5 fun i hi=> ?_
 have hi:=(Le.mp hi).1
 have g:=T.get (show 1<=i+1 by omega) (show i+1<=h.length by omega)
 simp_all
theorem anX {h:List Int} (T:Tree h) {w:Nat} (a:1<=w) (b:w<=h.length):bw (aZ h) w=ca h w:=by
 rw[aa4 T,bw,List.countP_map,<-Zl T a b]
 grind [List.countP_congr,gD,bX,imax]
theorem aa5 {h:List Int} (T:Tree h) {w:Nat} (b:w=0\/h.length<w):bw (aZ h) w=0:=by
 unfold bw
 rw[List.countP_eq_zero]
 intro p a
 obtain⟨c,d,e⟩:=ug T a
 grind
theorem anY {h:List Int} (T:Tree h):(aZ h).length<=8/\ ∀p∈aZ h,1<=p.1/\p.1<p.2/\p.2<=8:=by
 have b:=T.le
 refine⟨by grind [nO,List.length,aZ],fun p a=> ?_⟩
 obtain⟨c,d,e⟩:=ug T a
 omega
theorem aa6 {n:Nat} (a:n<=9):sJ ((n:Nat):Int)=some ((n*(n-1)/2:Nat):Int):=by
 have e:sJ ((n:Nat):Int)=sH ((n:Nat):Int):=by unfold sJ;rfl
 rw[e]
 unfold sH
 have w:wrap .i64 (((n:Nat):Int)-1)=((n:Nat):Int)-1:=wrap64 (by omega) (by omega)
 have b:((n:Nat):Int)*(((n:Nat):Int)-1)=((n*(n-1):Nat):Int):=by
  grind
 have c:n*(n-1)<=72:=fy (fz a (show n-1<=8 by omega)) (by omega)
 rw[w,b,wrap64 (by omega) (by omega),show(2:Int)=((2:Nat):Int) from rfl,Lh (by omega) (by omega)]
 rfl
theorem aa7 (f:Nat->Nat): ∀n,aH f (n+1)=f 0+aH (fun i=>f (i+1)) n
 |0=>by simp[aH]
 |n+1=>by
  rw[aH,aa7 f n]
  grind [aH]
theorem aa8 {f:Nat->Nat} {m:Nat}: ∀{n:Nat},m<=n->(∀i,m<=i->i<n->f i=0)->aH f n=aH f m
 |0,h,_=>by
  simp_all
 |n+1,h,z=>by
  by_cases q:m=n+1
  ·rw[q]
  ·rw[aH,aa8 (show m<=n by omega) (fun i a b=>z i a (by omega)),z n (by omega) (by omega),gY]
theorem anZ (x:List (Int×Int×Unit)) {y:Option (Int×Int×Int×Int×Int×Int×Int×Int×Int)} (h:sL x=y):x9 x=y:=by
 unfold x9
 rw[h]
 cases y<;>rfl
theorem an0 (h:List Int):yb h=some (jP h):=by
 have e:yb h=ya h:=by unfold yb;rfl
 rw[e]
 unfold ya GP jP
 rw[fq]
 cases t:aA h with
 |false=>rfl
 |true=>
  have T:=(bM h).mp t
  have u:=T.le
  have r:=T.pos
  obtain⟨d,l⟩:=anY T
  have g:=Lf T
  have f:(aZ h).length=h.length-1:=by rw[aa4 T,eN,Zk T]
  have pa:=aa6 (n:=h.length-1) (by omega)
  have j:aH (fun c=>bw (aZ h) c*(bw (aZ h) c-1)/2) 9=aH (fun i=>ca h (i+1)*(ca h (i+1)-1)/2) h.length:=by
   rw[aa8 (m:=h.length+1) (by omega) (fun i a b=>by grind [aa5]),aa7,aa5 T (.inl rfl)]
   grind [hY,anX]
  rw[<-j] at g
  simp only[ac,bo,aq,KM T,eN,f,pa,Sum.elim_inl,cU]
  unfold R2 RZ
  rw[anZ _ (anW d l)]
  unfold RY RX GQ
  have q:(h.length-1)*(h.length-1-1)/2=(h.length-1)*(h.length-2)/2:=by grind
  have v:=bH (body:=fun(s:Int×Int)=>((sM s.1 ((bw (aZ h) 0:Nat):Int) ((bw (aZ h) 1:Nat):Int) ((bw (aZ h) 2:Nat):Int) ((bw (aZ h) 3:Nat):Int) ((bw (aZ h) 4:Nat):Int) ((bw (aZ h) 5:Nat):Int) ((bw (aZ h) 6:Nat):Int) ((bw (aZ h) 7:Nat):Int) ((bw (aZ h) 8:Nat):Int) s.2).map (Sum.elim (fun(t:Int×Int)=>Sum.inl (t.1,t.2)) (fun(t:Int)=>Sum.inr t)):Option ((Int×Int)⊕(Int))))
   (fun k=>((((h.length-1)*(h.length-1-1)/2-aH (fun c=>bw (aZ h) c*(bw (aZ h) c-1)/2) k:Nat):Int),(k:Int))) 9 ((uz h:Nat):Int)
   (by
    intro k o
    have b:=Bp (fun c=>bw (aZ h) c*(bw (aZ h) c-1)/2) (show k+1<=9 by omega)
    have le:=Mo (aZ h) k
    have w:wrap .i64 ((k:Int)+1)=((k+1:Nat):Int):=by grind [wrap64]
    simp only[sM]
    rw[an (show(k:Int)<9 by omega),w]
    have p:idx [((bw (aZ h) 0:Nat):Int),((bw (aZ h) 1:Nat):Int),((bw (aZ h) 2:Nat):Int),((bw (aZ h) 3:Nat):Int),((bw (aZ h) 4:Nat):Int),((bw (aZ h) 5:Nat):Int),((bw (aZ h) 6:Nat):Int),((bw (aZ h) 7:Nat):Int),((bw (aZ h) 8:Nat):Int)] (k:Int)=some ((bw (aZ h) k:Nat):Int):=by
     rw[fp]
     exact BT (aZ h) o
    simp only[au,p,ac,aa6 (show bw (aZ h) k<=9 by omega),bn,Sum.elim_inl]
    have x:(h.length-1)*(h.length-1-1)/2<=21:=by
     have:(h.length-1)*(h.length-1-1)<=42:=fy (fz (show h.length-1<=7 by omega) (show h.length-1-1<=6 by omega)) (by omega)
     omega
    rw[aH] at b
    rw[aH,wrap64 (by omega) (by omega)]
    grind)
   (by
    grind [sM,decide_eq_false]) LL (by grind [LL])
  grind [aH,bw,aZ]
theorem aa9 {a b:Int} {h:List Int} {st:List Nat} (c:st.length<2):lT a b h (aF st)=some (0,0,false):=by
 grind [lT,aF,pK,decide_eq_true,eX]
theorem Mp {a b:Int} {h:List Int} {s t:Nat} {c:List Nat} (k:c.length<=20):lT a b h (aF (s::t::c))=some ((t:Int),(s:Int),true):=by
 have e:lT a b h (aF (s::t::c))=pK (aF (s::t::c)):=by unfold lT;rfl
 have j:=eX c
 have d:aF (s::t::c)=aF c++ [(t:Int),(s:Int)]:=by grind [eY]
 have len:(aF (s::t::c)).length=c.length+2:=by simp_all
 have f:(aF (s::t::c))[c.length]? =some (t:Int):=by simp_all
 have g:(aF (s::t::c))[c.length+1]? =some (s:Int):=by simp_all
 have i1:al (wrap .i64 (((c.length+2:Nat):Int)-2)) (c.length+2)=some c.length:=by
  rw[wrap64 (by omega) (by omega)]
  unfold al
  rw[aB (by omega),show(((c.length+2:Nat):Int)-2).toNat=c.length by omega]
 have i:al (wrap .i64 (((c.length+2:Nat):Int)-1)) (c.length+2)=some (c.length+1):=by
  rw[wrap64 (by omega) (by omega)]
  unfold al
  grind
 grind [pK,decide_eq_false,List.length]
theorem aba {a g:Nat} {r d:Int} {h:List Int} {s t:Nat} {b:List Nat} (e:1<=a) (f:a<=h.length) (i:h.length<=100) (m:b.length<=20):
  sX (a:Int) (g:Int) r d h (aF (s::t::b))=some (h.set (a-1) (g:Int),aF (g::b)):=by
 have l:=eX b
 have c:aF (s::t::b)=aF b++ [(t:Int),(s:Int)]:=by grind [eY]
 have len:(aF (s::t::b)).length=b.length+2:=by simp_all
 have k:al (wrap .i64 ((a:Int)-1)) h.length=some (a-1):=by
  grind [wrap64,al]
 have j:inc (wrap .i64 (((b.length+2:Nat):Int)-2)) (b.length+2)=some b.length:=by
  grind [wrap64,inc,List.length]
 have n:((aF (s::t::b)).drop 0).take (b.length-0)=aF b:=by simp_all
 grind [sX,yo,fv,List.length_cons,List.length_nil,eY]
theorem an1 {r d:Int} {h:List Int} {s t:Nat} {a:List Nat} (c:1<=t) (e:t<=h.length) (b:h.length<=100) (f:a.length<=20):
  G9 r d h (aF (s::t::a))=some (true,h.set (t-1) (s:Int),aF (s::a)):=by
 simp_all [G9,yp,Mp,ac,au,aba]
theorem an2 {r d:Int} {h:List Int} {s t:Nat} {a:List Nat} (c:1<=s) (e:s<=h.length) (b:h.length<=100) (f:a.length<=20):
  Ha r d h (aF (s::t::a))=some (true,h.set (s-1) (t:Int),aF (t::a)):=by
 simp_all [Ha,yq,Mp,ac,au,aba]
theorem an3 (y z:Nat):imax (y:Int) (z:Int)=((max y z:Nat):Int):=by grind [imax]
theorem an4 {p d:Nat} {h:List Int} {st:List Nat} (b:p<h.length) (a:h.length<=100) (e:st.length<=100):
  G8 (p:Int) (d:Int) h (aF st)=some (true,((p+1:Nat):Int),((max d (st.length+1):Nat):Int),aF ((p+1)::st)):=by
 have w:wrap .i64 ((p:Int)+1)=((p+1:Nat):Int):=by grind [wrap64]
 have c:=eX st
 unfold G8 yn
 grind [List.length,beq_eq_false_iff_ne,eY,fv,List.length_cons,List.length_nil,eX,an3]
def uX (m:Nat) (c:cD) (d:Nat):Nat:=if m=83 then max d c.2.1.length else d
theorem step_pos {n m:Nat} {c a:cD} (b:1<=c.1) (e:eI n m c=some a):1<=a.1:=by
 grind [eI]
theorem an5 {a b:ByteArray} (h:a.data.toList=b.data.toList):a=b:=by
 cases a<;>simp_all
theorem an6 (l:List Int): ∀(r:ByteArray),(l.foldl (fun r n=>r.push (UInt8.ofNat n.toNat)) r).data.toList=r.data.toList++l.map (fun n=>UInt8.ofNat n.toNat):=by
 induction l<;>simp_all
theorem an7 (l:List Int):(bytesOf l).data.toList=l.map (fun n=>UInt8.ofNat n.toNat):=by
 simp_all [bytesOf,an6,hC]
theorem abb (mv:ByteArray):bytesOf ((ap mv).map fun(m:Nat)=>(m:Int))=mv:=by
 refine an5 ?_
 rw[an7]
 unfold ap
 rw[f8,f8]
 refine(m5 (fun b _=> ?_)).trans (List.map_id _)
 simp
theorem an8 {p q:Nat->Bool} {n:Nat} (h:bt p n=bt q n) {i:Nat} (hi:i<n):p i=q i:=by
 have a:=hS p n i
 grind [hS]
theorem BU {h:List Int} {w c:Nat} (a:1<=c) (b:h[c-1]? =some ((hd h c:Nat):Int)):dl h (w:Int) (c-1)=decide (hd h c=w):=by
 grind [dl,hd,decide_eq_false,beq_eq_false_iff_ne]
theorem an9 {d:List Int} (T:Tree d) {i:Nat} {st:List Nat} {h:List Int} (j:hu d (i,st,h)) {w:Nat} (t:1<=w):bt (dl d (w:Int)) d.length=bt (dl h (w:Int)) d.length↔du d i st w:=by
 have g:=j.o.base
 have s:h.length=d.length:=g.len
 have zero: ∀c,1<=c->c<=d.length->gR i st c->hd h c=0:=fun c f l u=>by
  rcases u with u|u
  ·exact(g.aQ c u).2.2
  ·exact j.dv c u l
 constructor
 ·intro e c f l u q
  have a:=an8 e (i:=c-1) (by omega)
  rw[BU f (T.get f l),BU f (g.get f (by omega))] at a
  grind
 ·intro m
  refine KL fun k r=> ?_
  have a:=BU (h:=d) (w:=w) (c:=k+1) (by omega) (T.get (by omega) (by omega))
  have b:=BU (h:=h) (w:=w) (c:=k+1) (by omega) (g.get (by omega) (by omega))
  rw[e6] at a b
  rw[a,b]
  by_cases u:gR i st (k+1)
  ·rw[cy (m (k+1) (by omega) (by omega) u),zero (k+1) (by omega) (by omega) u,cy (by omega)]
  ·have n:k+1∉st:=fun z=>u (.inl z)
   have p:k+1<i:=Nat.lt_of_not_le fun z=>u (.inr z)
   rw[j.o.agree (k+1) (by omega) p n]
open Classical in
theorem abc {a:List Int} (T:Tree a) {i:Nat} {st:List Nat} {h:List Int} (b:hu a (i,st,h)) {w g:Nat} {r d:Int} {p:List Int} (f:1<=w) (q:w<=a.length):
  sW (w:Int) (g:Int) a r d h p=some (decide (hd a w=g/\du a i st w)):=by
 have k:=b.o.base
 have m:h.length=a.length:=k.len
 have le:=T.le
 have n:idx a (wrap .i64 ((w:Int)-1))=some ((hd a w:Nat):Int):=by
  rw[wrap64 (by omega) (by omega)]
  have:=T.get f q
  unfold idx
  rw[aB (by omega),show((w:Int)-1).toNat=w-1 by omega]
  exact this
 have l:=uj a (w:Int) le
 have c:=uj h (w:Int) (by omega)
 rw[m] at c
 unfold sW yl
 rw[n,l,c]
 simp only[ac]
 by_cases e:hd a w=g
 ·rw[show(((hd a w:Nat):Int)==(g:Int))=true from ce.mpr (by omega)]
  have s:=an9 T b f
  by_cases j:du a i st w
  ·simp_all
  ·rw[cy (fun z=>j z.2)]
   simp only[au]
   congr 1
   grind
 grind
open Classical in
theorem aoa {c:List Int} (T:Tree c) {i:Nat} {st:List Nat} {h:List Int} (f:hu c (i,st,h)) {r d:Int}:
  G7 r d c h (aF st)=some ((cC c i st:Nat):Int):=by
 have e:=f.o.base
 have hi:i<=c.length+1:=e.hi
 have le:=T.le
 obtain⟨n,p,g,_⟩:=e.kS
 simp only at g
 unfold G7 ym
 match st,f,e,g with
 |[],f,e,g=>
  rw[aa9 (by simp)]
  rfl
 |[s],f,e,g=>
  rw[aa9 (by simp)]
  rfl
 |s::t::j,f,e,g=>
  have k:=e.aQ s (bk ..)
  have l:=e.aQ t (bB _ (bk ..))
  simp only at k l
  have m:j.length<=20:=by grind
  rw[Mp m]
  simp only[ac,au]
  rw[abc T f l.1 (by omega),abc T f k.1 (by omega)]
  simp only[ac]
  unfold cC
  simp only
  by_cases a:hd c t=s/\du c i (s::t::j) t
  ·simp_all
  ·rw[cy a,aG a]
   by_cases b:hd c s=t/\du c i (s::t::j) s
   all_goals grind
theorem aob {b:List Int} (T:Tree b) {k z:Nat} {p d:Nat} {st:List Nat} {h:List Int} {c:cD} (f:hu b (p+1,st,h)) (e:eI b.length (cC b (p+1) st) (p+1,st,h)=some c) (r:k<z) (y:z<=100) {ms:List Int} (v:ms.length<=100):
  pL (z:Int) (k:Int) (p:Int) (d:Int) ms h (aF st) b=some (Sum.inl (((k+1:Nat):Int),((c.1-1:Nat):Int),((uX (cC b (p+1) st) c d:Nat):Int),ms++ [((cC b (p+1) st:Nat):Int)],c.2.2,aF c.2.1)):=by
 have a:=f.o.base
 have u:h.length=b.length:=a.len
 have hi:p+1<=b.length+1:=a.hi
 have le:=T.le
 obtain⟨q,A,g,_⟩:=a.kS
 simp only at g
 have w:wrap .i64 ((k:Int)+1)=((k+1:Nat):Int):=by grind [wrap64]
 have x: ∀i:Int,room (ms.length+ [i].length)=some ():=fun i=>fv (by grind)
 unfold pL
 rw[an (show(k:Int)<(z:Int) by omega),aoa T f,w]
 simp only[au,ac]
 rcases Z6 b (p+1) st with m|m|m
 ·grind [List.length,eI,an4,uX]
 ·rw[m] at e⊢
  match st,f,a,g,e with
  |[],f,a,g,e=>simp[eI] at e
  |[s],f,a,g,e=>simp[eI] at e
  |s::t::j,f,a,g,e=>
   have l:=a.aQ s (bk ..)
   have n:=a.aQ t (bB _ (bk ..))
   grind [List.length_cons,eI,List.length,List.set,an1,uX]
 ·rw[m] at e⊢
  match st,f,a,g,e with
  |[],f,a,g,e=>simp[eI] at e
  |[s],f,a,g,e=>simp[eI] at e
  |s::t::j,f,a,g,e=>
   have l:=a.aQ s (bk ..)
   have n:=a.aQ t (bB _ (bk ..))
   grind [List.length_cons,eI,List.length,List.set,an2,uX]
theorem abd {a:List Int} (T:Tree a) (F:dt a) {z:Nat} (w:z<=100): ∀(r k p d:Nat) (st:List Nat) (h:List Int) (ms:List Int) (N:Nat),k+r=z->ms.length=k->hu a (p+1,st,h)->2*(p+1)+r=2*a.length+1+st.length->r<N-> ∀{i:List Nat} {c:cD},ht a r (p+1,st,h)=some (i,c)->
  ai (fun(s:Int×Int×Int×(List Int)×(List Int)×(List Int))=>((pL (z:Int) s.1 s.2.1 s.2.2.1 s.2.2.2.1 s.2.2.2.2.1 s.2.2.2.2.2 a).map (Sum.elim (fun(t:Int×Int×Int×(List Int)×(List Int)×(List Int))=>Sum.inl (t.1,t.2.1,t.2.2.1,t.2.2.2.1,t.2.2.2.2.1,t.2.2.2.2.2)) (fun(t:(List Int))=>Sum.inr t)):Option ((Int×Int×Int×(List Int)×(List Int)×(List Int))⊕(((List Int)))))) N ((k:Int),(p:Int),(d:Int),ms,h,aF st)
   =some (ms++i.map fun(m:Nat)=>(m:Int))
 |0,k,p,d,st,h,ms,N,e,u,n,b,E,i,c,g=>by
  obtain⟨N,rfl⟩: ∃l,N=l+1:=⟨N-1,by omega⟩
  grind [ht,Option.some.injEq,Prod.mk.injEq,ai,pL,decide_eq_false]
 |r+1,k,p,d,st,h,ms,N,e,u,n,b,E,i,c,g=>by
  obtain⟨N,rfl⟩: ∃l,N=l+1:=⟨N-1,by omega⟩
  have I: ¬((p+1,st,h).1=a.length+1/\(p+1,st,h).2.1.length=1):=by
   grind
  obtain⟨y,f,x,o⟩:=KX T F n I
  unfold ht at g
  rw[f,ac] at g
  obtain⟨K,A,B⟩:=cv.mp g
  injection B with C D
  subst C D
  simp only at f o
  have G:=step_pos (by omega) f
  have H:=aob (d:=d) (k:=k) (z:=z) T n f (by omega) w (ms:=ms) (by omega)
  unfold ai
  simp only
  rw[H]
  obtain⟨q,v,h'⟩:=y
  simp only at G o
  obtain⟨j,rfl⟩: ∃j,q=j+1:=⟨q-1,by omega⟩
  have J:=abd T F w r (k+1) j (uX (cC a (p+1) st) (j+1,v,h') d) v h' (ms++ [((cC a (p+1) st:Nat):Int)]) N (by omega) (by simp[u]) x (by omega) (by omega) A
  simp_all
theorem aoc (h:List Int) (p:h.length<=1048576):yt h=jw h:=by
 have e:yt h=yr h:=by unfold yt;rfl
 rw[e]
 unfold yr Hb
 rw[A1]
 cases f:dm h with
 |false=>
  grind [LW]
 |true=>
  have g:Tree h/\dt h:=by
   grind [dm,bM,qj]
  obtain⟨T,F⟩:=g
  obtain⟨mv,ms,n,i,o⟩:=LV T F
  have q:=T.pos
  have le:=T.le
  have k:sV ((h.length:Nat):Int)=some (replicate h.length 0):=by
   grind [sV,sT,hn]
  have j:G5=some ():=by unfold G5;rfl
  have l: ∀a b c d,G6 a b c d=some ():=fun a b c d=>by unfold G6 yk;rfl
  have z:wrap .i64 (wrap .i64 (2*((h.length:Nat):Int))-1)=((2*h.length-1:Nat):Int):=by grind [wrap64,List.length]
  have m:=abd T F (z:=2*h.length-1) (by omega) (2*h.length-1) 0 0 0 [] (replicate h.length 0) [] LL (by omega) rfl ⟨gq.start h T,(iS.start h.length).dv⟩ (by grind) (by grind [LL]) i
  rw[show((0:Nat):Int)=0 from rfl,show aF []=([]:List Int) from rfl] at m
  simp only[ac,bo,aq,k,j,l,Sum.elim_inl]
  unfold Sz Sy Hc Sx Sw
  grind [Hd,abb]
def ez:List Bool->Nat
 |[]=>0
 |b::l=>(if b then 1 else 0)+2*ez l
def eb (h:List Int):List Bool:=h.map fun x=>x !=0
def abe (a:List Bool) (k:Nat):Bool:=
 match kB ((k+1:Nat):Int) with
 |some b=>Hl ((ez a:Nat):Int) b==some (a.getD k false)&&ji .u64 ((ez a:Nat):Int) b==((ez (a.set k true):Nat):Int)
 |none=>false
theorem aod:((range 9).all fun n=>(uV n).all fun a=>(range n).all fun k=>abe a k)=true:=by decide+kernel
theorem abf (a:List Bool) (h:a.length<=8) {k:Nat} (f:k<a.length): ∃b,kB ((k+1:Nat):Int)=some b/\Hl ((ez a:Nat):Int) b=some (a.getD k false)/\ji .u64 ((ez a:Nat):Int) b=((ez (a.set k true):Nat):Int):=by
 have c:=aod
 rw[bT] at c
 have d:=c a.length (fm.2 (by omega))
 rw[bT] at d
 have e:=d a (aaS a)
 rw[bT] at e
 have g:=e k (fm.2 f)
 grind [abe]
theorem abg (h:List Int):(eb h).length=h.length:=by simp[eb]
theorem aoe (h:List Int) (k:Nat) {g:Nat} (a:1<=g):eb (h.set k (g:Int))=(eb h).set k true:=by
 unfold eb
 rw[vz,show((g:Int) !=0)=true from j7.2 (by omega)]
theorem aof {h:List Int} (p: ∀x∈h,0<=x) {w:Nat} (a:1<=w) (b:w<=h.length):(eb h).getD (w-1) false=decide (hd h w≠0):=by
 have lt:w-1<h.length:=by omega
 have:=p _ (cT lt)
 grind [eb,hd,List.getElem?_eq_getElem,decide_eq_true]
structure NS (c:cD) (o l:Nat) (b:Int) (ar:List Int):Prop where
 len:l=c.2.1.length
 fit:o+l<=ar.length
 win:(ar.drop o).take l=aF c.2.1
 bits:b=((ez (eb c.2.2):Nat):Int)
theorem NS.top {i s o l:Nat} {a:List Nat} {b:Int} {h ar:List Int} (c:NS (i,s::a,h) o l b ar):ar[o+a.length]? =some (s:Int):=by
 have w:=c.win
 have d:l=a.length+1:=c.len
 have e:((ar.drop o).take l)[a.length]? =ar[o+a.length]? :=by
  grind
 grind [eX,eY]
theorem NS.pop {i s o l:Nat} {c:List Nat} {b d:Int} {h h' ar:List Int} (a:NS (i,s::c,h) o l b ar) (e:d=((ez (eb h'):Nat):Int)):NS (i,c,h') o (l-1) d ar:=by
 have w:=a.win
 have f:=a.fit
 have g:l=c.length+1:=a.len
 refine⟨by simp_all,by omega,?_,e⟩
 grind [List.drop,Nat.min_eq_left,eX,eY,aF,List.take_left]
theorem NS.full {i:Nat} {st:List Nat} {b:Int} {h:List Int} (a:b=((ez (eb h):Nat):Int)):NS (i,st,h) 0 st.length b (aF st):=by
 have l:=eX st
 exact⟨rfl,by omega,by grind,a⟩
theorem Mq {p o l:Nat} {d b:Int} {st:List Nat} {h ar:List Int} (a:NS (p+1,st,h) o l b ar) (i:h.length<=8) (m:p<=h.length) (f:st.length<=20):
  pM o l (p:Int) d b h ar=some (match st with|[]=>(0,0,false)|s::_=>if p+1<=h.length then((s:Int),((p+1:Nat):Int),true) else(0,0,false)):=by
 have e:pM o l (p:Int) d b h ar=s0 o l (p:Int) h ar:=by unfold pM;rfl
 rw[e]
 unfold s0
 match st,a,f with
 |[],a,f=>
  have j:l=0:=a.len
  simp_all
 |s::g,a,f=>
  have k:l=g.length+1:=a.len
  have n:=a.top
  simp only[ck] at f
  rw[show(((l:Nat):Int)==0)=false from d5.2 (by omega)]
  by_cases c:p+1<=h.length
  ·have i1:al (wrap .i64 (((l:Nat):Int)-1)) l=some g.length:=by
    grind [wrap64,al]
   grind [wrap,wrap64,List.length,beq_eq_false_iff_ne]
  grind
theorem abh {o l:Nat} {a d b:Int} {h ar:List Int} (g:b=((ez (eb h):Nat):Int)) (i:h.length<=8) (p: ∀x∈h,0<=x) {w:Nat} (n:1<=w) (q:w<=h.length):
  s7 (w:Int) o l a d b h ar=some (decide (hd h w≠0)):=by
 have e:s7 (w:Int) o l a d b h ar=s6 (w:Int) b:=by unfold s7;rfl
 have j:=abg h
 obtain⟨m,c,f,_⟩:=abf (eb h) (by omega) (k:=w-1) (by omega)
 grind [s6,aof]
theorem abi {o l:Nat} {a d b:Int} {h ar:List Int} (j:b=((ez (eb h):Nat):Int)) (m:h.length<=8) {w g:Nat} (q:1<=w) (r:w<=h.length) (c:1<=g):
  pO (w:Int) (g:Int) o l a d b h ar=some (((ez (eb (h.set (w-1) (g:Int))):Nat):Int),h.set (w-1) (g:Int)):=by
 have e:pO (w:Int) (g:Int) o l a d b h ar=(s8 (w:Int) (g:Int) b h).map (fun(t:Int×(List Int))=>(t.1,t.2)):=by unfold pO;rfl
 have n:=abg h
 obtain⟨p,f,_,i⟩:=abf (eb h) (by omega) (k:=w-1) (by omega)
 grind [al,wrap,List.length,wrap64,s8,aoe]
theorem abj {o l:Nat} {a d b:Int} {h ar:List Int} (c:1<=l) (e:l<=100):s9 o l a d b h ar=some (o,l-1):=by
 grind [s9,yB,inc,wrap,wrap64]
theorem aog {p o l:Nat} {d b:Int} {st:List Nat} {h ar:List Int} (w:(ar.drop o).take l=aF st) (c:l=st.length) (a:h.length<=8) (g:st.length<=20):
  pN o l (p:Int) d b h ar=some (if p=h.length then(false,o,l,(p:Int),d,ar) else(true,0,st.length+1,((wrap .i64 ((p:Int)+1)):Int),imax d ((st.length+1:Nat):Int),aF st++ [wrap .i64 ((p:Int)+1)])):=by
 have e:pN o l (p:Int) d b h ar=s5 o l (p:Int) d h ar:=by unfold pN;rfl
 have f:=eX st
 grind [s5,List.length,aF,beq_eq_false_iff_ne,fv,List.length_cons,List.length_nil]
theorem abk {p o l:Nat} {d b:Int} {st:List Nat} {h ar:List Int} (w:(ar.drop o).take l=aF st) (e:l=st.length) (c:h.length<=8) (g:st.length<=20) (f:p<h.length):
  ∃a,pN o l (p:Int) d b h ar=some (true,0,((p+1)::st).length,((p+1:Nat):Int),a,aF ((p+1)::st)):=by
 have i:wrap .i64 ((p:Int)+1)=((p+1:Nat):Int):=by grind [wrap64]
 refine⟨imax d ((st.length+1:Nat):Int),?_⟩
 grind [aog,eY]
theorem aoh {n p o l:Nat} {d b:Int} {st:List Nat} {h ar:List Int} (g:NS (p+1,st,h) o l b ar) (f:cE n (p+1,st,h)) (A:n<=8):
  match bP n 76 (p+1,st,h) with
  |some c=> ∃k,nF o l (p:Int) d b h ar=some (true,o,l-1,k,c.2.2)/\NS c o (l-1) k ar/\c.1=p+1
  |none=>nF o l (p:Int) d b h ar=some (false,o,l,b,h):=by
 have w:h.length=n:=f.len
 have hi:p+1<=n+1:=f.hi
 have u: ∀x∈h,0<=x/\x<=(n:Int):=f.num
 have q:=mE f.dec f.aQ f.i1
 simp only at q
 have up:=Mq (d:=d) g (by omega) (by omega) (by omega)
 cases st with
 |nil=>
  grind [bP,nF,nE]
 |cons s i=>
  have j:=f.aQ s (bk ..)
  simp only at j
  have m:b=((ez (eb h):Nat):Int):=g.bits
  have y:l=i.length+1:=g.len
  simp only[ck] at q
  by_cases le:p+1<=n
  ·simp only at up
   rw[aB (by omega)] at up
   have r:=abh (o:=o) (l:=l) (a:=(p:Int)) (d:=d) (ar:=ar) m (by omega) (fun x t=>(u x t).1) j.1 (show s<=h.length by omega)
   by_cases z:hd h s=0
   ·have e:bP n 76 (p+1,s::i,h)=some (p+1,i,h.set (s-1) ((p+1:Nat):Int)):=by simp[bP,le,z]
    rw[e]
    simp only
    refine⟨_,?_,g.pop rfl,trivial⟩
    unfold nF nE
    rw[up]
    simp only[ac,bo,aq,r]
    rw[cy (fun v=>v z),abi m (by omega) j.1 (show s<=h.length by omega) (by omega)]
    grind [abj]
   grind [bP,nF,nE,Bool.not_true,decide_eq_true]
  grind [bP,nF,nE]
theorem aoi {n p o l:Nat} {d b:Int} {st:List Nat} {h ar:List Int} (j:NS (p+1,st,h) o l b ar) (f:cE n (p+1,st,h)) (A:n<=8):
  match bP n 82 (p+1,st,h) with
  |some c=> ∃t r k q m,pQ o l (p:Int) d b h ar=some (true,t,r,((c.1-1:Nat):Int),k,q,c.2.2,m)/\NS c t r q m
  |none=>pQ o l (p:Int) d b h ar=some (false,o,l,(p:Int),d,b,h,ar):=by
 have z:h.length=n:=f.len
 have hi:p+1<=n+1:=f.hi
 have v:=mE f.dec f.aQ f.i1
 simp only at v
 have up:=Mq (d:=d) j (by omega) (by omega) (by omega)
 cases st with
 |nil=>
  grind [bP,pQ,pP]
 |cons s i=>
  have u:=f.aQ s (bk ..)
  simp only at u
  have x:b=((ez (eb h):Nat):Int):=j.bits
  have y:l=i.length+1:=j.len
  have w:(ar.drop o).take l=aF (s::i):=j.win
  simp only[ck] at v
  by_cases le:p+1<=n
  ·simp only at up
   rw[aB (by omega)] at up
   have e:bP n 82 (p+1,s::i,h)=some (p+1+1,(p+1)::s::i,h.set (p+1-1) (s:Int)):=by simp[bP,le]
   have g:=abi (o:=o) (l:=l) (a:=(p:Int)) (d:=d) (ar:=ar) x (by omega) (show 1<=p+1 by omega) (show p+1<=h.length by omega) u.1
   obtain⟨k,B⟩:=abk (p:=p) (d:=d) (b:=((ez (eb (h.set (p+1-1) (s:Int))):Nat):Int)) (h:=h.set (p+1-1) (s:Int)) w y (by simp_all) (by grind) (by grind)
   rw[e]
   simp only
   refine⟨0,((p+1)::s::i).length,k,_,aF ((p+1)::s::i),?_,NS.full rfl⟩
   grind [pQ,pP,Bool.not_true]
  grind [bP,pQ,pP]
theorem aoj {n p o l:Nat} {d b:Int} {st:List Nat} {h ar:List Int} (f:NS (p+1,st,h) o l b ar) (e:cE n (p+1,st,h)) (w:n<=8):
  match bP n 68 (p+1,st,h) with
  |some c=>pR o l (p:Int) d b h ar=some (true,o,l-1)/\NS c o (l-1) b ar/\c.1=p+1/\c.2.2=h
  |none=>pR o l (p:Int) d b h ar=some (false,o,l):=by
 have r:h.length=n:=e.len
 have hi:p+1<=n+1:=e.hi
 have q: ∀x∈h,0<=x/\x<=(n:Int):=e.num
 have j:=mE e.dec e.aQ e.i1
 simp only at j
 cases st with
 |nil=>
  have u:l=0:=f.len
  grind [bP,pR,ta]
 |cons s g=>
  have i:=e.aQ s (bk ..)
  simp only at i
  have k:b=((ez (eb h):Nat):Int):=f.bits
  have v:l=g.length+1:=f.len
  simp only[ck] at j
  have t:=abh (o:=o) (l:=l) (a:=(p:Int)) (d:=d) (ar:=ar) k (by omega) (fun x m=>(q x m).1) i.1 (show s<=h.length by omega)
  have i1:al (wrap .i64 (((l:Nat):Int)-1)) l=some g.length:=by
   grind [wrap64,al]
  have y:pR o l (p:Int) d b h ar=cond (!(decide (hd h s≠0))) (some (false,o,l)) (some (true,o,l-1)):=by
   unfold pR ta
   rw[show(((l:Nat):Int)==0)=false from d5.2 (by omega),i1]
   grind [NS.top,abj]
  grind [hd,bP,NS.pop,decide_eq_true,decide_eq_false]
theorem aok: ∀n,ez (eb (replicate n 0))=0:=fun n=>by
 induction n<;>grind [eb,ez]
theorem aol {n:Nat} (a:n<=8):He (n:Int)=some (replicate n 0):=by
 grind [sV,replicate,sT,hn,He,yv]
theorem aom:Hf=some ():=by unfold Hf;rfl
theorem abl {b:List Int} (T:Tree b) {i:Nat} {a:List Nat} (i1:1<=i) (hi:i<=b.length) (f: ∀x∈a,1<=x/\x<=b.length) (q:a.length<=8): ∀(r k N:Nat),k+r=a.length->r<N->
  ∃out,ai (fun(s:Int)=>((s2 (aF a) ((a.length:Nat):Int) s b (i:Int)).map (Sum.elim (fun(t:Int)=>Sum.inl t) (Sum.elim (fun(t:Int)=>Sum.inr (Sum.inl t)) (fun(t:Unit)=>Sum.inr (Sum.inr t)))):Option ((Int)⊕(Int⊕Unit)))) N (k:Int)=some out/\
   if(a.reverse.drop k).any (hx b i)=true then∃j:Nat,out=Sum.inl (j:Int) else out=Sum.inr ()
 |0,k,N,e,n=>by
  obtain⟨N,rfl⟩: ∃d,N=d+1:=⟨N-1,by omega⟩
  simp_all [ai,s2,cy,List.length,List.drop_eq_nil_of_le]
 |r+1,k,N,e,n=>by
  obtain⟨N,rfl⟩: ∃d,N=d+1:=⟨N-1,by omega⟩
  have z:=abl T i1 hi f q r (k+1) N (by omega) (by omega)
  have o:k<a.reverse.length:=by simp;omega
  have p:a.reverse[k]∈a:=by
   simp_all
  have A:=f _ p
  have y:=T.le
  have w:idx (aF a) (k:Int)=some ((a.reverse[k]:Nat):Int):=by
   grind [idx,Int.toNat_natCast,aF,List.map_reverse,List.getElem?_eq_getElem]
  have u:wrap .i64 ((i:Int)-1)=((i-1:Nat):Int):=by grind [wrap64]
  have v:wrap .i64 (((a.reverse[k]:Nat):Int)-1)=((a.reverse[k]-1:Nat):Int):=by grind [wrap64]
  have B:wrap .i64 ((k:Int)+1)=((k+1:Nat):Int):=by grind [wrap64]
  have l:idx b ((i-1:Nat):Int)=some ((hd b i:Nat):Int):=by
   grind [idx,Int.toNat_natCast,Tree.get]
  have m:idx b ((a.reverse[k]-1:Nat):Int)=some ((hd b a.reverse[k]:Nat):Int):=by
   grind [idx,Int.toNat_natCast,Tree.get]
  have c:yw ((a.reverse[k]:Nat):Int) b (i:Int)=some (hx b i a.reverse[k]):=by
   have e:yw ((a.reverse[k]:Nat):Int) b (i:Int)=s1 ((a.reverse[k]:Nat):Int) b (i:Int):=by unfold yw;rfl
   rw[e]
   unfold s1 hx
   rw[u,v,l,m]
   simp only[ac]
   by_cases g:hd b i=a.reverse[k]
   ·simp_all
   ·rw[show(((hd b i:Nat):Int)==((a.reverse[k]:Nat):Int))=false from d5.2 (by omega),d5.2 g]
    by_cases h:hd b a.reverse[k]=i
    ·simp_all
    ·rw[show(((hd b a.reverse[k]:Nat):Int)==(i:Int))=false from d5.2 (by omega),d5.2 h]
     rfl
  rw[e3 o,List.any_cons]
  grind [ai,s2,decide_eq_true,List.length,hx,List.reverse]
theorem contains_eq {b:List Int} (T:Tree b) {i:Nat} {a:List Nat} (i1:1<=i) (hi:i<=b.length) (h: ∀x∈a,1<=x/\x<=b.length) (k:a.length<=8):Hj (aF a) b (i:Int)=some (a.any (hx b i)):=by
 obtain⟨out,f,c⟩:=abl T i1 hi h k a.length 0 LL (by omega) (by grind [LL])
 rw[fl,List.any_reverse] at c
 rw[show((0:Nat):Int)=0 from rfl] at f
 have g:=eX a
 have e:Hi (aF a) b (i:Int)=yx (aF a) b (i:Int):=by unfold Hi;rfl
 unfold Hj yy
 rw[e]
 unfold yx Hg SE SC Hh SB SA
 simp only[ac,g]
 rw[f]
 by_cases d:a.any (hx b i)=true
 ·rw[aB d] at c
  obtain⟨j,rfl⟩:=c
  simp_all
 ·rw[aG d] at c
  subst c
  rw[j6.mpr d]
  rfl
theorem aon {a:List Int} (T:Tree a) {p o l:Nat} {d b:Int} {st:List Nat} {h ar:List Int} (f:NS (p+1,st,h) o l b ar) (c:cE a.length (p+1,st,h)) (B:p<a.length):
  yA a o l (p:Int) d b h ar=some ((ex a (p+1) st:Nat):Int):=by
 have A:=T.le
 have z:h.length=a.length:=c.len
 have i:=mE c.dec c.aQ c.i1
 simp only at i
 have up:=Mq (d:=d) f (by omega) (by omega) (by omega)
 have e:yA a o l (p:Int) d b h ar=s4 a o l (p:Int) d b h ar:=by unfold yA;rfl
 rw[e]
 unfold s4
 rw[up]
 cases st with
 |nil=>rfl
 |cons s g=>
  have r:=c.aQ s (bk ..)
  simp only at r
  have C:l=g.length+1:=f.len
  simp only[ck] at i
  simp only
  rw[aB (by omega)]
  have t:wrap .i64 (((p+1:Nat):Int)-1)=((p:Nat):Int):=by grind [wrap64]
  have u:wrap .i64 ((s:Int)-1)=((s-1:Nat):Int):=by grind [wrap64]
  have k:idx a ((p:Nat):Int)=some ((hd a (p+1):Nat):Int):=by
   have:=T.get (w:=p+1) (by omega) (by omega)
   grind [idx,Int.toNat_natCast]
  have m:idx a ((s-1:Nat):Int)=some ((hd a s:Nat):Int):=by
   grind [idx,Int.toNat_natCast,Tree.get]
  have v:yz a ((p+1:Nat):Int) o l (p:Int) d b h ar=some (g.any (hx a (p+1))):=by
   have e:yz a ((p+1:Nat):Int) o l (p:Int) d b h ar=s3 a ((p+1:Nat):Int) o l ar:=by unfold yz;rfl
   have q:inc (wrap .i64 (((l:Nat):Int)-1)) l=some (l-1):=by
    grind [wrap64,inc]
   have w:=(f.pop (h':=h) rfl).win
   simp only at w
   rw[e]
   unfold s3
   rw[q]
   simp only[ac,gY,CY,w]
   rw[contains_eq T (by omega) (by omega) (fun x n=>by have:=c.aQ x (bB _ n);omega) (by omega)]
   rfl
  simp only[ac,bo,aq,t,u,k,m,v,ex]
  by_cases j:hd a s=p+1
  ·simp_all
  ·rw[show(((hd a s:Nat):Int)==((p+1:Nat):Int))=false from d5.2 (by omega),aG j]
   by_cases y:hd a (p+1)=s
   all_goals grind [hd,beq_eq_false_iff_ne,hx]
theorem aoo {a:List Int} (T:Tree a) {p o l:Nat} {d b:Int} {st:List Nat} {h ar ms:List Int} {c:cD} (g:NS (p+1,st,h) o l b ar) (f:cE a.length (p+1,st,h)) (z:p<a.length) (e:bP a.length (ex a (p+1) st) (p+1,st,h)=some c) (G:ms.length<=100):
  ∃v t r i q,pS a o l (p:Int) d b ms h ar=some (Sum.inl (v,t,((c.1-1:Nat):Int),r,i,ms++ [((ex a (p+1) st:Nat):Int)],c.2.2,q))/\NS c v t i q:=by
 have s:=T.le
 have F:h.length=a.length:=f.len
 have C:=mE f.dec f.aQ f.i1
 simp only at C
 have y:l=st.length:=g.len
 have A:(ar.drop o).take l=aF st:=g.win
 have E:b=((ez (eb h):Nat):Int):=g.bits
 have k: ∀w:Int,room (ms.length+ [w].length)=some ():=fun w=>fv (by grind)
 unfold pS
 rw[an (show(p:Int)<((a.length:Nat):Int) by omega),aon T g f z]
 simp only[au,ac]
 rcases Z9 a (p+1) st with m|m|m|m
 ·rw[m] at e⊢
  have x:bP a.length 83 (p+1,st,h)=some (p+1+1,(p+1)::st,h):=by simp[bP];omega
  obtain⟨r,B⟩:=abk (p:=p) (d:=d) (b:=b) (h:=h) A y (by omega) (by omega) (by omega)
  rw[x] at e
  cases e
  rw[show(((83:Nat):Int)==83)=true from rfl,B]
  simp only[au,ac,k]
  grind [NS.full]
 ·rw[m] at e⊢
  have u:=aoh (d:=d) g f s
  rw[e] at u
  obtain⟨i,j,n,D⟩:=u
  rw[show(((76:Nat):Int)==83)=false from rfl,show(((76:Nat):Int)==76)=true from rfl,j]
  simp only[au,aq,ac,k]
  refine⟨o,l-1,d,i,ar,?_,n⟩
  grind
 ·rw[m] at e⊢
  have u:=aoi (d:=d) g f s
  rw[e] at u
  obtain⟨v,t,r,i,q,j,n⟩:=u
  rw[show(((82:Nat):Int)==83)=false from rfl,show(((82:Nat):Int)==76)=false from rfl,show(((82:Nat):Int)==82)=true from rfl,j]
  simp only[au,aq,ac,k]
  grind
 ·rw[m] at e⊢
  have u:=aoj (d:=d) g f s
  rw[e] at u
  obtain⟨j,n,D,H⟩:=u
  rw[show(((68:Nat):Int)==83)=false from rfl,show(((68:Nat):Int)==76)=false from rfl,show(((68:Nat):Int)==82)=false from rfl,show(((68:Nat):Int)==68)=true from rfl,j]
  simp only[au,aq,ac,k]
  refine⟨o,l-1,d,b,ar,?_,n⟩
  simp_all
theorem abm {a:List Int} (T:Tree a) (F:dt a): ∀(k:Nat) (p o l:Nat) (d b:Int) (st:List Nat) (h ar ms:List Int) (N:Nat),NS (p+1,st,h) o l b ar->EO a (p+1,st,h)->ms.length+k<=100->k<N-> ∀{n:List Nat} {c:cD},ia a k (p+1,st,h)=some (n,c)->
  ai (fun(s:Nat×Nat×Int×Int×Int×(List Int)×(List Int)×(List Int))=>((pS a s.1 s.2.1 s.2.2.1 s.2.2.2.1 s.2.2.2.2.1 s.2.2.2.2.2.1 s.2.2.2.2.2.2.1 s.2.2.2.2.2.2.2).map (Sum.elim (fun(t:Nat×Nat×Int×Int×Int×(List Int)×(List Int)×(List Int))=>Sum.inl (t.1,t.2.1,t.2.2.1,t.2.2.2.1,t.2.2.2.2.1,t.2.2.2.2.2.1,t.2.2.2.2.2.2.1,t.2.2.2.2.2.2.2)) (fun(t:(List Int))=>Sum.inr t)):Option ((Nat×Nat×Int×Int×Int×(List Int)×(List Int)×(List Int))⊕(((List Int)))))) N (o,l,(p:Int),d,b,ms,h,ar)
   =some (ms++n.map fun(m:Nat)=>(m:Int))
 |k,p,o,l,d,b,st,h,ar,ms,N,w,r,Q,M,n,c,g=>by
  obtain⟨N,rfl⟩: ∃v,N=v+1:=⟨N-1,by omega⟩
  have O:=T.le
  by_cases i:p+1<=a.length
  ·cases k with
   |zero=>
    grind [ia]
   |succ k=>
    obtain⟨A,f,u⟩:=Z2 T F r i
    unfold ia at g
    rw[aB i,f,ac] at g
    obtain⟨R,C,D⟩:=cv.mp g
    injection D with E G
    subst E G
    simp only at f
    obtain⟨I,H,B,z,y,J,x⟩:=aoo (d:=d) (ms:=ms) T w r.e (by omega) f (by omega)
    obtain⟨j,K,h'⟩:=A
    have i1:1<=j:=u.e.i1
    obtain⟨q,rfl⟩: ∃q,j=q+1:=⟨j-1,by omega⟩
    unfold ai
    simp only
    rw[J]
    have P:=abm T F k q I H B z K h' y (ms++ [((ex a (p+1) st:Nat):Int)]) N x u (by simp;omega) (by omega) C
    simp_all
  ·have L:ia a k (p+1,st,h)=some ([],(p+1,st,h)):=by cases k<;>(unfold ia;rw[if_neg i])
   grind [Option.some.injEq,Prod.mk.injEq,ai,pS,decide_eq_false,List.length]
theorem aop (h:List Int) (i:h.length<=1048576):yD h=jx h:=by
 have e:yD h=yC h:=by unfold yD;rfl
 rw[e]
 unfold yC Hm
 rw[A1]
 cases f:dm h with
 |false=>
  grind [LY]
 |true=>
  have a:Tree h/\dt h:=by
   grind [dm,bM,qj]
  obtain⟨T,F⟩:=a
  obtain⟨mv,ms,st,d,b,g⟩:=LX T F
  have j:=T.pos
  have le:=T.le
  have z:((ez (eb (replicate h.length 0)):Nat):Int)=0:=by
   rw[aok]
   rfl
  have c:=abm T F (2*h.length) 0 0 0 0 0 [] (replicate h.length 0) [] [] LL ⟨rfl,aS _,rfl,z.symm⟩ (EO.start T) (by grind) (by grind [LL]) b
  rw[show((0:Nat):Int)=0 from rfl] at c
  simp only[ac,bo,aq,aol le,aom,Sum.elim_inl]
  unfold SH SG SF
  grind [List.length_nil,Hn,abb]
theorem aoq:SX=some (0,1,2,7,30,143,728,1,1,3,12,55,273,1428):=by kernel_rfl
def abn (h:List Int):Option (Int×Int):=yF 0 1 2 7 30 143 728 1 1 3 12 55 273 1428 h (top h:Int)
def lf (h:List Int):Bool:=(abn h).map (fun v=>v.2)==uM h
theorem aor:((range 5).all fun n=>de lf (n+1) (n+1) [])=true:=by decide+kernel
theorem aos:de lf 6 5 [0]=true:=by decide+kernel
theorem aot:de lf 6 5 [2]=true:=by decide+kernel
theorem aou:de lf 6 5 [3]=true:=by decide+kernel
theorem aov:de lf 6 5 [4]=true:=by decide+kernel
theorem aow:de lf 6 5 [5]=true:=by decide+kernel
theorem aox:de lf 6 5 [6]=true:=by decide+kernel
theorem aoy {n:Nat} (a:1<=n) (b:n<=6):de lf n n []=true:=by
 by_cases e:n=6
 ·grind [amD,aos,aot,aou,aov,aow,aox]
 ·have s:=bT.mp aor (n-1) (by grind)
  simp_all
theorem aoz (h:List Int):Hu h=some (ib h):=by
 unfold ib
 unfold Hu yG
 by_cases l:h.length<=6
 ·rw[cy (by omega),A1]
  cases f:dm h with
  |false=>simp
  |true=>
   obtain⟨T,F⟩:=oq.mp f
   obtain⟨k,c,b⟩:=L2 T F l
   have:=aar (aoy T.pos l) T F rfl
   unfold lf at this
   rw[b,ce] at this
   obtain⟨p,a,d⟩:=cv.mp this
   unfold abn at a
   grind [fu,top,bM,aoq,AW,Bool.not_true]
 grind
theorem aoA (a b:ByteArray):(a==b)=aD a b:=by
 by_cases e:a=b
 ·subst e
  rw[jL]
  show(a.data==a.data)=true
  simp_all
 ·rw[kU e]
  show(a.data==b.data)=false
  rw[d5]
  intro z
  apply e
  cases a
  simp_all
theorem Mr {sep:Nat}: ∀(l acc:List Nat),bE sep acc l≠ []
 |[],acc,h=>by grind [bE]
 |y::l,acc,h=>by
  rw[bE] at h
  split at h
  ·cases h
  ·exact Mr l _ h
theorem abo {sep:Nat}: ∀{l acc x:List Nat},bE sep acc l=[x]->acc++l=x
 |[],acc,x,h=>by
  grind [bE,List.cons.inj]
 |y::l,acc,x,h=>by
  rw[bE] at h
  split at h
  ·grind [absurd,List.cons.inj,Mr]
  ·have:=abo h
   simp_all
theorem abp {sep:Nat}: ∀{l acc x a:List Nat},bE sep acc l=[x,a]->acc++l=x++sep::a
 |[],acc,x,a,h=>by
  grind [bE]
 |z::l,acc,x,a,h=>by
  rw[bE] at h
  split at h
  ·rename_i e
   obtain⟨c,b⟩:=List.cons.inj h
   have:=abo b
   simp_all
  ·have:=abp h
   simp_all
theorem abq {sep:Nat}: ∀{l acc:List Nat},sep∈l-> ∃a b r,bE sep acc l=a::b::r
 |[],acc,h=>by cases h
 |z::l,acc,h=>by
  rw[bE]
  split
  ·cases c:bE sep [] l<;>grind [bE,absurd,Mr]
  ·rename_i ne
   rcases ej.mp h with e|m
   ·omega
   ·exact abq m
theorem aoB {b:Type}: ∀{l:List b},l.length=2-> ∃x a,l=[x,a]
 |[x,a],_=>⟨x,a,rfl⟩
 |[],h=>by cases h
 |[x],h=>by cases h
 |x::a::z::r,h=>by simp at h
def jV:ByteArray:=ByteArray.mk #[121,105,101,108,100,32]
def preB (s:ByteArray):Bool:=decide (6<=s.size)&&aD (s.extract 0 6) jV
def gX (s:ByteArray):ByteArray:=s.extract 6 s.size
theorem abs {s:ByteArray} (h:preB s=true):ap s=[121,105,101,108,100]++32::ap (gX s):=by
 unfold preB at h
 rw[aT,cY,qr] at h
 have a:=aR ap h.2
 rw[nY,fl] at a
 have c:ap (gX s)=(ap s).drop 6:=by
  grind [gX,nY,List.take_of_length_le,ee]
 have b:=u1 6 (ap s)
 rw[a,<-c] at b
 exact b.symm
theorem aoC {s:ByteArray} {r:List Nat} (h:ap s=[121,105,101,108,100]++32::r):preB s=true:=by
 unfold preB
 have l:=ee s
 rw[h] at l
 rw[aT,cY,qr]
 refine⟨by simp at l;omega,mn ?_⟩
 rw[nY,h]
 rfl
theorem aoD (s:ByteArray) (k:s.size<=100000000):qB s=if preB s=true/\gu (gX s)=true then some (cJ (ap (gX s)):Int) else none:=by
 obtain⟨out,g,c⟩:=A9 s 32 (by omega)
 have h:kD s 32=some out:=g
 unfold qB
 rw[h]
 by_cases p:preB s=true
 ·have n:=abs p
  have f:bE 32 [] (ap s)=[121,105,101,108,100]::bE 32 [] (ap (gX s)):=by
   grind [A8]
  rw[f] at c
  by_cases m:32∈ap (gX s)
  ·have i: ¬gu (gX s)=true:=fun z=>absurd ((qD.mp z).2.2.2 32 m).1 (by decide)
   rw[aG (fun z=>i z.2)]
   obtain⟨a,b,r,e⟩:=abq (acc:=[]) m
   grind
  ·rw[ut m,hC] at c
   obtain⟨x,d,rfl⟩:=aoB (l:=out) (by
    have:=aR List.length c
    grind)
   simp only[dM,iB,lE,and_true] at c
   have j:x=ByteArray.mk #[121,105,101,108,100]:=mn (by rw[c.1];rfl)
   grind [gX,mn,ee,jL,anp,gu,preB]
 ·rw[aG (fun z=>p z.1)]
  match out,c with
  |[],_=>rfl
  |[x],_=>rfl
  |x::d::z::r,_=>rfl
  |[x,d],c=>
   simp only[dM,iB] at c
   have:=abp c.symm
   rw[hC] at this
   have ne:x≠ByteArray.mk #[121,105,101,108,100]:=fun e=>by
    subst e
    exact p (aoC this)
   grind [kU]
theorem aoE (s:ByteArray) (g:s.size<=100000000):tg s jV=some (if preB s=true then(gX s,true) else(s,false)):=by
 have e:tg s jV=tf s jV:=by unfold tg;rfl
 have a:Hv s jV=te s jV:=by unfold Hv;rfl
 have f:yI s jV=td s jV:=by unfold yI;rfl
 have d:jV.size=6:=rfl
 have b:yI s jV=some (preB s):=by
  grind [td,preB,ByteArray.size,decide_eq_true,qp,decide_eq_false]
 rw[e]
 unfold tf
 rw[a]
 unfold te
 rw[b,d]
 cases p:preB s with
 |false=>rfl
 |true=>
  have c:6<=s.size:=by
   grind [preB]
  simp only[ac,bo,aq]
  rw[qp (by omega) (by omega)]
  rfl
theorem aoF {h:List Int} (g:Told h) (i:Whole h) (p:List (List Int)) (b:ByteArray) (l:b.size<=100000000):yM h p b=some (if gu b=true then gF (hU h (cJ (ap b))) else BI):=by
 have e:yM h p b=tj h b:=by unfold yM;rfl
 rw[e]
 unfold tj strconv_Atoi rt
 rw[aB (by omega)]
 simp only[ac]
 by_cases d:gu b=true
 ·obtain⟨j,k⟩:=ank d
  rw[anm d,aB d]
  simp only[aq]
  rw[cy (by omega),cy (by omega),uT (by omega) (by omega),Mc (by omega),<-j]
  simp only[aq,ac,jL,bo,aki]
  rw[BO _ (by grind [Yo,cJ,ap]) (fun n f=>⟨i.uQ _ n f,g.uQ _ n f⟩)]
  grind [Me,ang,Told.uQ]
 ·rw[aG d]
  cases (ed b).2 with
  |true=>rfl
  |false=>
   simp only[aq]
   by_cases a:(ed b).1<0
   ·rw[an a]
    rfl
   ·rw[cy a]
    by_cases c:(ed b).1>999999
    ·rw[an c]
     rfl
    ·rw[cy c,uT (by omega) (by omega)]
     simp only[aq,ac]
     have ne:bV (ed b).1≠b:=fun z=>by
      grind [Int.eq_ofNat_of_zero_le,ed,Mc,anl]
     rw[kU ne]
     rfl
theorem Ms {l:List Int} (h:l≠ []):gF l=dK l:=by grind [gF]
theorem Mt {l:List Int} (h:1<=l.length):l≠ []:=fun e=>by simp_all
theorem aoG {h:List Int} (t:aA h=true) (B:Told h) (W:Whole h) (p:List (List Int)):Fw h p=some (gF h):=by
 grind [dd,Fw,xo,BO,Whole.BJ,Told.BJ,Ms,Mt]
theorem aoH {h:List Int} (t:aA h=true) (b:Told h) (c:Whole h) (p:List (List Int)):xp h p=some (gF (hw h)):=by
 have d:=dd t
 have l:=ZR h
 have e:xp h p=sa h:=by unfold xp;rfl
 rw[e]
 unfold sa
 rw[alY,ac,BO _ (by omega) (fun n a=>⟨c.BK n a,b.BK n a⟩)]
 grind [hw,Mt,mD,Ms]
theorem aoI {h:List Int} (t:aA h=true) (a:Told h) (b:Whole h) (p:List (List Int)):xv h p=some (gF (if aA h=true then dw h else[])):=by
 have d:=dd t
 have c:(if aA h=true then dw h else[]).length=h.length:=by grind [kW,bM]
 have e:xv h p=sj h:=by unfold xv;rfl
 grind [sj,Ls,BO,Whole.order,Told.order,Ms,Mt]
theorem ow {f:Option Int} {x:Int} (d:f=some x) (b:0<=x) (c:x<1000000000):(f.bind fun a=>(strconv_Itoa a).bind fun t=>some t)=some (bV x):=by
 grind [uT]
theorem abt (b:Bool):sN b=some (uO b):=by
 have e:sN b=ye b:=by unfold sN;rfl
 rw[e]
 cases b<;>rfl
theorem aoJ {H:List Int} {k:Nat} {c:cD} {ms:List Nat} {d:cD} (e:ht H (k+1) c=some (ms,d)):ms≠ []:=by
 rw[ht] at e
 obtain⟨_,_,e⟩:=g0.mp e
 obtain⟨_,_,e⟩:=cv.mp e
 grind
theorem aoK {a:List Int} {k:Nat} {c:cD} (b:c.1<=a.length) {ms:List Nat} {d:cD} (e:ia a (k+1) c=some (ms,d)):ms≠ []:=by
 rw[ia,aB b] at e
 obtain⟨_,_,e⟩:=g0.mp e
 obtain⟨_,_,e⟩:=cv.mp e
 grind
theorem BV {o:Option (ByteArray×Bool)} {t:ByteArray} {b:Bool} (e:o=some (t,b)) (h:if b=true then t≠empty else t=empty):(o.bind fun v=>(lU v.1).bind fun x=>some x)=some (uP o):=by
 rw[e,ac,Me]
 cases b with
 |true=>rw[aB rfl] at h;rw[aG h];rfl
 |false=>
  rw[aG (by decide)] at h
  rw[aB h]
  rfl
theorem aoL {h:List Int} (t:aA h=true) (p:List (List Int)):yu h p=some (uP (jw h)):=by
 have b:=dd t
 have e:yu h p=sZ h:=by unfold yu;rfl
 rw[e]
 unfold sZ
 rw[aoc h (by omega)]
 cases f:dm h with
 |true=>
  obtain⟨T,F⟩:=oq.mp f
  obtain⟨mv,ms,e,g,a⟩:=LV T F
  refine BV e ?_
  rw[aB rfl]
  intro z
  subst z
  rw[show 2*h.length-1=(2*h.length-2)+1 by omega] at g
  exact aoJ g (by rw[<-a];rfl)
 |false=>
  grind [BV,LW]
theorem eager_eq {h:List Int} (t:aA h=true) (p:List (List Int)):yE h p=some (uP (jx h)):=by
 have b:=dd t
 have e:yE h p=tb h:=by unfold yE;rfl
 rw[e]
 unfold tb
 rw[aop h (by omega)]
 cases f:dm h with
 |true=>
  obtain⟨T,F⟩:=oq.mp f
  obtain⟨mv,ms,st,e,g,a⟩:=LX T F
  refine BV e ?_
  rw[aB rfl]
  intro z
  subst z
  rw[show 2*h.length=(2*h.length-1)+1 by omega] at g
  exact aoK (by omega) g (by rw[<-a];rfl)
 |false=>
  grind [BV,LY]
theorem aoM {h:List Int} (B:Told h) (p:List (List Int)):yH h p=some (if ib h<0 then qy else bV (ib h)):=by
 have e:yH h p=tc h:=by unfold yH;rfl
 rw[e]
 unfold tc
 grind [aoz,ib,decide_eq_true,Me,decide_eq_false,uT,Told.place]
theorem aoN {h:List Int} (t:aA h=true) (B:Told h) (W:Whole h) (p:List (List Int)):FR h p=some (bV (fu h)):=by
 grind [FR,xw,ow,AW,Whole.root,Told.root]
theorem aoO {h:List Int} (t:aA h=true) (B:Told h) (W:Whole h) (p:List (List Int)):F4 h p=some (bV (jI h)):=by
 grind [F4,xG,ow,ajS,Whole.BL,Told.BL]
theorem aoP {h:List Int} (t:aA h=true) (B:Told h) (W:Whole h) (p:List (List Int)):Gf h p=some (bV (jR h)):=by
 grind [Gf,xJ,ow,anw,Whole.BM,Told.BM]
theorem aoQ {h:List Int} (t:aA h=true) (B:Told h) (W:Whole h) (p:List (List Int)):Gs h p=some (bV (if aA h=true then(cc (dw h):Int) else-1)):=by
 grind [Gs,xU,ow,alE,Whole.BN,Told.BN]
theorem aoR {h:List Int} (t:aA h=true) (B:Told h) (W:Whole h) (p:List (List Int)):Gx h p=some (bV (jO h)):=by
 grind [Gx,xX,ow,anJ,Whole.len,Told.len]
theorem aoS {h:List Int} (t:aA h=true) (B:Told h) (W:Whole h) (p:List (List Int)):GL h p=some (bV (jT h)):=by
 grind [GL,x7,ow,anU,Whole.least,Told.least]
theorem aoT {h:List Int} (t:aA h=true) (B:Told h) (W:Whole h) (p:List (List Int)):GR h p=some (bV (jP h)):=by
 grind [GR,yc,ow,an0,Whole.apart,Told.apart]
theorem aoU (h:List Int) (p:List (List Int)):GY h p=some (uO (dm h)):=by
 grind [GY,yf,A1,abt]
theorem aoV (h:List Int) (p:List (List Int)):G4 h p=some (uO (om h)):=by
 grind [G4,yj,anD,abt]
theorem aoW {h:List Int} (t:aA h=true) (p:List (List Int)) (s:ByteArray) (a:s.size<=100000000):yN h p s=some ((qA h s).getD (qC h s)):=by
 have g:=aaE t
 have i:=anc t
 have e:yN h p s=tk h p s:=by unfold yN;rfl
 rw[e]
 have f:Fs=some ():=by unfold Fs;rfl
 unfold tk qA
 rw[f,ac]
 simp only[aoA]
 cases aD s (ByteArray.mk #[104,101,97,100,115]) with
 |true=>grind [aoG]
 |false=>
 simp only[aq]
 cases aD s (ByteArray.mk #[100,101,112,116,104,115]) with
 |true=>grind [aoH]
 |false=>
 simp only[aq]
 cases aD s (ByteArray.mk #[111,114,100,101,114]) with
 |true=>grind [aoI]
 |false=>
 simp only[aq]
 cases aD s (ByteArray.mk #[114,111,111,116]) with
 |true=>grind [aoN]
 |false=>
 simp only[aq]
 cases aD s (ByteArray.mk #[99,114,111,115,115,105,110,103,115]) with
 |true=>grind [aoO]
 |false=>
 simp only[aq]
 cases aD s (ByteArray.mk #[103,97,112,115]) with
 |true=>grind [aoP]
 |false=>
 simp only[aq]
 cases aD s (ByteArray.mk #[101,120,99,104,97,110,103,101,115]) with
 |true=>grind [aoQ]
 |false=>
 simp only[aq]
 cases aD s (ByteArray.mk #[108,101,110,103,116,104]) with
 |true=>grind [aoR]
 |false=>
 simp only[aq]
 cases aD s (ByteArray.mk #[108,101,97,115,116]) with
 |true=>grind [aoS]
 |false=>
 simp only[aq]
 cases aD s (ByteArray.mk #[97,112,97,114,116]) with
 |true=>grind [aoT]
 |false=>
 simp only[aq]
 cases aD s (ByteArray.mk #[112,114,111,106,101,99,116,105,118,101]) with
 |true=>grind [aoU]
 |false=>
 simp only[aq]
 cases aD s (ByteArray.mk #[110,101,115,116,101,100]) with
 |true=>grind [aoV]
 |false=>
 simp only[aq]
 cases aD s (ByteArray.mk #[109,111,118,101,115]) with
 |true=>grind [aoL]
 |false=>
 simp only[aq]
 cases aD s (ByteArray.mk #[101,97,103,101,114]) with
 |true=>grind [eager_eq]
 |false=>
 simp only[aq]
 cases aD s (ByteArray.mk #[112,108,97,99,101]) with
 |true=>grind [aoM]
 |false=>
 simp only[aq]
 have c:=aoE s a
 have d:tg s (ByteArray.mk #[121,105,101,108,100,32])=_:=c
 rw[d,ac,Option.getD_none]
 unfold qC
 rw[aoD s a]
 by_cases b:preB s=true
 ·have j:(gX s).size<=100000000:=by
   have:=ee s
   grind [abs,ee,gX]
  grind [aoF,gu,gX,preB]
 ·rw[aG b,aG (show¬(preB s=true/\gu (gX s)=true) from fun z=>b z.1)]
  rfl
theorem abu (d:fa) (s:ByteArray) (b:s.size<=100000000):tu d.1 d.2 s=some (fx d s):=by
 have e:tu d.1 d.2 s=tt d.1 d.2 s:=by unfold tu;rfl
 rw[e]
 unfold tt fx
 rw[Lx,ac]
 cases o:cS d with
 |false=>rfl
 |true=>
  obtain⟨t,g,c⟩:=kZ o
  have f:=dd t
  have pl:=Bs d.2 c
  rw[aB rfl,ans s b]
  simp only[bo,aq,ac]
  cases r:(bO s).1 with
  |true=>
   have a:=alM d.1 d.2 ((bO s).2.1,(bO s).2.2.1,(bO s).2.2.2,())
   simp only at a
   simp only[bo,aq,a,ac,cU]
   cases (eg d ((bO s).2.1,(bO s).2.2.1,(bO s).2.2.2,())).1<;>rfl
  |false=>
   grind [Bool.not_false,Bool.false_eq_true,mC,dd,aoW]
theorem aoX {b:List Int} (f:Bytes b) (n:Int) (j:n<=1000) {p:Int} (s:0<=p) (z:p<=999960000):
  ∃(a:Int) (h:List Int),wM n b p=some (a,h)/\p<=a/\a<=p+1000/\h.length<=8:=by
 have e:wM n b p=rI n b p:=by unfold wM;rfl
 rw[e]
 unfold rI
 obtain⟨a,h,t,D,E,m⟩:=aas f n j s (by omega)
 obtain⟨c,q,_⟩:=cI f 2 (by omega) (p:=a) (by omega) (by omega)
 obtain⟨d,hd,_⟩:=cI f 3 (by omega) (p:=a+1) (by omega) (by omega)
 obtain⟨F,y,u,v,w,l⟩:=amO f n j (p:=a+1+1) (by omega) (by omega)
 obtain⟨G,o,r,A,B,C,_⟩:=YH f h.length (by omega) (p:=a+1) (by omega) (by omega)
 have tail: ∃(g:Int) (h':List Int),((bC 3 b (a+1)).bind fun(i:Int×Int)=>cond ((i.1)==0) ((pq n b (i.2)).bind fun(k:Int×(List Int))=>some ((k.1),(k.2))) (some ((i.2),h)))=some (g,h')/\p<=g/\g<=p+1000/\h'.length<=8:=by
  simp only[hd,ac]
  cases (d==0) with
  |true=>simp only[au,u,ac];exact⟨_,_,rfl,by omega,by omega,l⟩
  |false=>exact⟨_,_,rfl,by omega,by omega,m⟩
 simp only[t,q,ac]
 cases (c==0) with
 |false=>exact tail
 |true=>
  simp only[au,cH,ac]
  cases x:aA h with
  |false=>exact tail
  |true=>
   simp only[au,r,ac,Y8 h o (by omega)]
   refine⟨_,_,rfl,by omega,by omega,?_⟩
   split
   ·rw[uo];omega
   ·simp
theorem abv {b:List Int} (f:Bytes b) (h:List Int) (U:h.length<=1000) {p:Int} (M:0<=p) (V:p<=999990000):
  ∃(d k a c:Int),ky h b p=some (d,k,a,c)/\p<=d/\d<=p+10:=by
 suffices F: ∃r,ky h b p=some r/\(p<=r.1/\r.1<=p+10) by
  obtain⟨⟨d,k,a,c⟩,l,n,o⟩:=F
  exact⟨d,k,a,c,l,n,o⟩
 have e:ky h b p=rK h b p:=by unfold ky;rfl
 rw[e]
 unfold rK
 obtain⟨v1,l,G,y,_⟩:=cI f 8 (by omega) M (by omega)
 have y:=y (by omega)
 obtain⟨v2,n,H,z,_⟩:=cI f 60 (by omega) (p:=p+1) (by omega) (by omega)
 have z:=z (by omega)
 obtain⟨P,o,_⟩:=A6 (b:=[0,0,1,1,2,3,4,5]) G (by simp only[ck,jh];omega)
 obtain⟨Q,J,_⟩:=A7 (a:=v2) (b:=59) (by omega) H (by omega)
 have tail: ∀(d k x E:Int),0<=d->d<=999999000-> ∃r:Int×Int×Int×Int,((lN 40 b d).bind fun(j:Bool×Int)=>cond (j.1) ((bC 3 b (j.2)).bind fun(w:Int×Int)=>(al (w.1) (List.length ([(-1),9,100]:List Int))).bind fun(m:Nat)=>(([(-1),9,100]:List Int)[m]?).bind fun(c:Int)=>some (w.2,k,x,c)) (some (j.2,k,x,E)))=some r/\(d<=r.1/\r.1<=d+2):=by
  intro d k x E O Z
  obtain⟨j,s,L,X,Y⟩:=KY f 40 (by omega) O (by omega)
  rw[L,ac]
  cases j with
  |false=>exact⟨_,rfl,by simp only;omega,by simp only;omega⟩
  |true=>
   obtain⟨w,N,S,D,_⟩:=cI f 3 (by omega) (p:=s) (by omega) (by omega)
   have D:=D (by omega)
   simp only[au,N,ac]
   rw[kT S (by simp only[ck,jh];omega),ac,bh (show w.toNat<([(-1),9,100]:List Int).length by simp only[ck,jh];omega),ac]
   exact⟨_,rfl,by simp only;omega,by simp only;omega⟩
 simp only[l,n,o,J,ac]
 generalize wrap .i64 (P+(wrap .i64 (Q*6)))=i
 have T:wrap .i64 ((((List.length h:Nat):Int))+1)=((List.length h+1:Nat):Int):=by rw[wrap64 (by omega) (by omega)];omega
 have W:imax (((List.length h:Nat):Int)) 1<=1000:=by unfold imax;split<;>omega
 rw[T]
 cases i==0 with
 |true=>
  obtain⟨u,q,_⟩:=cI f (imax (((List.length h:Nat):Int)) 1) (by omega) (p:=p+1+1) (by omega) (by omega)
  obtain⟨v,t,_⟩:=cI f ((List.length h+1:Nat):Int) (by omega) (p:=p+1+1+1) (by omega) (by omega)
  simp only[au,q,t,ac]
  obtain⟨r,g,B,C⟩:=tail (p+1+1+1+1) i (wrap .i64 (1+u)) v (by omega) (by omega)
  exact⟨r,g,by omega,by omega⟩
 |false=>
  cases i==1 with
  |true=>
   obtain⟨u,q,_⟩:=cI f ((List.length h+1:Nat):Int) (by omega) (p:=p+1+1) (by omega) (by omega)
   obtain⟨v,t,I,A,_⟩:=cI f 9 (by omega) (p:=p+1+1+1) (by omega) (by omega)
   have A:=A (by omega)
   obtain⟨R,K,_⟩:=A7 (a:=v) (b:=8) (by omega) I (by omega)
   simp only[au,aq,q,t,K,ac]
   obtain⟨r,g,B,C⟩:=tail (p+1+1+1+1) i (wrap .i64 (u+R)) 0 (by omega) (by omega)
   exact⟨r,g,by omega,by omega⟩
  |false=>
   simp only[aq]
   obtain⟨r,g,B,C⟩:=tail (p+1+1) i 0 0 (by omega) (by omega)
   exact⟨r,g,by omega,by omega⟩
def Small (d:fa):Prop:=d.1.length<=8/\d.2.length<=9/\ ∀x,x∈d.2->x.length<=8
theorem abw {d:fa} (o:cS d=true):Small d/\d.2.length<=8:=by
 obtain⟨t,l,h⟩:=kZ o
 exact⟨⟨(dd t).2,by omega,fun x a=>(dd (h x a)).2⟩,l⟩
abbrev abx (b:List Int):Int×Int×(List Int)×(List (List Int))->Option ((Int×Int×(List Int)×(List (List Int)))⊕(Int×(List Int)×(List (List Int)))):=
 fun(s:Int×Int×(List Int)×(List (List Int)))=>((wU s.1 b s.2.1 s.2.2.1 s.2.2.2).map (Sum.elim (fun(t:Int×Int×(List Int)×(List (List Int)))=>Sum.inl (t.1,t.2.1,t.2.2.1,t.2.2.2)) (fun(t:Int×(List Int)×(List (List Int)))=>Sum.inr t)):Option ((Int×Int×(List Int)×(List (List Int)))⊕((Int×(List Int)×(List (List Int))))))
theorem aoY {b:List Int} (i:Bytes b) (n:Int) (Z:n<=1000) {p:Int} (K:0<=p) (a0:p<=999960000):
  ∃(a:Int) (d:fa),wW n b p=some (a,d)/\p<=a/\a<=p+2000/\Small d:=by
 have e:wW n b p=wV n b p:=by unfold wW;rfl
 rw[e]
 unfold wV ES PG PF ET PE PD
 obtain⟨a,h,L,a4,a5,G⟩:=aoX i 0 (by omega) K (by omega)
 obtain⟨m,H,a1,A,_⟩:=cI i 6 (by omega) (p:=a) (by omega) (by omega)
 have A:=A (by omega)
 have R:(uA h).2.length<=8:=by
  unfold uA
  cases t:aA h with
  |true=>exact G
  |false=>simp
 simp only[L,alm,ac,H]
 obtain⟨r,M,S,T,y⟩:=nX (body:=abx b)
  (I:=fun t=>0<=t.1/\t.1<=6/\a<=t.2.1/\t.2.1+10*t.1<=a+100/\Small t.2.2/\t.2.2.2.length<=8)
  (μ:=fun t=>t.1.toNat) (Q:=fun r=>a<=r.1/\r.1<=a+100/\Small r.2/\r.2.2.length<=8)
  (by
   rintro⟨k,s,d⟩ ⟨O,P,B,U,q,v⟩
   simp only at O P B U q v
   simp only[abx,wU]
   by_cases c:k>0
   ·left
    obtain⟨j,l,x,u,hd,W,X⟩:=abv i d.1 (by have:=q.1;omega) (p:=s) (by omega) (by omega)
    have w:wrap .i64 (k-1)=k-1:=wrap64 (by omega) (by omega)
    have D:=Zu d.1 d.2 (l,x,u,()) (by omega)
    simp only at D
    rw[an c,w]
    simp only[au,hd,ac,D]
    cases f:(eg d (l,x,u,())).1 with
    |true=>
     have o:cS d=true:=by
      cases o:cS d with
      |true=>rfl
      |false=>rw[Zx _ o] at f;cases f
     have C:=abw (Zw (l,x,u,()) o)
     exact⟨(k-1,j,(eg d (l,x,u,())).2),rfl,⟨by simp only;omega,by simp only;omega,by simp only;omega,by simp only;omega,C.1,C.2⟩,by simp only;omega⟩
    |false=>exact⟨(k-1,j,d),rfl,⟨by simp only;omega,by simp only;omega,by simp only;omega,by simp only;omega,q,v⟩,by simp only;omega⟩
   ·right
    rw[cy c]
    exact⟨(s,d),rfl,B,by simp only;omega,q,v⟩) LL (m,a+1,(uA h).2,([]:List (List Int)))
  ⟨by simp only;omega,by simp only;omega,by simp only;omega,by simp only;omega,⟨R,by simp,by simp⟩,by simp⟩ (by simp only[LL];omega)
 rw[M]
 obtain⟨s,d⟩:=r
 simp only at S T y
 simp only[bn,ac]
 unfold EU
 obtain⟨V,j,J,a2,a3⟩:=KY i n (by omega) (p:=s) (by omega) (by omega)
 rw[J,ac]
 cases V with
 |false=>exact⟨j,d,rfl,by omega,by omega,y.1⟩
 |true=>
  obtain⟨w,N,a6,a7,_⟩:=cI i 3 (by omega) (p:=j) (by omega) (by omega)
  simp only[au,N,ac]
  obtain⟨⟨E,F,z⟩,Y⟩:=y
  cases w==0 with
  |true=>exact⟨_,([1],d.2),rfl,by omega,by omega,⟨by simp,F,z⟩⟩
  |false=>
   cases w==1 with
   |true=>
    simp only[au,aq]
    rw[room_le (by omega),ac]
    refine⟨_,(d.1,(d.2++ [[]]).set d.2.length []),rfl,by omega,by omega,⟨E,by rw[q8,C2,ck,jh];omega,?_⟩⟩
    intro x g
    rw[q9 _ _ (aS _),C1] at g
    rcases jb.mp g with g|g
    ·exact z x g
    ·simp at g;rw[g];simp
   |false=>exact⟨_,([],[]),rfl,by omega,by omega,⟨by simp,by simp,by simp⟩⟩
abbrev h4:=List ByteArray×fa
noncomputable def fs (a:h4) (s:ByteArray):h4:=(a.1++ [(fx a.2 s).1],(fx a.2 s).2)
noncomputable def dg (d:fa) (l:List ByteArray):h4:=l.foldl fs ([],d)
noncomputable def e2 (d:fa) (l:List ByteArray):h4:=if cS d=true/\l.length<=40 then dg d l else([],[],[])
theorem n0 (d:fa) (l:List ByteArray) (s:ByteArray):dg d (l++ [s])=fs (dg d l) s:=by grind [dg]
theorem aby {d:fa} (s:ByteArray) (o:cS d=true):cS (fx d s).2=true:=by
 grind [fx,bO,Zw]
theorem h5 {d:fa} (o:cS d=true): ∀(n:Nat) (l:List ByteArray),l.length=n->cS (dg d l).2=true/\(dg d l).1.length=l.length:=by
 intro n
 induction n with
 |zero=>
  intro l b
  rw[sm.mp b]
  exact⟨o,rfl⟩
 |succ n g=>
  intro l b
  have ne:l≠ []:=fun e=>by simp_all
  have a:=m8 ne
  generalize i:l.dropLast=m at a
  generalize l.getLast ne=x at a
  have f:m.length=n:=by grind
  obtain⟨c,h⟩:=g m f
  rw[<-a,n0]
  exact⟨aby x c,by show((dg d m).1++_).length=_;simp_all⟩
abbrev ys (a:List ByteArray):Int×List ByteArray×List Int×List (List Int)->Option ((Int×List ByteArray×List Int×List (List Int))⊕(List ByteArray×List Int×List (List Int))):=
 fun(s:Int×(List ByteArray)×(List Int)×(List (List Int)))=>((g4 a s.1 s.2.1 s.2.2.1 s.2.2.2).map (Sum.elim (fun(t:Int×(List ByteArray)×(List Int)×(List (List Int)))=>Sum.inl (t.1,t.2.1,t.2.2.1,t.2.2.2)) (fun(t:(List ByteArray)×(List Int)×(List (List Int)))=>Sum.inr t)):Option ((Int×(List ByteArray)×(List Int)×(List (List Int)))⊕(((List ByteArray)×(List Int)×(List (List Int))))))
theorem apJ (d:fa) (a:List ByteArray) (j:a.length<=1048576) (h: ∀s∈a,s.size<=1048576) (l:d.2.length<=1048576):i6 d.1 d.2 a=some (e2 d a):=by
 have e:i6 d.1 d.2 a=h9 d.1 d.2 a:=by unfold i6;rfl
 rw[e]
 unfold h9 k8 e2
 rw[Lj _ _ (by omega),ac]
 cases o:cS d with
 |false=>simp_all
 |true=>
  by_cases c:a.length<=40
  ·obtain⟨t,n,i⟩:=kZ o
   have m:=dd t
   have pl:=Bs d.2 i
   rw[cy (show¬((a.length:Nat):Int)>40 by omega),Zo _ _ (by omega),aB ⟨rfl,c⟩]
   simp only[bo,aq,ac,Sum.elim_inl]
   unfold on oj k9 oi ob l0
   have p:=bH (body:=ys a) (fun k=>((k:Int),dg d (a.take k))) a.length (dg d a)
    (by
     intro k b
     have w:wrap .i64 ((k:Int)+1)=((k+1:Nat):Int):=by grind [wrap64]
     obtain⟨ok,f⟩:=h5 o _ (a.take k) rfl
     rw[mR] at f
     have pl:=(kZ ok).2.1
     have g:=anb (dg d (a.take k)).2 a[k] (h _ (cT b)) (by omega) (fun o=>aaE (kZ o).1)
     simp only[ys,g4]
     rw[an (show(k:Int)<((a.length:Nat):Int) by omega),cb b,w]
     simp only[au,ac,g]
     rw[YP (by grind),h0 b,n0]
     rfl)
    (by
     grind [g4,decide_eq_false,List.length,List.take_length]) LL (by grind [LL])
   grind [ai,LL,dg]
  grind
abbrev B0 (a:List ByteArray) (n:Int):Int×List ByteArray×List Int×List (List Int)->Option ((Int×List ByteArray×List Int×List (List Int))⊕(List ByteArray×List Int×List (List Int))):=
 fun(s:Int×(List ByteArray)×(List Int)×(List (List Int)))=>((g3 a n s.1 s.2.1 s.2.2.1 s.2.2.2).map (Sum.elim (fun(t:Int×(List ByteArray)×(List Int)×(List (List Int)))=>Sum.inl (t.1,t.2.1,t.2.2.1,t.2.2.2)) (fun(t:(List ByteArray)×(List Int)×(List (List Int)))=>Sum.inr t)):Option ((Int×(List ByteArray)×(List Int)×(List (List Int)))⊕(((List ByteArray)×(List Int)×(List (List Int))))))
theorem apK (d:fa) (a:List ByteArray) (j:a.length<=1048576) (h: ∀s∈a,s.size<=100000000):f1 d.1 d.2 a=some (e2 d a):=by
 have e:f1 d.1 d.2 a=h8 d.1 d.2 a:=by unfold f1;rfl
 rw[e]
 unfold h8 k5 e2
 rw[Lx,ac]
 cases o:cS d with
 |false=>simp_all
 |true=>
  obtain⟨t,n,q⟩:=kZ o
  have l:=dd t
  by_cases c:a.length<=40
  ·rw[cy (show¬((a.length:Nat):Int)>40 by omega),mC d.1 d.2 (by omega) (by omega) (fun x m=>by grind [dd]),aB ⟨rfl,c⟩]
   simp only[bo,aq,ac]
   rw[hn (by omega)]
   simp only[ac,Sum.elim_inl]
   unfold n9 n8 k6 n7 n6 k7
   have p:=bH (body:=B0 a ((a.length:Nat):Int)) (fun k=>((k:Int),(dg d (a.take k)).1++replicate (a.length-k) empty,(dg d (a.take k)).2)) a.length (dg d a)
    (by
     intro k b
     have w:wrap .i64 ((k:Int)+1)=((k+1:Nat):Int):=by grind [wrap64]
     obtain⟨ok,f⟩:=h5 o _ (a.take k) rfl
     rw[mR] at f
     have g:=abu (dg d (a.take k)).2 a[k] (h _ (cT b))
     have le:((dg d (a.take k)).1++replicate (a.length-k) empty).length=a.length:=by grind
     simp only[B0,g3]
     rw[an (show(k:Int)<((a.length:Nat):Int) by omega),cb b,w]
     simp only[au,ac,g]
     rw[le,cg b]
     simp only[ac,bn,Sum.elim_inl]
     have i:replicate (a.length-k) empty=empty::replicate (a.length-(k+1)) empty:=by
      rw[<-l9]
      grind
     rw[i,q9 _ _ (by omega),show k-(dg d (a.take k)).1.length=0 by omega,m0,h0 b,n0]
     simp[fs])
    (by
     grind [g3,decide_eq_false,List.length,List.take_length]) LL (by grind [LL])
   grind [ai,List.length,LL,replicate,empty,dg]
  grind
theorem BW {b:List Int} (g:Bytes b) (a:List ByteArray) (n:Int) (q:(a.length:Int)=n) (f:1<=n) (o:n<=1000) (j: ∀t∈a,t.size<=16) {p:Int} (h:0<=p) (i:p<=1000000000):
  ∃t,((bC n b p).bind fun c=>(al c.1 (List.length a)).bind fun k=>(a[k]?).bind fun t=>some (t,c.2))=some (t,p+1)/\t.size<=16:=by
 obtain⟨c,l,m,e,_⟩:=cI g n (by omega) h i
 have e:=e f
 have d:c.toNat<a.length:=by omega
 refine⟨a[c.toNat],?_,j _ (cT d)⟩
 simp only[l,ac]
 rw[kT m (by omega),ac,bh d,ac]
theorem aoZ (k a b:Int):(cj k a b).size<=16:=by
 by_cases c:cK k a b=true
 ·have:=K2 c;omega
 ·have:cj k a b=empty:=by
   by_cases q:cj k a b=empty
   ·exact q
   ·exact absurd (YO.mp q) c
  rw[this]
  decide
theorem ao0 {b:List Int} (d:Bytes b) (h:List Int) (j:h.length<=1000) {p:Int} (l:0<=p) (y:p<=999980000):
  ∃(t:ByteArray) (c:Int),wZ h b p=some (t,c)/\p<=c/\c<=p+20/\t.size<=16:=by
 have e:wZ h b p=rX h b p:=by unfold wZ;rfl
 rw[e]
 unfold rX
 obtain⟨a,g,r,f,_⟩:=cI d 7 (by omega) l (by omega)
 have f:=f (by omega)
 simp only[g,ac]
 have w:a=0\/a=1\/a=2\/a=3\/a=4\/a=5\/a=6:=by omega
 have one: ∀{o:Option (ByteArray×Int)},(∃t,o=some (t,p+1+1)/\t.size<=16)-> ∃(t:ByteArray) (c:Int),o=some (t,c)/\p<=c/\c<=p+20/\t.size<=16:=fun⟨t,m,h⟩=>⟨t,_,m,by omega,by omega,h⟩
 have num: ∃t,((bC 9 b (p+1)).bind fun a=>(cG a.1).bind fun u=>(cat (ByteArray.mk #[121,105,101,108,100,32]) u).bind fun t=>some (t,a.2))=some (t,p+1+1)/\t.size<=16:=by
  obtain⟨a,g,r,f,_⟩:=cI d 9 (by omega) (p:=p+1) (by omega) (by omega)
  have f:=f (by omega)
  obtain⟨q,z,A⟩:=gV (n:=a) (by omega)
  have B:(ByteArray.mk #[121,105,101,108,100,32]).size=6:=rfl
  simp only[g,ac,q]
  rw[jN (by omega),ac]
  exact⟨_,rfl,by rw[e1];omega⟩
 have i: ∃(t:ByteArray) (c:Int),((ky h b (p+1)).bind fun a=>(iE a.2.1 a.2.2.1 a.2.2.2).bind fun t=>some (t,a.1))=some (t,c)/\p<=c/\c<=p+20/\t.size<=16:=by
  obtain⟨c,k,x,C,hd,s,v⟩:=abv d h j (p:=p+1) (by omega) (by omega)
  simp only[hd,ac,YM]
  exact⟨_,_,rfl,by omega,by omega,aoZ _ _ _⟩
 rcases w with rfl|rfl|rfl|rfl|rfl|rfl|rfl
 ·exact one (BW d _ 15 rfl (by omega) (by omega) (by decide) (by omega) (by omega))
 ·exact one (BW d _ 15 rfl (by omega) (by omega) (by decide) (by omega) (by omega))
 ·exact one (BW d _ 15 rfl (by omega) (by omega) (by decide) (by omega) (by omega))
 ·exact one (BW d _ 13 rfl (by omega) (by omega) (by decide) (by omega) (by omega))
 ·exact one num
 ·exact i
 ·exact i
theorem Hx (l m:List UInt8):aD (ByteArray.mk l.toArray) (ByteArray.mk m.toArray)=decide (l=m):=by
 by_cases e:l=m
 ·subst e;rw[jL,an rfl]
 ·rw[cy e]
  refine kU fun h=>e ?_
  injection h with h
  simpa using h
theorem n1: ∀(l:List ByteArray) (a:h4),l.foldl fs a=(a.1++(dg a.2 l).1,(dg a.2 l).2)
 |[],a=>by simp[dg]
 |s::l,a=>by
  have b:=n1 l (fs a s)
  have c:=n1 l (fs ([],a.2) s)
  unfold dg at b c⊢
  rw[k0,k0,b,c]
  simp[fs]
theorem Kf (d:fa) (l m:List ByteArray):dg d (l++m)=((dg d l).1++(dg (dg d l).2 m).1,(dg (dg d l).2 m).2):=by
 have:=n1 m (dg d l)
 unfold dg at this⊢
 rw[List.foldl_append,this]
theorem k1 {l:List Int} (h: ∀n∈l,n<1000000000):gF l≠empty:=by
 unfold gF
 by_cases c:l=[]
 ·rw[aB c];decide
 ·rw[aG c];exact anf h c
theorem f0 {n:Int} (h:n<1000000000):bV n≠empty:=fun e=>by
 have:=(gV h).2.1
 rw[e] at this
 exact absurd this (by decide)
theorem apL (H:List Int) (i:Nat) (st:List Nat):cC H i st≠110:=by
 unfold cC
 split
 ·split
  ·omega
  ·split<;>omega
 ·omega
theorem apM (H:List Int) (i:Nat) (st:List Nat):ex H i st≠110:=by
 unfold ex
 split
 ·omega
 ·split
  ·omega
  ·split
   ·omega
   ·split<;>omega
theorem Lz {mv:ByteArray} {r:Nat} {ms:List Nat} (h:ap mv=r::ms) (b:r≠110):mv≠empty/\aD mv qy=false:=by
 refine⟨fun e=> ?_,kU fun e=> ?_⟩
 ·rw[e] at h;exact absurd h (by simp[show ap empty=[] from rfl])
 ·rw[e] at h
  have:ap qy=[110,111,110,101]:=rfl
  rw[this] at h
  injection h with a c
  exact b a.symm
theorem Pa:uP (some (empty,false))=qy:=rfl
theorem RK {h:List Int} (t:aA h=true):uP (jw h)≠empty/\aD (uP (jw h)) qy= !dm h:=by
 have d:=dd t
 cases f:dm h with
 |true=>
  obtain⟨T,F⟩:=oq.mp f
  obtain⟨mv,ms,e,g,b⟩:=LV T F
  rw[e]
  rw[show 2*h.length-1=(2*h.length-2)+1 by omega,ht] at g
  obtain⟨_,_,g⟩:=g0.mp g
  obtain⟨_,_,g⟩:=cv.mp g
  injection g with a c
  exact Lz (b.trans a.symm) (apL _ _ _)
 |false=>
  rw[LW (by omega) f,Pa]
  exact⟨by decide,jL _⟩
theorem add {h:List Int} (t:aA h=true):uP (jx h)≠empty/\aD (uP (jx h)) qy= !dm h:=by
 have d:=dd t
 cases f:dm h with
 |true=>
  obtain⟨T,F⟩:=oq.mp f
  obtain⟨mv,ms,st,e,g,b⟩:=LX T F
  rw[e]
  rw[show 2*h.length=(2*h.length-1)+1 by omega,ia,aB (by simp only;omega)] at g
  obtain⟨_,_,g⟩:=g0.mp g
  obtain⟨_,_,g⟩:=cv.mp g
  injection g with a c
  exact Lz (b.trans a.symm) (apM _ _ _)
 |false=>
  rw[LY (by omega) f,Pa]
  exact⟨by decide,jL _⟩
theorem cnx {c:Bool} {a r e:ByteArray} {b:Option ByteArray} (d:a≠e) (f:b.getD r≠e):(cond c (some a) b).getD r≠e:=by cases c<;>assumption
theorem apN {d:fa} (o:cS d=true) (s:ByteArray):(fx d s).1≠empty:=by
 have t:=(kZ o).1
 have a:=aaE t
 unfold fx
 rw[aB o]
 by_cases r:(bO s).1=true
 ·rw[aB r]
  cases (eg d ((bO s).2.1,(bO s).2.2.1,(bO s).2.2.2,())).1
  ·exact(by decide:am6≠empty)
  ·exact(by decide:vx≠empty)
 ·rw[aG r]
  unfold qA
  have c: ∀b,uO b≠empty:=fun b=>by cases b<;>decide
  refine cnx (k1 a.BJ) (cnx (k1 a.BK) (cnx (k1 a.order) (cnx (f0 a.root) (cnx (f0 a.BL) (cnx (f0 a.BM) (cnx (f0 a.BN) (cnx (f0 a.len) (cnx (f0 a.least) (cnx (f0 a.apart) (cnx (c _) (cnx (c _) (cnx (RK t).1 (cnx (add t).1 (cnx ?_ ?_))))))))))))))
  ·split
   ·decide
   ·exact f0 a.place
  ·show qC d.1 s≠_
   unfold qC
   split
   ·exact k1 fun n e=>a.uQ _ n e
   ·decide
theorem apO {d:fa}: ∀(l:List ByteArray),cS d=true-> ∀t∈(dg d l).1,t≠empty:=by
 intro l
 induction l generalizing d with
 |nil=>intro _ t a;exact absurd a (by simp[dg])
 |cons s l b=>
  intro o t a
  have e:=Kf d [s] l
  rw[m9] at e
  rw[e] at a
  rcases jb.mp a with a|a
  ·have:t=(fx d s).1:=by simpa[dg,fs] using a
   rw[this]
   exact apN o s
  ·exact b (aby s o) t a
theorem asked {s:ByteArray} (e:s.size<=100000000) (d:fa) (o:cS d=true) {a:ByteArray} (c:y8 s=some (false,0,0,0)) (b:qA d.1 s=some a):fx d s=(a,d):=by
 have r:(bO s).1=false:=by
  have:=(akR s e).symm.trans c
  injection this with this
  rw[this]
 unfold fx
 rw[aB o,r,aG (by simp),b]
 rfl
theorem apP (d:fa) (o:cS d=true):fx d (ByteArray.mk #[109,111,118,101,115])=(uP (jw d.1),d):=asked (by decide) d o (by decide+kernel) (by simp[qA,Hx])
theorem apQ (d:fa) (o:cS d=true):fx d (ByteArray.mk #[101,97,103,101,114])=(uP (jx d.1),d):=asked (by decide) d o (by decide+kernel) (by simp[qA,Hx])
theorem Mu (xs a:List Int) (h:xs.length<=1048576):qa xs a=some (xs==a):=by
 have e:qa xs a=Ag xs a:=by unfold qa;rfl
 rw[e]
 unfold Ag J4 Wy Wx Ww Wv J5 J6
 by_cases c:xs.length=a.length
 ·have j:=dJ (body:=fun(s:Int)=>((tX xs a s).map (Sum.elim (fun(t:Int)=>Sum.inl t) (Sum.elim (fun(t:Bool)=>Sum.inr (Sum.inl t)) (fun(t:Unit)=>Sum.inr (Sum.inr t)))):Option ((Int)⊕(Bool⊕Unit))))
   (I:=fun s=> ∃k:Nat,s=k/\k<=xs.length) (μ:=fun s=>xs.length-s.toNat) (f:=fun s=>cond (xs.drop s.toNat==a.drop s.toNat) (.inr ()) (.inl false))
   (by
    rintro _ ⟨k,rfl,l⟩
    by_cases d:k<xs.length
    ·have g:k<a.length:=by omega
     simp only[tX]
     rw[show decide ((k:Int)<((xs.length:Nat):Int))=true from an (by omega)]
     simp only[au,cb d,cb g,ac,d8]
     rw[wrap64 (by omega) (by omega),ajJ d g]
     by_cases b:xs[k]=a[k]
     ·left
      refine⟨((k+1:Nat):Int),by simp[b],⟨k+1,rfl,d⟩,by simp;omega,by simp[b]⟩
     ·right
      have i:(xs[k]==a[k])=false:=by simpa using b
      simp[bne,i]
    ·right
     have e:k=xs.length:=by omega
     subst e
     simp only[tX]
     rw[show decide (((xs.length:Nat):Int)<((xs.length:Nat):Int))=false from cy (by omega)]
     simp[wp (j8 c.symm)])
  rw[show((((xs.length:Nat):Int)) !=(((a.length:Nat):Int)))=false by simp[c]]
  simp only[aq,ac,Sum.elim_inl]
  rw[j LL 0 ⟨0,by simp,by omega⟩ (by simp only[LL];simp;omega)]
  simp only[g7,fl]
  cases xs==a<;>rfl
 ·rw[show((((xs.length:Nat):Int)) !=(((a.length:Nat):Int)))=true by simp;omega]
  have:(xs==a)=false:=by
   rw[d5]
   exact fun e=>c (by rw[e])
  rw[this];rfl
theorem ao6 {xs a:List (List Int)} {k:Nat} (h:k<xs.length) (h':k<a.length):(xs.drop k==a.drop k)=((xs[k]==a[k])&&(xs.drop (k+1)==a.drop (k+1))):=by
 rw[e3 h,e3 h',List.cons_beq_cons]
theorem abz (xs a:List (List Int)) (h:xs.length<=1048576) (l: ∀x,x∈xs->x.length<=1048576):tZ xs a=some (xs==a):=by
 have e:tZ xs a=Ah xs a:=by unfold tZ;rfl
 rw[e]
 unfold Ah J7 WC WB WA Wz J8 J9
 by_cases d:xs.length=a.length
 ·have j:=dJ (body:=fun(s:Int)=>((tY xs a s).map (Sum.elim (fun(t:Int)=>Sum.inl t) (Sum.elim (fun(t:Bool)=>Sum.inr (Sum.inl t)) (fun(t:Unit)=>Sum.inr (Sum.inr t)))):Option ((Int)⊕(Bool⊕Unit))))
   (I:=fun s=> ∃k:Nat,s=k/\k<=xs.length) (μ:=fun s=>xs.length-s.toNat) (f:=fun s=>cond (xs.drop s.toNat==a.drop s.toNat) (.inr ()) (.inl false))
   (by
    rintro _ ⟨k,rfl,m⟩
    by_cases b:k<xs.length
    ·have g:k<a.length:=by omega
     simp only[tY]
     rw[show decide ((k:Int)<((xs.length:Nat):Int))=true from an (by omega)]
     simp only[au,cb b,cb g,ac,d8]
     rw[wrap64 (by omega) (by omega),ao6 b g,Mu _ _ (l _ (cT b)),ac]
     by_cases c:xs[k]=a[k]
     ·left
      refine⟨((k+1:Nat):Int),by simp[c],⟨k+1,rfl,b⟩,by simp;omega,by simp[c]⟩
     ·right
      have i:(xs[k]==a[k])=false:=by simpa using c
      simp[bne,i]
    ·right
     have e:k=xs.length:=by omega
     subst e
     simp only[tY]
     rw[show decide (((xs.length:Nat):Int)<((xs.length:Nat):Int))=false from cy (by omega)]
     simp[wp (j8 d.symm)])
  rw[show((((xs.length:Nat):Int)) !=(((a.length:Nat):Int)))=false by simp[d]]
  simp only[aq,ac,Sum.elim_inl]
  rw[j LL 0 ⟨0,by simp,by omega⟩ (by simp only[LL];simp;omega)]
  simp only[g7,fl]
  cases xs==a<;>rfl
 ·rw[show((((xs.length:Nat):Int)) !=(((a.length:Nat):Int)))=true by simp;omega]
  have:(xs==a)=false:=by
   rw[d5]
   exact fun e=>d (by rw[e])
  rw[this];rfl
theorem abA (d e:fa) (s:Small d):kE d.1 d.2 e.1 e.2=some (d==e):=by
 obtain⟨f,g,b⟩:=s
 obtain⟨n,p⟩:=d
 obtain⟨m,a⟩:=e
 simp only at f g b
 unfold kE Ai
 simp only
 rw[Mu n m (by omega),ac,abz p a (by omega) (fun x c=>by have:=b x c;omega)]
 rw[show((n,p)==(m,a))=((n==m)&&(p==a)) from rfl]
 cases n==m<;>rfl
theorem ao7:Ka [] []=some true:=by
 unfold Ka Al Ak Aj
 rw[Mu [] [] (by simp),ac,abz [] [] (by simp) (by simp)]
 rfl
theorem ao8:aA [0]=true:=by decide
theorem ao9:aA [1]=false:=by decide
theorem apa:Kb=some true:=by
 unfold Kb Am
 simp[fq,ao8,ao9]
end Go.Rv
