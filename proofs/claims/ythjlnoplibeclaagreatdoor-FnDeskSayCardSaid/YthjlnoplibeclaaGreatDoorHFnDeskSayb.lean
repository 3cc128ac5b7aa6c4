/-
  Plain mathematics of what the law reaches. Conditions: none.
-/
import Derived.Test.YthjlnoplibeclaaGreatDoorHFnDeskSaya
open Go.IntKind (wrap)
open List (range replicate dropWhile takeWhile getD reverse)
open Go.Lib (decDigits indexByte join itoa)
open ByteArray (empty)
open Nat (blt ble testBit beq)
open UInt8 (toNat)
set_option linter.all false
namespace Go.Rv
def g0:=@Option.bind_eq_some_iff
def j9:=@Nat.pow_succ
def k0:=@List.foldl_cons
def m5:=@List.map_congr_left
def m6:=@List.takeWhile_append_dropWhile
def m7:=@Nat.one_le_two_pow
def m8:=@List.dropLast_concat_getLast
def p2:=@List.takeWhile_sublist
def rs:=@Int.eq_ofNat_of_zero_le
def sm:=@List.length_eq_zero_iff
theorem alj {h:List Int} (t:aA h=true) (a:gs): ∃n r,pu h a.1 a.2.1 a.2.2.1=some (n,r)/\n<=r.length/\r.take n=dY h a:=by
 obtain⟨l,m⟩:=dd t
 obtain⟨k,x,b,u⟩:=a
 have e:pu h k x b=rT h k x b:=by unfold pu;rfl
 simp only
 rw[e]
 unfold rT
 rw[room_le (by grind)]
 simp only[ac,hC,gA,d9,d6,f3]
 have o: ∃n r,(cond ((k==1)&&(b==0)) ((room (h.length+ [x].length)).bind fun _=>some ((h++ [x]).length,h++ [x]))
   (cond ((k==2)&&((x==0)&&(b==0))) ((inc (wrap .i64 ((((h.length:Nat):Int))-1)) h.length).bind fun d=>some (d-0,h))
    (cond ((k==3)&&((x==0)&&(b==0))) ((ps h).bind fun d=>some (d.length,d)) (cond ((k==4)&&((x==0)&&(b==0))) ((rS h).bind fun d=>some (d.length,d)) (some (([]:List Int).length,([]:List Int)))))):Option (Nat×List Int))=some (n,r)/\n<=r.length/\r.take n=
   if((k==1)&&(b==0))=true then h++ [x] else if eJ (k,x,b,u) 2=true then h.dropLast else if eJ (k,x,b,u) 3=true then qm h else if eJ (k,x,b,u) 4=true then Li h else[]:=by
  unfold eJ
  simp only[f3]
  cases g:(k==1)&&(b==0) with
  |true=>
   grind [room_le,List.length_cons,List.length_nil,List.take_length]
  |false=>
   cases j:(k==2)&&((x==0)&&(b==0)) with
   |true=>
    have w:wrap .i64 ((((h.length:Nat):Int))-1)=((h.length-1:Nat):Int):=by grind [wrap64]
    have i:inc ((h.length-1:Nat):Int) h.length=some (h.length-1):=by grind [inc]
    rw[w,i]
    refine⟨h.length-1,h,rfl,by omega,?_⟩
    grind [List.dropLast_eq_take]
   |false=>
    grind [akz,List.take_length,ak1,Li]
 cases f:k==0 with
 |false=>
  grind [dY]
 |true=>
  simp only[au]
  cases c:decide (1<=x)&&decide (x<=((h.length:Nat):Int)) with
  |false=>
   grind [dY]
  |true=>
   simp only[au]
   grind [wrap,wrap64,cg,List.take_length,dY]
abbrev Zs (n:Nat) (a r:List Int):Bool×Int->Option ((Bool×Int)⊕Bool):=
 fun(s:Bool×Int)=>((pw n s.1 s.2 a r).map (Sum.elim (fun(t:Bool×Int)=>Sum.inl (t.1,t.2)) (fun(t:Bool)=>Sum.inr t)):Option ((Bool×Int)⊕(Bool)))
theorem Zt (n:Nat) (a r:List Int) (i:n<=r.length) (g:a.length=n) (e:n<=1048576): ∀(m k N:Nat) (b:Bool),k+m=n->m<N->
  ai (Zs n a r) N (b,(k:Int))=some (b&&((r.take n).drop k==a.drop k))
 |m,k,0,b,_,h=>by omega
 |0,k,N+1,b,f,_=>by
  grind [ai,pw,decide_eq_false,List.drop_eq_nil_of_le,List.length_take]
 |m+1,k,N+1,b,f,j=>by
  rw[ai]
  have c:(r.take n).drop k=r[k]::(r.take n).drop (k+1):=by
   rw[e3 (by grind),e8]
  have d:a.drop k=a[k]::a.drop (k+1):=e3 (by omega)
  have w:wrap .i64 ((k:Int)+1)=((k+1:Nat):Int):=by grind [wrap64]
  simp only[Zs,pw]
  rw[an (show((k:Nat):Int)<((n:Nat):Int) by omega)]
  cases b with
  |false=>rfl
  |true=>
   simp only[au]
   rw[cg (show k<n by omega),ac,iz,bh (show k<r.length by omega),ac,cb (show k<a.length by omega),ac,w]
   simp only[bn,Sum.elim_inl,ac]
   rw[Zt n a r i g e m (k+1) N _ (by omega) (by omega),c,d,List.cons_beq_cons,d6]
theorem alk (n:Nat) (a r:List Int) (b:n<=r.length) (d:a.length<=1048576):EP n ((((n:Nat):Int))==(((a.length:Nat):Int))) a r=some (r.take n==a):=by
 unfold EP
 by_cases c:a.length=n
 ·have:=Zt n a r b c (by omega) n 0 LL ((((n:Nat):Int))==(((a.length:Nat):Int))) (by omega) (by grind [LL])
  simp_all
 grind [List.length,List.take,List.length_take,LL,ai,pw,Decidable.decide]
theorem kZ {d:fa} (h:cS d=true):aA d.1=true/\d.2.length<=8/\ ∀x,x∈d.2->aA x=true:=by
 grind [cS,List.all_eq_true]
theorem Bs: ∀(p:List (List Int)),(∀x,x∈p->aA x=true)->(p.map List.length).sum<=8*p.length
 |[],_=>vP _
 |x::p,h=>by
  have:=Bs p (fun b a=>h b (bB _ a))
  grind [dd,List.mem_cons_self,List.length_cons]
theorem Zu (n:List Int) (p:List (List Int)) (a:gs) (u:p.length<=1152921504606846974):
  rU n p a.1 a.2.1 a.2.2.1=some (eg (n,p) a):=by
 have e:rU n p a.1 a.2.1 a.2.2.1=wT n p a.1 a.2.1 a.2.2.1:=by unfold rU;rfl
 rw[e]
 unfold wT EM eg
 rw[Lj n p u,ac]
 cases o:cS (n,p) with
 |false=>rfl
 |true=>
  obtain⟨t,v,g⟩:=kZ o
  simp only at t v g
  obtain⟨B,C⟩:=dd t
  have:=Bs p g
  rw[aB rfl,Zo n p (by omega)]
  simp only[bo,aq,ac]
  have A: ∀c:Bool×fa,c=(if(dY n a==n|| !aA (dY n a))=true then(false,(n,p)) else(true,dY n a,mz p n))->
    (((pu n a.1 a.2.1 a.2.2.1).bind fun(d:Nat×(List Int))=>some (Sum.inl ((d.1),(((((d.1):Nat):Int))==(((List.length n:Nat):Int))),(d.2),n,p)):Option ((Nat×Bool×(List Int)×(List Int)×(List (List Int)))⊕(Bool×(List Int)×(List (List Int))))).bind
     (Sum.elim (fun(t:Nat×Bool×(List Int)×(List Int)×(List (List Int)))=>ER t.1 t.2.1 n t.2.2.1 t.2.2.2.1 t.2.2.2.2) (fun e=>some ((fun(t:Bool×(List Int)×(List (List Int)))=>t) e))))=some c:=by
   rintro c rfl
   obtain⟨m,r,l,q,f⟩:=alj t a
   rw[l]
   simp only[ac,Sum.elim_inl]
   unfold ER PC EN PB
   rw[ac,alk m n r q (by omega),bn,ac,f]
   unfold EQ
   rw[fl,f,cH,ac]
   cases dY n a==n with
   |true=>rfl
   |false=>
    cases y:aA (dY n a) with
    |false=>rfl
    |true=>
     have:=(dd y).2
     have k:(p++ [[]]).set p.length n=p++ [n]:=by simp_all
     rw[room_le (by omega),room_le (by grind),k]
     simp only[bo,aq,ac,hC,Bool.or_false,C2,ck,jh]
     grind [mz,List.length,decide_eq_false,decide_eq_true,inc,List.take_of_length_le]
  have j:((a.1==5)&&((a.2.1==0)&&((a.2.2.1==0)&&true)))=eJ a 5:=rfl
  rw[j]
  cases z:eJ a 5 with
  |false=>
   simp_all
  |true=>
   simp only[au,d6]
   cases p with
   |nil=>
    simp_all
   |cons x b=>
    have w:wrap .i64 ((((List.length (x::b):Nat):Int))-1)=(((x::b).length-1:Nat):Int):=by grind [wrap64,List.length_cons]
    have i:inc (((x::b).length-1:Nat):Int) ((x::b).set ((x::b).length-1) []).length=some ((x::b).length-1):=by
     grind [inc,List.length_set]
    rw[an (show((((x::b).length:Nat):Int))>0 by simp_all),w,cg (by simp_all)]
    simp only[au,ac]
    rw[bh (show(x::b).length-1<(x::b).length by simp),ac,i,ac]
    have s:sure (blt ((x::b).length-1) 0||ble ((x::b).length-1) ((x::b).length-1))=some ():=by
     have:ble ((x::b).length-1) ((x::b).length-1)=true:=nj.mpr (aS _)
     rw[this,Bool.or_true];rfl
    grind [List.take_set_of_le,List.dropLast_eq_take]
def uA (h:List Int):Bool×List Int:=if aA h=true then(true,h) else(false,[])
theorem alm (h:List Int):wN h=some (uA h):=by
 have e:wN h=rJ h:=by unfold wN;rfl
 grind [rJ,uA,cH,aA,room_le,dd,List.length_nil]
theorem Zv {n:List Int} {p:List (List Int)} (t:aA n=true) (l:p.length<=8) (h: ∀x,x∈p->aA x=true):cS (n,p)=true:=by
 grind [cS,List.all_eq_true]
theorem aln (p:List (List Int)) (h:List Int) (l:p.length<=8):(mz p h).length<=8:=by
 grind [mz,List.length,List.length_append,List.length_cons,List.length_nil,List.length_drop]
theorem alo {p:List (List Int)} {h x:List Int} (m:x∈mz p h):x∈p\/x=h:=by
 grind [mz,List.length,List.mem_of_mem_drop]
theorem Zw {d:fa} (a:gs) (o:cS d=true):cS (eg d a).2=true:=by
 obtain⟨t,l,h⟩:=kZ o
 unfold eg
 rw[aB o]
 by_cases c:(eJ a 5&& !d.2.isEmpty)=true
 ·rw[aB c]
  rw[aT] at c
  have ne:d.2≠ []:=by simp_all
  grind [Zv,List.length_dropLast,List.dropLast_subset,List.getLast?_eq_some_getLast,List.getLast_mem]
 grind [dY,aA,Bool.not_eq_true',Zv,aln,alo]
theorem Zx {d:fa} (a:gs) (o:cS d=false):eg d a=(false,[],[]):=by
 grind [eg]
def cx:List Int->List Int->List Int×Nat
 |[],B=>(B,0)
 |a::A,[]=>(a::A,0)
 |a::A,b::B=>if a<b then(a::(cx A (b::B)).1,(cx A (b::B)).2) else(b::(cx (a::A) B).1,(A.length+1)+(cx (a::A) B).2)
termination_by A B=>A.length+B.length
theorem Bt {a b:Int} {A B:List Int} (l:a<b):cx (a::A) (b::B)=(a::(cx A (b::B)).1,(cx A (b::B)).2):=by rw[cx,aB l]
theorem Bu {a b:Int} {A B:List Int} (l: ¬a<b):cx (a::A) (b::B)=(b::(cx (a::A) B).1,(A.length+1)+(cx (a::A) B).2):=by rw[cx,aG l]
theorem qv: ∀(n:Nat) (A B:List Int),A.length+B.length<=n->(cx A B).1.Perm (A++B)
 |n,[],B,_=>by rw[cx];simp_all
 |n,a::A,[],_=>by rw[cx,gd]
 |0,a::A,b::B,h=>by simp at h
 |n+1,a::A,b::B,h=>by
  simp only[ck] at h
  by_cases l:a<b
  ·rw[Bt l]
   exact(qv n A (b::B) (by grind)).cons a
  ·rw[Bu l]
   exact((qv n (a::A) B (by grind)).cons b).trans List.perm_middle.symm
theorem alq (A B:List Int) (b:Int):gS A (b::B)=A.countP (fun a=>decide (b<a))+gS A B:=by
 induction A<;>grind [gS]
theorem alr {a b c:List Int} (p:a.Perm b):gS a c=gS b c:=(p.map _).sum_nat
theorem Lo: ∀(n:Nat) (c d:List Int),c.length+d.length<=n->c.Pairwise (· < ·)->d.Pairwise (· < ·)->(∀x∈c,x∉d)->(cx c d).1.Pairwise (· < ·)/\(cx c d).2=gS c d
 |n,[],d,_,_,i,_=>by rw[cx];exact⟨i,rfl⟩
 |n,a::c,[],_,g,_,_=>by
  rw[cx]
  refine⟨g,?_⟩
  unfold gS
  have: ∀l:List Int,(l.map fun a=>([]:List Int).countP fun o=>decide (o<a)).sum=0:=fun l=>by
   induction l<;>simp_all
  simp_all
 |0,a::c,b::d,h,_,_,_=>by simp at h
 |n+1,a::c,b::d,h,g,i,hd=>by
  simp only[ck] at h
  have p:=d7.mp g
  have q:=d7.mp i
  by_cases l:a<b
  ·rw[Bt l]
   have f:=Lo n c (b::d) (by grind) p.2 i (fun x j=>hd x (bB _ j))
   refine⟨d7.mpr ⟨fun o k=> ?_,f.1⟩,?_⟩
   ·have:=((qv n c (b::d) (by grind)).mem_iff).mp k
    grind
   ·simp only
    rw[f.2]
    unfold gS
    rw[dM,fr,List.countP_eq_zero.mpr,iz]
    grind
  ·rw[Bu l]
   have ne:a≠b:=fun e=>hd a (bk ..) (by simp_all)
   have f:=Lo n (a::c) d (by grind) g q.2 (fun x j m=>hd x j (bB _ m))
   refine⟨d7.mpr ⟨fun o k=> ?_,f.1⟩,?_⟩
   ·have:=((qv n (a::c) d (by grind)).mem_iff).mp k
    grind
   ·simp only
    rw[f.2,alq,List.countP_eq_length.mpr,ck]
    grind
theorem als:((range 256).all fun m=>se (m:Int)==some (((cn m).length:Nat):Int))=true:=by decide+kernel
theorem count_eq {m:Nat} (h:m<256):se (m:Int)=some (((cn m).length:Nat):Int):=by simpa using gQ als h
theorem alu:((range 8).all fun i=>xt ((i:Int)+1)==some ((2^i-1:Nat):Int))=true:=by decide+kernel
theorem alv {w:Nat} (a:1<=w) (b:w<=8):xt (w:Int)=some ((2^(w-1)-1:Nat):Int):=by
 grind [gQ,alu]
theorem alw {a b:Nat} (d:a<2^62) (f:b<2^62): ∃c:Nat,qK .u64 (a:Int) (b:Int)=(c:Int)/\c<=a/\ ∀i,c.testBit i=(a.testBit i&& !b.testBit i):=by
 have h:a&&&(2^64-1-b)<=a:=Nat.and_le_left
 refine⟨a&&&(2^64-1-b),?_,h,fun i=> ?_⟩
 ·show wrap .u64 ((BitVec.ofInt 64 (a:Int)&&& ~~~BitVec.ofInt 64 (b:Int)).toNat:Int)=_
  grind [BitVec.toNat_and,BitVec.toNat_not,ui,uh]
 ·rw[Nat.testBit_and]
  by_cases hi:i<64
  ·have e:2^64-1-b=2^64-(b+1):=by omega
   rw[e,Nat.testBit_two_pow_sub_succ (by omega)]
   simp[hi]
  ·have:a.testBit i=false:=Nat.testBit_lt_two_pow (gH d (e5 (by omega) (by omega)))
   grind
def mA (h:List Int) (v:Int) (w i:Nat):Bool:=dl h v i&&decide (i<w-1)
def mB (h:List Int) (v:Int) (w i:Nat):Bool:=dl h v i&& !decide (i<w-1)
theorem Tree.Bv {h:List Int} (T:Tree h) {w i:Nat} (hi:i<h.length):dl h (w:Int) i=true↔hd h (i+1)=w:=by
 have a:=T.get (w:=i+1) (by omega) (by omega)
 grind [Nat.add_sub_cancel,dl]
theorem Tree.alx {h:List Int} (T:Tree h) {w:Nat} (a:1<=w) (b:w<=h.length):hd h w≠w:=by
 intro e
 have:=T.ft a b (by omega)
 simp_all
theorem aly {h:List Int} (T:Tree h) {w:Nat} (d:1<=w) (m:w<=h.length):
  sd h (w:Int)=some (((bt (mA h (w:Int) w) h.length:Nat):Int),((bt (mB h (w:Int) w) h.length:Nat):Int)):=by
 have f:=T.le
 have o:=ajZ (show w<=8 by omega) d
 have p:bt (dl h (w:Int)) h.length<256:=nN f (fR _ _)
 obtain⟨c,k,l,n⟩:=alw (a:=bt (dl h (w:Int)) h.length) (b:=2^(w-1)-1) (by omega) (by omega)
 have e:sd h (w:Int)=sc h (w:Int):=by unfold sd;rfl
 rw[e]
 unfold sc
 simp only[ac,uj h _ f,alv d (show w<=8 by omega),k]
 rw[KN (by omega) (by omega)]
 have g:bt (dl h (w:Int)) h.length&&&(2^(w-1)-1)=bt (mA h (w:Int) w) h.length:=by
  refine nM (Nat.lt_of_le_of_lt Nat.and_le_left (fR _ _)) fun i hi=> ?_
  grind [hS,Nat.testBit_two_pow_sub_one,mA]
 have j:c=bt (mB h (w:Int) w) h.length:=by
  refine nM (Nat.lt_of_le_of_lt l (fR _ _)) fun i hi=> ?_
  grind [hS,Nat.testBit_two_pow_sub_one,mB]
 rw[g,j]
theorem Lp: ∀{a b:List Int},a.Pairwise (· < ·)->b.Pairwise (· < ·)->(∀x,x∈a↔x∈b)->a=b
 |[],[],_,_,_=>rfl
 |[],f::b,_,_,h=>by grind [List.mem_cons_self]
 |x::a,[],_,_,h=>by grind [List.mem_cons_self]
 |x::a,f::b,c,d,h=>by
  rw[d7] at c d
  have e:x=f:=by
   grind [List.mem_cons_self]
  subst e
  congr 1
  refine Lp c.2 d.2 fun z=> ?_
  grind
theorem Zy (m:Nat):(cn m).Pairwise (· < ·):=by
 grind [cn,List.Pairwise.imp,List.pairwise_lt_range]
theorem Zz {l:List Nat} (h:l.Pairwise (· < ·)):(bN l).Pairwise (· < ·):=by
 grind [bN,List.Pairwise.imp]
theorem ZA {l:List Nat} {x:Int}:x∈bN l↔ ∃k,k∈l/\x=(k:Int):=by
 grind [bN]
section
variable {h : List Int} (T : Tree h)
include T
theorem ZB {w:Nat} (c:1<=w) (a:w<=h.length):cn (bt (mA h (w:Int) w) h.length)=bN (eZ h w):=by
 refine Lp (Zy _) (Zz (YV h w)) fun x=> ?_
 rw[KP T.le,ZA]
 constructor
 ·grind [mA,nZ,Tree.Bv]
 ·rintro⟨k,b,e⟩
  rw[nZ a] at b
  refine⟨k-1,by omega,?_,by omega⟩
  grind [mA,Tree.Bv]
theorem ZC {w:Nat} (b:1<=w) (c:w<=h.length):cn (bt (mB h (w:Int) w) h.length)=bN (hX h w):=by
 refine Lp (Zy _) (Zz (YW h w)) fun x=> ?_
 rw[KP T.le,ZA]
 constructor
 ·rintro⟨i,hi,a,e⟩
  simp only[mB,aT,gv,decide_eq_false_iff_not] at a
  have d:=(T.Bv hi).mp a.1
  have ne:i+1≠w:=fun g=>T.alx b c (by simp_all)
  exact⟨i+1,oa.mpr ⟨by omega,d,by omega⟩,e⟩
 ·rintro⟨k,f,e⟩
  rw[oa] at f
  refine⟨k-1,by omega,?_,by omega⟩
  grind [mB,Bool.not_eq_true',decide_eq_false_iff_not,Tree.Bv]
omit T in
theorem ZD {R0 R1:List Int->Int->List Int->Option (List Int)} {f m:Nat} {a:List Nat} (e:m<256) (b:cn m=bN a) (o:List Int)
  (c: ∀k∈a,∀j,R0 h (k:Int) (o++bN ((a.take j).flatMap (bv h f)))=some (o++bN ((a.take j).flatMap (bv h f))++bN (bv h f k))):
  xu R0 R1 h (m:Int) o=some (o++bN (a.flatMap (bv h f))):=by
 have len:(bN a).length=a.length:=kX a
 have n:=bH (body:=fun(s:Int×(List Int))=>((sg R0 R1 h (((bN a).length:Nat):Int) s.1 s.2 (bN a)).map (Sum.elim (fun(t:Int×(List Int))=>Sum.inl (t.1,t.2)) (fun(t:(List Int))=>Sum.inr t)):Option ((Int×(List Int))⊕(((List Int))))))
  (fun k=>((k:Int),o++bN ((a.take k).flatMap (bv h f)))) a.length (o++bN (a.flatMap (bv h f)))
  (by
   intro k d
   have i:=kO m
   rw[b,len] at i
   have i1:al (k:Int) (bN a).length=some k:=by grind [al]
   have g:(bN a)[k]? =some (a[k]:Int):=by grind [bN,List.getElem?_eq_getElem]
   have l:=c a[k] (cT d) k
   simp only[sg]
   rw[an (show(k:Int)<(((bN a).length:Nat):Int) by omega),i1,wrap64 (by omega) (by omega)]
   simp only[au,ac,g,l,bn,Sum.elim_inl]
   grind [List.take_succ_eq_append_getElem,uw,List.append_assoc])
  (by
   grind [sg,decide_eq_false,List.length,bN,List.take_length]) LL (by
    grind [kO,LL])
 unfold xu FQ FN QM QL FO
 rw[qi e,b]
 grind [QK,QJ,FP,bN]
theorem Lq {w f:Nat} (i:1<=w) (k:w<=h.length) (b:h.length<=f+1+dep h w) (j:Nat):(((eZ h w).take j).flatMap (bv h f)).length<=64/\(((hX h w).take j).flatMap (bv h f)).length<=64:=by
 have e:(eZ h w).length<=8:=by
  have:=kO (bt (mA h (w:Int) w) h.length)
  grind [ZB,kX]
 have g:(hX h w).length<=8:=by
  have:=kO (bt (mB h (w:Int) w) h.length)
  grind [ZC,kX]
 have d: ∀c,(1<=c/\c<=h.length)/\hd h c=w->(bv h f c).length<=8:=fun c a=>by
  grind [oc,Y9]
 grind [Bm,bv,eZ,List.mem_of_mem_take,nZ,List.length_take_le',hX,oa]
theorem Lr: ∀(f w:Nat) (o:List Int) (n:Nat),1<=w->w<=h.length->h.length<=f+dep h w->2*f<=n->o.length+200*f<=1000000->kC n h (w:Int) o=some (o++bN (bv h f w))
 |0,w,o,n,a,b,l,_,_=>by
  have:=T.ho a b
  omega
 |f+1,w,o,n,a,b,l,A,B=>by
  obtain⟨n,rfl⟩: ∃u,n=u+1+1:=⟨n-2,by omega⟩
  have m:=T.le
  have p: ∀c i,(1<=c/\c<=h.length)/\hd h c=w->i.length+200*f<=1000000->(fo n).1 h (c:Int) i=some (i++bN (bv h f c)):=fun c i g t=>by
   have:=oc T g.1.1 g.1.2 a g.2
   exact Lr f c i n g.1.1 g.1.2 (by omega) (by omega) t
  have e:kC (n+1+1) h (w:Int) o=sf (fo (n+1)).1 (fo (n+1)).2 h (w:Int) o:=rfl
  have s:(fo (n+1)).2=fun x y z=>xu (fo n).1 (fo n).2 x y z:=rfl
  have q:(eZ h w).take (eZ h w).length=eZ h w:=lD
  have r:=(Lq T a b l (eZ h w).length).1
  rw[q] at r
  have v:=ZD (R0:=(fo n).1) (R1:=(fo n).2) (f:=f) (nN m (fR (mA h (w:Int) w) h.length)) (ZB T a b) o (fun k d j=>by
   rw[nZ b] at d
   have:=(Lq T a b l j).1
   exact p k _ ⟨d.1,d.2.1⟩ (by grind [List.length_append,kX]))
  have C:=ZD (R0:=(fo n).1) (R1:=(fo n).2) (f:=f) (nN m (fR (mB h (w:Int) w) h.length)) (ZC T a b) (o++bN ((eZ h w).flatMap (bv h f))++ [(w:Int)]) (fun k d j=>by
   rw[oa] at d
   have:=(Lq T a b l j).2
   exact p k _ ⟨d.1,d.2.1⟩ (by grind [List.length_append,kX,List.length_cons,List.length_nil]))
  rw[e]
  unfold sf
  rw[aly T a b,s]
  simp only[ac,v]
  rw[od (by grind [List.length_append,kX,List.length_cons,List.length_nil])]
  grind [bv,uw,bN,hX]
end
theorem Ls (h:List Int):pB h=some (if aA h=true then dw h else[]):=by
 have e:pB h=si h:=by unfold pB;rfl
 rw[e]
 unfold si
 rw[fq]
 cases t:aA h with
 |false=>rfl
 |true=>
  have T:=(bM h).mp t
  have c:=T.le
  have r:fu h=(top h:Int):=by grind [fu]
  have e: ∀o,sh h (top h:Int) o=kC RR h (top h:Int) o:=fun o=>by unfold sh;rfl
  have b:mk 0 ((h.length:Nat):Int)=some 0:=by grind [mk]
  have a:=Lr T RR (top h) [] (2*RR) (gB h) T.gk (by grind [RR]) (aS _)
  have a:=Lr T h.length (top h) [] RR (gB h) T.gk (by omega) (by grind [RR]) (by simp;omega)
  simp only[ac,bo,aq,AW h,r,b,e,List.replicate_zero,a]
  rfl
theorem ZE {a:Type} {xs:List a} {k:Nat} (h:k<xs.length):idx xs (k:Int)=some xs[k]:=cb h
theorem alz (k:Nat) (a:k<=1000000): ∃zs:List Int,xM (k:Int)=some (0,zs):=by
 have e:xM (k:Int)=sw (k:Int):=by unfold xM;rfl
 rw[e]
 unfold sw
 rw[cy (show¬(k:Int)<0 by omega),wrap64 (x:=0-((0:Nat):Int)) (by omega) (by omega),wrap64 (by omega) (by omega)]
 by_cases z:k=0
 ·subst z
  exact⟨[],rfl⟩
 ·rw[an (show(k:Int)-(0-((0:Nat):Int))>0 by omega)]
  have m:oK ((k:Int)-(0-((0:Nat):Int)))=some k:=by
   grind [oK]
  simp_all [inc,replicate,aB,aq,au,d9,sure,ac]
def gE (xss:List (List Int)) (k:Nat):Nat:=((xss.take k).flatten).length
theorem ZF {xss:List (List Int)} {k:Nat} (h:k<xss.length):gE xss (k+1)=gE xss k+xss[k].length:=by
 grind [gE,List.take_succ_eq_append_getElem,List.flatten_append,List.length_append]
theorem Lt {xss:List (List Int)}: ∀k,gE xss k<=xss.flatten.length:=fun k=>by
 grind [gE,List.take_append_drop,List.flatten,List.take,List.drop,List.flatten_append,List.length_append]
theorem alA (xss:List (List Int)) (l:xss.length<=1000) (j:xss.flatten.length<=1000000): ∃n g,xO xss=some (n,g)/\(g.drop 0).take n=xss.flatten:=by
 have e:xO xss=xN xss:=by unfold xO;rfl
 have p:=bH (body:=fun(s:Int×Int)=>((sx xss s.1 ((xss.length:Nat):Int) s.2).map (Sum.elim (fun(t:Int×Int)=>Sum.inl (t.1,t.2)) (fun(t:Int)=>Sum.inr t)):Option ((Int×Int)⊕(Int))))
  (fun k=>(((gE xss k:Nat):Int),(k:Int))) xss.length ((gE xss xss.length:Nat):Int)
  (by
   intro k a
   have b:=Lt (xss:=xss) (k+1)
   grind [ZF,sx,decide_eq_true,List.length,ZE,wrap64,decide_eq_false])
  (by
   grind [sx,decide_eq_false,List.length]) LL (by grind [LL])
 have b:=Lt (xss:=xss) xss.length
 obtain⟨zs,i⟩:=alz (gE xss xss.length) (by omega)
 have o:=bH (body:=fun(s:Nat×Int×(List Int))=>((sy s.1 xss ((xss.length:Nat):Int) s.2.1 s.2.2).map (Sum.elim (fun(t:Nat×Int×(List Int))=>Sum.inl (t.1,t.2.1,t.2.2)) (fun(t:Nat×(List Int))=>Sum.inr t)):Option ((Nat×Int×(List Int))⊕((Nat×(List Int))))))
  (fun k=>(gE xss k,(k:Int),if k=0 then zs else(xss.take k).flatten)) xss.length (gE xss xss.length,if xss.length=0 then zs else(xss.take xss.length).flatten)
  (by
   intro k a
   have b:=Lt (xss:=xss) (k+1)
   have m:=ZF a
   have c:((if k=0 then zs else(xss.take k).flatten).drop 0).take (gE xss k)=(xss.take k).flatten:=by
    rw[fl]
    by_cases z:k=0
    ·subst z
     rfl
    ·rw[aG z]
     exact lD
   simp only[sy]
   rw[an (show(k:Int)<((xss.length:Nat):Int) by omega),ZE a,wrap64 (x:=(k:Int)+1) (by omega) (by omega),c]
   simp only[au,ac]
   rw[od (by omega)]
   have f:(xss.take k).flatten++xss[k]=(xss.take (k+1)).flatten:=by
    grind [List.take_succ_eq_append_getElem,List.flatten_append]
   simp only[ac,bn,Sum.elim_inl,f]
   rw[aG (by omega)]
   rfl)
  (by
   grind [sy,decide_eq_false,List.length]) LL (by grind [LL])
 refine⟨gE xss xss.length,if xss.length=0 then zs else(xss.take xss.length).flatten,?_,?_⟩
 ·rw[e]
  unfold xN Gk Rl Rf Gl Re Rd
  simp only[ac]
  have d:=p
  rw[show((gE xss 0:Nat):Int)=0 from rfl,show((0:Nat):Int)=0 from rfl] at d
  rw[d]
  simp only[bn,ac]
  unfold Rk Gm
  rw[i]
  simp only[ac]
  grind [Rj,Ri,Gn,Rh,Rg,Gp,gE]
 grind [List.length,List.eq_nil_of_length_eq_zero,List.take,List.take_length,gE]
theorem Lu: ∀(n:Nat) (A B:List Int),A.length+B.length<=n->(cx A B).2<=A.length*B.length
 |n,[],B,_=>by grind [cx]
 |n,a::A,[],_=>by grind [cx]
 |0,a::A,b::B,h=>by simp at h
 |n+1,a::A,b::B,h=>by
  simp only[ck] at h
  by_cases l:a<b
  ·rw[Bt l]
   have:=Lu n A (b::B) (by grind)
   exact fy this (ig _ (by simp))
  ·rw[Bu l]
   have:=Lu n (a::A) B (by grind)
   grind [List.length_cons,Nat.mul_add,List.length]
abbrev uB:(List Int)×(List Int)×Int×(List Int)->Option (((List Int)×(List Int)×Int×(List Int))⊕(((List Int)×(List Int)×Int×(List Int)))):=
 fun(s:(List Int)×(List Int)×Int×(List Int))=>((pF s.1 s.2.1 s.2.2.1 s.2.2.2).map (Sum.elim (fun(t:(List Int)×(List Int)×Int×(List Int))=>Sum.inl (t.1,t.2.1,t.2.2.1,t.2.2.2)) (fun(t:(List Int)×(List Int)×Int×(List Int))=>Sum.inr t)):Option (((List Int)×(List Int)×Int×(List Int))⊕(((List Int)×(List Int)×Int×(List Int)))))
theorem Lv: ∀(n:Nat) (c d R:List Int) (t N:Nat),c.length+d.length<=n->n<N->R.length+c.length+d.length<=1000->t+(cx c d).2<=10000000->
  ∃e f g,ai uB N (c,d,((t:Nat):Int),R)=some (e,f,((t+(cx c d).2:Nat):Int),g)/\g++e++f=R++(cx c d).1
 |n,[],d,R,t,N+1,_,_,_,_=>by
  refine⟨[],d,R,?_,?_⟩
  ·rw[cx,ai]
   rfl
  grind [cx]
 |n,a::c,[],R,t,N+1,_,_,_,_=>by
  refine⟨a::c,[],R,?_,?_⟩
  all_goals grind [cx,ai,pF,decide_eq_true,List.length_cons]
 |0,a::c,b::d,R,t,N+1,h,_,_,_=>by simp at h
 |n,c,d,R,t,0,_,h,_,_=>by omega
 |n+1,a::c,b::d,R,t,N+1,h,u,p,i=>by
  simp only[ck] at h p
  have i1:idx (a::c) 0=some a:=rfl
  have o:idx (b::d) 0=some b:=rfl
  have k:decide ((((a::c).length:Nat):Int)>0)=true:=an (by simp_all)
  have m:decide ((((b::d).length:Nat):Int)>0)=true:=an (by simp_all)
  have j: ∀(x:Int) (l:List Int),inc 1 (x::l).length=some 1:=fun x l=>by
   grind [inc,List.length_cons]
  have s: ∀(x:Int) (l:List Int),((x::l).take (x::l).length).drop 1=l:=fun x l=>by simp_all
  by_cases l:a<b
  ·rw[Bt l] at i⊢
   simp only at i⊢
   obtain⟨e,f,g,q,r⟩:=Lv n c (b::d) (R++ [a]) t N (by grind) (by omega) (by grind) i
   refine⟨e,f,g,?_,by rw[r];simp⟩
   rw[ai]
   have st:uB (a::c,b::d,((t:Nat):Int),R)=some (Sum.inl (c,b::d,((t:Nat):Int),R++ [a])):=by
    simp only[uB,pF]
    rw[k,m,i1,o]
    simp only[au,ac]
    rw[an l,od (by grind),j]
    simp_all
   grind
  ·rw[Bu l] at i⊢
   simp only at i⊢
   obtain⟨e,f,g,q,r⟩:=Lv n (a::c) d (R++ [b]) (t+(c.length+1)) N (by grind) (by omega) (by grind) (by omega)
   refine⟨e,f,g,?_,by rw[r];simp⟩
   rw[ai]
   have st:uB (a::c,b::d,((t:Nat):Int),R)=some (Sum.inl (a::c,d,((t+(c.length+1):Nat):Int),R++ [b])):=by
    simp only[uB,pF]
    rw[k,m,i1,o]
    simp only[au,ac]
    rw[cy l]
    simp only[aq]
    rw[od (by grind),j,wrap64 (x:=((t:Nat):Int)+(((a::c).length:Nat):Int)) (by omega) (by grind)]
    simp_all
   grind
theorem alB (a b:List Int) (h:a.length+b.length<=100): ∃n c,xQ a b=some (n,((cx a b).2:Int),c)/\(c.drop 0).take n=(cx a b).1:=by
 have e:xQ a b=xP a b:=by unfold xQ;rfl
 have j:mk 0 (wrap .i64 (((a.length:Nat):Int)+((b.length:Nat):Int)))=some 0:=by
  grind [wrap64,mk]
 have le:=Lu _ a b (aS _)
 have l:a.length*b.length<=100*100:=fz (by omega) (by omega)
 obtain⟨d,f,g,o,r⟩:=Lv _ a b [] 0 LL (aS _) (by grind [LL]) (by simp;omega) (by omega)
 rw[hC] at r
 have i:[g,d,f].flatten=(cx a b).1:=by simp_all
 have m:=(qv _ a b (aS _)).length_eq
 obtain⟨n,c,p,k⟩:=alA [g,d,f] (by simp) (by grind)
 refine⟨n,c,?_,by rw[k,i]⟩
 rw[e]
 unfold xP Gq
 rw[j]
 simp only[ac,List.replicate_zero]
 unfold Ro Rn Rm
 grind [ai,LL,cx,Gr]
theorem alC (n:Nat) (h:n<=1000000):quo .i64 ((n:Nat):Int) 2=some ((n/2:Nat):Int):=by
 grind [quo,Int.tdiv,wrap64]
theorem Lw: ∀(f:Nat) (l:List Int),l.length<=f->l.length<=50->l.Nodup-> ∃r,lS (f+1) l=some (r,(cc l:Int))/\r.Pairwise (· < ·)/\r.Perm l
 |f,l,B,q,t=>by
  have e:lS (f+1) l=sz (pG f) l:=rfl
  rw[e]
  unfold sz
  by_cases s:l.length<2
  ·rw[an (show((l.length:Nat):Int)<2 by omega)]
   refine⟨l,?_,?_,List.Perm.refl _⟩
   ·match l,s with
    |[],_=>rfl
    |[x],_=>rfl
    |_::_::_,s=>grind
   ·match l,s with
    |[],_=>simp_all
    |[x],_=>simp_all
    |_::_::_,s=>grind
  ·rw[cy (show¬((l.length:Nat):Int)<2 by omega),alC _ (by omega)]
   have c:inc ((l.length/2:Nat):Int) l.length=some (l.length/2):=by
    grind [inc,Int.toNat_natCast]
   obtain⟨f,rfl⟩: ∃p,f=p+1:=⟨f-1,by omega⟩
   have I:=u1 (l.length/2) l
   have d:(l.take (l.length/2)++l.drop (l.length/2)).Nodup:=by simp_all
   rw[List.nodup_append] at d
   have C:(l.take (l.length/2)).length=l.length/2:=by grind
   have D:(l.drop (l.length/2)).length=l.length-l.length/2:=oz
   obtain⟨a,j,y,g⟩:=Lw f (l.take (l.length/2)) (by omega) (by omega) d.1
   obtain⟨b,k,z,i⟩:=Lw f (l.drop (l.length/2)) (by omega) (by omega) d.2.1
   have j:pG (f+1) (l.take (l.length/2))=_:=j
   have k:pG (f+1) (l.drop (l.length/2))=_:=k
   have E:=g.length_eq
   have F:=i.length_eq
   obtain⟨n,N,w,H⟩:=alB a b (by omega)
   have o: ∀x∈a,x∉b:=fun x u v=>d.2.2 x (g.mem_iff.mp u) x (i.mem_iff.mp v) rfl
   obtain⟨A,m⟩:=Lo _ a b (aS _) y z o
   have G:=qv _ a b (aS _)
   have M:cc l=cc (l.take (l.length/2))+cc (l.drop (l.length/2))+(cx a b).2:=by
    rw[m,alr g,akV i]
    grind [Y6,List.take,List.length,List.drop]
   have L:=akU t
   have J:l.length*(l.length-1)<=50*50:=fz q (by omega)
   have K:l.length*(l.length-1)/2<=2500:=by omega
   refine⟨(cx a b).1,?_,A,?_⟩
   ·simp only[aq,ac,c,fl,j,lD,k,w]
    grind [wrap64,cc,List.take,List.length,List.drop]
   grind
theorem ZG (o:List Int):xS o=some (oe o):=by
 have e:xS o=sA o:=by unfold xS;rfl
 rw[e]
 unfold sA oe
 rw[Yu]
 cases t:fT o o.length with
 |false=>rfl
 |true=>
  have ok:=(A3 o _).mp t
  have a:=((A2 o _).mp ok.2.2.2).2
  obtain⟨r,b,_,_⟩:=Lw (RR-1) o (by grind [RR]) (by omega) a
  grind [xR,lS,RR,Bool.not_true]
theorem alD:oe []= -1:=by decide
theorem alE (h:List Int):xT h=some (if aA h=true then(cc (dw h):Int) else-1):=by
 have e:xT h=sB h:=by unfold xT;rfl
 rw[e]
 unfold sB
 rw[Ls]
 cases t:aA h with
 |false=>
  grind [Bool.false_eq_true,ZG,alD]
 |true=>
  grind [bM,kW,ZG,oe,Bn]
theorem alF (h:List Int):yW h=some (if aA h=true then putRow h (dw h) else[]):=by
 have e:yW h=tp h:=by unfold yW;rfl
 grind [tp,Ls,Yz,aA,bM,Bn,Bool.and_self]
theorem uC (x:List Int) (h:x.length<=1099511627776):nB x=some x:=by
 grind [nB,pi]
theorem alG (x:List (List Int)) (h:x.length<=1099511627776):HM x=some x:=by
 grind [HM,pi]
theorem mC (n:List Int) (p:List (List Int)) (c:n.length<=1048576) (d:p.length<=1048576) (f: ∀x∈p,x.length<=1048576):ju n p=some (n,p):=by
 have e:ju n p=xm n p:=by unfold ju;rfl
 rw[e]
 unfold xm Fp Qe Qd Fq Qc Qb Fr
 rw[uC n (by omega)]
 simp only[ac]
 have w: ∀k:Nat,k<p.length->wrap .i64 ((k:Int)+1)=((k+1:Nat):Int):=fun k a=>by grind [wrap64]
 have b:=bH (body:=fun(s:Int×(List (List Int)))=>((r7 p ((p.length:Nat):Int) s.1 s.2).map (Sum.elim (fun(t:Int×(List (List Int)))=>Sum.inl (t.1,t.2)) (fun(t:(List (List Int)))=>Sum.inr t)):Option ((Int×(List (List Int)))⊕(((List (List Int)))))))
  (fun k=>((k:Int),p.take k)) p.length p
  (fun k a=>by
   have lt:(p.take k).length=k:=by grind
   unfold r7
   simp only
   rw[an (show(k:Int)<((p.length:Nat):Int) by omega),cb a]
   grind [uC,List.getElem_mem,room_le,List.take,MonadStateOf.set,List.take_succ_eq_append_getElem])
  (by
   grind [r7,decide_eq_false,List.length,List.take_length]) LL (by grind [LL])
 simp_all
theorem Lx (n:List Int) (p:List (List Int)):nz n p=some (cS (n,p)):=by
 have e:nz n p=w7 n p:=by unfold nz;rfl
 rw[e]
 unfold w7 Fe cS
 rw[fq,ac]
 cases aA n with
 |false=>simp
 |true=>
  simp only[bo,aq,d6]
  by_cases c:p.length<=8
  ·rw[cy (show¬((p.length:Nat):Int)>8 by omega),an c,f3]
   simp only[aq,ac,Sum.elim_inl]
   unfold P2 P0 Ff PZ PY
   have w: ∀k:Nat,k<p.length->wrap .i64 ((k:Int)+1)=((k+1:Nat):Int):=fun k a=>by grind [wrap64]
   have d:=mg (body:=fun(s:Int)=>((px p ((p.length:Nat):Int) s).map (Sum.elim (fun(t:Int)=>Sum.inl t) (Sum.elim (fun(t:Bool)=>Sum.inr (Sum.inl t)) (fun(t:Unit)=>Sum.inr (Sum.inr t)))):Option ((Int)⊕(Bool⊕Unit))))
    (fun k=>(k:Int)) p.length (fun k=>aA (p.getD k [])) (fun b=>cond b (Sum.inr ()) (Sum.inl false))
    (fun k a t=>by
     rw[e4,bh a,ih] at t
     grind [px,decide_eq_true,List.length,cb,fq,Bool.not_true])
    (fun k a t=>by
     rw[e4,bh a,ih] at t
     grind [px,decide_eq_true,List.length,cb,fq,Bool.not_false])
    (by
     grind [px,decide_eq_false,List.length]) LL (by grind [LL])
   have f:ai _ LL (0:Int)=_:=d
   simp only[ac]
   rw[f]
   have g:(range p.length).all (fun k=>aA (p.getD k []))=p.all aA:=by
    rw[e0,bT,bT]
    constructor
    ·intro h x i
     obtain⟨k,a,rfl⟩:=lj i
     simp_all
    simp_all
   rw[g]
   cases p.all aA<;>rfl
  grind
theorem ZH:aA []=false:=by decide
def iX (k x y:Int):Bool:=(((k==0)||(k==1))||(x==0))&&((k==0)||(y==0))
theorem ZI (k x y:Int):xf k x y=some (iX k x y):=by
 grind [xf,xe,kA,r1,iX]
theorem alH {h:List Int} (t:aA h=true) (k x a:Int) (r:iX k x a=true):yX h k x a=some (dY h (k,x,a,())):=by
 obtain⟨l,m⟩:=dd t
 have e:yX h k x a=tq h k x a:=by unfold yX;rfl
 rw[e]
 unfold tq dY eJ
 unfold iX at r
 cases g:k==0 with
 |true=>
  have b:(k==1)=false:=by simp_all
  have c:(k==2)=false:=by simp_all
  have d:(k==3)=false:=by simp_all
  have f:(k==4)=false:=by simp_all
  simp only[au,Yd,ac,b,c,d,f,d6,j1,dk,t]
  grind [Decidable.decide,List.length,wrap,wrap64,Bool.not_true,uC,cg]
 |false=>
  rw[g] at r
  simp only[km] at r
  rw[aT] at r
  have j:=r.2
  cases b:k==1 with
  |true=>
   grind [uC,room_le,List.length_cons,List.length_nil]
  |false=>
   rw[b,km] at r
   have i:=r.1
   simp only[aq,i,j,j1,d6,f3,aG (show¬false=true by simp)]
   cases c:k==2 with
   |true=>
    have w:wrap .i64 ((((h.length:Nat):Int))-1)=((h.length-1:Nat):Int):=by grind [wrap64]
    grind [inc,List.length,uC,List.length_take,List.dropLast_eq_take]
   |false=>
    cases d:k==3 with
    |true=>
     grind [akx]
    |false=>
     cases f:k==4 with
     |true=>
      simp only[aq,au,alF,ac]
      rfl
     |false=>rfl
theorem alI {h:List Int} {k x y:Int} (r:iX k x y=false):dY h (k,x,y,())=[]:=by
 grind [dY,eJ,iX]
theorem alJ (x a:List Int) (l:x.length<=1048576):yZ x a=some (x==a):=by
 have e:yZ x a=yY x a:=by unfold yZ;rfl
 rw[e]
 unfold yY HK
 by_cases c:x.length=a.length
 ·have b:((((x.length:Nat):Int)) !=(((a.length:Nat):Int)))=false:=by rw[c];simp
  rw[b]
  simp only[aq,ac,Sum.elim_inl]
  unfold Ti Tg HL Tf Te
  have w: ∀k:Nat,k<x.length->wrap .i64 ((k:Int)+1)=((k+1:Nat):Int):=fun k d=>by grind [wrap64]
  have f:=mg (body:=fun(s:Int)=>((pV x a ((x.length:Nat):Int) s).map (Sum.elim (fun(t:Int)=>Sum.inl t) (Sum.elim (fun(t:Bool)=>Sum.inr (Sum.inl t)) (fun(t:Unit)=>Sum.inr (Sum.inr t)))):Option ((Int)⊕(Bool⊕Unit))))
   (fun k=>(k:Int)) x.length (fun k=>x.getD k 0==a.getD k 0) (fun b=>cond b (Sum.inr ()) (Sum.inl false))
   (fun k d t=>by
    rw[e4,bh d,ih,e4,bh (show k<a.length by omega),ih] at t
    grind [pV,decide_eq_true,List.length,cb,bne])
   (fun k d t=>by
    rw[e4,bh d,ih,e4,bh (show k<a.length by omega),ih] at t
    grind [pV,decide_eq_true,List.length,cb,bne])
   (by
    grind [pV,decide_eq_false,List.length]) LL (by grind [LL])
  have g:ai _ LL (0:Int)=_:=f
  simp only[ac]
  rw[g]
  have i:(range x.length).all (fun k=>x.getD k 0==a.getD k 0)=(x==a):=by
   rw[e0,bT,ce]
   constructor
   ·intro h
    refine j5 c fun k d j=> ?_
    simp_all
   simp_all
  rw[i]
  cases x==a<;>rfl
 ·have b:((((x.length:Nat):Int)) !=(((a.length:Nat):Int)))=true:=by
   grind
  rw[b,show(x==a)=false from d5.mpr (fun e=>c (by rw[e]))]
  rfl
theorem alK {n:List Int} {p:List (List Int)} (o:cS (n,p)=true) (k x a:Int) (r:iX k x a=true) (d:eJ (k,x,a,()) 5=false):y0 n p k x a=some (eg (n,p) (k,x,a,())):=by
 obtain⟨t,f,i⟩:=kZ o
 simp only at t f i
 obtain⟨u,v⟩:=dd t
 have e:y0 n p k x a=tr n p k x a:=by unfold y0;rfl
 have j: ∀z∈p,z.length<=1048576:=fun z b=>by grind [dd]
 rw[e]
 unfold tr eg
 rw[aB o,d,j1,aG (show¬false=true by simp),alH t k x a r,ac,fq,ac]
 cases g:aA (dY n (k,x,a,())) with
 |false=>
  grind [Bool.not_false,mC]
 |true=>
  obtain⟨q,s⟩:=dd g
  simp only[bo,aq,alJ _ n (show(dY n (k,x,a,())).length<=1048576 by omega),ac,Bool.or_false]
  cases dY n (k,x,a,())==n with
  |true=>grind [mC]
  |false=>
   simp only[aq,alG p (by omega),ac,aG (show¬false=true by simp)]
   rw[room_le (by grind),ac]
   have m:(p++ [n]).length=p.length+1:=by simp
   have w:wrap .i64 ((((p++ [n]).length:Nat):Int)-8)=(p.length:Int)-7:=by grind [wrap64]
   have l: ∀z∈p++ [n],z.length<=1048576:=fun z b=>by
    grind
   rw[w]
   unfold mz
   by_cases c:p.length<8
   ·grind [inc,imax,List.length,List.take_length,mC]
   grind [inc,imax,List.length,List.take_of_length_le,List.length_drop,mC,List.mem_of_mem_drop]
theorem alL {n:List Int} {p:List (List Int)} (o:cS (n,p)=true) (k x c:Int) (b:eJ (k,x,c,()) 5=true):yO n p=some (eg (n,p) (k,x,c,())):=by
 obtain⟨t,j,m⟩:=kZ o
 simp only at t j m
 obtain⟨r,s⟩:=dd t
 have e:yO n p=tl n p:=by unfold yO;rfl
 have d: ∀z∈p,z.length<=1048576:=fun z q=>by grind [dd]
 have g:dY n (k,x,c,())=[]:=by
  have b:k=5:=by
   grind [eJ]
  subst b
  rfl
 rw[e]
 unfold tl eg
 rw[aB o,b,d6,g]
 cases p with
 |nil=>
  have w:wrap .i64 (((([]:List (List Int)).length:Nat):Int)-1)= -1:=by decide
  grind [mC,ZH]
 |cons z a=>
  have w:wrap .i64 ((((z::a).length:Nat):Int)-1)=(((z::a).length-1:Nat):Int):=by grind [wrap64,List.length_cons]
  have i:inc (((z::a).length-1:Nat):Int) (z::a).length=some ((z::a).length-1):=by grind [inc]
  rw[w,cy (by omega),aq,cb (by simp),ac,i,ac,fl,mC _ _ (d _ (cT _)) (by grind) (fun l f=>d l (vK f)),ac]
  grind [List.dropLast_eq_take]
theorem alM (n:List Int) (p:List (List Int)) (a:gs):y1 n p a.1 a.2.1 a.2.2.1=some (eg (n,p) a):=by
 obtain⟨k,x,b,u⟩:=a
 simp only
 have e:y1 n p k x b=ts n p k x b:=by unfold y1;rfl
 rw[e]
 unfold ts
 rw[Lx,ac]
 cases o:cS (n,p) with
 |false=>rw[Zx _ o];rfl
 |true=>
  obtain⟨t,c,d⟩:=kZ o
  simp only at t c d
  obtain⟨j,l⟩:=dd t
  have f: ∀z∈p,z.length<=1048576:=fun z g=>by grind [dd]
  simp only[bo,aq,ZI,ac]
  cases r:iX k x b with
  |false=>
   have i:eJ (k,x,b,u) 5=false:=by
    grind [eJ,iX]
   have m:=alI (h:=n) r
   grind [Bool.not_false,mC,eg,dY,ZH]
  |true=>
   grind [Bool.not_true,eJ,iX,alL,alK]
def Ly (n:Nat):List UInt8:=if n<10 then[UInt8.ofNat (48+n)] else[UInt8.ofNat (48+n/10),UInt8.ofNat (48+n%10)]
theorem alN {n:Nat} (h:n<100):decDigits n=Ly n:=by
 unfold Ly
 rw[decDigits]
 by_cases c:n<10
 ·rw[dif_pos c,aB c]
 ·rw[dif_neg c,aG c,decDigits,dif_pos (show n/10<10 by omega)]
  rfl
def ZJ (n:Nat):Bool:=match cG (n:Int) with
 |some t=>t.data.toList==Ly n
 |none=>false
theorem alO:((range 100).all ZJ)=true:=by decide+kernel
theorem ZK {n:Nat} (h:n<100):Ds (n:Int)=some (bF n):=by
 have a:=bT.mp alO n (fm.mpr h)
 unfold ZJ at a
 rw[(hv h).1] at a
 simp only[ce] at a
 unfold Ds
 rw[aB (by omega),d8,alN h,<-a]
theorem alP {n:Nat} (h:n<100):pj (n:Int)=some (bF n):=by
 have e:=ZK h
 unfold Ds at e
 rw[aB (by omega)] at e
 unfold pj itoa
 rw[aB (by omega),aG (by omega)]
 exact e
theorem alQ {n:Nat} (h:n<100):strconv_Itoa (n:Int)=some (bF n):=by
 unfold strconv_Itoa
 first|exact ZK h|exact alP h
def ZL (n:Nat):Bool:=match cG (n:Int) with
 |some t=>(ed t).1==(n:Int)
 |none=>false
theorem alR:((range 100).all ZL)=true:=by decide+kernel
theorem ZM {n:Nat} (h:n<100):(ed (bF n)).1=(n:Int):=by
 have a:=bT.mp alR n (fm.mpr h)
 unfold ZL at a
 rw[(hv h).1] at a
 simpa using a
theorem alS (k a b:Int):Fm k a b=some (cK k a b):=by
 unfold Fm xg cK
 rw[ZI]
 unfold iX
 by_cases j:k=0
 ·subst j
  by_cases d:0<=a<;>by_cases e:a<=99<;>by_cases c:0<=b<;>by_cases m:b<=99<;>simp[d,e,c,m]
 ·have n:(k==0)=false:=d5.mpr j
  by_cases l:k=1
  ·subst l
   by_cases c:b=0
   ·subst c
    by_cases d:0<=a<;>by_cases e:a<=99<;>simp[d,e]
   ·rw[d5.mpr c]
    simp
  ·have o:(k==1)=false:=d5.mpr l
   rw[n,o]
   by_cases f:2<=k/\k<=5
   ·rw[an (show k>=0 by omega),an (show k<6 by omega),an f.1,an f.2]
    by_cases d:a=0
    ·by_cases c:b=0
     ·subst d
      subst c
      rfl
     ·rw[d5.mpr c]
      simp
    ·rw[d5.mpr d]
     simp
   ·have r:(false&&decide (0<=a)&&decide (a<=99)&&decide (0<=b)&&decide (b<=99)||false&&decide (0<=a)&&decide (a<=99)&&b==0||decide (2<=k)&&decide (k<=5)&&a==0&&b==0)=false:=by
     by_cases i:2<=k
     ·rw[cy (show¬k<=5 from fun h=>f ⟨i,h⟩)]
      simp
     ·rw[cy i]
      simp
    rw[r]
    by_cases g:k>=0
    ·rw[an g,cy (show¬k<6 by omega)]
     rfl
    ·rw[cy g]
     rfl
theorem qw {a c:Type} {body:a->Option (a⊕c)} {s b:a} (h:body s=some (.inl b)) (N:Nat):ai body (N+1) s=ai body N b:=by
 rw[ai,h]
 rfl
theorem qx {a b:Type} {body:a->Option (a⊕b)} {s:a} {o:b} (h:body s=some (.inr o)) (N:Nat):ai body (N+1) s=some o:=by
 rw[ai,h]
 rfl
theorem Bw: ∃N,LL=N+1+1+1:=⟨LL-3,by simp only[LL]⟩
abbrev ol (xs:List Int) (n:Int):ByteArray×Int->Option ((ByteArray×Int)⊕ByteArray):=
 fun(s:ByteArray×Int)=>((r3 s.1 xs n s.2).map (Sum.elim (fun(t:ByteArray×Int)=>Sum.inl (t.1,t.2)) (fun(t:ByteArray)=>Sum.inr t)):Option ((ByteArray×Int)⊕(ByteArray)))
theorem LA {t:ByteArray} {xs:List Int} {n:Int} {k m:Nat} (f:t.size<=1000) (b:k<xs.length) (e:k<1000) (c:(k:Int)<n) (a:m<100) (d:xs[k]=(m:Int)):
  ol xs n (t,(k:Int))=some (.inl (t++(gr++bF m),((k+1:Nat):Int))):=by
 obtain⟨_,g,i,_⟩:=hv a
 have w:wrap .i64 ((k:Int)+1)=((k+1:Nat):Int):=by rw[wrap64 (by omega) (by omega)];omega
 have j:(gr++bF m).size<=3:=by rw[e1];show 1+_<=3;omega
 simp only[ol,r3]
 rw[an c,cb b,d,w]
 simp only[au,ac,alQ a]
 rw[show cat (ByteArray.mk #[32]) (bF m)=some (gr++bF m) from jN (by show 1+_<=_;omega)]
 simp only[ac]
 rw[jN (by omega)]
 rfl
theorem LB {t:ByteArray} {xs:List Int} {n k:Int} (a: ¬k<n):ol xs n (t,k)=some (.inr t):=by
 simp only[ol,r3]
 rw[cy a]
 rfl
theorem LC (k a b:Int):nA k a b=some (cj k a b):=by
 have e:nA k a b=xl k a b:=by unfold nA;rfl
 rw[e]
 unfold xl Fo
 rw[alS,ac]
 cases d:cK k a b with
 |false=>rw[K1 d];rfl
 |true=>
  simp only[bo,aq]
  rcases kV d with⟨n,m,c,q,rfl,rfl,rfl⟩|⟨n,c,rfl,rfl,rfl⟩|⟨o,p,rfl,rfl⟩
  ·have i:idx cM 0=some (ByteArray.mk #[104,101,97,100]):=rfl
   rw[i,show same (List.length cM) 6=some () from rfl]
   simp only[ac,Sum.elim_inl]
   unfold xk xj r2 xi xh r4
   have l:kA 0=some 2:=by unfold kA;rfl
   rw[l,ac,show inc 2 (List.length [(n:Int),(m:Int)])=some 2 from rfl]
   simp only[ac]
   have f:ai (ol [(n:Int),(m:Int)] 2) LL (ByteArray.mk #[104,101,97,100],((0:Nat):Int))=some (ByteArray.mk #[104,101,97,100]++(gr++bF n)++(gr++bF m)):=by
    obtain⟨_,r,s,_⟩:=hv c
    obtain⟨N,j⟩:=Bw
    rw[j,qw (LA (m:=n) (by decide) (by simp) (by decide) (by decide) c rfl),qw (LA (m:=m) (by rw[e1,e1];show 4+(1+_)<=1000;omega) (by simp) (by decide) (by decide) q rfl),qx (LB (by decide))]
   have g:ai _ LL (ByteArray.mk #[104,101,97,100],(0:Int))=_:=f
   refine(aR (fun x:Option ByteArray=>(x.map fun t=>t).bind fun t=>some t) g).trans ?_
   rw[Bb c q]
   simp only[bn,ac]
   congr 1
   refine mn ?_
   simp only[jM]
   rw[show ap iT=ap (ByteArray.mk #[104,101,97,100])++ap gr from rfl]
   simp
  ·have i:idx cM 1=some (ByteArray.mk #[97,100,100]):=rfl
   rw[i,show same (List.length cM) 6=some () from rfl]
   simp only[ac,Sum.elim_inl]
   unfold xk xj r2 xi xh r4
   have l:kA 1=some 1:=by unfold kA;rfl
   rw[l,ac,show inc 1 (List.length [(n:Int),0])=some 1 from rfl]
   simp only[ac]
   have f:ai (ol [(n:Int)] 1) LL (ByteArray.mk #[97,100,100],((0:Nat):Int))=some (ByteArray.mk #[97,100,100]++(gr++bF n)):=by
    obtain⟨N,j⟩:=Bw
    rw[j,qw (LA (m:=n) (by decide) (by simp) (by decide) (by decide) c rfl),qx (LB (by decide))]
   have g:ai _ LL (ByteArray.mk #[97,100,100],(0:Int))=_:=f
   refine(aR (fun x:Option ByteArray=>(x.map fun t=>t).bind fun t=>some t) g).trans ?_
   rw[Bc c]
   simp only[bn,ac]
   congr 1
  ·rw[qs o p,show same (List.length cM) 6=some () from rfl]
   have l:kA k=some 0:=by
    unfold kA r1
    rw[d5.mpr (show k≠0 by omega),d5.mpr (show k≠1 by omega)]
    rfl
   have i:idx cM k=some (hW k):=by
    rcases mq o p with rfl|rfl|rfl|rfl<;>rfl
   rw[i]
   simp only[ac,Sum.elim_inl]
   unfold xk xj r2 xi xh r4
   rw[l,ac,show inc 0 (List.length [(0:Int),0])=some 0 from rfl]
   simp only[ac]
   have f:ai (ol ([]:List Int) 0) LL (hW k,((0:Nat):Int))=some (hW k):=by
    obtain⟨N,j⟩:=Bw
    rw[j,qx (LB (by decide))]
   have g:ai _ LL (hW k,(0:Int))=_:=f
   exact(aR (fun x:Option ByteArray=>(x.map fun t=>t).bind fun t=>some t) g).trans rfl
theorem ZN: ∀(l:List UInt8) (c:UInt8),(indexByte l c= -1/\c∉l)\/ ∃a f,l=a++c::f/\c∉a/\indexByte l c=(a.length:Int)
 |[],c=> .inl ⟨rfl,by simp⟩
 |b::l,c=>by
  rw[indexByte]
  by_cases e:b=c
  ·subst e
   rw[d9,aB rfl]
   exact .inr ⟨[],l,rfl,by simp,rfl⟩
  ·rw[d5.mpr e,aG (by simp)]
   rcases ZN l c with⟨g,d⟩|⟨a,f,rfl,d,i⟩
   ·rw[g]
    exact .inl ⟨rfl,fun m=>by
     rcases ej.1 m with m|m
     ·exact e m.symm
     ·exact d m⟩
   ·rw[i,d5.mpr (show((a.length:Nat):Int)≠ -1 by omega),aG (by simp)]
    exact .inr ⟨b::a,f,rfl,fun m=>by
     rcases ej.1 m with m|m
     ·exact e m.symm
     ·exact d m,by simp⟩
theorem Bx {e:Type} {x:e}: ∀{c d a b:List e},c++x::a=d++x::b->x∉c->x∉d->c=d/\a=b
 |[],[],a,b,h,_,_=>by simpa using h
 |[],y::d,a,b,h,_,n=>by simp at h;exact absurd (by rw[h.1];exact bk ..) n
 |y::c,[],a,b,h,n,_=>by simp at h;exact absurd (by rw[<-h.1];exact bk ..) n
 |y::c,z::d,a,b,h,f,g=>by
  simp only[e7,lE] at h
  obtain⟨rfl,h⟩:=h
  obtain⟨rfl,rfl⟩:=Bx h (fun m=>f (bB _ m)) (fun m=>g (bB _ m))
  exact⟨rfl,rfl⟩
theorem LD (s:ByteArray) (c:UInt8):(kx s (ByteArray.mk #[c])=some (-1)/\c.toNat∉ap s)\/ ∃a g,ap s=a++c.toNat::g/\c.toNat∉a/\kx s (ByteArray.mk #[c])=some (a.length:Int):=by
 have e:kx s (ByteArray.mk #[c])=some (indexByte s.data.toList c):=rfl
 have inj: ∀(l:List UInt8),c∉l->c.toNat∉l.map (fun b:UInt8=>b.toNat):=fun l h m=>by
  obtain⟨b,j,e⟩:=iC.1 m
  exact h (UInt8.toNat_inj.mp e▸j)
 rw[e]
 rcases ZN s.data.toList c with⟨d,f⟩|⟨a,g,d,f,i⟩
 ·exact .inl ⟨by rw[d],inj _ f⟩
 ·refine .inr ⟨a.map (fun b:UInt8=>b.toNat),g.map (fun b:UInt8=>b.toNat),?_,inj _ f,by rw[i];simp⟩
  unfold ap
  rw[d]
  simp
theorem alT {s:ByteArray} {c:UInt8} (h:c.toNat∉ap s):kx s (ByteArray.mk #[c])=some (-1):=by
 rcases LD s c with⟨a,_⟩|⟨b,d,a,_,_⟩
 ·exact a
 ·exact absurd (by rw[a];simp) h
theorem alU {s:ByteArray} {c:UInt8} {b f:List Nat} (h:ap s=b++c.toNat::f) (n:c.toNat∉b):kx s (ByteArray.mk #[c])=some (b.length:Int):=by
 rcases LD s c with⟨_,a⟩|⟨g,i,d,a,e⟩
 ·exact absurd (by rw[h];simp) a
 ·obtain⟨rfl,_⟩:=Bx (h.symm.trans d) n a
  exact e
theorem alV {s:ByteArray} {x:Nat} {a b:List Nat} (h:ap s=a++x::b):s.extract 0 a.length=cR a:=by
 rw[<-Bi (s.extract 0 a.length),nY,h,fl,List.take_left']
 rfl
theorem alW {s:ByteArray} {x:Nat} {a b:List Nat} (h:ap s=a++x::b):s.extract (a.length+1) s.size=cR b:=by
 have c:s.size=a.length+(b.length+1):=by rw[<-ee,h];simp
 rw[<-Bi (s.extract (a.length+1) s.size),nY,h,vN (by simp;omega)]
 congr 1
 rw[List.drop_append]
 simp
theorem alX {l:List Nat} (h: ∀x∈l,x<256):ap (cR l)=l:=by
 unfold ap cR
 simp only[f8]
 refine(m5 (g:=id) fun b a=> ?_).trans (List.map_id _)
 exact UInt8.toNat_ofNat_of_lt' (h b a)
theorem LF {s:ByteArray} {x:Nat} {d e:List Nat} (h:ap s=d++x::e):(∀b∈d,b<256)/\(∀b∈e,b<256)/\d.length+(e.length+1)=s.size:=by
 refine⟨fun b c=>KZ (a:=s) b (by rw[h];simp[c]),fun b c=>KZ (a:=s) b (by rw[h];simp[c]),?_⟩
 rw[<-ee,h]
 simp
theorem ZO: ∀(d f:Nat) (n:Int),n<((10^(d+1):Nat):Int)->d+1<=f->d<=15-> ∃t,kz f n=some t/\1<=t.size/\t.size<=d+1
 |d,0,n,_,h,_=>by omega
 |d,f+1,n,m,l,hd=>by
  rw[kz]
  simp only[EV,rV]
  by_cases c:n<10
  ·rw[an c]
   exact⟨_,rfl,aS 1,by show 1<=d+1;omega⟩
  ·rw[cy c]
   cases d with
   |zero=>omega
   |succ d=>
    have o:(10:Nat)^(d+1+1)=10^(d+1)*10:=j9 ..
    have k:(10:Nat)^(d+1)<=10^15:=e5 (by omega) (by omega)
    have j:(10:Nat)^15=1000000000000000:=by decide
    have u:n.tdiv 10=n/10:=Int.tdiv_eq_ediv_of_nonneg (by omega)
    have i:quo .i64 n 10=some (n/10):=by
     grind [quo,wrap64]
    obtain⟨r,e,_⟩:=us (a:=n) (b:=10) (by omega) (by omega)
    obtain⟨t,g,q,s⟩:=ZO d f (n/10) (by omega) (by omega) (by omega)
    simp only[aq,i,e,g,ac]
    have p:(bytesOf [wrap .u8 (wrap .i64 (48+r))]).size=1:=rfl
    grind [jN,ByteArray.size_append]
noncomputable def bV (n:Int):ByteArray:=(cG n).getD empty
theorem gV {n:Int} (h:n<1000000000):cG n=some (bV n)/\1<=(bV n).size/\(bV n).size<=9:=by
 have e:cG n=kz RR n:=by unfold cG;rfl
 obtain⟨t,a,b,c⟩:=ZO 8 RR n (by simpa using h) (by grind [RR]) (by omega)
 grind [bV]
def qy:ByteArray:=ByteArray.mk #[110,111,110,101]
def LG:ByteArray:=ByteArray.mk #[44]
noncomputable def dK:List Int->ByteArray
 |[]=>empty
 |[n]=>bV n
 |n::m::l=>bV n++LG++dK (m::l)
noncomputable def gF (l:List Int):ByteArray:=if l=[] then qy else dK l
theorem LH: ∀(l:List Int) (n:Int),dK (l++ [n])=(if l=[] then bV n else dK l++LG++bV n)
 |[],n=>rfl
 |[m],n=>rfl
 |m::k::l,n=>by
  rw[e7,e7,dK,<-e7,LH (k::l) n,aG (by simp),aG (by simp),dK]
  simp only[ByteArray.append_assoc]
theorem LI: ∀(l:List Int),(∀n,n∈l->n<1000000000)->(dK l).size<=10*l.length
 |[],_=>vP _
 |[n],h=>by have:=(gV (h n (by simp))).2.2;grind [dK,List.length_cons,List.length_nil]
 |n::m::l,h=>by
  have:=(gV (h n (by simp))).2.2
  have:=LI (m::l) (fun k a=>h k (bB _ a))
  rw[dK,e1,e1]
  simp only[ck] at*
  have:LG.size=1:=rfl
  omega
abbrev LJ (l:List Int):ByteArray×Int->Option ((ByteArray×Int)⊕ByteArray):=
 fun(s:ByteArray×Int)=>((tx l s.1 s.2).map (Sum.elim (fun(t:ByteArray×Int)=>Sum.inl (t.1,t.2)) (fun(t:ByteArray)=>Sum.inr t)):Option ((ByteArray×Int)⊕(ByteArray)))
theorem ZP (l:List Int) (j:l.length<=1000000) (h: ∀n,n∈l->n<1000000000):lW l=some (gF l):=by
 have e:lW l=y9 l:=by unfold lW;rfl
 rw[e]
 unfold y9 H1 Tw Tv H2 Tu Tt H3
 have g:=bH (body:=LJ l) (fun k=>(dK (l.take k),(k:Int))) l.length (dK l)
  (by
   intro k a
   have w:wrap .i64 ((k:Int)+1)=((k+1:Nat):Int):=by grind [wrap64]
   obtain⟨b,m,o⟩:=gV (h l[k] (cT a))
   have d:=LI (l.take k) (fun n f=>h n (vK f))
   have lt:(l.take k).length=k:=by grind
   rw[lt] at d
   simp only[LJ,tx]
   rw[an (show(k:Int)<((l.length:Nat):Int) by omega),cb a,w]
   have one:(ByteArray.mk #[44]).size=1:=rfl
   by_cases c:(k:Int)>0
   ·rw[an c]
    simp only[au]
    rw[jN (by omega)]
    simp only[ac,b]
    rw[jN (by grind)]
    simp only[ac,bn,Sum.elim_inl]
    rw[h0 a,LH,aG (fun z=>by simp_all)]
    rfl
   ·rw[cy c]
    simp only[au,aq,ac,b]
    rw[jN (by omega)]
    grind [List.take_succ_eq_append_getElem,LH,dK,ByteArray.empty_append])
  (by
   grind [tx,decide_eq_false,List.length,List.take_length]) LL (by grind [LL])
 have i:ai (LJ l) LL (empty,0)=some (dK l):=g
 rw[ac,ac,i,bn,ac]
 unfold gF
 cases l with
 |nil=>rfl
 |cons n l=>
  grind
def la (h:List Int):List Int:=(range h.length).map fun k=>(dep h (k+1):Int)
def hw (h:List Int):List Int:=if aA h then la h else[]
theorem mD (h:List Int):(la h).length=h.length:=by simp[la]
theorem LK (h:List Int) {k:Nat} (a:k<h.length):(la h)[k]'(by rw[mD];exact a)=(dep h (k+1):Int):=by simp[la]
theorem ZQ (h:List Int) {k:Nat} (a:k<h.length):(la h).drop k=(dep h (k+1):Int)::(la h).drop (k+1):=by
 grind [List.drop_eq_getElem_cons,mD,LK]
theorem alY (h:List Int):FB h=some (hw h):=by
 unfold FB FA Fx Qm Ql Fy Qk Qj Fz hw
 rw[fq]
 cases b:aA h with
 |false=>simp
 |true=>
  have T:=(bM h).1 b
  have g:=T.le
  simp only[ac,bo,aq,Sum.elim_inl,cU,hn (show h.length<=1099511627776 by omega)]
  have c:=dJ (body:=fun(s:Int×(List Int))=>((r9 h h.length s.1 s.2).map (Sum.elim (fun(t:Int×(List Int))=>Sum.inl (t.1,t.2)) (fun(t:(List Int))=>Sum.inr t)):Option ((Int×(List Int))⊕(((List Int))))))
   (I:=fun s=> ∃k:Nat,s.1=k/\k<=h.length/\s.2.length=h.length) (μ:=fun s=>h.length-s.1.toNat) (f:=fun s=>s.2.take s.1.toNat++(la h).drop s.1.toNat)
   (by
    rintro⟨_,out⟩ ⟨k,rfl,e,d⟩
    simp only at d
    by_cases a:k<h.length
    ·left
     refine⟨((k+1:Nat),out.set k (dep h (k+1))),?_,⟨k+1,rfl,a,by grind⟩,by simp;omega,?_⟩
     ·simp only[r9]
      rw[show decide ((k:Int)<((h.length:Nat):Int))=true from an (by omega),wrap64 (by omega) (by omega),show(k:Int)+1=((k+1:Nat):Int) by omega,X3 h (by omega) T.aQ k a,T.uf (by omega) (by omega)]
      grind [cg]
     grind [Int.toNat_natCast,X9,ZQ]
    grind [List.length,r9,Decidable.decide,decide_eq_false,List.take_of_length_le,Nat.le_of_eq,List.drop_of_length_le,mD])
  rw[c LL (0,replicate h.length 0) ⟨0,by simp,by omega,by simp⟩ (by grind [LL])]
  simp
theorem ZR (h:List Int):(hw h).length<=h.length:=by
 grind [hw,mD]
theorem alZ (h:List Int) (o:h.length<=1048576):Ie h=some (hw h):=by
 unfold Ie Ic H4 TH TG H5 TF TE Ib hw
 simp only[ac]
 cases c:aA h with
 |false=>
  have b:=dJ (body:=fun(s:Int×(List Int))=>((tz h s.1 s.2).map (Sum.elim (fun(t:Int×(List Int))=>Sum.inl (t.1,t.2)) (fun(t:(List Int))=>Sum.inr t)):Option ((Int×(List Int))⊕(((List Int))))))
   (I:=fun s=>s=(0,[])) (μ:=fun s=>0) (f:=fun s=> [])
   (by
    grind [tz,za,cH,List.length,decide_eq_true,decide_eq_false])
  grind [LL]
 |true=>
  have T:=(bM h).1 c
  have p:=T.le
  have j: ∀k,k<h.length->H8 h ((k+1:Nat):Int)=some (dep h (k+1):Int):=fun k a=>by
   unfold H8
   have b:=dJ (body:=fun(s:Int×Int)=>((zb h s.1 s.2).map (Sum.elim (fun(t:Int×Int)=>Sum.inl (t.1,t.2)) (fun(t:Int)=>Sum.inr t)):Option ((Int×Int)⊕(Int))))
    (I:=fun s=> ∃i k:Nat,s=((i:Int),((k+1:Nat):Int))/\k<h.length/\i+dep h (k+1)<h.length) (μ:=fun s=>dep h s.2.toNat) (f:=fun s=>s.1+(dep h s.2.toNat:Int))
    (by
     rintro _ ⟨i,k,rfl,a,hi⟩
     have g:=T.get (w:=k+1) (by omega) (by omega)
     rw[show k+1-1=k by omega,bh a] at g
     have n:h[k]=((hd h (k+1):Nat):Int):=by grind
     simp only[zb]
     rw[wrap64 (x:=((k+1:Nat):Int)-1) (by omega) (by omega),show((k+1:Nat):Int)-1=(k:Int) by omega,cb a,wrap64 (by omega) (by omega)]
     simp only[ac]
     by_cases e:hd h (k+1)=0
     ·grind [Tree.eG,dep,Tree.KJ,Decidable.decide,decide_eq_false]
     ·left
      have r:=T.ft (w:=k+1) (by omega) (by omega) e
      have q:=T.cW (w:=k+1) (by omega) (by omega)
      rw[show decide (h[k]>0)=true from an (by omega)]
      refine⟨(((i+1:Nat):Int),h[k]),by simp,⟨i+1,hd h (k+1)-1,?_,by omega,?_⟩,?_,?_⟩
      all_goals grind)
   have m:=T.ho (w:=k+1) (by omega) (by omega)
   grind [LL,Int.toNat_natCast]
  have b:=dJ (body:=fun(s:Int×(List Int))=>((tz h s.1 s.2).map (Sum.elim (fun(t:Int×(List Int))=>Sum.inl (t.1,t.2)) (fun(t:(List Int))=>Sum.inr t)):Option ((Int×(List Int))⊕(((List Int))))))
   (I:=fun s=> ∃k:Nat,s.1=(k:Int)/\k<=h.length/\s.2.length<=k) (μ:=fun s=>h.length-s.1.toNat) (f:=fun s=>s.2++(la h).drop s.1.toNat)
   (by
    rintro⟨_,out⟩ ⟨k,rfl,a,l⟩
    simp only at l
    simp only[tz,za]
    rw[cH,c]
    by_cases d:k<h.length
    ·left
     refine⟨((k+1:Nat),out++ [(dep h (k+1):Int)]),?_,⟨k+1,rfl,d,by simp;omega⟩,by simp;omega,?_⟩
     ·rw[show decide ((k:Int)<((h.length:Nat):Int))=true from an (by omega)]
      simp only[au,ac,Sum.elim_inl]
      unfold TD TC TB H6 Ia TA Tz H7 Tx H9
      rw[wrap64 (by omega) (by omega),show(k:Int)+1=((k+1:Nat):Int) by omega]
      simp only[ac,j k d,bn,room_le (show out.length+ [(dep h (k+1):Int)].length<=1099511627776 by simp;omega)]
      simp
     grind [Int.toNat_natCast,ZQ]
    grind [List.length,Decidable.decide,decide_eq_false,List.drop_of_length_le,Nat.le_of_eq,mD])
  rw[b LL (0,[]) ⟨0,by simp,by omega,by simp⟩ (by grind [LL])]
  simp
def fb (m:Nat):Nat:=(range 8).countP fun i=>m.testBit i&& !m.testBit (i+1)
theorem al0:((range 256).all fun m=>Iw (m:Int)==some ((fb m:Nat):Int))=true:=by decide+kernel
theorem al1 {m:Nat} (h:m<256):Iw (m:Int)=some ((fb m:Nat):Int):=by simpa using gQ al0 h
theorem al2 (m:Nat):fb m<=(cn m).length:=by
 unfold fb cn
 rw[eN,f9,f9.symm,f9.symm]
 simp_all [List.countP_mono_left,aT]
theorem LM (m:Nat):fb m<=8:=fy (al2 m) (kO m)
theorem al3:((range 256).all fun m=>(m==0||decide (1<=fb m))&&(hq m==decide (fb m<=1)))=true:=by decide+kernel
theorem ZS {m:Nat} (h:m<256) (a:m≠0):1<=fb m:=by
 grind [gQ,al3,absurd]
def jQ (x y:Nat):Bool:=(range 8).any fun d=>(range d).any fun c=>(range c).any fun b=>(range b).any fun a=>
 (x.testBit a&&y.testBit b&&x.testBit c&&y.testBit d)||(y.testBit a&&x.testBit b&&y.testBit c&&x.testBit d)
theorem al4 (x y:Nat):jQ y x=jQ x y:=by
 simp_all [jQ,Bool.or_comm]
theorem ZT (x e:Nat):jQ x e=true↔ ∃a b c d,a<b/\b<c/\c<d/\d<8/\
  ((x.testBit a=true/\e.testBit b=true/\x.testBit c=true/\e.testBit d=true)\/(e.testBit a=true/\x.testBit b=true/\e.testBit c=true/\x.testBit d=true)):=by
 simp only[jQ,f6,fm,eA,aT]
 constructor
 ·rintro⟨d,f,c,g,b,i,a,j,h⟩
  refine⟨a,b,c,d,j,i,g,f,?_⟩
  grind
 ·rintro⟨a,b,c,d,j,i,g,f,h⟩
  refine⟨d,f,c,g,b,i,a,j,?_⟩
  grind
def hZ (o:Nat->Nat):Nat->Nat->Nat->Prop
 |0,_,l=>l=0
 |k+1,i,l=> ∃a,a<i/\o a=l/\l≠0/\ ∃b,b≠l/\hZ o k a b
theorem hZ.mono {o:Nat->Nat}: ∀{k i j l:Nat},i<=j->hZ o k i l->hZ o k j l
 |0,_,_,_,_,h=>h
 |k+1,i,j,l,d,⟨a,c,b⟩=>⟨a,by omega,b⟩
theorem hZ.less {o:Nat->Nat} {i:Nat}: ∀{n k l:Nat},k<=n->hZ o n i l-> ∃b,hZ o k i b
 |0,k,l,h,c=>⟨l,by simp_all⟩
 |n+1,k,l,h,c=>by
  by_cases e:k=n+1
  ·grind
  ·obtain⟨a,f,g,j,b,m,d⟩:=c
   exact hZ.less (n:=n) (by omega) (hZ.mono (Nat.le_of_lt f) d)
def runN (o:Nat->Nat):Nat->Nat×Nat
 |0=>(0,0)
 |i+1=>if o i=0 then runN o i else if o i=(runN o i).1 then runN o i else(o i,(runN o i).2+1)
theorem LN (o:Nat->Nat): ∀i,hZ o (runN o i).2 i (runN o i).1/\(∀k b,hZ o k i b->k<=(runN o i).2/\(k=(runN o i).2->b=(runN o i).1))/\(runN o i).2<=i
 |0=>by
  refine⟨rfl,?_,aS _⟩
  intro k b c
  cases k with
  |zero=>exact⟨aS _,fun _=>c⟩
  |succ k=>
   obtain⟨a,h,_⟩:=c
   omega
 |i+1=>by
  obtain⟨m,g,u⟩:=LN o i
  unfold runN
  by_cases j:o i=0
  ·rw[aB j]
   refine⟨m.mono (by omega),?_,by omega⟩
   intro k b c
   cases k with
   |zero=>exact g 0 b c
   |succ k=>
    obtain⟨a,s,d,f,r⟩:=c
    have:a≠i:=by
     grind
    exact g (k+1) b ⟨a,by omega,d,f,r⟩
  ·rw[aG j]
   by_cases l:o i=(runN o i).1
   ·rw[aB l]
    refine⟨m.mono (by omega),?_,by omega⟩
    intro k b c
    cases k with
    |zero=>exact g 0 b c
    |succ k=>
     obtain⟨a,s,d,f,n,p,q⟩:=c
     by_cases e:a=i
     ·grind
     ·exact g (k+1) b ⟨a,by omega,d,f,n,p,q⟩
   ·rw[aG l]
    refine⟨⟨i,by omega,rfl,j,(runN o i).1,fun t=>l t.symm,m⟩,?_,by omega⟩
    intro k b c
    simp only
    cases k with
    |zero=>omega
    |succ k=>
     obtain⟨a,s,d,f,n,p,q⟩:=c
     by_cases e:a=i
     ·grind
     ·have:=(g (k+1) b ⟨a,by omega,d,f,n,p,q⟩).1
      omega
theorem al5 (o:Nat->Nat) (i:Nat):4<=(runN o i).2↔ ∃l,hZ o 4 i l:=by
 obtain⟨a,b,_⟩:=LN o i
 constructor
 ·intro h
  exact a.less h
 grind
def fV (x y i:Nat):Nat:=(if x.testBit i then 1 else 0)+2*(if y.testBit i then 1 else 0)
theorem LP {x a:Nat} (b:x&&&a=0) (i:Nat) (c:x.testBit i=true):a.testBit i=false:=by
 have:(x&&&a).testBit i=false:=by rw[b];simp
 grind
theorem al6 {x e:Nat} (s:x&&&e=0):jQ x e=decide (4<=(runN (fV x e) 8).2):=by
 rw[e0,cY,al5,ZT]
 have m (i:Nat):fV x e i=1↔x.testBit i=true:=by
  grind [fV,testBit,LP]
 have n (i:Nat):fV x e i=2↔e.testBit i=true:=by
  grind [fV,testBit,LP]
 have A (i:Nat):fV x e i=0\/fV x e i=1\/fV x e i=2:=by
  grind [fV,testBit,LP]
 constructor
 ·rintro⟨a,b,c,d,f,g,j,k,h⟩
  rcases h with⟨o,p,q,r⟩|⟨o,p,q,r⟩
  ·exact⟨2,d,k,(n d).2 r,by omega,1,by omega,c,j,(m c).2 q,by omega,2,by omega,b,g,(n b).2 p,by omega,1,by omega,a,f,(m a).2 o,by omega,0,by omega,rfl⟩
  ·exact⟨1,d,k,(m d).2 r,by omega,2,by omega,c,j,(n c).2 q,by omega,1,by omega,b,g,(m b).2 p,by omega,2,by omega,a,f,(n a).2 o,by omega,0,by omega,rfl⟩
 ·rintro⟨l,d,k,E,I,v,z,c,j,D,H,u,y,b,g,C,G,t,w,a,f,B,F,_⟩
  refine⟨a,b,c,d,f,g,j,k,?_⟩
  grind
theorem al7 {x a:Nat} (k:x<256) (l:a<256) (m:x&&&a=0):zQ (x:Int) (a:Int)=some (jQ x a):=by
 have e:zQ (x:Int) (a:Int)=zP (x:Int) (a:Int):=by unfold zQ;rfl
 rw[e]
 unfold zP Jh Vj Vi Ji Vh Vg
 have n:=bH (body:=fun(s:Int×Int×Int)=>((zO (x:Int) (a:Int) s.1 s.2.1 s.2.2).map (Sum.elim (fun(t:Int×Int×Int)=>Sum.inl (t.1,t.2.1,t.2.2)) (fun(t:Int)=>Sum.inr t)):Option ((Int×Int×Int)⊕(Int))))
  (fun i=>(((runN (fV x a) i).1:Int),((runN (fV x a) i).2:Int),(i:Int))) 8 ((runN (fV x a) 8).2:Int)
  (by
   intro i hi
   simp only[zO]
   rw[an (show(i:Int)<8 by omega)]
   have d:=Yn k hi
   have f:=Yn l hi
   have p:=(LN (fV x a) i).2.2
   obtain⟨v1,b,c⟩:=g0.mp d
   obtain⟨v2,g,j⟩:=g0.mp f
   simp only[au,b,c,g,j,ac]
   have o:wrap .i64 ((if x.testBit i then(1:Int) else 0)+wrap .i64 (2*(if a.testBit i then(1:Int) else 0)))=(fV x a i:Int):=by
    unfold fV
    cases x.testBit i<;>cases a.testBit i<;>rfl
   grind [wrap64,runN,fV,decide_eq_false,decide_eq_true,bne_self_eq_false])
  (by rfl) LL (by grind [LL])
 grind [runN,fV,Jj,al6]
noncomputable def By (h:List Int) (v:Int):Int:=if dk h v then((fb (bq h v.toNat):Nat):Int)-1 else-1
theorem al8 (h:List Int) (a:Int):zi h a=some (By h a):=by
 have e:zi h a=tD h a:=by unfold zi;rfl
 rw[e]
 unfold tD By
 rw[cH,gA]
 simp only[ac]
 cases b:aA h with
 |false=>simp[dk,b]
 |true=>
  simp only[bo,aq]
  cases g:(decide (1<=a)&&decide (a<=((h.length:Nat):Int))) with
  |false=>simp[dk,b,g]
  |true=>
   have c:dk h a=true:=by grind [dk]
   obtain⟨w,rfl,T,d,f⟩:=nR.1 c
   have i:=LM (bq h w)
   rw[c]
   simp only[bo,aq,nU T d f,ac,al1 (fS T.le w),cU,d8]
   grind [wrap64]
theorem ZU {h:List Int} (T:Tree h) {k:Nat} (a:1<=k) (b:k<=h.length):bq h k≠0:=by
 intro e
 have c:(bq h k).testBit (k-1)=true:=by
  rw[AZ T,jJ,show k-1+1=k by omega]
  exact .refl a b
 simp_all
noncomputable def iY (h:List Int) (a b:Int):Bool:=dk h a&&dk h b&&(decide (bq h a.toNat&&&bq h b.toNat=0)&&jQ (bq h a.toNat) (bq h b.toNat))
theorem ZV (h:List Int) (a b:Int):zR h a b=some (iY h a b):=by
 have e:zR h a b=tN h a b:=by unfold zR;rfl
 rw[e]
 unfold tN iY
 rw[cH,gA,gA]
 simp only[ac]
 cases c:aA h with
 |false=>simp[dk,c]
 |true=>
  simp only[bo,aq]
  cases g:(decide (1<=a)&&decide (a<=((h.length:Nat):Int))) with
  |false=>simp[dk,c,g]
  |true=>
   have d:dk h a=true:=by grind [dk]
   cases i:(decide (1<=b)&&decide (b<=((h.length:Nat):Int))) with
   |false=>simp[dk,c,i]
   |true=>
    have f:dk h b=true:=by grind [dk]
    obtain⟨u,rfl,T,j,k⟩:=nR.1 d
    obtain⟨l,rfl,_,v1,v2⟩:=nR.1 f
    have m:=fS T.le u
    have n:=fS T.le l
    rw[d,f]
    simp only[bo,aq,nU T j k,nU T v1 v2,ac,d6,d8]
    grind [ajX,bq,decide_eq_true,al7,beq_eq_false_iff_ne,decide_eq_false]
noncomputable def dn (h:List Int) (k:Nat):Nat:=(range k).foldl (fun m i=>max m (fb (bq h (i+1)))) 0
noncomputable def jR (h:List Int):Int:=if aA h then(dn h h.length:Int)-1 else-1
theorem LQ (h:List Int) (k:Nat):dn h (k+1)=max (dn h k) (fb (bq h (k+1))):=by
 simp[dn,f2]
theorem ZW (h:List Int): ∀k,dn h k<=8
 |0=>by simp[dn]
 |k+1=>by
  have:=ZW h k
  grind [LM,bq,LQ]
theorem ZX (h:List Int) (b:Nat): ∀k,dn h k<=b↔ ∀i,i<k->fb (bq h (i+1))<=b
 |0=>by simp[dn]
 |k+1=>by
  rw[LQ,Nat.max_le,ZX h b k]
  grind
theorem al9 (h:List Int):zk h=some (jR h):=by
 have e:zk h=zj h:=by unfold zk;rfl
 rw[e]
 unfold zj Ix Ua T8 Iy T7 T6 jR
 simp only[ac]
 cases b:aA h with
 |false=>
  have a:=bH (body:=fun(s:Int×Int)=>((nH h s.1 s.2).map (Sum.elim (fun(t:Int×Int)=>Sum.inl (t.1,t.2)) (fun(t:Int)=>Sum.inr t)):Option ((Int×Int)⊕(Int))))
   (fun _=>((-1:Int),(1:Int))) 0 (-1) (fun k d=>by omega)
   (by
    grind [nH,cH,Decidable.decide,List.length]) LL (by grind [LL])
  rw[a]
  rfl
 |true=>
  have T:=(bM h).mp b
  have f:=T.le
  have a:=bH (body:=fun(s:Int×Int)=>((nH h s.1 s.2).map (Sum.elim (fun(t:Int×Int)=>Sum.inl (t.1,t.2)) (fun(t:Int)=>Sum.inr t)):Option ((Int×Int)⊕(Int))))
   (fun k=>((dn h k:Int)-1,((k+1:Nat):Int))) h.length ((dn h h.length:Int)-1)
   (by
    intro k d
    have g:By h ((k+1:Nat):Int)=(fb (bq h (k+1)):Int)-1:=by
     grind [By,nR,Int.toNat_natCast]
    have m:imax ((dn h k:Int)-1) ((fb (bq h (k+1)):Int)-1)=(dn h (k+1):Int)-1:=by
     grind [LQ,imax]
    simp only[nH,cH,b,al8,g,ac,m]
    grind [decide_eq_true,List.length,wrap64])
   (by
    grind [nH,decide_eq_false,List.length]) LL (by grind [LL])
  have c:=a
  rw[show((dn h 0:Int)-1)= -1 from rfl,show((0+1:Nat):Int)=1 from rfl] at c
  rw[c]
  rfl
theorem ama {h:List Int} (T:Tree h):1<=dn h h.length:=by
 have a:=T.pos
 have:=(ZX h 0 h.length).mp
 grind [dn,List.length,ZS,fS,Tree.le,ZU]
noncomputable def uD (h:List Int) (i:Nat):Bool:=(range i).all fun j=> !iY h ((i+1:Nat):Int) ((j+1:Nat):Int)
noncomputable def om (h:List Int):Bool:=(range h.length).all (uD h)&&aA h
theorem amb (h:List Int) (c:h.length<=1048576):zU h=some (om h):=by
 have e:zU h=zT h:=by unfold zU;rfl
 rw[e]
 unfold zT Jk Vn Vm Jl Vl Vk Js om
 simp only[ac]
 have d: ∀i,i<h.length->Jm h ((i+1:Nat):Int)=some (if uD h i then Sum.inr () else Sum.inl false):=by
  intro i hi
  unfold Jm
  have:=mg (body:=fun(s:Int)=>((p3 h ((i+1:Nat):Int) s).map (Sum.elim (fun(t:Int)=>Sum.inl t) (Sum.elim (fun(t:Bool)=>Sum.inr (Sum.inl t)) (fun(t:Unit)=>Sum.inr (Sum.inr t)))):Option ((Int)⊕(Bool⊕Unit))))
   (fun k=>((k+1:Nat):Int)) i (fun j=> !iY h ((i+1:Nat):Int) ((j+1:Nat):Int)) (fun b=>if b then Sum.inr () else Sum.inl false)
   (by
    grind [iY,p3,ZV,decide_eq_true,wrap64])
   (by
    grind [iY,p3,ZV,decide_eq_true])
   (by
    grind [p3,decide_eq_false]) LL (by grind [LL])
  exact this
 have f:=mg (body:=fun(s:Int)=>((tP h s).map (Sum.elim (fun(t:Int)=>Sum.inl t) (Sum.elim (fun(t:Bool)=>Sum.inr (Sum.inl t)) (fun(t:Unit)=>Sum.inr (Sum.inr t)))):Option ((Int)⊕(Bool⊕Unit))))
  (fun k=>((k+1:Nat):Int)) h.length (uD h) (fun b=>if b then Sum.inr () else Sum.inl false)
  (by
   intro k a p
   simp only[tP,tO]
   rw[an (show((k+1:Nat):Int)<=((h.length:Nat):Int) by omega)]
   simp only[au,ac,Sum.elim_inl]
   unfold Jr Jp Jo zS Jn Jq
   simp only[ac]
   grind [wrap64])
  (by
   intro k a p
   simp only[tP,tO]
   rw[an (show((k+1:Nat):Int)<=((h.length:Nat):Int) by omega)]
   simp_all [au,ac,Sum.elim_inl,Jr,Jp,Jo,zS,Jn])
  (by
   grind [tP,tO,decide_eq_false,List.length]) LL (by grind [LL])
 grind [cH,range,List.length,uD]
theorem amc {h:List Int} {f g w:Nat} {p b:Nat×Nat} (e:bg h f w=some p) (c:bg h g w=some b):p=b:=by
 have a:=AR (Nat.le_max_left f g) e
 grind [AR,Nat.le_max_right,Option.some.inj]
theorem ZY {h:List Int}: ∀{f w:Nat} {p:Nat×Nat},bg h f w=some p->bg h (p.2+1) w=some p
 |0,w,p,e=>by simp[bg] at e
 |f+1,w,p,e=>by
  simp only[bg] at e
  rw[bg]
  split at e
  ·cases e
  ·rename_i x c
   split at e
   ·simp_all
   ·rename_i a
    simp only[a,jc]
    obtain⟨d,b,rfl⟩:=cv.1 e
    rw[ZY b]
    rfl
theorem ZZ {h:List Int} (c:fQ h=true): ∀{f w:Nat} {p:Nat×Nat},1<=w->w<=h.length->bg h f w=some p->
  ∃l:List Nat,l.length=p.2+1/\l.Nodup/\ ∀x∈l,1<=x/\x<=h.length/\ ∃g b,bg h g x=some b/\b.2<=p.2
 |0,w,p,_,_,e=>by simp[bg] at e
 |f+1,w,p,r,s,e=>by
  have m:=e
  simp only[bg] at e
  split at e
  ·cases e
  ·rename_i x a
   split at e
   ·rename_i d
    cases e
    exact⟨[w],rfl,by simp,fun t n=>by
     grind⟩
   ·rename_i d
    obtain⟨b,i,rfl⟩:=cv.1 e
    have lt:w-1<h.length:=by omega
    have k:=jH c lt
    rw[bh lt] at a
    injection a with a
    rw[a] at k
    obtain⟨l,j,o,q⟩:=ZZ c (w:=x.toNat) (by omega) (by omega) i
    refine⟨w::l,by simp[j],?_,?_⟩
    all_goals grind [List.nodup_cons,amc,Nat.le_trans]
theorem amd {h:List Int} (c:fQ h=true) {f w:Nat} (j:1<=w) (k:w<=h.length) (e:(bg h f w).isSome=true):(bg h h.length w).isSome=true:=by
 obtain⟨p,e⟩:=CF.mp e
 obtain⟨l,m,g,i⟩:=ZZ c j k e
 have:=p1 (l₂:=(range h.length).map (· +1)) g (by
  intro x d
  obtain⟨a,b,_⟩:=i x d
  rw[iC]
  exact⟨x-1,by grind,by omega⟩)
 grind [List.length_map,List.length_range,AR,List.length,ZY]
structure dx (n i:Nat) (st:List Nat) (h:List Int):Prop where
 len:h.length=n
 hi:i<=n+1
 dec:st.Pairwise (· > ·)
 aQ: ∀s∈st,1<=s/\s<i/\hd h s=0
 num: ∀x∈h,0<=x/\x<=(n:Int)
 cls: ∀w,1<=w->w<i->w∉st->hd h w≠0
 iR: ∀j,1<=j->j<i-> ∃s∈st,aL h j s/\ ∀t∈st,¬bD j s t
 below: ∀w j,1<=w->w<i->hd h w≠0->bD w (hd h w) j->aL h j (hd h w)
theorem dx.shift {n i:Nat} {st:List Nat} {h:List Int} (a:dx n i st h) (i1:1<=i) (hi:i<=n) (z:hd h i=0):dx n (i+1) (i::st) h where
 len:=a.len
 hi:=by omega
 dec:= .cons (fun s c=>(a.aQ s c).2.1) a.dec
 aQ:=fun s c=>by
  rcases ej.mp c with e|e
  ·simp_all
  ·have:=a.aQ s e
   omega
 num:=a.num
 cls:=fun w d g k=>by
  grind [List.mem_cons_self,dx.cls,List.mem_cons_of_mem]
 iR:=fun j d g=>by
  by_cases e:j=i
  ·subst e
   refine⟨j,bk ..,.refl d (by rw[a.len];exact hi),?_⟩
   grind [bD]
  ·obtain⟨s,c,u,m⟩:=a.iR j d (by omega)
   refine⟨s,bB _ c,u,?_⟩
   intro t l b
   rcases ej.mp l with f|f
   ·subst f
    have:=(a.aQ s c).2.1
    grind [bD]
   simp_all
 below:=fun w j d g k b=>by
  grind [dx.below]
theorem dx.hV {n i s t:Nat} {f:List Nat} {h:List Int} (l:dx n i (s::t::f) h) {a g r:Nat} (c:(a=t/\r=s)\/(a=s/\r=t)) (z:1<=g) (K:g<i) (u:aL h g r)
  (b: ∀j,bD a g j->aL h j g\/aL h j a):dx n i (r::f) (h.set (a-1) (g:Int)):=by
 have ms:s∈s::t::f:=bk ..
 have mt:t∈s::t::f:=bB _ (bk ..)
 have N: ∀{x},x∈f->x∈s::t::f:=fun x=>bB _ (bB _ x)
 have d:=l.dec
 rw[d7] at d
 obtain⟨q,d⟩:=d
 rw[d7] at d
 obtain⟨v,y⟩:=d
 have lt:t<s:=q t (bk ..)
 have Q:=l.aQ s ms
 have R:=l.aQ t mt
 have C:=l.len
 have hi:=l.hi
 have F:a∈s::t::f:=by grind
 have G:r∈s::t::f:=by grind
 have H:=l.aQ a F
 have P:=l.aQ r G
 have ar:a≠r:=by omega
 have m:1<=a/\a<=h.length:=by omega
 have L (w:Nat) (J:1<=w):=gp m.1 m.2 g w J
 have mono {x p:Nat} (u:aL h x p):aL (h.set (a-1) (g:Int)) x p:=qo m.1 m.2 H.2.2 u
 have E:(h.set (a-1) (g:Int)).length=n:=by simp[C]
 have I:aL (h.set (a-1) (g:Int)) a g:=by
  have e:hd (h.set (a-1) (g:Int)) a=g:=by simp_all
  refine .step m.1 (by omega) (by omega) ?_
  rw[e]
  exact .refl z (by omega)
 have S:aL (h.set (a-1) (g:Int)) a r:=kR I (mono u)
 have M: ∀x∈f,x<t:=v
 have split: ∀x,x∈s::t::f->x=a\/x=r\/x∈f:=by
  grind
 refine⟨E,l.hi,?_,?_,?_,?_,?_,?_⟩
 ·refine .cons ?_ y
  grind
 ·intro x o
  have D:x∈s::t::f:=by
   grind
  have k:=l.aQ x D
  grind
 ·intro x o
  rcases o8 o with e|e
  ·exact l.num x e
  omega
 ·grind [dx.cls,List.mem_cons_self,List.mem_cons_of_mem]
 ·intro j A B
  obtain⟨x,o,U,O⟩:=l.iR j A B
  rcases split x o with e|e|e
  all_goals grind [List.mem_cons_self,kR,bD,List.mem_cons_of_mem]
 grind [kR,dx.below]
theorem dx.get {n i:Nat} {st:List Nat} {h:List Int} (a:dx n i st h) {w:Nat} (c:1<=w) (d:w<=n):h[w-1]? =some ((hd h w:Nat):Int):=by
 have b:=a.len
 have lt:w-1<h.length:=by omega
 have:=a.num _ (cT lt)
 grind [List.getElem?_eq_getElem,hd]
theorem dx.tree {n r:Nat} {h:List Int} (a:dx n (n+1) [r] h) (C:n<=8):Tree h/\dt h/\top h=r:=by
 have A:=a.len
 have c:=a.aQ r (bk ..)
 have m:fQ h=true:=by
  grind [fQ,List.all_eq_true,dx.num,dX]
 have ue: ∀w x,aL h w x->x=r-> ∃f,(bg h f w).isSome=true:=by
  intro w x u
  induction u with
  |refl d l=>
   intro e
   refine⟨1,?_⟩
   grind [bg,dx.get]
  |step d l v u o=>
   rename_i w x
   intro e
   obtain⟨f,y⟩:=o e
   refine⟨f+1,?_⟩
   grind [bg,dx.get,Option.isSome_map]
 have T:Tree h:=by
  refine⟨by omega,by omega,m,?_,?_⟩
  ·refine KV (r:=r-1) ?_ ?_
   ·grind [dx.get]
   ·intro i hi
    have lt:i<h.length:=(aO.mp hi).1
    have g:=a.get (w:=i+1) (by omega) (by omega)
    grind [dx.hi,dx.cls,List.mem_singleton]
  ·intro k z
   obtain⟨s,B,u,_⟩:=a.iR (k+1) (by omega) (by omega)
   grind [amd]
 have t:top h=r:=((T.eG c.1 (by omega)).mp c.2.2).symm
 refine⟨T,?_,t⟩
 rw[qn T]
 intro w j p D q b
 exact a.below w j p (by omega) q b
def fc (h:List Int):List Nat->Prop
 |[]=>True
 |[x]=>hd h x=0
 |y::x::q=>(hd h y=0\/hd h y=x)/\(∀j,x<j->j<y->aL h j x\/aL h j y)/\fc h (x::q)
def eh (h:List Int) (st:List Nat):List Nat:=st.filter fun w=>hd h w==0
theorem fc.tail {h:List Int} {y:Nat} {q:List Nat} (c:fc h (y::q)):fc h q:=by
 cases q with
 |nil=>trivial
 |cons x q=>exact c.2.2
theorem fc.set {h:List Int} {a g:Nat} (b:1<=a) (d:a<=h.length) (z:hd h a=0): ∀{st:List Nat},a∉st->(∀s∈st,1<=s)->fc h st->fc (h.set (a-1) (g:Int)) st
 |[],_,_,_=>trivial
 |[x],f,p,c=>by
  grind [fc,gp,List.mem_cons_self]
 |y::x::n,f,p,c=>by
  unfold fc at c⊢
  rw[gp b d g y (p y (bk ..)),aG (fun e=>f (by simp_all))]
  refine⟨c.1,fun j k l=>(c.2.1 j k l).imp (qo b d z) (qo b d z),?_⟩
  exact fc.set b d z (fun m=>f (bB _ m)) (fun s i=>p s (bB _ i)) c.2.2
theorem Z0 {h:List Int} {a g:Nat} (b:1<=a) (c:a<=h.length) {st:List Nat} (d:a∉st) (p: ∀s∈st,1<=s):eh (h.set (a-1) (g:Int)) st=eh h st:=by
 grind [eh,List.filter_congr,gp]
theorem fc.top {h:List Int}: ∀{s:Nat} {d:List Nat},(∀x∈s::d,1<=x/\x<=h.length)->fc h (s::d)-> ∃t b,eh h (s::d)=t::b/\aL h s t
 |s,[],p,c=>by
  have a:=p s (bk ..)
  unfold fc at c
  exact⟨s,[],by simp[eh,c],.refl a.1 a.2⟩
 |s,x::b,p,c=>by
  have a:=p s (bk ..)
  have k:=p x (bB _ (bk ..))
  unfold fc at c
  by_cases z:hd h s=0
  ·exact⟨s,eh h (x::b),by grind [eh,List.filter_cons_of_pos],.refl a.1 a.2⟩
  ·obtain⟨t,g,e,u⟩:=fc.top (fun i f=>p i (bB _ f)) c.2.2
   have j:=c.1.resolve_left z
   refine⟨t,g,?_,.step a.1 a.2 z (by simp_all)⟩
   grind [eh,List.filter_cons_of_neg]
structure cE (n:Nat) (c:cD):Prop where
 i1:1<=c.1
 hi:c.1<=n+1
 dec:c.2.1.Pairwise (· > ·)
 aQ: ∀s∈c.2.1,1<=s/\s<c.1
 chain:fc c.2.2 c.2.1
 dv: ∀w,c.1<=w->w<=n->hd c.2.2 w=0
 v1:c.1<=n->dx n (c.1+1) (c.1::eh c.2.2 c.2.1) c.2.2
 v2:c.1=n+1->dx n (n+1) (eh c.2.2 c.2.1) c.2.2
 uE:c.1<=n-> ∀y q,c.2.1=y::q-> ∀j,y<j->j<c.1->aL c.2.2 j y\/aL c.2.2 j c.1
theorem LR (n w:Nat):hd (replicate n 0) w=0:=by
 grind [hd,getD]
theorem dx.start (n:Nat):dx n 1 [] (replicate n 0) where
 len:=by simp
 hi:=by omega
 dec:= .nil
 aQ:=fun s c=>by cases c
 num:=fun x d=>by
  simp_all
 cls:=fun w a b=>by omega
 iR:=fun j a b=>by omega
 below:=fun w j a b=>by omega
theorem cE.start {n:Nat} (b:1<=n):cE n (1,[],replicate n 0) where
 i1:=by simp
 hi:=by simp
 dec:= .nil
 aQ:=fun s a=>by cases a
 chain:=trivial
 dv:=fun w _ _=>LR n w
 v1:=fun _=>(dx.start n).shift (by omega) b (LR n 1)
 v2:=fun e=>by omega
 uE:=fun _ d c e=>by cases e
theorem cE.len {n:Nat} {c:cD} (E:cE n c):c.2.2.length=n:=by
 by_cases h:c.1<=n
 ·exact(E.v1 h).len
 ·exact(E.v2 (by have:=E.hi;omega)).len
theorem cE.push {n i:Nat} {st:List Nat} {h:List Int} (a:cE n (i,st,h)) (hi:i<=n):cE n (i+1,i::st,h):=by
 have z:=a.dv i (aS _) hi
 have d:=a.v1 hi
 have i1:=a.i1
 simp only at z d i1
 have f:eh h (i::st)=i::eh h st:=by
  grind [eh,List.filter_cons_of_pos]
 refine⟨by omega,by omega,?_,?_,?_,?_,?_,?_,?_⟩
 ·exact .cons (fun s b=>(a.aQ s b).2) a.dec
 ·intro s b
  simp only at b⊢
  rcases ej.mp b with e|e
  ·omega
  ·have:=a.aQ s e
   omega
 ·have c:=a.chain
  have g:=a.uE hi
  simp only at c g⊢
  cases st with
  |nil=>exact z
  |cons x o=>exact⟨.inl z,fun j k m=>g x o rfl j k m,c⟩
 ·intro w q p
  exact a.dv w (by omega) p
 ·intro l
  simp only at l⊢
  rw[f]
  exact d.shift (by omega) l (a.dv (i+1) (by omega) l)
 all_goals grind
theorem cE.left {n i s:Nat} {f:List Nat} {h:List Int} (c:cE n (i,s::f,h)) (hi:i<=n) (z:hd h s=0):cE n (i,f,h.set (s-1) (i:Int)):=by
 have p:=c.v1 hi
 have i1:=c.i1
 have A:=c.len
 have k:=c.aQ s (bk ..)
 have d:=c.dec
 have y:=c.uE hi s f rfl
 have ch:=c.chain
 simp only at p i1 A k d y ch
 rw[d7] at d
 have D:s∉f:=fun m=>by
  grind
 have E: ∀x∈f,1<=x:=fun x o=>(c.aQ x (bB _ o)).1
 have v:eh h (s::f)=s::eh h f:=by
  grind [eh,List.filter_cons_of_pos]
 rw[v] at p
 have mono {x q:Nat} (u:aL h x q):aL (h.set (s-1) (i:Int)) x q:=qo k.1 (by omega) z u
 have H:aL (h.set (s-1) (i:Int)) s i:=by
  have e:hd (h.set (s-1) (i:Int)) s=i:=by grind [gp]
  refine .step k.1 (by simp;omega) (by omega) ?_
  rw[e]
  exact .refl i1 (by simp;omega)
 have I:=p.hV (a:=s) (g:=i) (r:=i) (.inl ⟨rfl,rfl⟩) i1 (by omega) (.refl i1 (by omega)) (fun j b=>by
  grind [bD])
 refine⟨i1,c.hi,d.2,fun x o=>c.aQ x (bB _ o),?_,?_,?_,?_,?_⟩
 ·exact fc.set k.1 (by omega) z D E ch.tail
 ·intro w t F
  simp only at t⊢
  rw[gp k.1 (by omega) i w (by omega),aG (by omega)]
  exact c.dv w t F
 ·grind [Z0]
 ·omega
 ·intro _ q G e j B C
  simp only at e C⊢
  subst e
  rcases l8 j s with l|l|l
  ·rcases ch.2.1 j B l with u|u
   all_goals grind [kR]
  all_goals grind [kR]
theorem cE.right {n i s:Nat} {e:List Nat} {h:List Int} (c:cE n (i,s::e,h)) (hi:i<=n):cE n (i+1,i::s::e,h.set (i-1) (s:Int)):=by
 have o:=c.v1 hi
 have i1:=c.i1
 have D:=c.len
 have v:=c.aQ s (bk ..)
 have d:=c.dec
 have q:=c.uE hi s e rfl
 have ch:=c.chain
 have z:=c.dv i (aS _) hi
 have k:=c.aQ
 simp only at o i1 D v d q ch z k
 have G:i∉s::e:=fun m=>by
  grind
 have H: ∀x∈s::e,1<=x:=fun x f=>(k x f).1
 obtain⟨t,I,p,J⟩:=fc.top (fun x f=>⟨(k x f).1,by grind⟩) ch
 rw[p] at o
 have K:=o.hV (a:=i) (g:=s) (r:=t) (.inr ⟨rfl,rfl⟩) v.1 (by omega) J (fun j b=>by
  grind [bD])
 have C:hd (h.set (i-1) (s:Int)) i=s:=by grind [gp,cE.i1]
 have B:eh (h.set (i-1) (s:Int)) (i::s::e)=t::I:=by
  rw[<-p,<-Z0 (g:=s) i1 (by omega) G H]
  grind [eh,List.filter_cons_of_neg]
 have mono {x A:Nat} (u:aL h x A):aL (h.set (i-1) (s:Int)) x A:=qo i1 (by omega) z u
 have y: ∀w,i+1<=w->w<=n->hd (h.set (i-1) (s:Int)) w=0:=fun w M L=>by
  rw[gp i1 (by omega) s w (by omega),aG (by omega)]
  exact c.dv w (by omega) L
 refine⟨by omega,by omega,?_,?_,?_,y,?_,?_,?_⟩
 ·simp_all
 ·grind
 ·refine⟨.inr C,fun j E F=>(q j E F).imp mono mono,?_⟩
  grind [fc.set,cE.i1]
 ·intro l
  simp only at l⊢
  rw[B]
  exact K.shift (by omega) l (y (i+1) (aS _) l)
 all_goals grind
theorem cE.drop {n i s:Nat} {b:List Nat} {h:List Int} (a:cE n (i,s::b,h)) (z:hd h s≠0):cE n (i,b,h):=by
 have o:=a.len
 have f:=a.aQ s (bk ..)
 have d:=a.dec
 have ch:=a.chain
 have hi:=a.hi
 simp only at o f d ch hi
 rw[d7] at d
 have w:eh h (s::b)=eh h b:=by
  grind [eh,List.filter_cons_of_neg]
 refine⟨a.i1,a.hi,d.2,fun x p=>a.aQ x (bB _ p),ch.tail,a.dv,?_,?_,?_⟩
 ·intro l
  have:=a.v1 l
  simp_all
 ·intro e
  have:=a.v2 e
  simp_all
 ·intro l c v e j r t
  simp only at e t⊢
  subst e
  have m:=a.uE l s (c::v) rfl
  have q:=ch.1.resolve_left z
  have g:=a.aQ c (bB _ (bk ..))
  simp only at m g
  have y:aL h s c:= .step f.1 (by omega) z (by rw[q];exact .refl g.1 (by omega))
  rcases l8 j s with k|k|k
  ·rcases ch.2.1 j r k with u|u
   all_goals grind [kR]
  all_goals grind [kR]
def bP (n m:Nat) (c:cD):Option cD:=
 if m=83 then(if c.1<=n then some (c.1+1,c.1::c.2.1,c.2.2) else none) else
 match c.2.1 with
 |s::a=>
  if m=76 then(if c.1<=n/\hd c.2.2 s=0 then some (c.1,a,c.2.2.set (s-1) (c.1:Int)) else none) else
  if m=82 then(if c.1<=n then some (c.1+1,c.1::s::a,c.2.2.set (c.1-1) (s:Int)) else none) else
  if m=68 then(if hd c.2.2 s≠0 then some (c.1,a,c.2.2) else none) else none
 |[]=>none
def uF (ms:List Nat):Nat:=ms.countP fun m=>m==76||m==82
def uG (ms:List Nat):Nat:=ms.countP fun m=>m==83||m==82
theorem Z1 {h:List Int} {a g:Nat} (b:1<=a) (c:a<=h.length) (z:hd h a=0) (p: ∀x∈h,0<=x) (d:1<=g):(h.set (a-1) (g:Int)).count 0+1=h.count 0:=by
 grind [List.length,hd,List.getElem?_eq_getElem,List.getElem_mem,List.count]
theorem cE.num {n:Nat} {c:cD} (E:cE n c): ∀x∈c.2.2,0<=x/\x<=(n:Int):=by
 by_cases h:c.1<=n
 ·exact(E.v1 h).num
 ·exact(E.v2 (by have:=E.hi;omega)).num
theorem ame {n m:Nat} {c b:cD} (a:cE n c) (e:bP n m c=some b):
  cE n b/\2*b.1+c.2.1.length=2*c.1+b.2.1.length+1/\uF [m]+b.2.2.count 0=c.2.2.count 0/\uG [m]+c.1=b.1:=by
 obtain⟨i,st,h⟩:=c
 have p:=a.len
 have i1:=a.i1
 have j:=a.num
 unfold bP at e
 simp only at e p i1 j
 by_cases q:m=83
 ·grind [cE.push,List.length_cons,uF,uG]
 ·rw[aG q] at e
  split at e
  ·rename_i s r
   have l:=a.aQ s (bk ..)
   have hi:=a.hi
   simp only at l hi
   by_cases f:m=76
   ·rw[aB f] at e
    by_cases k:i<=n/\hd h s=0
    ·rw[aB k] at e
     injection e with e
     subst e f
     refine⟨a.left k.1 k.2,by grind,?_,by simp[uG]⟩
     have:=Z1 (h:=h) (g:=i) l.1 (by omega) k.2 (fun x d=>(j x d).1) i1
     grind [uF]
    simp_all
   ·rw[aG f] at e
    by_cases o:m=82
    ·rw[aB o] at e
     by_cases k:i<=n
     ·rw[aB k] at e
      injection e with e
      subst e o
      refine⟨a.right k,by grind,?_,by simp[uG];omega⟩
      have:=Z1 (h:=h) (g:=s) i1 (by omega) (a.dv i (aS _) k) (fun x d=>(j x d).1) l.1
      grind [uF]
     simp_all
    grind [hd,cE.drop,List.length_cons,uF,uG]
  ·cases e
def ex (a:List Int) (i:Nat) (st:List Nat):Nat:=
 match st with
 |[]=>83
 |s::b=>if hd a s=i then 76 else if hd a i=s then 82 else if b.any (fun k=>hd a i==k||hd a k==i)=true then 68 else 83
def ia (H:List Int):Nat->cD->Option (List Nat×cD)
 |0,c=>if c.1<=H.length then none else some ([],c)
 |k+1,c=>if c.1<=H.length then(bP H.length (ex H c.1 c.2.1) c).bind fun d=>(ia H k d).map fun r=>(ex H c.1 c.2.1::r.1,r.2) else some ([],c)
structure EO (H:List Int) (c:cD):Prop where
 e:cE H.length c
 agree: ∀w,1<=w->w<=H.length->hd c.2.2 w≠0->hd c.2.2 w=hd H w
 oo: ∀w,1<=w->w<c.1->hd c.2.2 w=0->hd H w=0\/c.1<=hd H w
 hs: ∀x,c.1<=x->x<=H.length->hd H x=0\/c.1<=hd H x\/hd H x∈c.2.1
theorem EO.start {a:List Int} (T:Tree a):EO a (1,[],replicate a.length 0) where
 e:=cE.start T.pos
 agree:=fun w _ _ h=>absurd (LR _ w) h
 oo:=fun w b c=>by omega
 hs:=fun x _ _=>by omega
theorem EO.free {a:List Int} {i:Nat} {st:List Nat} {h:List Int} (c:EO a (i,st,h)) (hi:i<=a.length) {w:Nat} (d:1<=w) (g:w<i) (z:hd h w=0):w∈st:=by
 have b:=c.e.v1 hi
 simp only at b
 refine j4 fun f=> ?_
 refine b.cls w d (by omega) ?_ z
 grind [eh]
theorem EO.push {a:List Int} (T:Tree a) {i:Nat} {st:List Nat} {h:List Int} (b:EO a (i,st,h)) (hi:i<=a.length) (k:hd a i∉st) (l: ∀w∈st,hd a w≠i):EO a (i+1,i::st,h):=by
 have i1:=b.e.i1
 simp only at i1
 refine⟨b.e.push hi,b.agree,?_,?_⟩
 ·intro w d f z
  simp only at f z⊢
  by_cases e:w=i
  ·subst e
   have c:=b.hs w (aS _) hi
   grind [Tree.nP,absurd]
  ·have o:=b.oo w d (by omega) z
   grind [EO.free]
 ·intro x g j
  simp only at g⊢
  have c:=b.hs x (by omega) j
  grind
theorem Z2 {f:List Int} (T:Tree f) (F:dt f) {c:cD} (b:EO f c) (hi:c.1<=f.length): ∃d,bP f.length (ex f c.1 c.2.1) c=some d/\EO f d:=by
 obtain⟨i,st,h⟩:=c
 have r:=(qn T).mp F
 have i1:=b.e.i1
 have D:=b.e.len
 simp only at hi i1 D
 match st,b with
 |[],b=>
  grind [ex,bP,EO.push]
 |s::t,b=>
  have j:=b.e.aQ s (bk ..)
  have d:=b.e.dec
  have ch:=b.e.chain
  have C:=b.e.aQ
  simp only at j d ch C
  rw[d7] at d
  have K:hd h s=0\/hd h s<s:=by
   cases t with
   |nil=>exact .inl ch
   |cons x q=>
    have:=d.1 x (bk ..)
    rcases ch.1 with k|k
    all_goals omega
  have J:s≠i:=by omega
  simp only[ex]
  by_cases v:hd f s=i
  ·rw[aB v]
   have z:hd h s=0:=by
    refine j4 fun q=> ?_
    have a:=b.agree s j.1 (by omega) q
    grind
   have N:aL f s i:=by
    grind [Tree.iN]
   refine⟨(i,t,h.set (s-1) (i:Int)),by simp[bP,hi,z],b.e.left hi z,?_,?_,?_⟩
   ·intro w g l q
    simp only at q⊢
    rw[gp j.1 (by omega) i w g] at q⊢
    by_cases e:w=s
    ·simp_all
    ·rw[aG e] at q⊢
     exact b.agree w g l q
   ·intro w g l q
    simp only at l q⊢
    rw[gp j.1 (by omega) i w g] at q
    by_cases e:w=s
    ·simp_all
    ·rw[aG e] at q
     exact b.oo w g l q
   ·intro x n p
    simp only at n⊢
    have k:=b.hs x n p
    simp only at k
    rcases k with k|k|k
    ·exact .inl k
    ·omega
    ·rcases ej.mp k with k|k
     ·exfalso
      by_cases e:x=i
      ·grind [Tree.iN,Tree.kP]
      ·have u:=r x i (by omega) p (by omega) (.inr ⟨by omega,by omega⟩)
       grind [Tree.kP]
     simp_all
  ·rw[aG v]
   by_cases y:hd f i=s
   ·rw[aB y]
    have G:aL f i s:=by
     grind [Tree.iN]
    refine⟨(i+1,i::s::t,h.set (i-1) (s:Int)),by simp[bP,hi],b.e.right hi,?_,?_,?_⟩
    ·intro w g l q
     simp only at q⊢
     rw[gp i1 (by omega) s w g] at q⊢
     by_cases e:w=i
     ·simp_all
     ·rw[aG e] at q⊢
      exact b.agree w g l q
    ·intro w g l q
     simp only at l q⊢
     rw[gp i1 (by omega) s w g] at q
     by_cases e:w=i
     ·simp_all
     ·rw[aG e] at q
      have o:=b.oo w g (by omega) q
      have m:=b.free hi g (by omega) q
      simp only at o
      have:hd f w≠i:=by
       intro k
       rcases ej.mp m with m|m
       ·simp_all
       ·have lt:=d.1 w m
        have u:=r w s g (by omega) (by omega) (.inl ⟨by omega,by omega⟩)
        grind [Tree.kP]
      omega
    ·intro x n p
     simp only at n⊢
     have k:=b.hs x (by omega) p
     grind
   ·rw[aG y]
    by_cases A:t.any (fun k=>hd f i==k||hd f k==i)=true
    ·rw[aB A]
     obtain⟨k,mk,B⟩:=f6.mp A
     simp only[eA,ce] at B
     have I:=d.1 k mk
     have E:=C k (bB _ mk)
     have M:(hd f i=k/\aL f s k)\/(hd f k=i/\aL f s i):=by
      rcases B with e|e
      ·left
       refine⟨e,?_⟩
       have u:=r i s i1 hi (by omega) (.inr ⟨by omega,by omega⟩)
       rwa[e] at u
      ·right
       refine⟨e,?_⟩
       have u:=r k s E.1 (by omega) (by omega) (.inl ⟨by omega,by omega⟩)
       rwa[e] at u
     have z:hd h s≠0:=by
      intro q
      have o:=b.oo s j.1 j.2 q
      simp only at o
      rcases o with o|o
      ·grind [Tree.eG,Tree.AY]
      ·have H:=T.cW j.1 (by omega:s<=f.length)
       have L:=r s i j.1 (by omega) (by omega) (.inl ⟨by omega,by omega⟩)
       grind [Tree.mh,Tree.kP]
     refine⟨(i,t,h),by simp[bP,z],b.e.drop z,b.agree,b.oo,?_⟩
     intro x n p
     simp only at n⊢
     have q:=b.hs x n p
     simp only at q
     rcases q with q|q|q
     ·exact .inl q
     ·omega
     ·rcases ej.mp q with q|q
      ·exfalso
       by_cases e:x=i
       ·simp_all
       ·have G:=r x i (by omega) p (by omega) (.inr ⟨by omega,by omega⟩)
        grind [Tree.mh,Tree.kP]
      simp_all
    grind [hd,mk,bP,EO.push]
theorem EO.done {a:List Int} (T:Tree a) {st:List Nat} {h:List Int} (b:EO a (a.length+1,st,h)):h=a:=by
 have f:=b.e.len
 have g:=b.e.v2 rfl
 simp only at f g
 apply j5 f
 intro k i j
 have c:=g.get (w:=k+1) (by omega) (by omega)
 have d:=T.get (w:=k+1) (by omega) (by omega)
 rw[show k+1-1=k by omega,bh i] at c
 rw[show k+1-1=k by omega,bh j] at d
 injection c with c
 injection d with d
 rw[c,d]
 congr 1
 by_cases z:hd h (k+1)=0
 ·have o:=b.oo (k+1) (by omega) (by omega) z
  grind [Tree.cW]
 ·exact b.agree (k+1) (by omega) (by omega) z
def eK (h:List Int):List Int:=h.map fun x=>if x=0 then-1 else x
theorem amf (h:List Int):(eK h).length=h.length:=by simp[eK]
theorem Z3 (h:List Int) (k:Nat) {g:Nat} (a:1<=g):(eK h).set k (g:Int)=eK (h.set k (g:Int)):=by
 grind [eK,List.map_set]
theorem amg {h:List Int} (p: ∀x∈h,0<=x) {w:Nat} (a:1<=w) (b:w<=h.length):(eK h)[w-1]? =some (if hd h w=0 then-1 else((hd h w:Nat):Int)):=by
 have lt:w-1<h.length:=by omega
 grind [List.getElem_mem,eK,hd,List.getElem?_eq_getElem]
theorem mE: ∀{st:List Nat} {i:Nat},st.Pairwise (· > ·)->(∀s∈st,1<=s/\s<i)->1<=i->st.length<i
 |[],i,_,_,h=>h
 |s::c,i,d,r,_=>by
  rw[d7] at d
  have b:=r s (bk ..)
  have:=mE d.2 (fun x a=>⟨(r x (bB _ a)).1,d.1 x a⟩) b.1
  grind
theorem amh {n i m:Nat} {st:List Nat} {h:List Int} (b:cE n (i,st,h)) (G:n<=8):JG (aF st) (i:Int) (m:Int) (eK h)=
  some (match bP n m (i,st,h) with
   |some d=>(aF d.2.1,(d.1:Int),true,eK d.2.2)
   |none=>(aF st,(i:Int),false,eK h)):=by
 have D:h.length=n:=b.len
 have hi:i<=n+1:=b.hi
 have i1:1<=i:=b.i1
 have A: ∀x∈h,0<=x/\x<=(n:Int):=b.num
 have c:=mE b.dec b.aQ b.i1
 have f:=eX st
 have j:=amf h
 simp only at c
 unfold JG JF Jz VE VD VC JA VB VA JC JD JB JE
 rw[wrap64 (x:=(((aF st).length:Nat):Int)-1) (by omega) (by omega)]
 have I:wrap .i64 ((i:Int)+1)=(i:Int)+1:=wrap64 (by omega) (by omega)
 by_cases v:m=83
 ·subst v
  by_cases le:i<=n
  ·have e:bP n 83 (i,st,h)=some (i+1,i::st,h):=by simp[bP,le]
   grind [decide_eq_true,eK,fv,List.length_nil,List.length_cons,eY]
  grind [bP,decide_eq_false,eK]
 ·rw[show((m:Int)==83)=false from d5.2 (by omega)]
  match st,b,f,c with
  |[],b,f,c=>
   grind [bP,aF,Decidable.decide,eK]
  |s::a,b,f,c=>
   have q:=b.aQ s (bk ..)
   simp only at q
   have F:=eX a
   have len:(aF (s::a)).length=a.length+1:=by rw[f];rfl
   have lt:(((aF (s::a)).length:Nat):Int)-1=(a.length:Int):=by omega
   have C:(aF (s::a))[a.length]? =some (s:Int):=by grind [eY]
   have l:idx (aF (s::a)) (a.length:Int)=some (s:Int):=by
    grind [idx,Int.toNat_natCast]
   have p:al ((s:Int)-1) h.length=some (s-1):=by
    grind [al]
   have E:inc (a.length:Int) (a.length+1)=some a.length:=by grind [inc]
   have H:((aF (s::a)).take a.length).drop 0=aF a:=by grind [eY]
   have r:wrap .i64 ((s:Int)-1)=(s:Int)-1:=wrap64 (by omega) (by omega)
   have B:wrap .i64 ((i:Int)-1)=(i:Int)-1:=wrap64 (by omega) (by omega)
   have g:decide ((a.length:Int)>=0)=true:=an (by omega)
   have o:=amg (fun x t=>(A x t).1) q.1 (show s<=h.length by omega)
   simp only[ck] at c
   rw[lt]
   by_cases w:m=76
   ·subst w
    rw[show(((76:Nat):Int)==76)=true from rfl,show(((76:Nat):Int)==82)=false from rfl,show(((76:Nat):Int)==68)=false from rfl]
    by_cases k:i<=n/\hd h s=0
    ·have e:bP n 76 (i,s::a,h)=some (i,a,h.set (s-1) (i:Int)):=by grind [bP]
     rw[e,an (show(i:Int)<=(((eK h).length:Nat):Int) by omega)]
     simp only[au,aq,g,l,ac,r,j,p,o,k.2,cU]
     grind [Decidable.decide,fv,List.length_nil,Z3]
    grind [bP,decide_eq_true,eK,hd,decide_eq_false]
   ·rw[show((m:Int)==76)=false from d5.2 (by omega)]
    by_cases y:m=82
    ·subst y
     rw[show(((82:Nat):Int)==82)=true from rfl,show(((82:Nat):Int)==68)=false from rfl]
     by_cases k:i<=n
     ·have e:bP n 82 (i,s::a,h)=some (i+1,i::s::a,h.set (i-1) (s:Int)):=by simp[bP,k]
      have u:al ((i:Int)-1) h.length=some (i-1):=by
       grind [al]
      rw[e,an (show(i:Int)<=(((eK h).length:Nat):Int) by omega)]
      simp only[au,aq,g,l,ac,B,j,u,len]
      grind [fv,List.length_nil,List.length_cons,Z3,eY]
     grind [bP,decide_eq_false,eK]
    ·rw[show((m:Int)==82)=false from d5.2 (by omega)]
     by_cases z:m=68
     ·subst z
      rw[show(((68:Nat):Int)==68)=true from rfl]
      by_cases k:hd h s=0
      ·grind [bP]
      ·have e:bP n 68 (i,s::a,h)=some (i,a,h):=by simp[bP,k]
       rw[e]
       simp only[au,aq,g,l,ac,r,j,p,o]
       grind [decide_eq_true,hd,fv,List.length_nil]
     grind [beq_eq_false_iff_ne,bP]
theorem ami (n:Nat):eK (replicate n 0)=replicate n (-1):=by simp[eK]
def cL (n i:Nat) (st:List Nat):List Bool:=(range n).map fun k=>decide (k+1<i)&& !st.contains (k+1)
theorem LS (n i:Nat) (st:List Nat):(cL n i st).length=n:=by simp[cL]
theorem Bz {n i:Nat} {st:List Nat} {k:Nat} (a:k<n):(cL n i st)[k]? =some (decide (k+1<i)&& !st.contains (k+1)):=by simp[cL,a]
theorem BA {a:Type} (xs:List a) (k:Nat):idx xs (k:Int)=xs[k]? :=by
 grind [idx,Int.toNat_natCast]
open Classical in
theorem BB {d:List Int} (T:Tree d) (i:Nat) (st:List Nat) (w:Nat):lZ d (w:Int) (cL d.length i st)=some (decide (du d i st w)):=by
 have e:lZ d (w:Int) (cL d.length i st)=zV d (w:Int) (cL d.length i st):=by unfold lZ;rfl
 have o:=T.le
 rw[e]
 unfold zV Jt Vr Vq Ju Vp Vo Jv
 have l:=mg (body:=fun(s:Int)=>((p4 d (w:Int) (cL d.length i st) s).map (Sum.elim (fun(t:Int)=>Sum.inl t) (Sum.elim (fun(t:Bool)=>Sum.inr (Sum.inl t)) (fun(t:Unit)=>Sum.inr (Sum.inr t)))):Option ((Int)⊕(Bool⊕Unit))))
  (fun k=>(k:Int)) d.length (fun k=> !(hd d (k+1)==w)||(decide (k+1<i)&& !st.contains (k+1))) (fun b=>if b then Sum.inr () else Sum.inl false)
  (by
   intro k f p
   have g:=T.get (w:=k+1) (by omega) (by omega)
   rw[show k+1-1=k by omega] at g
   simp only[p4]
   grind [decide_eq_true,List.length,BA,Bz,wrap64,hd,Decidable.decide])
  (by
   intro k f p
   have g:=T.get (w:=k+1) (by omega) (by omega)
   rw[show k+1-1=k by omega] at g
   simp only[p4]
   grind [decide_eq_true,List.length,BA,Bz,Bool.or_eq_false_iff,hd])
  (by
   grind [p4,decide_eq_false,List.length]) LL (by grind [LL])
 simp only[ac]
 have j:=l
 rw[show((0:Nat):Int)=0 from rfl] at j
 rw[j]
 have q:((range d.length).all fun k=> !(hd d (k+1)==w)||(decide (k+1<i)&& !st.contains (k+1)))=decide (du d i st w):=by
  rw[e0,cY,bT]
  constructor
  ·intro a c m n u eq
   have:=a (c-1) (by grind)
   rw[show c-1+1=c by omega,eq] at this
   simp only[d9,bo,km,aT,cY,gv] at this
   rcases u with u|u
   all_goals grind
  ·intro a k f
   simp only[fm] at f
   by_cases c:hd d (k+1)=w
   ·have r: ¬gR i st (k+1):=fun u=>a (k+1) (by omega) (by omega) u c
    grind [gR,Bool.not_eq_true']
   ·simp[c]
 grind
def fW (m:Nat):ByteArray:=ByteArray.mk #[m.toUInt8]
theorem Z4 (a b:ByteArray):ap (a++b)=ap a++ap b:=by
 simp[ap,o9]
theorem BC {a b:ByteArray} (h:a.size+b.size<=1000):cat a b=some (a++b):=by
 grind [cat,maxLen]
theorem LU (n i:Nat) (st:List Nat):cL n (i+1) (i::st)=cL n i st:=by
 grind [cL,List.map_congr_left,decide_eq_true,beq_eq_false_iff_ne,decide_eq_false]
theorem Z5 {n i a g:Nat} {st b:List Nat} (c:1<=a) (d:a<i) (f:a∉b) (e: ∀x,x∈st↔x=a\/x∈b):(cL n i st).set (a-1) true=cL n i b:=by
 apply hB
 grind [LS,Bz,decide_eq_true,List.contains_iff_mem,List.getElem?_eq_none,List.length_set]
open Classical in
theorem amj {b:List Int} (T:Tree b) {i:Nat} {st:List Nat} {h:List Int} {d:cD} (l:hu b (i,st,h)) (j:ByteArray) (b2:j.size<=100)
  (e:eI b.length (cC b i st) (i,st,h)=some d):
  zX b j (i:Int) (cL b.length i st) (aF st)=some (j++fW (cC b i st),(d.1:Int),cL b.length d.1 d.2.1,aF d.2.1):=by
 have k:=l.o.base
 have b3:h.length=b.length:=k.len
 have b4:=T.le
 have hi:i<=b.length+1:=k.hi
 obtain⟨c,d4,n,_⟩:=k.kS
 simp only at n
 have p:=eX st
 have a5:cat j (ByteArray.mk #[83])=some (j++fW 83):=BC (by grind [ByteArray.size])
 have a3:cat j (ByteArray.mk #[76])=some (j++fW 76):=BC (by grind [ByteArray.size])
 have a4:cat j (ByteArray.mk #[82])=some (j++fW 82):=BC (by grind [ByteArray.size])
 have d3:wrap .i64 ((i:Int)+1)=((i+1:Nat):Int):=by grind [wrap64]
 have q:room (st.length+List.length [(i:Int)])=some ():=fv (by grind)
 have push (r:cC b i st=83):d=(i+1,i::st,h):=by
  grind [eI,List.length]
 unfold zX
 rw[p,wrap64 (x:=((st.length:Nat):Int)-1) (by omega) (by omega)]
 match st,l,k,p,n,q,push with
 |[],l,k,p,n,q,push=>
  grind [cC,LU,eY,decide_eq_false]
 |[s],l,k,p,n,q,push=>
  grind [cC,LU,eY,decide_eq_false]
 |s::t::a,l,k,p,n,q,push=>
  have u:=k.aQ s (bk ..)
  have v:=k.aQ t (bB _ (bk ..))
  simp only at u v
  have m:=k.dec
  rw[d7] at m
  obtain⟨E,m⟩:=m
  rw[d7] at m
  obtain⟨a6,a7⟩:=m
  have lt:t<s:=E t (bk ..)
  have b9:=eX a
  have a8:aF (s::t::a)=aF a++ [(t:Int),(s:Int)]:=by grind [eY]
  have w:(aF (s::t::a))[a.length]? =some (t:Int):=by simp_all
  have y:(aF (s::t::a))[a.length+1]? =some (s:Int):=by simp_all
  have c0:a.length<=20:=by grind
  have i1:al (a.length:Int) (a.length+2)=some a.length:=by unfold al;rw[if_pos (by omega)];simp
  have B:al ((a.length:Int)+1) (a.length+2)=some (a.length+1):=by
   unfold al
   rw[aB (by omega),show((a.length:Int)+1).toNat=a.length+1 by omega]
  have b5:inc (a.length:Int) (a.length+2)=some a.length:=by unfold inc;rw[if_pos (by omega)];simp
  have b6:inc ((a.length:Int)+1) (a.length+2)=some (a.length+1):=by
   unfold inc
   rw[aB (by omega),show((a.length:Int)+1).toNat=a.length+1 by omega]
  have b7:al ((t:Int)-1) b.length=some (t-1):=by
   unfold al
   rw[aB (by omega),show((t:Int)-1).toNat=t-1 by omega]
  have b8:al ((s:Int)-1) b.length=some (s-1):=by
   unfold al
   rw[aB (by omega),show((s:Int)-1).toNat=s-1 by omega]
  have a1:idx b ((t:Int)-1)=some ((hd b t:Nat):Int):=by
   grind [BA,Tree.get]
  have a2:idx b ((s:Int)-1)=some ((hd b s:Nat):Int):=by
   grind [BA,Tree.get]
  have c7:((aF (s::t::a)).drop 0).take (a.length-0)=aF a:=by simp_all
  have c8:((aF (s::t::a)).drop 0).take (a.length+1-0)=aF (t::a):=by
   grind [eY,List.take_length_add_append]
  have len:(s::t::a).length=a.length+2:=rfl
  have Y:((a.length+2:Nat):Int)-1=(a.length:Int)+1:=by omega
  have D:wrap .i64 ((a.length:Int)+1-1)=(a.length:Int):=by grind [wrap64]
  have Z:wrap .i64 ((t:Int)-1)=(t:Int)-1:=wrap64 (by omega) (by omega)
  have a0:wrap .i64 ((s:Int)-1)=(s:Int)-1:=wrap64 (by omega) (by omega)
  have A:decide ((a.length:Int)+1>=1)=true:=an (by omega)
  have c2:room (aF a).length=some ():=fv (by omega)
  have c3:room ((aF a).length+List.length [(s:Int)])=some ():=fv (by grind)
  have c4:room (List.length ([]:List Int)+(aF (t::a)).length)=some ():=fv (by grind)
  have G:t∉s::a:=fun z=>by
   grind
  have F:s∉t::a:=fun z=>by
   grind
  have a9:(cL b.length i (s::t::a)).set (t-1) true=cL b.length i (s::a):=Z5 (g:=s) v.1 v.2.1 G (by
   intro x
   simp only[ej]
   constructor
   all_goals grind)
  have b0:(cL b.length i (s::t::a)).set (s-1) true=cL b.length i (t::a):=Z5 (g:=t) u.1 u.2.1 F (fun x=>ej)
  have c5:room (a.length+2+List.length [(i:Int)])=some ():=q
  rw[len,Y]
  have b1:(cL b.length i (s::t::a)).length=b.length:=LS ..
  have fin: ¬(hd b t=s/\du b i (s::t::a) t)->(cond (decide ((a.length:Int)+1>=1)) ((al ((a.length:Int)+1) (a.length+2)).bind fun(I:Nat)=>((aF (s::t::a))[I]?).bind fun(J:Int)=>(idx b (wrap .i64 (J-1))).bind fun(K:Int)=>(al (wrap .i64 ((a.length:Int)+1-1)) (a.length+2)).bind fun(L:Nat)=>((aF (s::t::a))[L]?).bind fun(M:Int)=>cond (K==M) ((al ((a.length:Int)+1) (a.length+2)).bind fun(N:Nat)=>((aF (s::t::a))[N]?).bind fun(O:Int)=>(lZ b O (cL b.length i (s::t::a))).bind fun(P:Bool)=>cond P ((cat j (ByteArray.mk #[82])).bind fun(Q:ByteArray)=>(al ((a.length:Int)+1) (a.length+2)).bind fun(R:Nat)=>((aF (s::t::a))[R]?).bind fun(S:Int)=>(al (wrap .i64 (S-1)) (List.length (cL b.length i (s::t::a)))).bind fun(U:Nat)=>(inc ((a.length:Int)+1) (a.length+2)).bind fun(C:Nat)=>(room ((List.length ([]:List Int))+List.length (((aF (s::t::a)).drop 0).take (C-0)))).bind fun(c9:Unit)=>some (Q,(i:Int),((cL b.length i (s::t::a)).set U true),(([]:List Int)++(((aF (s::t::a)).drop 0).take (C-0))))) ((cat j (ByteArray.mk #[83])).bind fun(V:ByteArray)=>(room ((a.length+2)+List.length ([(i:Int)]))).bind fun(d0:Unit)=>some (V,(wrap .i64 ((i:Int)+1)),cL b.length i (s::t::a),(aF (s::t::a)++([(i:Int)]))))) ((cat j (ByteArray.mk #[83])).bind fun(W:ByteArray)=>(room ((a.length+2)+List.length ([(i:Int)]))).bind fun(d1:Unit)=>some (W,(wrap .i64 ((i:Int)+1)),cL b.length i (s::t::a),(aF (s::t::a)++([(i:Int)]))))) ((cat j (ByteArray.mk #[83])).bind fun(X:ByteArray)=>(room ((a.length+2)+List.length ([(i:Int)]))).bind fun(d2:Unit)=>some (X,(wrap .i64 ((i:Int)+1)),cL b.length i (s::t::a),(aF (s::t::a)++([(i:Int)])))))
    =some (j++fW (cC b i (s::t::a)),(d.1:Int),cL b.length d.1 d.2.1,aF d.2.1):=by
   intro c1
   have c6:cC b i (s::t::a)=83->some (j++fW 83,((i+1:Nat):Int),cL b.length i (s::t::a),aF (s::t::a)++ [(i:Int)])=some (j++fW (cC b i (s::t::a)),(d.1:Int),cL b.length d.1 d.2.1,aF d.2.1):=by
    simp_all [LU,eY]
   simp only[A,au,i1,B,ac,w,y,D,a0,a2,BB T]
   by_cases H:hd b s=t
   ·rw[show(((hd b s:Nat):Int)==(t:Int))=true from ce.mpr (by omega)]
    by_cases f:du b i (s::t::a) s
    ·have r:cC b i (s::t::a)=82:=by simp_all [cC,aG,aB]
     rw[r] at e⊢
     simp[eI] at e
     subst e
     simp_all
    simp_all [cC,aG,au,cy,aq,ac]
   ·rw[show(((hd b s:Nat):Int)==(t:Int))=false from d5.2 (by omega)]
    simp_all [cC,aG,aq,ac]
  rw[A]
  simp only[au,i1,B,ac,w,y,D,Z,a1,BB T]
  by_cases H:hd b t=s
  ·rw[show(((hd b t:Nat):Int)==(s:Int))=true from ce.mpr (by omega)]
   by_cases f:du b i (s::t::a) t
   ·have r:cC b i (s::t::a)=76:=by grind [cC]
    rw[r] at e⊢
    simp[eI] at e
    subst e
    simp_all [au,an,ac,eY]
   simp_all [au,ac,BB,cy,aq]
  ·rw[show(((hd b t:Nat):Int)==(s:Int))=false from d5.2 (by omega)]
   simp_all [au,ac,BB,aq]
theorem Z6 (H:List Int) (i:Nat) (st:List Nat):cC H i st=83\/cC H i st=76\/cC H i st=82:=by
 unfold cC
 grind
theorem amk {m:Nat} (h:m=83\/m=76\/m=82):ap (fW m)=[m]/\(fW m).size=1:=by
 rcases h with rfl|rfl|rfl<;>exact⟨rfl,rfl⟩
theorem Z7 {a:List Int} (T:Tree a) (F:dt a): ∀(k:Nat) (c:cD) (b:ByteArray) (N:Nat),hu a c->2*c.1+k=2*a.length+1+c.2.1.length->b.size+k<=100->k<N->
  ∃mv ms,ai (fun(s:ByteArray×Int×(List Bool)×(List Int))=>((zY a s.1 s.2.1 s.2.2.1 s.2.2.2).map (Sum.elim (fun(t:ByteArray×Int×(List Bool)×(List Int))=>Sum.inl (t.1,t.2.1,t.2.2.1,t.2.2.2)) (fun(t:ByteArray)=>Sum.inr t)):Option ((ByteArray×Int×(List Bool)×(List Int))⊕(ByteArray)))) N (b,(c.1:Int),cL a.length c.1 c.2.1,aF c.2.1)=some mv/\
   ht a k c=some (ms,(a.length+1,[top a],a))/\ap mv=ap b++ms
 |0,c,b,N,f,e,v,u=>by
  obtain⟨N,rfl⟩: ∃j,N=j+1:=⟨N-1,by omega⟩
  obtain⟨ms,m⟩:=YG T F 0 c f e
  have g:=m
  unfold ht at g
  injection g with g
  injection g with q r
  subst q r
  refine⟨b,[],?_,m,by simp⟩
  grind [ai,zY,tQ,decide_eq_false,List.length,aF,top,eX]
 |k+1,c,b,N,f,e,v,u=>by
  obtain⟨N,rfl⟩: ∃j,N=j+1:=⟨N-1,by omega⟩
  have y: ¬(c.1=a.length+1/\c.2.1.length=1):=by
   omega
  obtain⟨d,l,n,p⟩:=KX T F f y
  obtain⟨i,st,h⟩:=c
  have hi:i<=a.length+1:=f.o.base.hi
  have x:=amj T f b (by omega) l
  have B:=amk (Z6 a i st)
  have size:(b++fW (cC a i st)).size=b.size+1:=by
   simp_all
  simp only at e l p
  obtain⟨mv,ms,w,z,A⟩:=Z7 T F k d (b++fW (cC a i st)) N n (by omega) (by omega) (by omega)
  refine⟨mv,cC a i st::ms,?_,?_,?_⟩
  ·unfold ai zY
   have go:tQ a b (i:Int) (aF st)=some (Sum.inl ()):=by
    grind [tQ,List.length,decide_eq_true,Tree.pos,decide_eq_false,aF,eX]
   simp only
   rw[go]
   simp only[ac,Sum.elim_inl,x,bn]
   exact w
  all_goals grind [ht,Z4,List.append_assoc,List.singleton_append]
theorem aml (n:Nat):cL n 1 []=replicate n false:=by
 apply hB
 grind [Bz,List.getElem?_eq_none,LS]
theorem LV {a:List Int} (T:Tree a) (F:dt a): ∃mv ms,jw a=some (mv,true)/\ht a (2*a.length-1) (1,[],replicate a.length 0)=some (ms,(a.length+1,[top a],a))/\ap mv=ms:=by
 have j:=T.pos
 have i:=T.le
 obtain⟨mv,ms,g,b,c⟩:=Z7 T F (2*a.length-1) (1,[],replicate a.length 0) empty LL ⟨gq.start a T,(iS.start a.length).dv⟩
  (by grind) (by show 0+(2*a.length-1)<=100;omega) (by grind [LL])
 refine⟨mv,ms,?_,b,c⟩
 have e:jw a=tR a:=by unfold jw;rfl
 have f:dm a=true:=by unfold dm;rw[(bM a).mpr T,qj.mpr F];rfl
 have d:mk ((a.length:Nat):Int) ((a.length:Nat):Int)=some a.length:=hn (by omega)
 rw[e]
 unfold tR zW
 rw[qk a (by omega),f]
 simp only[ac,bo,aq,d,Sum.elim_inl]
 grind [Vu,Vt,Vs,Jw,aml,aF]
theorem LW {a:List Int} (b:a.length<=1048576) (f:dm a=false):jw a=some (empty,false):=by
 simp_all [jw,tR,zW,qk]
def hx (H:List Int) (i k:Nat):Bool:=hd H i==k||hd H k==i
theorem Z8 {c:List Int} (T:Tree c) {i s:Nat} {a:List Nat} (i1:1<=i) (hi:i<=c.length) (f: ∀x∈a,1<=x/\x<=c.length) (m:a.length<=8): ∀(r k N:Nat),k+r=a.length->r<N->
  ai (fun(l:Int)=>((p5 c (aF (s::a)) (i:Int) ((a.length:Nat):Int) l).map (Sum.elim (fun(t:Int)=>Sum.inl t) (Sum.elim (fun(t:ByteArray)=>Sum.inr (Sum.inl t)) (fun(t:Unit)=>Sum.inr (Sum.inr t)))):Option ((Int)⊕(ByteArray⊕Unit)))) N (k:Int)
   =some (if(a.reverse.drop k).any (hx c i)=true then Sum.inl (ByteArray.mk #[68]) else Sum.inr ())
 |0,k,N,e,g=>by
  obtain⟨N,rfl⟩: ∃d,N=d+1:=⟨N-1,by omega⟩
  grind [ai,p5,decide_eq_false,List.length,List.drop_eq_nil_of_le]
 |r+1,k,N,e,g=>by
  obtain⟨N,rfl⟩: ∃d,N=d+1:=⟨N-1,by omega⟩
  have u:=Z8 T (s:=s) i1 hi f m r (k+1) N (by omega) (by omega)
  have q:k<a.reverse.length:=by simp;omega
  have j:a.reverse[k]∈a:=by
   simp_all
  have v:=f _ j
  have o:idx (aF (s::a)) (k:Int)=some ((a.reverse[k]:Nat):Int):=by
   unfold idx
   grind [Int.toNat_natCast,eY,List.getElem?_append_left,eX,aF,List.map_reverse,List.getElem?_eq_getElem]
  have w:wrap .i64 ((i:Int)-1)=((i-1:Nat):Int):=by grind [wrap64,Tree.le]
  have y:wrap .i64 (((a.reverse[k]:Nat):Int)-1)=((a.reverse[k]-1:Nat):Int):=by grind [wrap64,Tree.le]
  have z:wrap .i64 ((k:Int)+1)=((k+1:Nat):Int):=by grind [wrap64]
  have n:idx c ((i-1:Nat):Int)=some ((hd c i:Nat):Int):=by
   grind [idx,Int.toNat_natCast,Tree.get]
  have p:idx c ((a.reverse[k]-1:Nat):Int)=some ((hd c a.reverse[k]:Nat):Int):=by
   grind [idx,Int.toNat_natCast,Tree.get]
  have b:p5 c (aF (s::a)) (i:Int) ((a.length:Nat):Int) (k:Int)=some (if hx c i a.reverse[k]=true then Sum.inr (Sum.inl (ByteArray.mk #[68])) else Sum.inl ((k+1:Nat):Int)):=by
   grind [p5,decide_eq_true,List.length,hd,reverse,hx,beq_eq_false_iff_ne]
  grind [List.drop_eq_getElem_cons,ai,hx,reverse]
theorem amm {a:List Int} (T:Tree a) {i:Nat} {st:List Nat} (i1:1<=i) (hi:i<=a.length) (c: ∀x∈st,1<=x/\x<=a.length) (g:st.length<=8):z1 a (aF st) (i:Int)=some (fW (ex a i st)):=by
 have e:z1 a (aF st) (i:Int)=zZ a (aF st) (i:Int):=by unfold z1;rfl
 rw[e]
 unfold zZ Jx
 have f:=eX st
 rw[wrap64 (x:=(((aF st).length:Nat):Int)-1) (by omega) (by omega)]
 match st,c,g,f with
 |[],c,g,f=>rfl
 |s::b,c,g,f=>
  have w:=c s (bk ..)
  have v:=eX b
  have u:=T.le
  simp only[ck] at g f
  have lt:(((aF (s::b)).length:Nat):Int)-1=((b.length:Nat):Int):=by omega
  have t:idx (aF (s::b)) ((b.length:Nat):Int)=some (s:Int):=by
   grind [idx,Int.toNat_natCast,eY]
  have q:wrap .i64 ((i:Int)-1)=((i-1:Nat):Int):=by grind [wrap64]
  have r:wrap .i64 ((s:Int)-1)=((s-1:Nat):Int):=by grind [wrap64]
  have n:idx a ((i-1:Nat):Int)=some ((hd a i:Nat):Int):=by
   grind [idx,Int.toNat_natCast,Tree.get]
  have o:idx a ((s-1:Nat):Int)=some ((hd a s:Nat):Int):=by
   grind [idx,Int.toNat_natCast,Tree.get]
  rw[lt,cy (show¬((b.length:Nat):Int)<0 by omega),t]
  simp only[aq,ac,q,r,n,o,ex]
  by_cases j:hd a s=i
  ·rw[show(((hd a s:Nat):Int)==(i:Int))=true from ce.mpr (by omega),aB j]
   rfl
  ·rw[show(((hd a s:Nat):Int)==(i:Int))=false from d5.2 (by omega),aG j]
   by_cases m:hd a i=s
   ·rw[show(((hd a i:Nat):Int)==(s:Int))=true from ce.mpr (by omega),aB m]
    rfl
   ·rw[show(((hd a i:Nat):Int)==(s:Int))=false from d5.2 (by omega),aG m]
    simp only[aq,ac,Sum.elim_inl]
    unfold Vz Vx Jy Vw Vv
    have l:=Z8 T (s:=s) i1 hi (fun x p=>c x (bB _ p)) (by omega) b.length 0 LL (by omega) (by grind [LL])
    rw[show((0:Nat):Int)=0 from rfl,fl,List.any_reverse] at l
    rw[l]
    have eq:b.any (hx a i)=b.any (fun k=>hd a i==k||hd a k==i):=rfl
    rw[eq]
    by_cases d:b.any (fun k=>hd a i==k||hd a k==i)=true
    ·rw[aB d,aB d]
     rfl
    ·rw[aG d,aG d]
     rfl
theorem Z9 (H:List Int) (i:Nat) (st:List Nat):ex H i st=83\/ex H i st=76\/ex H i st=82\/ex H i st=68:=by
 unfold ex
 grind
theorem amn {m:Nat} (h:m=83\/m=76\/m=82\/m=68):ap (fW m)=[m]/\(fW m).size=1/\hE (fW m) 0=some (m:Int):=by
 rcases h with rfl|rfl|rfl|rfl<;>exact⟨rfl,rfl,rfl⟩
theorem aaa {a:List Int} (T:Tree a) (F:dt a): ∀(k:Nat) (c:cD) (f:ByteArray) (N:Nat),EO a c->2*(a.length+1)+c.2.1.length<=2*c.1+k->f.size+k<=100->k<N->
  ∃mv ms st,ai (fun(s:(List Int)×ByteArray×Int×(List Int))=>((tT a s.1 s.2.1 s.2.2.1 s.2.2.2).map (Sum.elim (fun(t:(List Int)×ByteArray×Int×(List Int))=>Sum.inl (t.1,t.2.1,t.2.2.1,t.2.2.2)) (Sum.elim (fun(t:ByteArray×Bool)=>Sum.inr (Sum.inl t)) (fun(t:ByteArray)=>Sum.inr (Sum.inr t)))):Option (((List Int)×ByteArray×Int×(List Int))⊕((ByteArray×Bool)⊕ByteArray)))) N (aF c.2.1,f,(c.1:Int),eK c.2.2)=some (Sum.inr mv)/\
   ia a k c=some (ms,(a.length+1,st,a))/\ap mv=ap f++ms
 |k,c,f,N,b,e,A,z=>by
  obtain⟨N,rfl⟩: ∃o,N=o+1:=⟨N-1,by omega⟩
  have u:=T.le
  by_cases g:c.1<=a.length
  ·cases k with
   |zero=>omega
   |succ k=>
    obtain⟨d,j,p⟩:=Z2 T F b g
    have D:=(ame b.e j).2.1
    have i1:=b.e.i1
    have E:=mE b.e.dec b.e.aQ i1
    have n:=amm T (st:=c.2.1) i1 g (fun x v=>by have:=b.e.aQ x v;omega) (by omega)
    obtain⟨i,st,h⟩:=c
    have r:=amn (Z9 a i st)
    have l:=amh (m:=ex a i st) b.e u
    simp only at j g n
    rw[j] at l
    simp only at l
    have size:(f++fW (ex a i st)).size=f.size+1:=by
     simp_all
    obtain⟨mv,ms,y,w,B,C⟩:=aaa T F k d (f++fW (ex a i st)) N p (by omega) (by omega) (by omega)
    refine⟨mv,ex a i st::ms,y,?_,?_,?_⟩
    ·unfold ai tT
     simp only
     rw[an (show(i:Int)<=((a.length:Nat):Int) by omega),n]
     simp only[au,ac,r.2.2,l,bo,aq]
     rw[BC (by omega)]
     simp only[ac,bn,Sum.elim_inl]
     exact w
    all_goals grind [ia,Z4,List.append_assoc,List.singleton_append]
  ·obtain⟨i,st,h⟩:=c
   have hi:=b.e.hi
   have:i=a.length+1:=by omega
   subst this
   have q:=b.done T
   subst q
   refine⟨f,[],st,?_,?_,by simp⟩
   ·grind [ai,tT,decide_eq_false]
   ·cases k<;>(unfold ia;rw[if_neg g])
theorem aab {a:List Int} (c:a.length<=8): ∀(r k N:Nat),k+r=a.length->r<N->
  ai (fun(s:Int×(List Int))=>((tS a s.1 s.2).map (Sum.elim (fun(t:Int×(List Int))=>Sum.inl (t.1,t.2)) (fun(t:(List Int))=>Sum.inr t)):Option ((Int×(List Int))⊕(((List Int)))))) N ((k:Int),replicate k (-1))
   =some (replicate a.length (-1))
 |0,k,N,e,d=>by
  obtain⟨N,rfl⟩: ∃b,N=b+1:=⟨N-1,by omega⟩
  grind [ai,tS,decide_eq_false,List.length]
 |r+1,k,N,e,d=>by
  obtain⟨N,rfl⟩: ∃b,N=b+1:=⟨N-1,by omega⟩
  have w:wrap .i64 ((k:Int)+1)=((k+1:Nat):Int):=by grind [wrap64]
  have f:=aab c r (k+1) N (by omega) (by omega)
  unfold ai tS
  simp only
  rw[an (show(k:Int)<((a.length:Nat):Int) by omega),fv (by simp;omega),w]
  simp only[au,ac,bn,Sum.elim_inl]
  rw[show replicate k (-1:Int)++ [-1]=replicate (k+1) (-1) from(List.replicate_succ').symm]
  exact f
theorem LX {a:List Int} (T:Tree a) (F:dt a): ∃mv ms st,jx a=some (mv,true)/\ia a (2*a.length) (1,[],replicate a.length 0)=some (ms,(a.length+1,st,a))/\ap mv=ms:=by
 have i:=T.pos
 have d:=T.le
 obtain⟨mv,ms,st,g,b,c⟩:=aaa T F (2*a.length) (1,[],replicate a.length 0) empty LL (EO.start T)
  (by grind) (by show 0+2*a.length<=100;omega) (by grind [LL])
 refine⟨mv,ms,st,?_,b,c⟩
 have e:jx a=tU a:=by unfold jx;rfl
 have f:dm a=true:=by unfold dm;rw[(bM a).mpr T,qj.mpr F];rfl
 have l:=aab d a.length 0 LL (by omega) (by grind [LL])
 rw[show((0:Nat):Int)=0 from rfl,show replicate 0 (-1:Int)=[] from rfl] at l
 rw[e]
 unfold tU z6
 rw[qk a (by omega),f]
 simp only[ac,bo,aq,Sum.elim_inl]
 unfold VM VH JH VG VF
 rw[l]
 simp only[ac,bn]
 simp_all [VL,JI,VK,VJ,VI,JJ,ami,aF]
theorem LY {a:List Int} (b:a.length<=1048576) (f:dm a=false):jx a=some (empty,false):=by
 simp_all [jx,tU,z6,qk]
def LZ (a b j:Nat):Bool:=(blt a j&&blt j b)||(blt b j&&blt j a)
def L0 (a b j:Nat):Bool:=(blt j a&&blt j b)||(blt a j&&blt b j)
def uH (a b c d:Nat):Bool:=(LZ a b c&&L0 a b d)||(LZ a b d&&L0 a b c)
def uI (w v:Nat):Nat->List Nat->Bool
 |_,[]=>true
 |i,x::xs=> !(uH i x w v)&&uI w v (i+1) xs
def uJ (a:List Nat) (w:Nat):Nat->Nat->Bool
 |0,_=>true
 |f+1,x=>beq x 0||blt w x||(!(beq x w)&&uJ a w f (a.getD (x-1) 0))
def BD (a:List Nat) (b:Nat):Bool:=
 uJ a (a.length+1) 9 b&&uI (a.length+1) b 1 a&& !(beq b 0&&a.contains 0)
def mF (P:List Int->Bool) (n:Nat):Nat->List Nat->Bool
 |0,a=>P (a.map Int.ofNat)
 |k+1,a=>(range (n+1)).all fun b=> !(BD a b)||mF P n k (a++ [b])
def fX (h:List Int) (j:Nat):List Nat:=(range j).map fun i=>hd h (i+1)
theorem amo (h:List Int) (j:Nat):fX h (j+1)=fX h j++ [hd h (j+1)]:=by
 simp[fX,f2]
theorem amp {h:List Int} (T:Tree h):(fX h h.length).map Int.ofNat=h:=by
 apply j5
 ·simp[fX]
 ·intro i a b
  have:=T.get (w:=i+1) (by omega) (by omega)
  grind [List.getElem?_eq_getElem,fX]
theorem amq (a b c d:Nat):uH a b c d=true↔(bD a b c/\iQ a b d)\/(bD a b d/\iQ a b c):=by
 grind [blt,Nat.blt_eq,uH,LZ,L0,bD,iQ]
theorem amr {h:List Int} (T:Tree h) (F:dt h) {w a:Nat} (f:1<=w) (g:w<=h.length) (v1:1<=a) (v2:a<=h.length) (ne:w≠a):
  uH w (hd h w) a (hd h a)=false:=by
 rw[j6]
 intro x
 rw[amq] at x
 have i:=(qn T).mp F
 by_cases d:hd h w=0
 ·have e:=(T.eG f g).mp d
  have c:hd h a≠0:=fun j=>ne (e.trans ((T.eG v1 v2).mp j).symm)
  have b:bD a (hd h a) w:=by
   grind [bD,iQ]
  have:=i a w v1 v2 c b
  grind [Tree.AY,bD]
 ·by_cases c:hd h a=0
  ·have e:=(T.eG v1 v2).mp c
   have b:bD w (hd h w) a:=by
    grind [bD,iQ]
   have:=i w a f g d b
   grind [Tree.AY,bD]
  ·have N:=(YE T).mp ((akB T).mp F).1 w a f g d v1 v2 c
   exact N x
theorem aac (w a:Nat): ∀(l:List Nat) (i:Nat),(∀k (c:k<l.length),uH (i+k) l[k] w a=false)->uI w a i l=true
 |[],_,_=>rfl
 |x::xs,i,h=>by
  unfold uI
  have b:=h 0 (by simp)
  simp only[gY,List.getElem_cons_zero] at b
  rw[b,aac w a xs (i+1) (fun k c=>by
   have:=h (k+1) (by simp;omega)
   grind)]
  rfl
theorem ams (h:List Int) {i j:Nat} (hi:i<j):(fX h j).getD i 0=hd h (i+1):=by simp[fX,getD,hi]
theorem aad {h:List Int} (T:Tree h) {j:Nat} (a:j<h.length): ∀(f x:Nat),(x=0\/aL h (hd h (j+1)) x)->uJ (fX h j) (j+1) f x=true
 |0,_,_=>rfl
 |f+1,x,u=>by
  unfold uJ
  simp only[eA,aT,Nat.beq_eq_true_eq,Nat.blt_eq,gv]
  by_cases b:x=0
  ·simp_all
  ·have u:=u.resolve_left b
   have r:=T.iM u
   by_cases c:j+1<x
   ·omega
   ·have d:x≠j+1:=by
     grind [hd,Tree.iN,Tree.kP,Tree.nP]
    refine .inr ⟨?_,?_⟩
    ·grind [Nat.eq_of_beq_eq_true]
    ·rw[ams h (show x-1<j by omega),show x-1+1=x by omega]
     refine aad T a f _ ?_
     grind [hd,Tree.KQ,Tree.iN]
theorem amt {h:List Int} (T:Tree h) (F:dt h) {j:Nat} (c:j<h.length):BD (fX h j) (hd h (j+1))=true:=by
 have d:(fX h j).length=j:=by simp[fX]
 unfold BD
 rw[d]
 have a:uJ (fX h j) (j+1) 9 (hd h (j+1))=true:=by
  refine aad T c 9 _ ?_
  by_cases z:hd h (j+1)=0
  ·exact .inl z
  ·exact .inr (.refl (Nat.pos_of_ne_zero z) (T.cW (w:=j+1) (by omega) (by omega)))
 have b:uI (j+1) (hd h (j+1)) 1 (fX h j)=true:=by
  grind [aac,fX,hd,Nat.add_comm,amr]
 rw[a,b]
 simp only[d6,gv,Bool.and_eq_false_iff]
 grind [hd,List.contains_iff_mem,fX,Tree.eG,Nat.eq_of_beq_eq_true]
theorem aae {h:List Int} (T:Tree h) (F:dt h) {P:List Int->Bool}: ∀(k j:Nat),j+k=h.length->mF P h.length k (fX h j)=true->P h=true
 |0,j,e,s=>by
  grind [List.length,mF,amp]
 |k+1,j,e,s=>by
  unfold mF at s
  rw[bT] at s
  have a:=T.cW (w:=j+1) (by omega) (by omega)
  have:=s (hd h (j+1)) (by grind)
  rw[<-amo,amt T F (by omega)] at this
  refine aae T F k (j+1) (by omega) ?_
  simp_all
theorem amu {P:List Int->Bool} {n:Nat} (s:mF P n n []=true) {h:List Int} (T:Tree h) (F:dt h) (e:h.length=n):P h=true:=by
 subst e
 exact aae T F h.length 0 (by omega) s
def uK:Nat->Nat
 |0=>0|1=>1|2=>2|3=>7|4=>30|5=>143|6=>728|_=>0
def amv:Nat->Nat
 |0=>1|1=>1|2=>3|3=>12|4=>55|5=>273|6=>1428|_=>0
theorem aaf:((range 7).all fun n=>mb (n:Int)==some (amv n:Int))=true:=by decide+kernel
theorem amw:((range 7).all fun n=>z7 (n:Int)==some (uK n:Int))=true:=by decide+kernel
def aag (f:Int->Option Int) (t:Nat->Nat) (x:Int):Option Int:=
 match x with
 | .ofNat n=>cond (ble n 6) (some (t n:Int)) (f x)
 | .negSucc _=>f x
theorem L1 {f:Int->Option Int} {t:Nat->Nat} (h:((range 7).all fun n=>f (n:Int)==some (t n:Int))=true):f=aag f t:=by
 funext x
 cases x<;>grind [aag,ble,Nat.le_of_ble_eq_true]
def aah (L:Nat) (x:Int):Int:=
 match x with
 | .ofNat n=>cond (ble n L) (.ofNat n) (wrap .i64 x)
 | .negSucc n=>cond (ble n L) (.negSucc n) (wrap .i64 x)
theorem amx (n a:Nat) (b:(a:Int)<=9223372036854775807) (h:n<=a):wrap .i64 (n:Int)=(n:Int):=wrap64 (by omega) (by omega)
theorem amy (n a:Nat) (b:(a:Int)<=9223372036854775807) (h:n<=a):wrap .i64 (Int.negSucc n)=Int.negSucc n:=by
 grind [Int.negSucc_eq,wrap64]
theorem aai {d:Type} {n c:Nat} {a b:d} (h:n<=c->b=a):b=cond (ble n c) a b:=by
 cases e:ble n c<;>simp_all
theorem amz (a:Nat) (b:(a:Int)<=9223372036854775807):wrap .i64=aah a:=by
 funext x
 cases x with
 |ofNat n=>exact aai (amx n a b)
 |negSucc n=>exact aai (amy n a b)
def amA:Int->Int:=aah 1000000000000000000
theorem aaj:wrap .i64=amA:=amz 1000000000000000000 (by omega)
def ti (a b:Int):Bool:=
 match a,b with
 | .ofNat a,.ofNat b=>blt a b
 | .negSucc _,.ofNat _=>true
 | .ofNat _,.negSucc _=>false
 | .negSucc a,.negSucc b=>blt b a
def vs (a b:Int):Bool:=
 match a,b with
 | .ofNat a,.ofNat b=>ble a b
 | .negSucc _,.ofNat _=>true
 | .ofNat _,.negSucc _=>false
 | .negSucc a,.negSucc b=>ble b a
theorem aak (a b:Int):decide (a<b)=ti a b:=by
 cases a<;>cases b<;>simp only[ti,Int.ofNat_eq_natCast,Int.negSucc_eq]<;>rw[e0]<;>simp<;>omega
theorem aal (a b:Int):decide (a<=b)=vs a b:=by
 cases a<;>cases b<;>simp only[vs,Int.ofNat_eq_natCast,Int.negSucc_eq]<;>rw[e0]<;>simp<;>omega
abbrev mG:=List Int->Int->Int->Int->Option Int
def aam:{F:mG->mG->mG//z8=F}:=by
 apply Subtype.mk
 unfold z8 JM V2 JL V1 V0 VZ JK
 rewrite [L1 aaf,aaj]
 simp only[aak,aal]
 exact rfl
def aan:{F:mG->mG->mG//Aa=F}:=by
 apply Subtype.mk
 unfold Aa JP Wg Wf We Wd Wc JO Wb Wa V9 JN
 rewrite [L1 aaf,L1 amw,aaj]
 simp only[aak,aal]
 exact rfl
def mH:Nat->mG×mG
 |0=>((fun _ _ _ _=>none),(fun _ _ _ _=>none))
 |n+1=>(aam.1 (mH n).1 (mH n).2,aan.1 (mH n).1 (mH n).2)
theorem aao: ∀n,hh n=mH n
 |0=>rfl
 |n+1=>by
  show((fun a b c d=>z8 (hh n).1 (hh n).2 a b c d),(fun a b c d=>Aa (hh n).1 (hh n).2 a b c d))=mH (n+1)
  rw[aao n,aam.2,aan.2]
  rfl
theorem amB:tV=(mH RR).1:=by
 rw[<-aao]
 funext a b c d
 unfold tV
 rfl
def fN {a:Type} (n:Nat) (k:Nat->a):a:=
 match n with
 |0=>k 0|1=>k 1|2=>k 2|3=>k 3|4=>k 4|5=>k 5|6=>k 6|7=>k 7|8=>k 8|n=>k n
theorem uL {a:Type} (n:Nat) (k:Nat->a):fN n k=k n:=by unfold fN;split<;>rfl
def fI {a:Type} (x:Int) (k:Int->a):a:=
 match x with
 | .ofNat n=>fN n fun n=>k (.ofNat n)
 | .negSucc n=>k (.negSucc n)
theorem amC {a:Type} (x:Int) (k:Int->a):fI x k=k x:=by cases x<;>simp only[fI,uL]
def fL {a:Type} (l:List Int) (k:List Int->a):a:=
 match l with
 |[]=>k []
 |x::xs=>fI x fun x=>fL xs fun xs=>k (x::xs)
theorem aap {a:Type}: ∀(l:List Int) (k:List Int->a),fL l k=k l
 |[],k=>rfl
 |x::xs,k=>by rw[fL,amC,aap xs]
def fM {a:Type} (l:List Nat) (k:List Nat->a):a:=
 match l with
 |[]=>k []
 |x::xs=>fN x fun x=>fM xs fun xs=>k (x::xs)
theorem BE {a:Type}: ∀(l:List Nat) (k:List Nat->a),fM l k=k l
 |[],k=>rfl
 |x::xs,k=>by rw[fM,uL,BE xs]
def de (P:List Int->Bool) (n:Nat):Nat->List Nat->Bool
 |0,a=>fL (a.map Int.ofNat) P
 |k+1,a=>(range (n+1)).all fun b=>fN b fun b=> !(BD a b)||fM (a++ [b]) fun c=>de P n k c
theorem aaq (P:List Int->Bool) (n:Nat): ∀k a,de P n k a=mF P n k a
 |0,a=>by rw[de,mF,aap]
 |k+1,a=>by
  rw[de,mF]
  congr 1
  funext b
  rw[uL,BE,aaq P n k]
theorem aar {P:List Int->Bool} {n:Nat} (s:de P n n []=true) {h:List Int} (T:Tree h) (F:dt h) (e:h.length=n):P h=true:=
 amu (by grind [aaq]) T F e
def uM (h:List Int):Option Int:=(mH RR).1 h 1 (h.length:Int) (top h:Int)
theorem amD {P:List Int->Bool} {k:Nat} (h: ∀a,a<=k+1->a≠1->de P (k+1) k [a]=true):de P (k+1) (k+1) []=true:=by
 rw[de,bT]
 intro a b
 rw[uL,BE,hC]
 by_cases e:a=1
 ·subst e
  rfl
 grind
def lb (h:List Int):Bool:=
 match uM h with
 |some (.ofNat k)=>blt k (uK h.length)
 |_=>false
theorem amE:((range 5).all fun n=>de lb (n+1) (n+1) [])=true:=by decide+kernel
theorem amF:de lb 6 5 [0]=true:=by decide+kernel
theorem amG:de lb 6 5 [2]=true:=by decide+kernel
theorem amH:de lb 6 5 [3]=true:=by decide+kernel
theorem amI:de lb 6 5 [4]=true:=by decide+kernel
theorem amJ:de lb 6 5 [5]=true:=by decide+kernel
theorem amK:de lb 6 5 [6]=true:=by decide+kernel
theorem amL {P:List Int->Bool} {k:Nat} (h: ∀a,a<=k+1->a≠1->de P (k+1) k [a]=true):de P (k+1) (k+1) []=true:=by
 rw[de,bT]
 intro a b
 rw[uL,BE,hC]
 by_cases e:a=1
 ·subst e
  rfl
 grind
theorem amM {n:Nat} (a:1<=n) (b:n<=6):de lb n n []=true:=by
 by_cases e:n=6
 ·grind [amL,amF,amG,amH,amI,amJ,amK]
 ·have s:=bT.mp amE (n-1) (by grind)
  simp_all
theorem L2 {h:List Int} (T:Tree h) (F:dt h) (l:h.length<=6): ∃k:Nat,k<uK h.length/\uM h=some (k:Int):=by
 have a:=T.pos
 have c:=aar (amM a l) T F rfl
 unfold lb at c
 split at c
 all_goals grind [Nat.blt_eq]
theorem L3 {o a:List Int} {m:Nat} (v:m<=1000000) (w:o.length=m) (e: ∀x∈o,1<=x/\x<=(m:Int)) (t:a.length=m) {k at_:Int} (d:0<=k) (u:k<m) (c:0<=at_) (s:at_<m) {q:Type} (f:List Int->q):
  ∃l:List Int,l.length=m/\((al k (List.length o)).bind fun(g:Nat)=>(o[g]?).bind fun(i:Int)=>(al at_ (List.length o)).bind fun(j:Nat)=>(o[j]?).bind fun(n:Int)=>(al (wrap .i64 (i-1)) (List.length a)).bind fun(p:Nat)=>some (f (a.set p n)))=some (f l):=by
 have b:k.toNat<o.length:=by omega
 have r:at_.toNat<o.length:=by omega
 have y:=e o[k.toNat] (cT b)
 refine⟨a.set (o[k.toNat]-1).toNat o[at_.toNat],by grind,?_⟩
 rw[kT d (by omega),kT c (by omega)]
 grind [List.getElem?_eq_getElem,wrap64,kT]
theorem aas {b:List Int} (g:Bytes b) (n:Int) (b1:n<=1000) {p:Int} (S:0<=p) (b3:p<=999990000):
  ∃(f:Int) (h:List Int),wB n b p=some (f,h)/\p<=f/\f<=p+300/\h.length<=8:=by
 unfold wB DY DV
 obtain⟨y,U,c0,Y,_⟩:=cI g 7 (by omega) S (by omega)
 have c1:=Y (by omega)
 obtain⟨m,N⟩: ∃m:Nat,1+y=(m:Int):=⟨(1+y).toNat,by omega⟩
 obtain⟨i,o,P,b5,b6,u,v⟩:=YH g m (by omega) (p:=p+1) (by omega) (by omega)
 obtain⟨A,O,b4,_⟩:=cI g 2 (by omega) (p:=i) (by omega) (by omega)
 simp only[U,ac]
 rw[wrap64 (x:=1+y) (by omega) (by omega),N]
 simp only[P,hn (show m<=1099511627776 by omega),O,ac]
 unfold OB OA DW Oz Oy
 obtain⟨⟨W,j⟩,G,H,J,K⟩:=nX (body:=fun(s:Int×Int×List Int)=>((wA m A s.1 b s.2.1 o s.2.2).map (Sum.elim (fun(t:Int×Int×List Int)=>Sum.inl (t.1,t.2.1,t.2.2)) (fun(t:Int×List Int)=>Sum.inr t)):Option ((Int×Int×List Int)⊕((Int×List Int)))))
  (I:=fun s=> ∃(k:Nat) (f:Int) (j:List Int),s=((k:Int),f,j)/\1<=k/\k<=m/\i<=f/\f<=i+1+2*k/\j.length=m) (μ:=fun s=>m-s.1.toNat)
  (Q:=fun t=>i<=t.1/\t.1<=i+20/\t.2.length=m)
  (by
   rintro _ ⟨k,f,j,rfl,a8,a7,X,b9,q⟩
   simp only[wA]
   by_cases a9:k<m
   ·left
    rw[show decide ((k:Int)<(m:Int))=true from an (by omega),wrap64 (x:=(k:Int)+1) (by omega) (by omega),wrap64 (x:=(k:Int)-1) (by omega) (by omega)]
    obtain⟨a,L,Z,B,_⟩:=cI g (k:Int) (by omega) (p:=f) (by omega) (by omega)
    have a0:=B (by omega)
    obtain⟨c,r,_⟩:=cI g 2 (by omega) (p:=f+1) (by omega) (by omega)
    simp only[au,L,ac]
    have b0:m-(((k:Int)+1)).toNat<m-((k:Int)).toNat:=by omega
    cases b2:(A==1) with
    |true=>
     simp only[au,r,ac]
     cases a5:(c==0) with
     |true=>
      obtain⟨l,z,e⟩:=L3 (by omega) u v q (k:=(k:Int)) (at_:=(k:Int)-1) (by omega) (by omega) (by omega) (by omega) (fun l=>(Sum.inl ((k:Int)+1,f+1+1,l):(Int×Int×List Int)⊕(Int×List Int)))
      grind
     |false=>
      obtain⟨l,z,e⟩:=L3 (by omega) u v q (k:=(k:Int)) (at_:=a) (by omega) (by omega) (by omega) (by omega) (fun l=>(Sum.inl ((k:Int)+1,f+1+1,l):(Int×Int×List Int)⊕(Int×List Int)))
      grind
    |false=>
     obtain⟨l,z,e⟩:=L3 (by omega) u v q (k:=(k:Int)) (at_:=a) (by omega) (by omega) (by omega) (by omega) (fun l=>(Sum.inl ((k:Int)+1,f+1,l):(Int×Int×List Int)⊕(Int×List Int)))
     grind
   ·right
    have e:k=m:=by omega
    subst e
    rw[show decide ((k:Int)<(k:Int))=false from cy (by omega)]
    exact⟨_,rfl,X,by omega,q⟩) LL (1,i+1,replicate m 0) ⟨1,i+1,_,rfl,by omega,by omega,by omega,by omega,by simp⟩ (by grind [LL])
 rw[G]
 simp only at H J K
 simp only[ac,bn]
 unfold DX
 obtain⟨V,w,R,b7,b8⟩:=KY g n (by omega) (p:=W) (by omega) (by omega)
 obtain⟨c,r,a1,a2,_⟩:=cI g 4 (by omega) (p:=w) (by omega) (by omega)
 obtain⟨d,hd,C,D,_⟩:=cI g (m:Int) (by omega) (p:=w+1) (by omega) (by omega)
 have a3:=D (by omega)
 obtain⟨e,M,E,F,_⟩:=cI g 3 (by omega) (p:=w+1) (by omega) (by omega)
 have a4:=F (by omega)
 simp only[R,ac]
 cases V with
 |false=>grind
 |true=>
  simp only[au,r,ac]
  cases (c==0) with
  |true=>grind
  |false=>
   cases (c==1) with
   |true=>grind
   |false=>
    cases (c==2) with
    |true=>
     simp only[au,aq,hd,ac,kT C (show d<(j.length:Nat) by omega)]
     grind [room_le]
    |false=>
     simp only[au,aq,M,ac]
     have a6:al e (List.length ([1,(wrap .i64 ((m:Int)+1)),(-1)]))=some e.toNat:=kT E (by simp;omega)
     grind [al,List.length,kT,Int.toNat,wrap,List.getElem?_eq_getElem]
theorem amN {b:List Int} (u:Bytes b) (m:Nat) (a4:m<=20): ∀(f:Nat) (low c v p:Int) (g:List Int),(c-low+1).toNat<f->1<=low->low<=c+1->c<=m->g.length=m->0<=p->p+2*(c-low+1)<=999980000->
  ∃(d:Int) (e:List Int),nv f low c v b p g=some (d,e)/\p<=d/\d<=p+2*(c-low+1)/\(low<=c->d+1<=p+2*(c-low+1))/\e.length=m:=by
 intro f
 induction f with
 |zero=>omega
 |succ f A=>
  intro low c v p g a3 Z a0 a1 N a5 a6
  simp only[nv]
  generalize a2:nv f=R0 at A
  unfold O9 Ep En
  by_cases D:low>c
  ·rw[an D]
   exact⟨p,g,rfl,by omega,by omega,by omega,N⟩
  ·rw[cy D]
   obtain⟨o,O,a8,S,_⟩:=cI u (c-low+1) (by omega) (p:=p) (by omega) (by omega)
   have a9:=S (by omega)
   rw[wrap64 (x:=c-low) (by omega) (by omega),wrap64 (x:=c-low+1) (by omega) (by omega)]
   simp only[aq,O,ac]
   rw[wrap64 (x:=low+o) (by omega) (by omega),wrap64 (x:=low+o-1) (by omega) (by omega),kT (by omega) (show low+o-1<(g.length:Nat) by omega)]
   simp only[ac,Sum.elim_inl]
   generalize a7:low+o=root
   unfold O8 O4 O3 O7 Eo O6 O5
   obtain⟨⟨F,E⟩,M,G,H,C⟩:=nX (body:=fun(s:Int×Int×(List Int))=>((wK R0 root s.1 b s.2.1 s.2.2).map (Sum.elim (fun(t:Int×Int×(List Int))=>Sum.inl (t.1,t.2.1,t.2.2)) (fun(t:Int×(List Int))=>Sum.inr t)):Option ((Int×Int×(List Int))⊕((Int×(List Int))))))
    (I:=fun s=> ∃(a d:Int) (e:List Int),s=(a,d,e)/\low<=a/\a<=root/\p+1<=d/\d<=p+1+2*(a-low)/\e.length=m) (μ:=fun s=>(root-s.1).toNat)
    (Q:=fun t=>p+1<=t.1/\t.1<=p+1+2*(root-low)/\t.2.length=m)
    (by
     rintro _ ⟨a,d,e,rfl,i1,P,z,R,l⟩
     simp only[wK]
     by_cases k:a<root
     ·left
      rw[an k,wrap64 (x:=root-a) (by omega) (by omega)]
      obtain⟨w,y,U,B,_⟩:=cI u (root-a) (by omega) (p:=d) (by omega) (by omega)
      have V:=B (by omega)
      simp only[au,y,ac]
      rw[wrap64 (x:=a+w) (by omega) (by omega),wrap64 (x:=a+w+1) (by omega) (by omega)]
      obtain⟨j,i,n,J,K,r,q⟩:=A a (a+w) root (d+1) e (by omega) (by omega) (by omega) (by omega) l (by omega) (by omega)
      have L:=r (by omega)
      rw[n]
      exact⟨(a+w+1,j,i),rfl,⟨a+w+1,j,i,rfl,by omega,by omega,by omega,by omega,q⟩,by omega⟩
     ·right
      rw[cy k]
      exact⟨(d,e),rfl,z,by omega,l⟩) LL (low,p+1,g.set (root-1).toNat v) ⟨low,p+1,_,rfl,by omega,by omega,by omega,by omega,by grind⟩ (by grind [LL])
   simp only at G H C
   rw[M]
   simp only[bn,ac]
   rw[wrap64 (x:=root+1) (by omega) (by omega)]
   obtain⟨⟨j,i⟩,n,W,X,Y⟩:=nX (body:=fun(s:Int×Int×(List Int))=>((wL R0 c root s.1 b s.2.1 s.2.2).map (Sum.elim (fun(t:Int×Int×(List Int))=>Sum.inl (t.1,t.2.1,t.2.2)) (fun(t:Int×(List Int))=>Sum.inr t)):Option ((Int×Int×(List Int))⊕((Int×(List Int))))))
    (I:=fun s=> ∃(a d:Int) (e:List Int),s=(a,d,e)/\root+1<=a/\a<=c+1/\p+1<=d/\d<=p+1+2*(root-low)+2*(a-root-1)/\e.length=m) (μ:=fun s=>(c+1-s.1).toNat)
    (Q:=fun t=>p+1<=t.1/\t.1<=p+1+2*(c-low)/\t.2.length=m)
    (by
     rintro _ ⟨a,d,e,rfl,i1,P,z,R,l⟩
     simp only[wL]
     by_cases k:a<=c
     ·left
      rw[an k,wrap64 (x:=c-a) (by omega) (by omega),wrap64 (x:=c-a+1) (by omega) (by omega)]
      obtain⟨w,y,U,B,_⟩:=cI u (c-a+1) (by omega) (p:=d) (by omega) (by omega)
      have V:=B (by omega)
      simp only[au,y,ac]
      rw[wrap64 (x:=a+w) (by omega) (by omega),wrap64 (x:=a+w+1) (by omega) (by omega)]
      obtain⟨j,i,n,J,K,r,q⟩:=A a (a+w) root (d+1) e (by omega) (by omega) (by omega) (by omega) l (by omega) (by omega)
      have L:=r (by omega)
      rw[n]
      exact⟨(a+w+1,j,i),rfl,⟨a+w+1,j,i,rfl,by omega,by omega,by omega,by omega,q⟩,by omega⟩
     ·right
      rw[cy k]
      exact⟨(d,e),rfl,z,by omega,l⟩) LL (root+1,F,E) ⟨root+1,F,E,rfl,by omega,by omega,by omega,by omega,C⟩ (by grind [LL])
   grind
theorem amO {b:List Int} (d:Bytes b) (n:Int) (j:n<=1000) {p:Int} (w:0<=p) (y:p<=999970000):
  ∃(a:Int) (h:List Int),pq n b p=some (a,h)/\p<=a/\a<=p+400/\h.length<=8:=by
 have e:pq n b p=rH n b p:=by unfold pq;rfl
 rw[e]
 unfold rH
 obtain⟨c,g,s,_⟩:=cI d 3 (by omega) (p:=p) (by omega) (by omega)
 simp only[g,ac]
 cases (c==0) with
 |true=>
  obtain⟨a,h,k,o,q,u⟩:=aas d n j (p:=p+1) (by omega) (by omega)
  grind
 |false=>
  obtain⟨f,l,A,r,_⟩:=cI d 7 (by omega) (p:=p+1) (by omega) (by omega)
  have B:=r (by omega)
  obtain⟨m,i⟩: ∃m:Nat,1+f=(m:Int):=⟨(1+f).toNat,by omega⟩
  simp only[aq,l,ac]
  rw[wrap64 (x:=1+f) (by omega) (by omega),i,hn (by omega)]
  have t:rG 1 (m:Int) 0 b (p+1+1) (replicate m 0)=nv RR 1 (m:Int) 0 b (p+1+1) (replicate m 0):=by unfold rG pp;rfl
  obtain⟨a,z,k,o,q,_,v⟩:=amN d m (by omega) RR 1 (m:Int) 0 (p+1+1) (replicate m 0) (by grind [RR]) (by omega) (by omega) (by omega) (by simp) (by omega) (by omega)
  grind
theorem amP (n:Nat):uK n<=728:=by unfold uK;grind
noncomputable def ib (h:List Int):Int:=if dm h=true/\h.length<=6 then(uM h).getD 0 else-1
theorem oq {h:List Int}:dm h=true↔Tree h/\dt h:=by
 grind [dm,bM,qj]
theorem amQ (h:List Int) (a:h.length<=1048576):JQ h=some (ib h):=by
 unfold JQ Ab ib
 rw[qk h a]
 cases f:dm h with
 |false=>simp
 |true=>
  obtain⟨T,F⟩:=oq.mp f
  simp only[ac,bo,aq,true_and]
  by_cases l:h.length<=6
  ·obtain⟨k,c,b⟩:=L2 T F l
   rw[cy (by omega),aB l,K5 h a,amB]
   unfold uM at b⊢
   have:fu h=(top h:Int):=by unfold fu;rw[(bM h).mpr T];rfl
   simp only[aq,ac,this,b,ih]
  ·rw[an (by omega),aG l]
   rfl
noncomputable def iZ (h:List Int) (w:Nat):Nat:=aH (fun i=>ind (eU h (i+1) w)) h.length
theorem size_le (h:List Int) (w:Nat):iZ h w<=h.length:=by
 have:=ux (f:=fun i=>ind (eU h (i+1) w)) (g:=fun _=>1) (n:=h.length) fun i _=>Zd _
 simp_all [mx,iZ]
def fY:List Nat->Nat
 |[]=>0
 |x::r=>x*r.length+fY r
def cd:List Nat->Nat->List Nat×List Nat
 |[],_=>([],[])
 |x::r,s=>if s%2=1 then(x::(cd r (s/2)).1,(cd r (s/2)).2) else((cd r (s/2)).1,x::(cd r (s/2)).2)
theorem aat: ∀(l:List Nat) (s:Nat),(cd l s).1.Sublist l/\(cd l s).2.Sublist l
 |[],_=>⟨List.Sublist.refl _,List.Sublist.refl _⟩
 |x::r,s=>by
  have a:=aat r (s/2)
  grind [cd]
def fw (l:List Nat) (root:Bool) (s:Nat):Nat:=fY (cd l s).2+fY (cd l s).1+if root=true then 0 else(cd l s).1.sum
def ja (f:Nat->Nat):Nat->Nat
 |0=>f 0
 |n+1=>min (ja f n) (f (n+1))
theorem L4 {f:Nat->Nat}: ∀{n k:Nat},k<=n->ja f n<=f k
 |0,k,h=>by
  have:k=0:=by omega
  subst this
  exact aS _
 |n+1,k,h=>by
  unfold ja
  by_cases e:k=n+1
  ·grind
  ·exact fy (Nat.min_le_left _ _) (L4 (by omega))
theorem BF {f:Nat->Nat}: ∀n,∃k,k<=n/\ja f n=f k
 |0=>⟨0,aS _,rfl⟩
 |n+1=>by
  obtain⟨k,a,e⟩:=BF (f:=f) n
  grind [ja,Nat.min_eq_left,Nat.min_eq_right]
def jS (l:List Nat) (root:Bool):Nat:=ja (fw l root) (2^l.length-1)
theorem amR {l:List Nat} {root:Bool} {s:Nat} (a:s<2^l.length):jS l root<=fw l root s:=L4 (by omega)
def hz (out:List Nat) (x:Nat):List Nat:=out.takeWhile (fun y=>decide (y<x))++x::out.dropWhile (fun y=>decide (y<x))
theorem L5 (out:List Nat) (x:Nat):(hz out x).Perm (x::out):=by
 have:=List.perm_middle (a:=x) (l₁:=out.takeWhile (fun y=>decide (y<x))) (l₂:=out.dropWhile (fun y=>decide (y<x)))
 rw[m6] at this
 exact this
theorem aau {out:List Nat} (b:out.Pairwise (· <= ·)) (x:Nat):(hz out x).Pairwise (· <= ·):=by
 induction out with
 |nil=>simp[hz]
 |cons e r d=>
  rw[d7] at b
  unfold hz
  by_cases a:e<x
  ·rw[List.takeWhile_cons_of_pos (by simpa using a),List.dropWhile_cons_of_pos (by simpa using a),e7,d7]
   refine⟨fun z c=> ?_,d b.2⟩
   have:=(L5 r x).subset c
   grind
  grind [List.takeWhile_cons_of_neg,List.dropWhile_cons_of_neg,List.pairwise_cons]
def ic (l:List Nat):List Nat:=l.foldl hz []
theorem L6: ∀(l out:List Nat),out.Pairwise (· <= ·)->(l.foldl hz out).Pairwise (· <= ·)/\(l.foldl hz out).Perm (l++out)
 |[],out,a=>⟨a,List.Perm.refl _⟩
 |x::l,out,a=>by
  have b:=L6 l (hz out x) (aau a x)
  grind [Trans.trans,L5,List.perm_middle]
theorem amS (l:List Nat):(ic l).Pairwise (· <= ·):=(L6 l [] List.Pairwise.nil).1
theorem uN (l:List Nat):(ic l).Perm l:=by
 have:=(L6 l [] List.Pairwise.nil).2
 rwa[gd] at this
theorem aav: ∀{l a:List Nat},l.Pairwise (· <= ·)->a.Pairwise (· <= ·)->l.Perm a->l=a
 |[],a,_,_,p=>(List.nil_perm.mp p).symm
 |x::r,[],_,_,p=>absurd p.length_eq (by simp)
 |x::r,c::g,s,b,p=>by
  rw[d7] at s b
  have d:=p.subset (bk ..)
  have f:=p.symm.subset (bk ..)
  have e:x=c:=by
   grind
  subst e
  rw[aav s.2 b.2 p.cons_inv]
def dZ (h:List Int) (w:Nat):List Nat:=((range h.length).map (· +1)).filter fun k=>hd h k==w
noncomputable def eL (h:List Int) (w:Nat):List Nat:=ic ((dZ h w).map (iZ h))
noncomputable def gW (h:List Int) (w:Nat):Nat:=jS (eL h w) (hd h w==0)
noncomputable def ot (h:List Int):Nat:=(h.length-1)+aH (fun i=>gW h (i+1)) h.length
def bl (l:List Nat):List Int:=l.map fun(x:Nat)=>(x:Int)
theorem gG (l:List Nat):(bl l).length=l.length:=by simp[bl]
theorem qz (l:List Nat) (k:Nat):(bl l)[k]? =(l[k]?).map fun(x:Nat)=>(x:Int):=by simp[bl]
theorem aaw {h:List Int} (T:Tree h) {w:Nat}:(cn (bq h w)).length=iZ h w:=by
 unfold bq iZ
 rw[KO _ T.le,eN,uy,f9]
theorem amT (x:Nat) (l:List Nat) (o:l.length<=100):IL (x:Int) (bl l)=some (((l.takeWhile (fun a=>decide (a<x))).length:Nat):Int):=by
 unfold IL
 have d:=gG l
 have r:(l.takeWhile (fun a=>decide (a<x))).length<=l.length:=(p2 _).length_le
 have j: ∀k,k<(l.takeWhile (fun a=>decide (a<x))).length-> ∃a,l[k]? =some a/\a<x:=fun k b=>by
  have f:(l.takeWhile (fun a=>decide (a<x)))[k]∈l.takeWhile (fun a=>decide (a<x)):=cT b
  have c:((l.takeWhile (fun a=>decide (a<x))).all fun a=>decide (a<x))=true:=List.all_takeWhile
  have c:=bT.mp c _ f
  refine⟨(l.takeWhile (fun a=>decide (a<x)))[k],?_,by grind⟩
  have n:=List.takeWhile_prefix (fun a=>decide (a<x)) (l:=l)
  obtain⟨t,q⟩:=n
  grind
 have stop:(l.takeWhile (fun a=>decide (a<x))).length<l.length-> ∃a,l[(l.takeWhile (fun a=>decide (a<x))).length]? =some a/\ ¬a<x:=fun b=>by
  have e:=m6 (p:=fun a=>decide (a<x)) (l:=l)
  cases hd:l.dropWhile (fun a=>decide (a<x))<;>grind [hd,dropWhile,Decidable.decide,takeWhile,List.head?_dropWhile_not]
 have m:=bH (body:=fun(s:Int)=>((tG (x:Int) s (bl l)).map (Sum.elim (fun(t:Int)=>Sum.inl t) (fun(t:Int)=>Sum.inr t)):Option ((Int)⊕(Int))))
  (fun k=>(k:Int)) (l.takeWhile (fun a=>decide (a<x))).length (((l.takeWhile (fun a=>decide (a<x))).length:Nat):Int)
  (by
   intro k b
   obtain⟨a,g,i⟩:=j k b
   have w:wrap .i64 ((k:Int)+1)=((k+1:Nat):Int):=by grind [wrap64]
   grind [tG,decide_eq_true,List.length,cg,qz])
  (by
   simp only[tG]
   by_cases lt:(l.takeWhile (fun a=>decide (a<x))).length<l.length
   ·obtain⟨a,g,i⟩:=stop lt
    rw[d,an (show(((l.takeWhile (fun a=>decide (a<x))).length:Nat):Int)<((l.length:Nat):Int) by omega),cg lt]
    grind [qz,decide_eq_false]
   grind) LL (by grind [LL])
 exact m
theorem amU (x:Nat) (l:List Nat) (b:l.length<=100):IN (x:Int) (bl l)=some (bl (hz l x)):=by
 unfold IN Ut
 rw[amT x l b]
 have c:=gG l
 have g:(l.takeWhile (fun a=>decide (a<x))).length<=l.length:=(p2 _).length_le
 have i:inc (((l.takeWhile (fun a=>decide (a<x))).length:Nat):Int) (bl l).length=some (l.takeWhile (fun a=>decide (a<x))).length:=by
  grind [inc,Int.toNat_natCast]
 simp only[bn,ac,IM,i]
 rw[fv (by simp;omega),fv (by simp;omega),fv (by simp;omega)]
 simp only[ac]
 congr 1
 have e:=m6 (p:=fun a=>decide (a<x)) (l:=l)
 have d:(bl l).take (l.takeWhile (fun a=>decide (a<x))).length=bl (l.takeWhile (fun a=>decide (a<x))):=by
  grind [bl,List.map_take,takeWhile,Decidable.decide,dropWhile,List.take_left']
 have f:(bl l).drop (l.takeWhile (fun a=>decide (a<x))).length=bl (l.dropWhile (fun a=>decide (a<x))):=by
  grind [bl,List.map_drop,takeWhile,Decidable.decide,dropWhile,List.drop_left']
 grind [List.take_of_length_le,gG,List.length,List.length_append,hz,bl]
def mI (h:List Int) (w k:Nat):List Nat:=((range k).map (· +1)).filter fun c=>hd h c==w
theorem amV (h:List Int) (w k:Nat):mI h w (k+1)=mI h w k++if(hd h (k+1)==w)=true then[k+1] else[]:=by
 grind [mI,List.range_succ]
theorem amW (h:List Int) (w k:Nat):(mI h w k).length<=k:=by
 grind [mI,Nat.le_trans,List.length_filter_le]
theorem aax (l:List Nat) (x:Nat):ic (l++ [x])=hz (ic l) x:=by grind [ic]
theorem amX {h:List Int} (T:Tree h) {w:Nat} (l:1<=w) (m:w<=h.length):zx h (w:Int)=some (bl (eL h w)):=by
 have e:zx h (w:Int)=zw h (w:Int):=by unfold zx;rfl
 have b:=T.le
 rw[e]
 unfold zw II UA Uz IJ Uy Ux IQ
 have j:=bH (body:=fun(s:Int×(List Int))=>((zv h (w:Int) s.1 s.2).map (Sum.elim (fun(t:Int×(List Int))=>Sum.inl (t.1,t.2)) (fun(t:(List Int))=>Sum.inr t)):Option ((Int×(List Int))⊕(((List Int))))))
  (fun k=>((k:Int),bl (ic ((mI h w k).map (iZ h))))) h.length (bl (eL h w))
  (by
   intro k f
   have g:=T.get (w:=k+1) (by omega) (by omega)
   rw[e6] at g
   have d:wrap .i64 ((k:Int)+1)=((k+1:Nat):Int):=by grind [wrap64]
   have i:=amW h w k
   have c:(ic ((mI h w k).map (iZ h))).length<=100:=by rw[(uN _).length_eq,eN];omega
   simp only[zv,zu,Uw,Uv,Uu,IK,IP]
   rw[an (show(k:Int)<((h.length:Nat):Int) by omega),fp,g,d]
   simp only[au,ac,Sum.elim_inl]
   rw[amV,e9]
   by_cases a:hd h (k+1)=w
   ·rw[show(((hd h (k+1):Nat):Int) !=(w:Int))=false by rw[a];simp,aB (ce.mpr a),dM,iB,aax]
    simp only[aq,nU T (show 1<=k+1 by omega) (show k+1<=h.length by omega),ac,Ym (fS b (k+1)),aaw T,Sum.elim_inl,amU _ _ c,bn]
   ·rw[show(((hd h (k+1):Nat):Int) !=(w:Int))=true by grind,aG (fun z=>a (ce.mp z)),iB,gd]
    simp_all)
  (by
   simp only[zv,zu]
   rw[cy (show¬((h.length:Nat):Int)<((h.length:Nat):Int) by omega)]
   rfl) LL (by grind [LL])
 simp_all [bl,ic,mI,iZ,ac]
def ea (a:Nat) (l:List Nat) (s:Nat):List Nat:=if a=1 then(cd l s).1 else(cd l s).2
theorem amY {a:Nat} (b:a<=1) (x:Nat) (r:List Nat) (s:Nat):ea a (x::r) s=if s%2=a then x::ea a r (s/2) else ea a r (s/2):=by
 grind [ea,cd]
theorem L7 {a:Nat} (l:List Nat) (s:Nat):(ea a l s).Sublist l:=by
 grind [ea,aat]
theorem aay {b:Nat}: ∀{l:List Nat},(∀x∈l,x<=b)->fY l<=b*l.length*l.length
 |[],_=>by simp[fY]
 |x::r,h=>by
  have f:=aay (l:=r) fun e d=>h e (bB _ d)
  have c:=h x (bk ..)
  rw[fY,ck]
  have a:x*r.length<=b*r.length:=ig _ c
  grind
theorem aaz {a:Nat}: ∀{l:List Nat},(∀x∈l,x<=a)->l.sum<=a*l.length
 |[],_=>by simp
 |x::r,h=>by
  have d:=aaz (l:=r) fun c b=>h c (bB _ b)
  grind [List.mem_cons_self,List.length_cons,Nat.mul_succ]
def eM (root:Bool) (a:Nat) (l:List Nat):Nat:=fY l+if a=1/\root=false then l.sum else 0
theorem amZ (root:Bool) (a x:Nat) (r:List Nat):eM root a (x::r)=eM root a r+x*r.length+if a=1/\root=false then x else 0:=by
 grind [eM,fY]
theorem aaA {root:Bool} {e:Nat} {l:List Nat} (h: ∀x∈l,x<=8) (d:l.length<=8):eM root e l<=576:=by
 unfold eM
 have a:=aay h
 have b:=aaz h
 have c:8*l.length*l.length<=8*8*8:=fz (Nat.mul_le_mul_left _ d) d
 grind
theorem am0 {a:List Nat} (f: ∀x∈a,x<=8) (l:a.length<=7) {s base b:Nat} (n:s<2^a.length) (I:base<=10000) (o:b<=1) (root:Bool):
  IW (bl a) root (s:Int) (base:Int) (b:Int) (((a.length:Nat):Int)-1)=some ((base+eM root b (ea b a s):Nat):Int):=by
 unfold IW
 have M:s<128:=gH n (e5 (by omega) l)
 have H:=gG a
 have v: ∀j,∀x∈ea b (a.drop j) (s/2^j),x<=8:=fun j x d=>f x (hr ((L7 _ _).subset d))
 have len: ∀j,(ea b (a.drop j) (s/2^j)).length<=8:=fun j=>by
  grind [L7,List.drop,List.length_drop]
 have B: ∀j,eM root b (ea b (a.drop j) (s/2^j))<=576:=fun j=>aaA (v j) (len j)
 have L:=bH (body:=fun(t:Int×Int×Int)=>((tH (bl a) root (s:Int) t.1 (b:Int) t.2.1 t.2.2).map (Sum.elim (fun(t:Int×Int×Int)=>Sum.inl (t.1,t.2.1,t.2.2)) (fun(t:Int)=>Sum.inr t)):Option ((Int×Int×Int)⊕(Int))))
  (fun j=>(((base+eM root b (ea b (a.drop (a.length-j)) (s/2^(a.length-j))):Nat):Int),(((ea b (a.drop (a.length-j)) (s/2^(a.length-j))).length:Nat):Int),((a.length:Nat):Int)-1-(j:Int)))
  a.length ((base+eM root b (ea b a s):Nat):Int)
  (by
   intro j J
   have c:a.length-(j+1)<a.length:=by omega
   have e:a.length-j=a.length-(j+1)+1:=by omega
   generalize K:a.length-(j+1)=k at c e
   have i:a.drop k=a[k]::a.drop (k+1):=e3 c
   have d:=f a[k] (cT c)
   have w:s/2^(k+1)=s/2^k/2:=by rw[j9,Nat.div_div_eq_div_mul]
   have q:((a.length:Nat):Int)-1-(j:Int)=(k:Int):=by omega
   have C:shr .i64 (s:Int) (k:Int)=some ((s/2^k:Nat):Int):=by
    unfold shr
    rw[aG (by omega),d8,Nat.min_eq_left (show k<=IntKind.i64.bits by show k<=64;omega)]
    grind
   have z:rem ((s/2^k:Nat):Int) 2=some ((s/2^k%2:Nat):Int):=by
    grind [rem]
   have p:idx (bl a) (k:Int)=some ((a[k]:Nat):Int):=by rw[fp,qz,bh c];rfl
   have A:=B (k+1)
   have g:=len (k+1)
   have D:wrap .i64 ((k:Int)-1)=((a.length:Nat):Int)-1-((j+1:Nat):Int):=by grind [wrap64]
   simp only[tH]
   rw[e,q,an (show(k:Int)>=0 by omega),C,i,amY o,<-w,D]
   simp only[au,ac,z,p]
   generalize ea b (a.drop (k+1)) (s/2^(k+1))=r at A g
   have u:a[k]*r.length<=64:=fy (fz d g) (by omega)
   have G:wrap .i64 (((r.length:Nat):Int)*((a[k]:Nat):Int))=((a[k]*r.length:Nat):Int):=by
    grind [Int.natCast_mul,Nat.mul_comm,wrap64]
   have F:wrap .i64 (((r.length:Nat):Int)+1)=((r.length+1:Nat):Int):=by grind [wrap64]
   rw[G,F]
   by_cases y:s/2^k%2=b
   ·rw[show(((s/2^k%2:Nat):Int)==(b:Int))=true from ce.mpr (by omega),aB y,amZ,ck]
    simp only[au]
    generalize a[k]*r.length=m at u
    have E:wrap .i64 (((base+eM root b r:Nat):Int)+((m:Nat):Int))=((base+eM root b r+m:Nat):Int):=by grind [wrap64]
    rw[E]
    by_cases N:b=1
    ·rw[show((b:Int)==1)=true from ce.mpr (by omega)]
     cases root with
     |true=>
      grind
     |false=>
      grind [wrap,eM,wrap64,Bool.not_false]
    grind
   grind)
  (by
   grind [tH,decide_eq_false,List.length]) LL (by grind [LL])
 grind [ea,List.drop,List.length,List.drop_length,cd,eM,fY]
theorem aaB (l:List Nat) (root:Bool) (s:Nat):eM root 0 (ea 0 l s)+eM root 1 (ea 1 l s)=fw l root s:=by
 grind [eM,fw,ea]
theorem aaC {a:List Nat} (b: ∀x∈a,x<=8) (c:a.length<=7) (root:Bool) (s:Nat):fw a root s<=1152:=by
 rw[<-aaB]
 grind [aaA,ea,L7]
theorem am1 {a:List Nat} (b: ∀x∈a,x<=8) (c:a.length<=7) {s:Nat} (e:s<2^a.length) (root:Bool):
  IY (bl a) root (s:Int)=some ((fw a root s:Nat):Int):=by
 unfold IY
 have d:=aaC b c root s
 rw[<-aaB] at d⊢
 have g:wrap .i64 ((((bl a).length:Nat):Int)-1)=((a.length:Nat):Int)-1:=by grind [gG,wrap64]
 have f:=bH (body:=fun(t:Int×Int)=>((zA (bl a) root (s:Int) t.1 t.2).map (Sum.elim (fun(t:Int×Int)=>Sum.inl (t.1,t.2)) (fun(t:Int)=>Sum.inr t)):Option ((Int×Int)⊕(Int))))
  (fun k=>(((aH (fun i=>eM root i (ea i a s)) k:Nat):Int),(k:Int))) 2 ((eM root 0 (ea 0 a s)+eM root 1 (ea 1 a s):Nat):Int)
  (by
   intro k m
   have l:aH (fun i=>eM root i (ea i a s)) k<=1152:=by
    have:k=0\/k=1:=by omega
    grind [aH]
   have j:wrap .i64 ((k:Int)+1)=((k+1:Nat):Int):=by grind [wrap64]
   simp only[zA,zz,UE,UD,UC,IV,UB,IX]
   rw[an (show(k:Int)<2 by omega),g,j]
   simp only[au,ac,Sum.elim_inl]
   rw[am0 b c e (by omega) (by omega) root]
   rfl)
  (by
   grind [zA,zz,decide_eq_false,aH]) LL (by grind [LL])
 exact f
theorem am2 {k:Nat} (a:k<=7):shl .i64 1 (k:Int)=some ((2^k:Nat):Int):=by
 grind [gQ,Yl]
theorem am3 {a:List Nat} (d: ∀x∈a,x<=8) (b:a.length<=7) (root:Bool):zD (bl a) root=some ((jS a root:Nat):Int):=by
 have e:zD (bl a) root=zC (bl a) root:=by unfold zD;rfl
 rw[e]
 unfold zC IR UO UN IS UM UL I1
 have l:1<=2^a.length:=m7
 have m:2^a.length<=128:=e5 (j:=7) (by omega) b
 have c:=am2 b
 have i:=bH (body:=fun(s:Int×Int)=>((zB (bl a) root s.1 s.2).map (Sum.elim (fun(t:Int×Int)=>Sum.inl (t.1,t.2)) (fun(t:Int)=>Sum.inr t)):Option ((Int×Int)⊕(Int))))
  (fun k=>((if k=0 then(-1:Int) else((ja (fw a root) (k-1):Nat):Int)),(k:Int))) (2^a.length) ((jS a root:Nat):Int)
  (by
   intro k f
   have g:wrap .i64 ((k:Int)+1)=((k+1:Nat):Int):=by grind [wrap64]
   simp only[zB,zy,UK,UJ,UI,IT,UH,UG,IU,UF,I0]
   rw[gG,c,g]
   simp only[ac]
   rw[an (show(k:Int)<((2^a.length:Nat):Int) by omega)]
   simp only[au,ac,Sum.elim_inl]
   rw[am1 d b f root]
   simp only[bn,ac,IZ]
   by_cases z:k=0
   ·subst z
    rw[aB rfl,aG (by omega)]
    rfl
   ·obtain⟨j,rfl⟩: ∃j,k=j+1:=⟨k-1,by omega⟩
    grind [Nat.add_sub_cancel,decide_eq_false,ja,fw,decide_eq_true,Nat.min_eq_right,Nat.min_eq_left])
  (by
   simp only[zB,zy]
   rw[gG,c]
   simp only[ac]
   rw[cy (show¬((2^a.length:Nat):Int)<((2^a.length:Nat):Int) by omega),aG (by omega)]
   rfl) LL (by grind [LL])
 simp_all
theorem aaD {h:List Int} (T:Tree h) {w:Nat} (b:1<=w) (c:w<=h.length):(dZ h w).length<=7:=by
 have a:=T.le
 unfold dZ
 have:(((range h.length).map (· +1)).filter fun k=>hd h k==w).length<((range h.length).map (· +1)).length:=by
  rw[List.length_filter_lt_length_iff_exists]
  refine⟨w,iC.mpr ⟨w-1,fm.mpr (by omega),by omega⟩,?_⟩
  grind [Bo]
 grind
theorem L8 {h:List Int} (T:Tree h) {w:Nat}: ∀x∈eL h w,x<=8:=fun x a=>by
 grind [eL,uN,size_le,Tree.le]
theorem BG {h:List Int} (T:Tree h) {w:Nat} (a:1<=w) (b:w<=h.length):(eL h w).length<=7:=by
 unfold eL
 rw[(uN _).length_eq,eN]
 exact aaD T a b
theorem BH {h:List Int} (T:Tree h) {w:Nat} (b:1<=w) (c:w<=h.length):gW h w<=1152:=by
 unfold gW jS
 obtain⟨k,a,e⟩:=BF (f:=fw (eL h w) (hd h w==0)) (2^(eL h w).length-1)
 grind [aaC,L8,BG]
noncomputable def jT (h:List Int):Int:=if aA h then((ot h:Nat):Int) else-1
theorem am4 (h:List Int):zF h=some (jT h):=by
 have e:zF h=zE h:=by unfold zF;rfl
 rw[e]
 unfold zE I2 jT
 rw[cH h]
 cases t:aA h with
 |false=>rfl
 |true=>
  have T:=(bM h).mp t
  have o:=T.le
  have n:=T.pos
  have f: ∀k,k<=h.length->aH (fun i=>gW h (i+1)) k<=1152*k:=by
   intro k
   induction k<;>grind [aH,BH]
  have d:=bH (body:=fun(s:Int×Int)=>((tI h s.1 s.2).map (Sum.elim (fun(t:Int×Int)=>Sum.inl (t.1,t.2)) (fun(t:Int)=>Sum.inr t)):Option ((Int×Int)⊕(Int))))
   (fun k=>(((h.length-1+aH (fun i=>gW h (i+1)) k:Nat):Int),((k+1:Nat):Int))) h.length ((ot h:Nat):Int)
   (by
    intro k m
    have g:=T.get (w:=k+1) (by omega) (by omega)
    rw[e6] at g
    have b:=f k (by omega)
    have c:=BH T (w:=k+1) (by omega) (by omega)
    have j:wrap .i64 (((k+1:Nat):Int)+1)=((k+1+1:Nat):Int):=by grind [wrap64]
    have l:wrap .i64 (((k+1:Nat):Int)-1)=(k:Int):=by grind [wrap64]
    simp only[tI]
    rw[an (show((k+1:Nat):Int)<=((h.length:Nat):Int) by omega),l,fp,g,j,amX T (by omega) (by omega)]
    simp only[au,ac]
    have r:(((hd h (k+1):Nat):Int)==0)=(hd h (k+1)==0):=by
     grind
    rw[r,am3 (L8 T) (BG T (by omega) (by omega))]
    simp only[ac,bn,Sum.elim_inl]
    grind [aH,jS,eL,hd,gW,wrap64])
   (by
    simp only[tI]
    rw[cy (show¬((h.length+1:Nat):Int)<=((h.length:Nat):Int) by omega)]
    rfl) LL (by grind [LL])
  have w0:wrap .i64 (((h.length:Nat):Int)-1)=((h.length-1:Nat):Int):=by grind [wrap64]
  simp only[ac,bo,aq,Sum.elim_inl,cU]
  rw[w0]
  unfold UT UR I3 UQ UP
  have a:=d
  rw[show aH (fun i=>gW h (i+1)) 0=0 from rfl,gY,show((0+1:Nat):Int)=1 from rfl] at a
  simp only[ac]
  rw[a]
  rfl
def am5:ByteArray:=ByteArray.mk #[121,101,115]
def noW:ByteArray:=ByteArray.mk #[110,111]
def BI:ByteArray:=ByteArray.mk #[119,104,97,116]
def vx:ByteArray:=ByteArray.mk #[111,107]
def am6:ByteArray:=ByteArray.mk #[110,111,116]
def uO (b:Bool):ByteArray:=cond b am5 noW
def uP (o:Option (ByteArray×Bool)):ByteArray:=match o with
 |some (t,true)=>t
 |_=>qy
noncomputable def qA (h:List Int) (s:ByteArray):Option ByteArray:=
 cond (aD s (ByteArray.mk #[104,101,97,100,115])) (some (gF h)) (cond (aD s (ByteArray.mk #[100,101,112,116,104,115])) (some (gF (hw h))) (cond (aD s (ByteArray.mk #[111,114,100,101,114])) (some (gF (if aA h=true then dw h else[]))) (cond (aD s (ByteArray.mk #[114,111,111,116])) (some (bV (fu h))) (cond (aD s (ByteArray.mk #[99,114,111,115,115,105,110,103,115])) (some (bV (jI h))) (cond (aD s (ByteArray.mk #[103,97,112,115])) (some (bV (jR h))) (cond (aD s (ByteArray.mk #[101,120,99,104,97,110,103,101,115])) (some (bV (if aA h=true then(cc (dw h):Int) else-1))) (cond (aD s (ByteArray.mk #[108,101,110,103,116,104])) (some (bV (jO h))) (cond (aD s (ByteArray.mk #[108,101,97,115,116])) (some (bV (jT h))) (cond (aD s (ByteArray.mk #[97,112,97,114,116])) (some (bV (jP h))) (cond (aD s (ByteArray.mk #[112,114,111,106,101,99,116,105,118,101])) (some (uO (dm h))) (cond (aD s (ByteArray.mk #[110,101,115,116,101,100])) (some (uO (om h))) (cond (aD s (ByteArray.mk #[109,111,118,101,115])) (some (uP (jw h))) (cond (aD s (ByteArray.mk #[101,97,103,101,114])) (some (uP (jx h))) (cond (aD s (ByteArray.mk #[112,108,97,99,101])) (some ((if ib h<0 then qy else bV (ib h)))) (none)))))))))))))))
noncomputable def qB (s:ByteArray):Option Int:=match kD s 32 with
 |some [a,b]=>cond (aD a (ByteArray.mk #[121,105,101,108,100])) (match gN b with
  |some v=>if v<0 then none else some v
  |none=>none) none
 |_=>none
noncomputable def qC (h:List Int) (s:ByteArray):ByteArray:=match qB s with
 |some v=>gF (hU h v)
 |none=>BI
noncomputable def fx (d:fa) (s:ByteArray):ByteArray×fa:=
 if cS d=true then
  if(bO s).1=true then(cond (eg d ((bO s).2.1,(bO s).2.2.1,(bO s).2.2.2,())).1 vx am6,(eg d ((bO s).2.1,(bO s).2.2.1,(bO s).2.2.2,())).2)
  else((qA d.1 s).getD (qC d.1 s),d)
 else(empty,[],[])
structure Told (h:List Int):Prop where
 BJ: ∀n,n∈h->n<1000000000
 BK: ∀n,n∈hw h->n<1000000000
 order: ∀n,n∈(if aA h=true then dw h else[])->n<1000000000
 root:fu h<1000000000
 BL:jI h<1000000000
 BM:jR h<1000000000
 BN:(if aA h=true then(cc (dw h):Int) else-1)<1000000000
 len:jO h<1000000000
 least:jT h<1000000000
 apart:jP h<1000000000
 place:ib h<1000000000
 uQ: ∀v n,n∈hU h v->n<1000000000
theorem am7 {h:List Int} (t:aA h=true): ∃m,jw h=some m:=by
 have a:=dd t
 cases f:dm h with
 |true=>
  obtain⟨T,F⟩:=oq.mp f
  grind [LV]
 |false=>exact⟨_,LW (by omega) f⟩
theorem am8 {h:List Int} (t:aA h=true): ∃m,jx h=some m:=by
 have a:=dd t
 cases f:dm h with
 |true=>
  obtain⟨T,F⟩:=oq.mp f
  grind [LX]
 |false=>exact⟨_,LY (by omega) f⟩
theorem am9: ∀(l acc:List Nat) (x:List Nat),x∈bE 32 acc l->x.length<=acc.length+l.length:=by
 intro l
 induction l<;>grind [bE,List.mem_singleton,List.length_nil,List.length_cons,List.length_append]
theorem ana {h:List Int} (j:Told h) (n:List Int) (p:List (List Int)) (s:ByteArray) (l:s.size<=1048576):Ad s h n p=some (qC h s,n,p):=by
 unfold Ad qC qB
 obtain⟨out,e,k⟩:=A9 s 32 (by omega)
 have f:kD s 32=some out:=e
 have d: ∀t,t∈out->t.size<=100000000:=fun t o=>by
  have m:ap t∈bE 32 [] (ap s):=by grind
  have:=am9 _ _ _ m
  grind [ee,List.length_nil]
 rw[f,ac]
 match out,d with
 |[],_=>rfl
 |[a],_=>rfl
 |a::b::c::r,_=>
  rw[show((((List.length (a::b::c::r):Nat):Int)) !=2)=true by grind]
  rfl
 |[a,b],d=>
  rw[show((((List.length [a,b]:Nat):Int)) !=2)=false from rfl,show al 0 (List.length [a,b])=some 0 from rfl,show al 1 (List.length [a,b])=some 1 from rfl]
  simp only[aq,ac,vw,mP]
  cases aD a (ByteArray.mk #[121,105,101,108,100]) with
  |false=>rfl
  |true=>
   obtain⟨i,g⟩:=Bf b (d b (by simp))
   simp only[bo,aq,au,g,ac]
   by_cases c:i<0
   ·rw[an c,aB c]
    rfl
   grind [decide_eq_false,akj,ZP,Yo,Told.uQ]
theorem anb (d:fa) (s:ByteArray) (y:s.size<=1048576) (x:d.2.length<=1048576) (f:cS d=true->Told d.1):Af d.1 d.2 s=some (fx d s):=by
 have e:Af d.1 d.2 s=Ae d.1 d.2 s:=by unfold Af;rfl
 rw[e]
 unfold Ae JR fx
 rw[Lj _ _ (by omega),ac]
 cases o:cS d with
 |false=>rfl
 |true=>
  have f:=f o
  obtain⟨t,z,v⟩:=kZ o
  have w:=dd t
  have:=Bs d.2 v
  rw[aB rfl,Zo _ _ (by omega),akR s (by omega)]
  simp only[bo,aq,ac]
  cases r:(bO s).1 with
  |true=>
   have i:=Zu d.1 d.2 ((bO s).2.1,(bO s).2.2.1,(bO s).2.2.2,()) (by omega)
   simp only at i
   simp only[au,i,ac,cU]
   cases (eg d ((bO s).2.1,(bO s).2.2.1,(bO s).2.2.2,())).1<;>rfl
  |false=>
   simp only[aq,ac,Sum.elim_inl,rf,jc]
   obtain⟨q,k⟩:=am7 t
   obtain⟨u,p⟩:=am8 t
   have row: ∀l:List Int,l.length<=8->(∀n,n∈l->n<1000000000)->lW l=some (gF l):=fun l a b=>ZP l (by omega) b
   have j:(if aA d.1=true then dw d.1 else[]).length<=8:=by grind [kW,bM]
   unfold Wu Wt JS Ws Wr JT Wq Wp JV Wo Wn JX Wm Wl JZ Wk Wj J1 Wi J3 JU JW JY J0 J2 qA
   simp only[ac,row d.1 (by omega) f.BJ,alZ d.1 (by omega),row _ (by grind [ZR]) f.BK,K6 d.1 (by omega),row _ j f.order,K5 d.1 (by omega),(gV f.root).1,ajU d.1 (by omega),(gV f.BL).1,al9,(gV f.BM).1,ak0 d.1 (by omega),(gV f.BN).1,ala,(gV f.len).1,am4,(gV f.least).1,alh,(gV f.apart).1,qk d.1 (by omega),amb d.1 (by omega),k,p,amQ d.1 (by omega),(gV f.place).1]
   cases aD s (ByteArray.mk #[104,101,97,100,115]) with
   |true=>rfl
   |false=>
   simp only[aq]
   cases aD s (ByteArray.mk #[100,101,112,116,104,115]) with
   |true=>rfl
   |false=>
   simp only[aq]
   cases aD s (ByteArray.mk #[111,114,100,101,114]) with
   |true=>rfl
   |false=>
   simp only[aq]
   cases aD s (ByteArray.mk #[114,111,111,116]) with
   |true=>rfl
   |false=>
   simp only[aq]
   cases aD s (ByteArray.mk #[99,114,111,115,115,105,110,103,115]) with
   |true=>rfl
   |false=>
   simp only[aq]
   cases aD s (ByteArray.mk #[103,97,112,115]) with
   |true=>rfl
   |false=>
   simp only[aq]
   cases aD s (ByteArray.mk #[101,120,99,104,97,110,103,101,115]) with
   |true=>rfl
   |false=>
   simp only[aq]
   cases aD s (ByteArray.mk #[108,101,110,103,116,104]) with
   |true=>rfl
   |false=>
   simp only[aq]
   cases aD s (ByteArray.mk #[108,101,97,115,116]) with
   |true=>rfl
   |false=>
   simp only[aq]
   cases aD s (ByteArray.mk #[97,112,97,114,116]) with
   |true=>rfl
   |false=>
   simp only[aq]
   cases aD s (ByteArray.mk #[112,114,111,106,101,99,116,105,118,101]) with
   |true=>simp only[au,zN,tM];cases dm d.1<;>rfl
   |false=>
   simp only[aq]
   cases aD s (ByteArray.mk #[110,101,115,116,101,100]) with
   |true=>simp only[au,zN,tM];cases om d.1<;>rfl
   |false=>
   simp only[aq]
   cases aD s (ByteArray.mk #[109,111,118,101,115]) with
   |true=>obtain⟨m,g⟩:=q;cases g<;>rfl
   |false=>
   simp only[aq]
   cases aD s (ByteArray.mk #[101,97,103,101,114]) with
   |true=>obtain⟨m,g⟩:=u;cases g<;>rfl
   |false=>
   simp only[aq]
   cases aD s (ByteArray.mk #[112,108,97,99,101]) with
   |true=>simp only[au];by_cases c:ib d.1<0;(rw[an c,aB c];rfl);grind
   |false=>
   grind [ana]
theorem aaE {h:List Int} (t:aA h=true):Told h:=by
 have T:=(bM h).mp t
 have d:=dd t
 refine⟨fun n a=> ?_,fun n a=> ?_,fun n a=> ?_,?_,?_,?_,?_,?_,?_,?_,?_,fun j n a=> ?_⟩
 ·obtain⟨k,b,e⟩:=oA.mp a
  have g:=T.get (w:=k+1) (by omega) (by omega)
  rw[e6,bh b,e] at g
  have:=T.cW (w:=k+1) (by omega) (by omega)
  grind
 ·unfold hw at a
  rw[aB t] at a
  obtain⟨k,b,e⟩:=oA.mp a
  rw[mD] at b
  rw[LK h b] at e
  have:=T.ho (w:=k+1) (by omega) (by omega)
  omega
 ·grind [A2,K4,kW]
 ·unfold fu
  rw[aB t]
  have:=T.gk
  omega
 ·grind [jI,ajQ]
 ·grind [jR,ZW,List.length]
 ·rw[aB t]
  have l:=kW T
  have:=K8 (o:=dw h) (by omega) (dw h).length (aS _)
  grind
 ·grind [jO,La]
 ·unfold jT ot
  rw[aB t]
  have:=ux (f:=fun i=>gW h (i+1)) (g:=fun _=>1152) (n:=h.length) (fun i hi=>BH T (by omega) (by omega))
  rw[mx] at this
  omega
 ·grind [jP,ali]
 ·unfold ib
  split
  ·rename_i c
   obtain⟨T,F⟩:=oq.mp c.1
   grind [L2,amP,List.length]
  ·omega
 grind [hU,cn]
structure Whole (h:List Int):Prop where
 BJ: ∀n,n∈h->0<=n
 BK: ∀n,n∈hw h->0<=n
 order: ∀n,n∈(if aA h=true then dw h else[])->0<=n
 root:0<=fu h
 BL:0<=jI h
 BM:0<=jR h
 BN:0<=(if aA h=true then(cc (dw h):Int) else-1)
 len:0<=jO h
 least:0<=jT h
 apart:0<=jP h
 uQ: ∀v n,n∈hU h v->0<=n
theorem anc {h:List Int} (t:aA h=true):Whole h:=by
 have T:=(bM h).mp t
 have c:=dd t
 refine⟨fun n a=> ?_,fun n a=> ?_,fun n a=> ?_,?_,?_,?_,?_,?_,?_,?_,fun d n a=> ?_⟩
 ·obtain⟨k,b,e⟩:=oA.mp a
  have g:=T.get (w:=k+1) (by omega) (by omega)
  simp_all
 ·unfold hw at a
  rw[aB t] at a
  obtain⟨k,b,e⟩:=oA.mp a
  grind [mD,LK]
 ·grind [A2,K4]
 ·grind [fu]
 ·grind [jI]
 all_goals grind [jR,ama,jO,jT,ot,jP,hU,cn]
def ey (l:List UInt8):ByteArray:=⟨l.toArray⟩
theorem L9 (a b:List UInt8):ey (a++b)=ey a++ey b:=by
 apply mn
 rw[jM]
 simp[ey,ap,toList_data]
theorem uR (l:List UInt8):(ey l).size=l.length:=by simp[ey,ByteArray.size]
theorem ane: ∀n:Fin 10,bytesOf [wrap .u8 (wrap .i64 (48+(n.val:Int)))]=ey [UInt8.ofNat (48+n.val)]:=by decide
theorem aaF {n:Nat} (h:n<10):bytesOf [wrap .u8 (wrap .i64 (48+(n:Int)))]=ey [UInt8.ofNat (48+n)]:=ane ⟨n,h⟩
theorem uS {n:Nat} (h:n<10):decDigits n=[UInt8.ofNat (48+n)]:=by grind [decDigits]
theorem Ma {n:Nat} (h: ¬n<10):decDigits n=decDigits (n/10)++ [UInt8.ofNat (48+n%10)]:=by grind [decDigits]
theorem Mb: ∀(d f n:Nat),n<10^(d+1)->d+1<=f->d<=15->kz f (n:Int)=some (ey (decDigits n))/\(decDigits n).length<=d+1
 |d,0,n,_,h,_=>by omega
 |d,f+1,n,k,j,hd=>by
  rw[kz]
  simp only[EV,rV]
  by_cases c:n<10
  ·grind [decide_eq_true,uS,imax,aaF]
  ·rw[cy (show¬(n:Int)<10 by omega),Ma c]
   cases d with
   |zero=>omega
   |succ d=>
    have l:(10:Nat)^(d+1+1)=10^(d+1)*10:=j9 ..
    have i:(10:Nat)^(d+1)<=10^15:=e5 (by omega) (by omega)
    have g:(10:Nat)^15=1000000000000000:=by decide
    have m:(n:Int).tdiv 10=((n/10:Nat):Int):=by simp_all
    have p:(n:Int).tmod 10=((n%10:Nat):Int):=by grind
    have b:quo .i64 (n:Int) 10=some ((n/10:Nat):Int):=by
     grind [quo,wrap64]
    have e:rem (n:Int) 10=some ((n%10:Nat):Int):=by
     grind [rem]
    obtain⟨a,o⟩:=Mb d f (n/10) (by omega) (by omega) (by omega)
    simp only[aq,b,e,a,ac,aaF (show n%10<10 by omega)]
    grind [jN,uR,List.length_cons,List.length_nil,L9,List.length_append]
theorem Mc {n:Nat} (h:n<1000000000):bV (n:Int)=ey (decDigits n):=by
 have e:cG (n:Int)=kz RR (n:Int):=by unfold cG;rfl
 unfold bV
 rw[e,(Mb 8 RR n (by simpa using h) (by grind [RR]) (by omega)).1]
 rfl
theorem uT {n:Int} (a:0<=n) (h:n<1000000000):strconv_Itoa n=some (bV n):=by
 obtain⟨m,rfl⟩:=rs a
 unfold strconv_Itoa pj
 rw[aB (by omega),itoa,aG (by omega),Mc (by omega)]
 rfl
theorem aaG: ∀(l:List Int) (n:Int),ey (join ((bV n).data.toList::l.map (fun x=>(bV x).data.toList)) [44])=dK (n::l)
 |[],n=>by
  rw[iB,Lib.join_one]
  rfl
 |m::l,n=>by
  have a:=aaG l m
  rw[Lib.join_cons] at a
  rw[Lib.join_cons,dK,<-a,dM]
  show ey _=ey (bV n).data.toList++ey [44]++ey _
  rw[<-L9,<-L9]
  simp[Lib.joinTail]
abbrev Md (l:List Int) (n:Int):Int×List ByteArray->Option ((Int×List ByteArray)⊕List ByteArray):=
 fun(s:Int×(List ByteArray))=>((r8 l n s.1 s.2).map (Sum.elim (fun(t:Int×(List ByteArray))=>Sum.inl (t.1,t.2)) (fun(t:(List ByteArray))=>Sum.inr t)):Option ((Int×(List ByteArray))⊕(((List ByteArray)))))
theorem BO (l:List Int) (g:l.length<=100000) (h: ∀n∈l,0<=n/\n<1000000000):nC l=some (dK l):=by
 have e:nC l=xn l:=by unfold nC;rfl
 rw[e]
 unfold xn Ft Qi Qh Fu Qg Qf Fv
 have j:=bH (body:=Md l ((l.length:Nat):Int)) (fun k=>((k:Int),(l.take k).map bV++replicate (l.length-k) empty)) l.length (l.map bV)
  (by
   intro k a
   have w:wrap .i64 ((k:Int)+1)=((k+1:Nat):Int):=by grind [wrap64]
   have b:=h l[k] (cT a)
   have lt:((l.take k).map bV).length=k:=by grind
   have le:((l.take k).map bV++replicate (l.length-k) empty).length=l.length:=by grind
   simp only[Md,r8]
   rw[an (show(k:Int)<((l.length:Nat):Int) by omega),cb a,w]
   simp only[au,ac,uT b.1 b.2]
   rw[le,cg a]
   simp only[ac,bn,Sum.elim_inl]
   have f:replicate (l.length-k) empty=empty::replicate (l.length-(k+1)) empty:=by
    rw[<-l9]
    grind
   rw[f,q9 _ _ (by omega),lt,C1,m0,h0 a,e9,pf]
   rfl)
  (by
   grind [r8,decide_eq_false,List.length,List.take_length]) LL (by grind [LL])
 have d:ai (Md l ((l.length:Nat):Int)) LL (0,replicate l.length empty)=some (l.map bV):=by
  simp_all
 rw[hn (by omega)]
 simp only[ac]
 rw[d,bn,ac]
 unfold strings_Join vZ
 have m:=LI l (fun n b=>(h n b).2)
 have c:ey (join ((l.map bV).map (·.data.toList)) (ByteArray.mk #[44]).data.toList)=dK l:=by
  cases l with
  |nil=>rfl
  |cons n l=>
   have:=aaG l n
   simp only[dM,f8]
   exact this
 have i:(join ((l.map bV).map (·.data.toList)) (ByteArray.mk #[44]).data.toList).length=(dK l).size:=by rw[<-c,uR]
 rw[aB ⟨by grind,by omega⟩,ac]
 exact aR some c
theorem anf {l:List Int} (h: ∀n∈l,n<1000000000) (a:l≠ []):dK l≠empty:=by
 match l,a with
 |[n],_=>
  intro e
  have:=(gV (h n (by simp))).2.1
  simp_all [dK,absurd]
 |n::m::r,_=>
  intro e
  have:=(gV (h n (by simp))).2.1
  simp_all [dK,aR,ByteArray.size,e1]
theorem Me (t:ByteArray):lU t=some (if t=empty then qy else t):=by
 have e:lU t=sY t:=by unfold lU;rfl
 rw[e]
 unfold sY
 by_cases c:t=empty
 ·rw[aB c,qr.mpr c];rfl
 grind [kU]
theorem ang {l:List Int} (h: ∀n∈l,n<1000000000):(if dK l=empty then qy else dK l)=gF l:=by
 unfold gF
 by_cases c:l=[]
 ·subst c
  rfl
 grind [anf]
theorem anh {l m:List Nat} (h:l≠ []):(l++m).head? =l.head? :=by
 cases l<;>simp_all
theorem Mf (l:List UInt8):ap (ey l)=l.map toNat:=by
 simp[ap,ey,toList_data]
theorem BP (l:List Nat) (x:Nat):cJ (l++ [x])=10*cJ l+(x-48):=by
 grind [cJ]
theorem BQ {k:Nat} (h:k<10):(UInt8.ofNat (48+k)).toNat=48+k:=by
 rw[UInt8.toNat_ofNat']
 omega
theorem ani (n:Nat):(∀x∈(decDigits n).map toNat,48<=x/\x<=57)/\cJ ((decDigits n).map toNat)=n/\(decDigits n)≠ []/\(1<=n->((decDigits n).map toNat).head? ≠some 48):=by
 induction n using Nat.strongRecOn with
 |ind n b=>
  by_cases c:n<10
  ·rw[uS c]
   simp only[dM,iB,BQ c,uY,List.head?_cons]
   grind [cJ,Option.some.inj]
  ·obtain⟨d,a,e,f⟩:=b (n/10) (by omega)
   rw[Ma c,e9,dM,iB,BQ (show n%10<10 by omega),BP,a]
   refine⟨fun x g=> ?_,by omega,by simp,fun _=> ?_⟩
   all_goals grind [decDigits,toNat,anh]
theorem anj: ∀(n:Nat) (l:List Nat),l.length=n->l≠ []->(∀x∈l,48<=x/\x<=57)->(l.length=1\/l.head? ≠some 48)->l=(decDigits (cJ l)).map toNat:=by
 intro n
 induction n with
 |zero=>simp_all
 |succ n g=>
  intro l k ne hd c
  have a:=m8 ne
  generalize o:l.dropLast=m at a
  generalize p:l.getLast ne=x at a
  have d:m.length=n:=by grind
  rw[<-a] at hd c⊢
  have r:=hd x (by simp)
  by_cases e:m=[]
  ·grind [cJ,uS,BQ]
  ·have i:m.head? ≠some 48:=by
    grind
   have b:=g m d e (fun j f=>hd j (by simp[f])) (.inr i)
   have q:1<=cJ m:=by
    rcases Nat.eq_zero_or_pos (cJ m) with z|z
    ·rw[z,uS (by omega)] at b
     simp_all
    ·exact z
   rw[BP,Ma (by omega),show(10*cJ m+(x-48))/10=cJ m by omega,show(10*cJ m+(x-48))%10=x-48 by omega,e9,<-b]
   grind [BQ]
def gu (b:ByteArray):Bool:=decide (1<=b.size)&&decide (b.size<=6)&&(decide (b.size=1)|| !((ap b).head? ==some 48))&&(ap b).all fun x=>decide (48<=x)&&decide (x<=57)
theorem qD {b:ByteArray}:gu b=true↔1<=b.size/\b.size<=6/\(b.size=1\/(ap b).head? ≠some 48)/\ ∀x∈ap b,48<=x/\x<=57:=by
 grind [gu,Bool.not_eq_true',beq_eq_false_iff_ne,List.all_eq_true]
theorem aaH: ∀(l:List Nat),(∀x∈l,48<=x/\x<=57)->cJ l<10^l.length:=by
 intro l
 have k: ∀(n:Nat) (l:List Nat),l.length=n->(∀x∈l,48<=x/\x<=57)->cJ l<10^n:=by
  intro n
  induction n with
  |zero=>intro l b _;rw[sm.mp b];decide
  |succ n f=>
   intro l b hd
   have ne:l≠ []:=fun e=>by simp_all
   have a:=m8 ne
   generalize i:l.dropLast=m at a
   generalize j:l.getLast ne=x at a
   have c:m.length=n:=by grind
   rw[<-a] at hd⊢
   have:=hd x (by simp)
   have:=f m c (fun g d=>hd g (by simp[d]))
   grind [BP,Nat.pow_succ]
 simp_all
theorem ank {b:ByteArray} (h:gu b=true):b=ey (decDigits (cJ (ap b)))/\cJ (ap b)<1000000:=by
 obtain⟨c,d,f,a⟩:=qD.mp h
 have g:=ee b
 refine⟨mn ?_,?_⟩
 ·rw[Mf]
  exact anj _ (ap b) rfl (fun e=>by grind) a (by simp_all)
 ·have:=aaH _ a
  have:=e5 (n:=10) (by omega) (show(ap b).length<=6 by omega)
  omega
theorem anl {n:Nat} (h:n<1000000):gu (ey (decDigits n))=true:=by
 obtain⟨a,c,d,e⟩:=ani n
 have b:(ey (decDigits n)).size<=6:=by
  rw[uR]
  exact(Mb 5 15 n (by simpa using h) (by omega) (by omega)).2
 refine qD.mpr ⟨by grind [uR],b,?_,by rw[Mf];exact a⟩
 grind [Mf,uR,uS]
theorem aaI: ∀(l:List UInt8) (acc:Nat),(∀x∈l.map toNat,48<=x/\x<=57)->Lib.decFrom acc l=some ((l.map toNat).foldl (fun a x=>10*a+(x-48)) acc)
 |[],acc,_=>rfl
 |b::r,acc,h=>by
  have c:=h b.toNat (by simp)
  rw[Lib.decFrom,Lib.digitVal,aB c]
  simp only
  rw[aaI r _ (fun x d=>h x (by simp_all)),dM,k0,Nat.mul_comm acc 10]
theorem anm {b:ByteArray} (h:gu b=true):ed b=((cJ (ap b):Int),false):=by
 obtain⟨j,k,_,a⟩:=qD.mp h
 have g:ap b=b.data.toList.map toNat:=by simp[ap,toList_data]
 have m:b.data.toList.length=b.size:=by simp_all
 rw[g] at a⊢
 unfold ed
 rw[Lib.atoiAll_short _ (by omega)]
 match i:b.data.toList with
 |[]=>
  grind
 |c::r=>
  rw[i] at a
  have l:=a c.toNat (by simp)
  have f:(c==45)=false:=by
   rw[d5]
   intro e
   simp_all
  have d:(c==43)=false:=by
   rw[d5]
   intro e
   simp_all
  rw[Lib.atoi,f,d]
  simp only[rf,jc]
  rw[Lib.decNat,CA]
  simp only[rf,jc]
  rw[aaI _ _ a]
  rfl
theorem ann {x:Int} (a:0<=x) (b:x<=255):wrap .u8 x=x:=by
 grind [wrap,IntKind.bits,IntKind.signed]
theorem ano {t:ByteArray} (h:t.size<=100000000) {k:Nat} (a:k<t.size) {n:Int} (f:0<=n) (g:n<=1000000000):
  (∃j,j=(ap t)[k]'(by rw[ee];exact a)/\((48<=j/\j<=57/\iU t (n,(k:Int))=some (.inl (10*n+((j-48:Nat):Int),((k+1:Nat):Int))))\/(¬(48<=j/\j<=57)/\iU t (n,(k:Int))=some (.inr (.inl (-1)))))):=by
 refine⟨_,rfl,?_⟩
 simp only[iU,nG]
 rw[an (show(k:Int)<((t.size:Nat):Int) by omega),qq a,wrap64 (x:=(k:Int)+1) (by omega) (by omega)]
 generalize b:(ap t)[k]'(by rw[ee];exact a)=j
 have e:j<256:=KZ j (by rw[<-b];exact cT _)
 simp only[au,ac]
 by_cases c:48<=j
 ·rw[cy (show¬(j:Int)<48 by omega)]
  by_cases d:j<=57
  all_goals grind [decide_eq_false,wrap64,wrap,ann,decide_eq_true]
 grind
theorem aaJ {t:ByteArray} (h:t.size<=6): ∀(r k N:Nat),k+r=t.size->r<N->(∀x∈(ap t).take k,48<=x/\x<=57)->
  ((∀x∈ap t,48<=x/\x<=57)/\ai (iU t) N ((cJ ((ap t).take k):Int),(k:Int))=some (.inr (cJ (ap t):Int)))\/
  ((¬ ∀x∈ap t,48<=x/\x<=57)/\ai (iU t) N ((cJ ((ap t).take k):Int),(k:Int))=some (.inl (-1)))
 |r,k,0,_,a,_=>by omega
 |0,k,N+1,b,_,hd=>by
  grind [ByteArray.size,ap,List.take_of_length_le,ee,ai,nG,decide_eq_false]
 |r+1,k,N+1,b,a,hd=>by
  have c:k<t.size:=by omega
  have i:k<(ap t).length:=by grind [ee]
  have lt:=aaH _ hd
  have le:=e5 (n:=10) (by omega) (show((ap t).take k).length<=6 by grind)
  obtain⟨j,g,d⟩:=ano (by omega) c (n:=(cJ ((ap t).take k):Int)) (by omega) (by omega)
  rw[ai]
  rcases d with⟨m,o,e⟩|⟨p,e⟩
  ·rw[e]
   simp only[ac]
   have q:(ap t).take (k+1)=(ap t).take k++ [j]:=by simp_all
   have f:(10*(cJ ((ap t).take k):Int)+((j-48:Nat):Int))=((cJ ((ap t).take (k+1)):Nat):Int):=by
    grind [BP]
   rw[f]
   refine aaJ h r (k+1) N (by omega) (by omega) (fun x l=> ?_)
   grind
  grind [List.getElem_mem]
theorem anp (t:ByteArray) (h:t.size<=100000000):gN t=some (if gu t=true then(cJ (ap t):Int) else-1):=by
 have e:gN t=pX t:=by unfold gN;rfl
 rw[e]
 unfold pX y3
 rw[gA]
 simp only[ac]
 by_cases c:1<=t.size/\t.size<=6
 ·rw[an (show(1:Int)<=((t.size:Nat):Int) by omega),an (show((t.size:Nat):Int)<=6 by omega)]
  have run:=aaJ c.2 t.size 0 LL (by omega) (by grind [LL]) (fun x a=>by simp at a)
  have go:tv t=some (if(∀x∈ap t,48<=x/\x<=57) then(cJ (ap t):Int) else-1):=by
   unfold tv HS y4 HR HQ y5
   grind [ai,LL,cJ,ap]
  simp only[f7,bo,aq]
  by_cases b:t.size>1
  ·rw[an (show((t.size:Nat):Int)>1 by omega),show((0:Int))=((0:Nat):Int) from rfl,qq (by omega)]
   simp only[au,ac]
   have hd:(ap t).head? =some ((ap t)[0]'(by rw[ee];omega)):=by rw[List.head?_eq_getElem?,bh]
   grind [ap,ee,hd,gu,qD,Option.some.inj]
  grind [decide_eq_false,ByteArray.size,gu,ap,qD]
 grind [gu,Decidable.decide,ByteArray.size,Bool.and_eq_false_iff,decide_eq_false]
end Go.Rv
