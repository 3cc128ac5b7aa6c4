/-
  Plain mathematics of what the law reaches. Conditions: none.
-/
import Derived.Test.YthjlnoplibeclaaGreatDoorHFnExactDeskSaya
open Go.IntKind (wrap)
open ByteArray (empty)
open List (range replicate dropWhile takeWhile getD reverse)
open Go.Lib (decDigits indexByte join itoa)
open Nat (blt ble testBit beq)
open UInt8 (toNat)
set_option linter.all false
namespace Go.Rv
def i7:=@Nat.pow_succ
def k9:=@Option.bind_eq_some_iff
def op:=@List.map_congr_left
def o0:=@List.takeWhile_append_dropWhile
def o1:=@Nat.one_le_two_pow
def o2:=@List.dropLast_concat_getLast
def apA:=@List.takeWhile_sublist
def apB:=@Int.eq_ofNat_of_zero_le
def apC:=@List.length_eq_zero_iff
def cK (l:List (List Int)):Nat:=(l.map List.length).sum
theorem ala (l:List (List Int)) (r:List Int):cK (l++ [r])=cK l+r.length:=by unfold cK;simp
theorem A5 {S:List (List Int)} {k:Nat} (h:k<S.length):cK (S.take (k+1))=cK (S.take k)+S[k].length:=by
 grind [List.take_add_one,List.getElem?_eq_getElem,ala]
theorem Ld (S:List (List Int)): ∀k,cK (S.take k)<=cK S:=fun k=>by
 grind [cK,List.take,List.drop,List.take_append_drop]
def cY (S:List (List Int)):Nat:=S.length+cK S
theorem A6 {S:List (List Int)} {k:Nat} (h:k<S.length):S[k].length<=cK S:=by
 have:=A5 h
 grind [Ld]
section
variable {S : List (List Int)} (sz : cY S <= 1048576)
include sz
theorem alb:wm S=some S:=by
 have e:wm S=wl S:=by unfold wm;rfl
 have d:S.length<=1048576:=by grind [cY]
 rw[e]
 unfold wl DC Ov Ou DD Ot Oq DE
 rw[hg (by omega)]
 have b:=bu (body:=fun(s:Int×(List (List Int)))=>((rn S s.1 s.2).map (Sum.elim (fun(t:Int×(List (List Int)))=>Sum.inl (t.1,t.2)) (fun(t:(List (List Int)))=>Sum.inr t)):Option ((Int×(List (List Int)))⊕(((List (List Int)))))))
  (fun k=>((k:Int),S.take k++replicate (S.length-k) [])) S.length S
  (by
   intro k a
   have c:=A6 a
   have w:wrap .i64 ((k:Int)+1)=((k+1:Nat):Int):=by grind [wrap64]
   have lt:(S.take k).length=k:=by grind
   have len:(S.take k++replicate (S.length-k) ([]:List Int)).length=S.length:=by grind
   simp only[rn]
   rw[an (show(k:Int)<((S.length:Nat):Int) by omega),bR a,w]
   simp only[aw,ac]
   rw[XV S[k] (by grind [cY]),len,bS a]
   simp only[ac,within]
   try rw[aA a]
   simp only[ac,bn,Sum.elim_inl]
   congr 3
   rw[oP _ _ (by omega),lt,CG,show S.length-k=(S.length-(k+1))+1 by omega,h9,g3,iy,bh a,mZ]
   rfl)
  (by
   grind [rn,decide_eq_false,List.length]) LL (by grind [LL])
 simp_all
theorem alc:zQ S S=some true:=by
 have e:zQ S S=zP S S:=by unfold zQ;rfl
 have d:S.length<=1048576:=by grind [cY]
 rw[e]
 unfold zP JI Wl Wk JJ Wj Wi JK
 have b:=bu (body:=fun(s:Int)=>((tF S S s).map (Sum.elim (fun(t:Int)=>Sum.inl t) (Sum.elim (fun(t:Bool)=>Sum.inr (Sum.inl t)) (fun(t:Unit)=>Sum.inr (Sum.inr t)))):Option ((Int)⊕(Bool⊕Unit))))
  (fun k=>(k:Int)) S.length (Sum.inr ())
  (by
   intro k a
   have c:=A6 a
   have w:wrap .i64 ((k:Int)+1)=((k+1:Nat):Int):=by grind [wrap64]
   grind [tF,decide_eq_true,List.length,bR,XW,cY])
  (by
   grind [tF,decide_eq_false,List.length]) LL (by grind [LL])
 simp_all
end
theorem ald (c:Nat) (u:c<=1048576) (S:List (List Int)) (l:S.length<=maxLen) (o: ∀r∈S,r.length<=maxLen): ∃v,wi S (c:Int)=some v/\(v<0\/(0<=v/\v=((c:Nat):Int)-((cY S:Nat):Int))):=by
 have y:maxLen=9223372036854775807:=rfl
 have e:wi S (c:Int)=wh S (c:Int):=by unfold wi;rfl
 rw[e]
 unfold wh Dv
 rw[wrap64 (by omega) (by omega)]
 by_cases n:(c:Int)-((S.length:Nat):Int)<0
 ·simp_all
 ·rw[cy n]
  have j:=KP (body:=fun(s:Int×Int)=>((wg S s.1 s.2).map (Sum.elim (fun(t:Int×Int)=>Sum.inl (t.1,t.2)) (Sum.elim (fun(t:Int)=>Sum.inr (Sum.inl t)) (fun(t:Int)=>Sum.inr (Sum.inr t)))):Option ((Int×Int)⊕(Int⊕Int))))
   (I:=fun t=> ∃k:Nat,k<=S.length/\t.2=(k:Int)/\t.1=(c:Int)-((S.length+cK (S.take k):Nat):Int)/\0<=t.1)
   (μ:=fun t=>S.length-t.2.toNat) (Q:=fun r=>r=Sum.inl (-1)\/ ∃v:Int,r=Sum.inr v/\0<=v/\v=((c:Nat):Int)-((cY S:Nat):Int))
   (by
    rintro⟨b,i⟩ ⟨k,x,a,g,f⟩
    simp only at a g f
    subst a
    simp only[wg]
    by_cases lt:k<S.length
    ·have w:wrap .i64 ((k:Int)+1)=((k+1:Nat):Int):=by grind [wrap64]
     have z:=o S[k] (dc lt)
     have A:=A5 lt
     rw[an (show(k:Int)<((S.length:Nat):Int) by omega),bR lt,w]
     simp only[aw,ac,we,rl]
     rw[wrap64 (by omega) (by omega)]
     by_cases d:b-((S[k].length:Nat):Int)<0
     ·simp_all
     ·left
      rw[cy d]
      simp only[au,ac]
      rw[cy d]
      exact⟨(b-((S[k].length:Nat):Int),((k+1:Nat):Int)),rfl,⟨k+1,lt,rfl,by omega,by omega⟩,by omega⟩
    grind [List.length,decide_eq_false,List.take_of_length_le,cY]) LL ((c:Int)-((S.length:Nat):Int),0) ⟨0,by omega,rfl,by simp[cK],by omega⟩ (by grind [LL])
  obtain⟨r,m,R⟩:=j
  simp only[au,ac,Sum.elim_inl,Ok,Oi,Dw,Oh,Og]
  rw[m]
  rcases R with rfl|⟨v,rfl,q,sz⟩
  ·simp_all
  ·exact⟨v,rfl,.inr ⟨q,sz⟩⟩
section
variable {S : List (List Int)} (sz : cY S <= 1048576)
include sz
def eV (m:Nat) (S:List (List Int)) (k:Nat):List (List Int):=(range k).map fun i=>marks (m+cK (S.take i)) (S.getD i []).length
omit sz in
theorem ale (m:Nat) (S:List (List Int)) (k:Nat):eV m S (k+1)=eV m S k++ [marks (m+cK (S.take k)) (S.getD k []).length]:=by
 grind [eV,List.range_succ]
omit sz in
theorem Le (m:Nat) (S:List (List Int)) (k:Nat):(eV m S k).length=k:=by unfold eV;simp
theorem alf (m:Nat) (c:m<=2097152):zU (m:Int) S=some (((m+cK S:Nat):Int),eV m S S.length):=by
 have e:zU (m:Int) S=zT (m:Int) S:=by unfold zU;rfl
 have j:S.length<=1048576:=by grind [cY]
 rw[e]
 unfold zT JP Wt Ws JQ Wr Wq JR
 have d:=bu (body:=fun(s:Int×Int×(List (List Int)))=>((tH s.1 s.2.1 s.2.2).map (Sum.elim (fun(t:Int×Int×(List (List Int)))=>Sum.inl (t.1,t.2.1,t.2.2)) (fun(t:Int×(List (List Int)))=>Sum.inr t)):Option ((Int×Int×(List (List Int)))⊕((Int×(List (List Int)))))))
  (fun k=>(((m+cK (S.take k):Nat):Int),(k:Int),eV m S k++S.drop k)) S.length (((m+cK S:Nat):Int),eV m S S.length)
  (by
   intro k a
   have i:=A6 a
   have o:=A5 a
   have l:=Ld S k
   have f:=Le m S k
   have b:S.getD k []=S[k]:=by simp_all
   have w:wrap .i64 ((k:Int)+1)=((k+1:Nat):Int):=by grind [wrap64]
   have len:(eV m S k++S.drop k).length=S.length:=by grind
   have g:(eV m S k++S.drop k)[k]? =some S[k]:=by
    simp_all
   simp only[tH,len]
   rw[an (show(k:Int)<((S.length:Nat):Int) by omega),bS a,w]
   simp only[aw,ac,g]
   rw[Zm (m+cK (S.take k)) S[k] (by grind [cY]) (by grind [cY])]
   simp only[ac,bn,Sum.elim_inl]
   grind [Nat.add_assoc,List.set_set,List.set_append_right,List.drop_eq_getElem_cons,ale,List.append_assoc])
  (by
   grind [Le,List.length,tH,List.drop_length,decide_eq_false,List.take_of_length_le]) LL (by grind [LL])
 grind [eV,cK,List.take]
theorem alg (m:Nat) (d:m<=2097152):zZ (eV m S S.length) (m:Int)=some ((m+cK S:Nat):Int):=by
 have e:zZ (eV m S S.length) (m:Int)=zY (eV m S S.length) (m:Int):=by unfold zZ;rfl
 have j:S.length<=1048576:=by grind [cY]
 rw[e]
 unfold zY JW WB WA JX Wz Wy JY
 have b:=Le m S S.length
 have f:=bu (body:=fun(s:Int×Int)=>((tJ (eV m S S.length) s.1 s.2).map (Sum.elim (fun(t:Int×Int)=>Sum.inl (t.1,t.2)) (Sum.elim (fun(t:Int)=>Sum.inr (Sum.inl t)) (fun(t:Int)=>Sum.inr (Sum.inr t)))):Option ((Int×Int)⊕(Int⊕Int))))
  (fun k=>(((m+cK (S.take k):Nat):Int),(k:Int))) S.length (Sum.inr ((m+cK S:Nat):Int))
  (by
   intro k a
   have i:=A6 a
   have o:=A5 a
   have l:=Ld S k
   have c:S.getD k []=S[k]:=by simp_all
   have w:wrap .i64 ((k:Int)+1)=((k+1:Nat):Int):=by grind [wrap64]
   have g:idx (eV m S S.length) (k:Int)=some (marks (m+cK (S.take k)) S[k].length):=by
    grind [eN,eV,List.getElem?_range]
   simp only[tJ,b]
   rw[an (show(k:Int)<((S.length:Nat):Int) by omega),g,w]
   grind [Zn,cK,List.take,cY,decide_eq_false,Nat.add_assoc])
  (by
   grind [tJ,decide_eq_false,List.length,List.take_of_length_le]) LL (by grind [LL])
 grind [cK,List.take]
end
theorem alh (n:List Int) (p:List (List Int)) (l:n.length<=maxLen) (a:p.length<=maxLen) (b: ∀r∈p,r.length<=maxLen):
  ∃v,Dx n p 1048576=some v/\(v<0\/(0<=v/\v=1048576-((n.length+cY p:Nat):Int))):=by
 have f:maxLen=9223372036854775807:=rfl
 unfold Dx wj we rl
 rw[wrap64 (by omega) (by omega)]
 by_cases c:(1048576:Int)-((n.length:Nat):Int)<0
 ·simp_all
 ·rw[cy c]
  obtain⟨v,e,d⟩:=ald (1048576-n.length) (by omega) p a b
  grind
section
variable {n : List Int} {p : List (List Int)} (sz : n.length + cY p <= 1048576)
include sz
theorem ali:pc n p=some (n,p):=by
 grind [pc,wn,XV,alb]
theorem Zr:pU n p n p=some true:=by
 grind [pU,zR,XW,alc]
end
theorem Zs {d:gS} (o:dV d=true):d.1.length+cY d.2<=80:=by
 grind [kO,du,uh,cY,cK]
def cp:List Int->List Int->List Int×Nat
 |[],B=>(B,0)
 |a::A,[]=>(a::A,0)
 |a::A,b::B=>if a<b then(a::(cp A (b::B)).1,(cp A (b::B)).2) else(b::(cp (a::A) B).1,(A.length+1)+(cp (a::A) B).2)
termination_by A B=>A.length+B.length
theorem A7 {a b:Int} {A B:List Int} (l:a<b):cp (a::A) (b::B)=(a::(cp A (b::B)).1,(cp A (b::B)).2):=by rw[cp,aA l]
theorem A8 {a b:Int} {A B:List Int} (l: ¬a<b):cp (a::A) (b::B)=(b::(cp (a::A) B).1,(A.length+1)+(cp (a::A) B).2):=by rw[cp,aG l]
theorem qi: ∀(n:Nat) (A B:List Int),A.length+B.length<=n->(cp A B).1.Perm (A++B)
 |n,[],B,_=>by rw[cp];simp_all
 |n,a::A,[],_=>by rw[cp,fZ]
 |0,a::A,b::B,h=>by simp at h
 |n+1,a::A,b::B,h=>by
  simp only[cB] at h
  by_cases l:a<b
  ·rw[A7 l]
   exact(qi n A (b::B) (by grind)).cons a
  ·rw[A8 l]
   exact((qi n (a::A) B (by grind)).cons b).trans List.perm_middle.symm
theorem alk (A B:List Int) (b:Int):gP A (b::B)=A.countP (fun a=>decide (b<a))+gP A B:=by
 induction A<;>grind [gP]
theorem alm {a b c:List Int} (p:a.Perm b):gP a c=gP b c:=(p.map _).sum_nat
theorem Lf: ∀(n:Nat) (c d:List Int),c.length+d.length<=n->c.Pairwise (· < ·)->d.Pairwise (· < ·)->(∀x∈c,x∉d)->(cp c d).1.Pairwise (· < ·)/\(cp c d).2=gP c d
 |n,[],d,_,_,i,_=>by rw[cp];exact⟨i,rfl⟩
 |n,a::c,[],_,g,_,_=>by
  rw[cp]
  refine⟨g,?_⟩
  unfold gP
  have: ∀l:List Int,(l.map fun a=>([]:List Int).countP fun o=>decide (o<a)).sum=0:=fun l=>by
   induction l<;>simp_all
  simp_all
 |0,a::c,b::d,h,_,_,_=>by simp at h
 |n+1,a::c,b::d,h,g,i,hd=>by
  simp only[cB] at h
  have q:=d9.mp g
  have r:=d9.mp i
  by_cases l:a<b
  ·rw[A7 l]
   have f:=Lf n c (b::d) (by grind) q.2 i (fun x j=>hd x (bA _ j))
   refine⟨d9.mpr ⟨fun o k=> ?_,f.1⟩,?_⟩
   ·have:=((qi n c (b::d) (by grind)).mem_iff).mp k
    grind
   ·simp only
    rw[f.2]
    unfold gP
    rw[dJ,f3,List.countP_eq_zero.mpr,ix]
    grind
  ·rw[A8 l]
   have ne:a≠b:=fun e=>hd a (bl ..) (by simp_all)
   have f:=Lf n (a::c) d (by grind) g r.2 (fun x j m=>hd x j (bA _ m))
   refine⟨d9.mpr ⟨fun o k=> ?_,f.1⟩,?_⟩
   ·have:=((qi n (a::c) d (by grind)).mem_iff).mp k
    grind
   ·simp only
    rw[f.2,alk,List.countP_eq_length.mpr,cB]
    grind
theorem aln:((range 256).all fun m=>sl (m:Int)==some (((cg m).length:Nat):Int))=true:=by decide+kernel
theorem count_eq {m:Nat} (h:m<256):sl (m:Int)=some (((cg m).length:Nat):Int):=by simpa using gN aln h
theorem alo:((range 8).all fun i=>ye ((i:Int)+1)==some ((2^i-1:Nat):Int))=true:=by decide+kernel
theorem alp {w:Nat} (a:1<=w) (b:w<=8):ye (w:Int)=some ((2^(w-1)-1:Nat):Int):=by
 grind [gN,alo]
theorem alq {a b:Nat} (d:a<2^62) (f:b<2^62): ∃c:Nat,qu .u64 (a:Int) (b:Int)=(c:Int)/\c<=a/\ ∀i,c.testBit i=(a.testBit i&& !b.testBit i):=by
 have h:a&&&(2^64-1-b)<=a:=Nat.and_le_left
 refine⟨a&&&(2^64-1-b),?_,h,fun i=> ?_⟩
 ·show wrap .u64 ((BitVec.ofInt 64 (a:Int)&&& ~~~BitVec.ofInt 64 (b:Int)).toNat:Int)=_
  grind [BitVec.toNat_and,BitVec.toNat_not,tV,tU]
 ·rw[Nat.testBit_and]
  by_cases hi:i<64
  ·have e:2^64-1-b=2^64-(b+1):=by omega
   rw[e,Nat.testBit_two_pow_sub_succ (by omega)]
   simp[hi]
  ·have:a.testBit i=false:=Nat.testBit_lt_two_pow (gz d (e5 (by omega) (by omega)))
   grind
def ml (h:List Int) (v:Int) (w i:Nat):Bool:=di h v i&&decide (i<w-1)
def mm (h:List Int) (v:Int) (w i:Nat):Bool:=di h v i&& !decide (i<w-1)
theorem Tree.A9 {h:List Int} (T:Tree h) {w i:Nat} (hi:i<h.length):di h (w:Int) i=true↔hd h (i+1)=w:=by
 have a:=T.get (w:=i+1) (by omega) (by omega)
 grind [Nat.add_sub_cancel,di]
theorem Tree.alr {h:List Int} (T:Tree h) {w:Nat} (a:1<=w) (b:w<=h.length):hd h w≠w:=by
 intro e
 have:=T.fm a b (by omega)
 simp_all
theorem als {h:List Int} (T:Tree h) {w:Nat} (d:1<=w) (m:w<=h.length):
  sk h (w:Int)=some (((bs (ml h (w:Int) w) h.length:Nat):Int),((bs (mm h (w:Int) w) h.length:Nat):Int)):=by
 have f:=T.le
 have q:=ajL (show w<=8 by omega) d
 have r:bs (di h (w:Int)) h.length<256:=nB f (fJ _ _)
 obtain⟨c,k,l,o⟩:=alq (a:=bs (di h (w:Int)) h.length) (b:=2^(w-1)-1) (by omega) (by omega)
 have e:sk h (w:Int)=sj h (w:Int):=by unfold sk;rfl
 rw[e]
 unfold sj
 simp only[ac,tW h _ f,alp d (show w<=8 by omega),k]
 rw[KE (by omega) (by omega)]
 have g:bs (di h (w:Int)) h.length&&&(2^(w-1)-1)=bs (ml h (w:Int) w) h.length:=by
  refine nA (Nat.lt_of_le_of_lt Nat.and_le_left (fJ _ _)) fun i hi=> ?_
  grind [hQ,Nat.testBit_two_pow_sub_one,ml]
 have j:c=bs (mm h (w:Int) w) h.length:=by
  refine nA (Nat.lt_of_le_of_lt l (fJ _ _)) fun i hi=> ?_
  grind [hQ,Nat.testBit_two_pow_sub_one,mm]
 rw[g,j]
theorem Lg: ∀{a b:List Int},a.Pairwise (· < ·)->b.Pairwise (· < ·)->(∀x,x∈a↔x∈b)->a=b
 |[],[],_,_,_=>rfl
 |[],f::b,_,_,h=>by grind [List.mem_cons_self]
 |x::a,[],_,_,h=>by grind [List.mem_cons_self]
 |x::a,f::b,c,d,h=>by
  rw[d9] at c d
  have e:x=f:=by
   grind [List.mem_cons_self]
  subst e
  congr 1
  refine Lg c.2 d.2 fun z=> ?_
  grind
theorem Zt (m:Nat):(cg m).Pairwise (· < ·):=by
 grind [cg,List.Pairwise.imp,List.pairwise_lt_range]
theorem Zu {l:List Nat} (h:l.Pairwise (· < ·)):(bL l).Pairwise (· < ·):=by
 grind [bL,List.Pairwise.imp]
theorem Zv {l:List Nat} {x:Int}:x∈bL l↔ ∃k,k∈l/\x=(k:Int):=by
 grind [bL]
section
variable {h : List Int} (T : Tree h)
include T
theorem Zw {w:Nat} (c:1<=w) (a:w<=h.length):cg (bs (ml h (w:Int) w) h.length)=bL (eT h w):=by
 refine Lg (Zt _) (Zu (YN h w)) fun x=> ?_
 rw[KG T.le,Zv]
 constructor
 ·grind [ml,nN,Tree.A9]
 ·rintro⟨k,b,e⟩
  rw[nN a] at b
  refine⟨k-1,by omega,?_,by omega⟩
  grind [ml,Tree.A9]
theorem Zx {w:Nat} (b:1<=w) (c:w<=h.length):cg (bs (mm h (w:Int) w) h.length)=bL (hV h w):=by
 refine Lg (Zt _) (Zu (YO h w)) fun x=> ?_
 rw[KG T.le,Zv]
 constructor
 ·rintro⟨i,hi,a,e⟩
  simp only[mm,aT,gl,decide_eq_false_iff_not] at a
  have d:=(T.A9 hi).mp a.1
  have ne:i+1≠w:=fun g=>T.alr b c (by simp_all)
  exact⟨i+1,nO.mpr ⟨by omega,d,by omega⟩,e⟩
 ·rintro⟨k,f,e⟩
  rw[nO] at f
  refine⟨k-1,by omega,?_,by omega⟩
  grind [mm,Bool.not_eq_true',decide_eq_false_iff_not,Tree.A9]
omit T in
theorem Zy {R0 R1:List Int->Int->List Int->Option (List Int)} {f m:Nat} {a:List Nat} (e:m<256) (b:cg m=bL a) (o:List Int)
  (c: ∀k∈a,∀j,R0 h (k:Int) (o++bL ((a.take j).flatMap (bv h f)))=some (o++bL ((a.take j).flatMap (bv h f))++bL (bv h f k))):
  yf R0 R1 h (m:Int) o=some (o++bL (a.flatMap (bv h f))):=by
 have len:(bL a).length=a.length:=kM a
 have q:=bu (body:=fun(s:Int×(List Int))=>((so R0 R1 h (((bL a).length:Nat):Int) s.1 s.2 (bL a)).map (Sum.elim (fun(t:Int×(List Int))=>Sum.inl (t.1,t.2)) (fun(t:(List Int))=>Sum.inr t)):Option ((Int×(List Int))⊕(((List Int))))))
  (fun k=>((k:Int),o++bL ((a.take k).flatMap (bv h f)))) a.length (o++bL (a.flatMap (bv h f)))
  (by
   intro k d
   have i:=kE m
   rw[b,len] at i
   have i1:ap (k:Int) (bL a).length=some k:=by grind [ap]
   have g:(bL a)[k]? =some (a[k]:Int):=by grind [bL,List.getElem?_eq_getElem]
   have l:=c a[k] (dc d) k
   simp only[so]
   rw[an (show(k:Int)<(((bL a).length:Nat):Int) by omega),i1,wrap64 (by omega) (by omega)]
   simp only[aw,ac,g,l,bn,Sum.elim_inl]
   grind [List.take_succ_eq_append_getElem,ud,List.append_assoc])
  (by
   grind [so,decide_eq_false,List.length,bL,List.take_length]) LL (by
    grind [kE,LL])
 unfold yf HK HH TO TN HI
 rw[p6 e,b]
 grind [TM,TL,HJ,bL]
theorem Lh {w f:Nat} (i:1<=w) (k:w<=h.length) (b:h.length<=f+1+dep h w) (j:Nat):(((eT h w).take j).flatMap (bv h f)).length<=64/\(((hV h w).take j).flatMap (bv h f)).length<=64:=by
 have e:(eT h w).length<=8:=by
  have:=kE (bs (ml h (w:Int) w) h.length)
  grind [Zw,kM]
 have g:(hV h w).length<=8:=by
  have:=kE (bs (mm h (w:Int) w) h.length)
  grind [Zx,kM]
 have d: ∀c,(1<=c/\c<=h.length)/\hd h c=w->(bv h f c).length<=8:=fun c a=>by
  grind [nP,Y0]
 grind [AZ,bv,eT,List.mem_of_mem_take,nN,List.length_take_le',hV,nO]
theorem Li: ∀(f w:Nat) (o:List Int) (n:Nat),1<=w->w<=h.length->h.length<=f+dep h w->2*f<=n->o.length+200*f<=1000000->kv n h (w:Int) o=some (o++bL (bv h f w))
 |0,w,o,n,a,b,l,_,_=>by
  have:=T.hh a b
  omega
 |f+1,w,o,n,a,b,l,B,C=>by
  obtain⟨n,rfl⟩: ∃v,n=v+1+1:=⟨n-2,by omega⟩
  have m:=T.le
  have q: ∀c i,(1<=c/\c<=h.length)/\hd h c=w->i.length+200*f<=1000000->(fk n).1 h (c:Int) i=some (i++bL (bv h f c)):=fun c i g u=>by
   have:=nP T g.1.1 g.1.2 a g.2
   exact Li f c i n g.1.1 g.1.2 (by omega) (by omega) u
  have e:kv (n+1+1) h (w:Int) o=sn (fk (n+1)).1 (fk (n+1)).2 h (w:Int) o:=rfl
  have t:(fk (n+1)).2=fun y z A=>yf (fk n).1 (fk n).2 y z A:=rfl
  have r:(eT h w).take (eT h w).length=eT h w:=lr
  have s:=(Lh T a b l (eT h w).length).1
  rw[r] at s
  have x:=Zy (R0:=(fk n).1) (R1:=(fk n).2) (f:=f) (nB m (fJ (ml h (w:Int) w) h.length)) (Zw T a b) o (fun k d j=>by
   rw[nN b] at d
   have:=(Lh T a b l j).1
   exact q k _ ⟨d.1,d.2.1⟩ (by grind [List.length_append,kM]))
  have D:=Zy (R0:=(fk n).1) (R1:=(fk n).2) (f:=f) (nB m (fJ (mm h (w:Int) w) h.length)) (Zx T a b) (o++bL ((eT h w).flatMap (bv h f))++ [(w:Int)]) (fun k d j=>by
   rw[nO] at d
   have:=(Lh T a b l j).2
   exact q k _ ⟨d.1,d.2.1⟩ (by grind [List.length_append,kM,List.length_cons,List.length_nil]))
  rw[e]
  unfold sn
  rw[als T a b,t]
  simp only[ac,x]
  rw[nQ (by grind [List.length_append,kM,List.length_cons,List.length_nil])]
  grind [bv,ud,bL,hV]
end
theorem Lj (h:List Int):pz h=some (if aB h=true then dt h else[]):=by
 have e:pz h=sr h:=by unfold pz;rfl
 rw[e]
 unfold sr
 rw[fH]
 cases t:aB h with
 |false=>rfl
 |true=>
  have T:=(bK h).mp t
  have c:=T.le
  have r:fo h=(top h:Int):=by grind [fo]
  have e: ∀o,sp h (top h:Int) o=kv RR h (top h:Int) o:=fun o=>by unfold sp;rfl
  have b:mk 0 ((h.length:Nat):Int)=some 0:=by grind [mk]
  have a:=Li T RR (top h) [] (2*RR) (gt h) T.gb (by grind [RR]) (aS _)
  have a:=Li T h.length (top h) [] RR (gt h) T.gb (by omega) (by grind [RR]) (by simp;omega)
  simp only[ac,bo,au,AA h,r,b,e,List.replicate_zero,a]
  rfl
theorem Zz {a:Type} {xs:List a} {k:Nat} (h:k<xs.length):idx xs (k:Int)=some xs[k]:=bR h
theorem alu (k:Nat) (a:k<=1000000): ∃zs:List Int,yy (k:Int)=some (0,zs):=by
 have e:yy (k:Int)=sE (k:Int):=by unfold yy;rfl
 rw[e]
 unfold sE
 rw[cy (show¬(k:Int)<0 by omega),wrap64 (x:=0-((0:Nat):Int)) (by omega) (by omega),wrap64 (by omega) (by omega)]
 by_cases z:k=0
 ·subst z
  exact⟨[],rfl⟩
 ·rw[an (show(k:Int)-(0-((0:Nat):Int))>0 by omega)]
  have m:oy ((k:Int)-(0-((0:Nat):Int)))=some k:=by
   grind [oy]
  simp_all [inc,replicate,aA,au,aw,e4,sure,ac]
def gw (xss:List (List Int)) (k:Nat):Nat:=((xss.take k).flatten).length
theorem ZA {xss:List (List Int)} {k:Nat} (h:k<xss.length):gw xss (k+1)=gw xss k+xss[k].length:=by
 grind [gw,List.take_succ_eq_append_getElem,List.flatten_append,List.length_append]
theorem Ll {xss:List (List Int)}: ∀k,gw xss k<=xss.flatten.length:=fun k=>by
 grind [gw,List.take_append_drop,List.flatten,List.take,List.drop,List.flatten_append,List.length_append]
theorem alv (xss:List (List Int)) (l:xss.length<=1000) (j:xss.flatten.length<=1000000): ∃n g,yA xss=some (n,g)/\(g.drop 0).take n=xss.flatten:=by
 have e:yA xss=yz xss:=by unfold yA;rfl
 have p:=bu (body:=fun(s:Int×Int)=>((sF xss s.1 ((xss.length:Nat):Int) s.2).map (Sum.elim (fun(t:Int×Int)=>Sum.inl (t.1,t.2)) (fun(t:Int)=>Sum.inr t)):Option ((Int×Int)⊕(Int))))
  (fun k=>(((gw xss k:Nat):Int),(k:Int))) xss.length ((gw xss xss.length:Nat):Int)
  (by
   intro k a
   have b:=Ll (xss:=xss) (k+1)
   grind [ZA,sF,decide_eq_true,List.length,Zz,wrap64,decide_eq_false])
  (by
   grind [sF,decide_eq_false,List.length]) LL (by grind [LL])
 have b:=Ll (xss:=xss) xss.length
 obtain⟨zs,i⟩:=alu (gw xss xss.length) (by omega)
 have o:=bu (body:=fun(s:Nat×Int×(List Int))=>((sG s.1 xss ((xss.length:Nat):Int) s.2.1 s.2.2).map (Sum.elim (fun(t:Nat×Int×(List Int))=>Sum.inl (t.1,t.2.1,t.2.2)) (fun(t:Nat×(List Int))=>Sum.inr t)):Option ((Nat×Int×(List Int))⊕((Nat×(List Int))))))
  (fun k=>(gw xss k,(k:Int),if k=0 then zs else(xss.take k).flatten)) xss.length (gw xss xss.length,if xss.length=0 then zs else(xss.take xss.length).flatten)
  (by
   intro k a
   have b:=Ll (xss:=xss) (k+1)
   have m:=ZA a
   have c:((if k=0 then zs else(xss.take k).flatten).drop 0).take (gw xss k)=(xss.take k).flatten:=by
    rw[fY]
    by_cases z:k=0
    ·subst z
     rfl
    ·rw[aG z]
     exact lr
   simp only[sG]
   rw[an (show(k:Int)<((xss.length:Nat):Int) by omega),Zz a,wrap64 (x:=(k:Int)+1) (by omega) (by omega),c]
   simp only[aw,ac]
   rw[nQ (by omega)]
   have f:(xss.take k).flatten++xss[k]=(xss.take (k+1)).flatten:=by
    grind [List.take_succ_eq_append_getElem,List.flatten_append]
   simp only[ac,bn,Sum.elim_inl,f]
   rw[aG (by omega)]
   rfl)
  (by
   grind [sG,decide_eq_false,List.length]) LL (by grind [LL])
 refine⟨gw xss xss.length,if xss.length=0 then zs else(xss.take xss.length).flatten,?_,?_⟩
 ·rw[e]
  unfold yz Ie Uo Ui If Uh Ug
  simp only[ac]
  have d:=p
  rw[show((gw xss 0:Nat):Int)=0 from rfl,show((0:Nat):Int)=0 from rfl] at d
  rw[d]
  simp only[bn,ac]
  unfold Un Ig
  rw[i]
  simp only[ac]
  grind [Um,Ul,Ih,Uk,Uj,Ii,gw]
 grind [List.length,List.eq_nil_of_length_eq_zero,List.take,List.take_length,gw]
theorem Lm: ∀(n:Nat) (A B:List Int),A.length+B.length<=n->(cp A B).2<=A.length*B.length
 |n,[],B,_=>by grind [cp]
 |n,a::A,[],_=>by grind [cp]
 |0,a::A,b::B,h=>by simp at h
 |n+1,a::A,b::B,h=>by
  simp only[cB] at h
  by_cases l:a<b
  ·rw[A7 l]
   have:=Lm n A (b::B) (by grind)
   exact fu this (ic _ (by simp))
  ·rw[A8 l]
   have:=Lm n (a::A) B (by grind)
   grind [List.length_cons,Nat.mul_add,List.length]
abbrev uj:(List Int)×(List Int)×Int×(List Int)->Option (((List Int)×(List Int)×Int×(List Int))⊕(((List Int)×(List Int)×Int×(List Int)))):=
 fun(s:(List Int)×(List Int)×Int×(List Int))=>((pD s.1 s.2.1 s.2.2.1 s.2.2.2).map (Sum.elim (fun(t:(List Int)×(List Int)×Int×(List Int))=>Sum.inl (t.1,t.2.1,t.2.2.1,t.2.2.2)) (fun(t:(List Int)×(List Int)×Int×(List Int))=>Sum.inr t)):Option (((List Int)×(List Int)×Int×(List Int))⊕(((List Int)×(List Int)×Int×(List Int)))))
theorem Ln: ∀(n:Nat) (c d R:List Int) (t N:Nat),c.length+d.length<=n->n<N->R.length+c.length+d.length<=1000->t+(cp c d).2<=10000000->
  ∃e f g,ai uj N (c,d,((t:Nat):Int),R)=some (e,f,((t+(cp c d).2:Nat):Int),g)/\g++e++f=R++(cp c d).1
 |n,[],d,R,t,N+1,_,_,_,_=>by
  refine⟨[],d,R,?_,?_⟩
  ·rw[cp,ai]
   rfl
  grind [cp]
 |n,a::c,[],R,t,N+1,_,_,_,_=>by
  refine⟨a::c,[],R,?_,?_⟩
  all_goals grind [cp,ai,pD,decide_eq_true,List.length_cons]
 |0,a::c,b::d,R,t,N+1,h,_,_,_=>by simp at h
 |n,c,d,R,t,0,_,h,_,_=>by omega
 |n+1,a::c,b::d,R,t,N+1,h,v,q,i=>by
  simp only[cB] at h q
  have i1:idx (a::c) 0=some a:=rfl
  have o:idx (b::d) 0=some b:=rfl
  have k:decide ((((a::c).length:Nat):Int)>0)=true:=an (by simp_all)
  have m:decide ((((b::d).length:Nat):Int)>0)=true:=an (by simp_all)
  have j: ∀(x:Int) (l:List Int),inc 1 (x::l).length=some 1:=fun x l=>by
   grind [inc,List.length_cons]
  have u: ∀(x:Int) (l:List Int),((x::l).take (x::l).length).drop 1=l:=fun x l=>by simp_all
  by_cases l:a<b
  ·rw[A7 l] at i⊢
   simp only at i⊢
   obtain⟨e,f,g,s,r⟩:=Ln n c (b::d) (R++ [a]) t N (by grind) (by omega) (by grind) i
   refine⟨e,f,g,?_,by rw[r];simp⟩
   rw[ai]
   have st:uj (a::c,b::d,((t:Nat):Int),R)=some (Sum.inl (c,b::d,((t:Nat):Int),R++ [a])):=by
    simp only[uj,pD]
    rw[k,m,i1,o]
    simp only[aw,ac]
    rw[an l,nQ (by grind),j]
    simp_all
   grind
  ·rw[A8 l] at i⊢
   simp only at i⊢
   obtain⟨e,f,g,s,r⟩:=Ln n (a::c) d (R++ [b]) (t+(c.length+1)) N (by grind) (by omega) (by grind) (by omega)
   refine⟨e,f,g,?_,by rw[r];simp⟩
   rw[ai]
   have st:uj (a::c,b::d,((t:Nat):Int),R)=some (Sum.inl (a::c,d,((t+(c.length+1):Nat):Int),R++ [b])):=by
    simp only[uj,pD]
    rw[k,m,i1,o]
    simp only[aw,ac]
    rw[cy l]
    simp only[au]
    rw[nQ (by grind),j,wrap64 (x:=((t:Nat):Int)+(((a::c).length:Nat):Int)) (by omega) (by grind)]
    simp_all
   grind
theorem alw (a b:List Int) (h:a.length+b.length<=100): ∃n c,yC a b=some (n,((cp a b).2:Int),c)/\(c.drop 0).take n=(cp a b).1:=by
 have e:yC a b=yB a b:=by unfold yC;rfl
 have j:mk 0 (wrap .i64 (((a.length:Nat):Int)+((b.length:Nat):Int)))=some 0:=by
  grind [wrap64,mk]
 have le:=Lm _ a b (aS _)
 have l:a.length*b.length<=100*100:=fv (by omega) (by omega)
 obtain⟨d,f,g,o,r⟩:=Ln _ a b [] 0 LL (aS _) (by grind [LL]) (by simp;omega) (by omega)
 rw[hz] at r
 have i:[g,d,f].flatten=(cp a b).1:=by simp_all
 have m:=(qi _ a b (aS _)).length_eq
 obtain⟨n,c,q,k⟩:=alv [g,d,f] (by simp) (by grind)
 refine⟨n,c,?_,by rw[k,i]⟩
 rw[e]
 unfold yB Ij
 rw[j]
 simp only[ac,List.replicate_zero]
 unfold Ur Uq Up
 grind [ai,LL,cp,Ik]
theorem alx (n:Nat) (h:n<=1000000):quo .i64 ((n:Nat):Int) 2=some ((n/2:Nat):Int):=by
 grind [quo,Int.tdiv,wrap64]
theorem Lo: ∀(f:Nat) (l:List Int),l.length<=f->l.length<=50->l.Nodup-> ∃r,lN (f+1) l=some (r,(bZ l:Int))/\r.Pairwise (· < ·)/\r.Perm l
 |f,l,C,t,u=>by
  have e:lN (f+1) l=sH (pE f) l:=rfl
  rw[e]
  unfold sH
  by_cases s:l.length<2
  ·rw[an (show((l.length:Nat):Int)<2 by omega)]
   refine⟨l,?_,?_,List.Perm.refl _⟩
   ·match l,s with
    |[],_=>rfl
    |[x],_=>rfl
    |_::_::_,s=>grind
   ·match l,s with
    |[],_=>simp_all
    |[x],_=>simp_all
    |_::_::_,s=>grind
  ·rw[cy (show¬((l.length:Nat):Int)<2 by omega),alx _ (by omega)]
   have c:inc ((l.length/2:Nat):Int) l.length=some (l.length/2):=by
    grind [inc,Int.toNat_natCast]
   obtain⟨f,rfl⟩: ∃q,f=q+1:=⟨f-1,by omega⟩
   have J:=uL (l.length/2) l
   have d:(l.take (l.length/2)++l.drop (l.length/2)).Nodup:=by simp_all
   rw[List.nodup_append] at d
   have D:(l.take (l.length/2)).length=l.length/2:=by grind
   have E:(l.drop (l.length/2)).length=l.length-l.length/2:=og
   obtain⟨a,j,z,g⟩:=Lo f (l.take (l.length/2)) (by omega) (by omega) d.1
   obtain⟨b,k,A,i⟩:=Lo f (l.drop (l.length/2)) (by omega) (by omega) d.2.1
   have j:pE (f+1) (l.take (l.length/2))=_:=j
   have k:pE (f+1) (l.drop (l.length/2))=_:=k
   have F:=g.length_eq
   have G:=i.length_eq
   obtain⟨n,O,y,I⟩:=alw a b (by omega)
   have o: ∀x∈a,x∉b:=fun x v w=>d.2.2 x (g.mem_iff.mp v) x (i.mem_iff.mp w) rfl
   obtain⟨B,m⟩:=Lf _ a b (aS _) z A o
   have H:=qi _ a b (aS _)
   have N:bZ l=bZ (l.take (l.length/2))+bZ (l.drop (l.length/2))+(cp a b).2:=by
    rw[m,alm g,akE i]
    grind [YY,List.take,List.length,List.drop]
   have M:=akD u
   have K:l.length*(l.length-1)<=50*50:=fv t (by omega)
   have L:l.length*(l.length-1)/2<=2500:=by omega
   refine⟨(cp a b).1,?_,B,?_⟩
   ·simp only[au,ac,c,fY,j,lr,k,y]
    grind [wrap64,bZ,List.take,List.length,List.drop]
   grind
theorem ZB (o:List Int):yE o=some (nR o):=by
 have e:yE o=sJ o:=by unfold yE;rfl
 rw[e]
 unfold sJ nR
 rw[Yp]
 cases t:fO o o.length with
 |false=>rfl
 |true=>
  have ok:=(AI o _).mp t
  have a:=((AH o _).mp ok.2.2.2).2
  obtain⟨r,b,_,_⟩:=Lo (RR-1) o (by grind [RR]) (by omega) a
  grind [yD,lN,RR,Bool.not_true]
theorem aly:nR []= -1:=by decide
theorem alz (h:List Int):yF h=some (if aB h=true then(bZ (dt h):Int) else-1):=by
 have e:yF h=sK h:=by unfold yF;rfl
 rw[e]
 unfold sK
 rw[Lj]
 cases t:aB h with
 |false=>
  grind [Bool.false_eq_true,ZB,aly]
 |true=>
  grind [bK,kL,ZB,nR,A0]
theorem alA (h:List Int):zI h=some (if aB h=true then putRow h (dt h) else[]):=by
 have e:zI h=tx h:=by unfold zI;rfl
 grind [tx,Lj,Yu,aB,bK,A0,Bool.and_self]
theorem uk (x:List Int) (h:x.length<=1099511627776):nt x=some x:=by
 grind [nt,oV]
theorem alB (x:List (List Int)) (h:x.length<=1099511627776):JD x=some x:=by
 grind [JD,oV]
theorem mn (n:List Int) (p:List (List Int)) (c:n.length<=1048576) (d:p.length<=1048576) (f: ∀x∈p,x.length<=1048576):js n p=some (n,p):=by
 have e:js n p=x8 n p:=by unfold js;rfl
 rw[e]
 unfold x8 Hi Td Tc Hj Tb Ta Hk
 rw[uk n (by omega)]
 simp only[ac]
 have w: ∀k:Nat,k<p.length->wrap .i64 ((k:Int)+1)=((k+1:Nat):Int):=fun k a=>by grind [wrap64]
 have b:=bu (body:=fun(s:Int×(List (List Int)))=>((se p ((p.length:Nat):Int) s.1 s.2).map (Sum.elim (fun(t:Int×(List (List Int)))=>Sum.inl (t.1,t.2)) (fun(t:(List (List Int)))=>Sum.inr t)):Option ((Int×(List (List Int)))⊕(((List (List Int)))))))
  (fun k=>((k:Int),p.take k)) p.length p
  (fun k a=>by
   have lt:(p.take k).length=k:=by grind
   unfold se
   simp only
   rw[an (show(k:Int)<((p.length:Nat):Int) by omega),bR a]
   grind [uk,List.getElem_mem,room_le,List.take,MonadStateOf.set,List.take_succ_eq_append_getElem])
  (by
   grind [se,decide_eq_false,List.length,List.take_length]) LL (by grind [LL])
 simp_all
theorem ZC (n:List Int) (p:List (List Int)):r6 n p=some (dV (n,p)):=by
 have e:r6 n p=xT n p:=by unfold r6;rfl
 rw[e]
 unfold xT G8 dV
 rw[fH,ac]
 cases aB n with
 |false=>simp
 |true=>
  simp only[bo,au,d8]
  by_cases c:p.length<=8
  ·rw[cy (show¬((p.length:Nat):Int)>8 by omega),an c,f8]
   simp only[au,ac,Sum.elim_inl]
   unfold S1 SY G9 SX SW
   have w: ∀k:Nat,k<p.length->wrap .i64 ((k:Int)+1)=((k+1:Nat):Int):=fun k a=>by grind [wrap64]
   have d:=lV (body:=fun(s:Int)=>((pu p ((p.length:Nat):Int) s).map (Sum.elim (fun(t:Int)=>Sum.inl t) (Sum.elim (fun(t:Bool)=>Sum.inr (Sum.inl t)) (fun(t:Unit)=>Sum.inr (Sum.inr t)))):Option ((Int)⊕(Bool⊕Unit))))
    (fun k=>(k:Int)) p.length (fun k=>aB (p.getD k [])) (fun b=>cond b (Sum.inr ()) (Sum.inl false))
    (fun k a t=>by
     rw[e8,bh a,ie] at t
     grind [pu,decide_eq_true,List.length,bR,fH,Bool.not_true])
    (fun k a t=>by
     rw[e8,bh a,ie] at t
     grind [pu,decide_eq_true,List.length,bR,fH,Bool.not_false])
    (by
     grind [pu,decide_eq_false,List.length]) LL (by grind [LL])
   have f:ai _ LL (0:Int)=_:=d
   simp only[ac]
   rw[f]
   have g:(range p.length).all (fun k=>aB (p.getD k []))=p.all aB:=by
    rw[e3,bQ,bQ]
    constructor
    ·intro h x i
     obtain⟨k,a,rfl⟩:=kX i
     simp_all
    simp_all
   rw[g]
   cases p.all aB<;>rfl
  grind
theorem ZD:aB []=false:=by decide
def iV (k x y:Int):Bool:=(((k==0)||(k==1))||(x==0))&&((k==0)||(y==0))
theorem ZE (k x y:Int):x1 k x y=some (iV k x y):=by
 grind [x1,x0,ks,r8,iV]
theorem alC {h:List Int} (t:aB h=true) (k x a:Int) (r:iV k x a=true):zJ h k x a=some (ee h (k,x,a,())):=by
 obtain⟨l,m⟩:=du t
 have e:zJ h k x a=tz h k x a:=by unfold zJ;rfl
 rw[e]
 unfold tz ee eU
 unfold iV at r
 cases g:k==0 with
 |true=>
  have b:(k==1)=false:=by simp_all
  have c:(k==2)=false:=by simp_all
  have d:(k==3)=false:=by simp_all
  have f:(k==4)=false:=by simp_all
  simp only[aw,X8,ac,b,c,d,f,d8,k2,dh,t]
  grind [Decidable.decide,List.length,wrap,wrap64,Bool.not_true,uk,bS]
 |false=>
  rw[g] at r
  simp only[kh] at r
  rw[aT] at r
  have j:=r.2
  cases b:k==1 with
  |true=>
   grind [uk,room_le,List.length_cons,List.length_nil]
  |false=>
   rw[b,kh] at r
   have i:=r.1
   simp only[au,i,j,k2,d8,f8,aG (show¬false=true by simp)]
   cases c:k==2 with
   |true=>
    have w:wrap .i64 ((((h.length:Nat):Int))-1)=((h.length-1:Nat):Int):=by grind [wrap64]
    grind [inc,List.length,uk,List.length_take,List.dropLast_eq_take]
   |false=>
    cases d:k==3 with
    |true=>
     grind [akj]
    |false=>
     cases f:k==4 with
     |true=>
      simp only[au,aw,alA,ac]
      rfl
     |false=>rfl
theorem alD {h:List Int} {k x y:Int} (r:iV k x y=false):ee h (k,x,y,())=[]:=by
 grind [ee,eU,iV]
theorem alE (x a:List Int) (l:x.length<=1048576):zL x a=some (x==a):=by
 have e:zL x a=zK x a:=by unfold zL;rfl
 rw[e]
 unfold zK JB
 by_cases c:x.length=a.length
 ·have b:((((x.length:Nat):Int)) !=(((a.length:Nat):Int)))=false:=by rw[c];simp
  rw[b]
  simp only[au,ac,Sum.elim_inl]
  unfold Wd Wb JC Wa V9
  have w: ∀k:Nat,k<x.length->wrap .i64 ((k:Int)+1)=((k+1:Nat):Int):=fun k d=>by grind [wrap64]
  have f:=lV (body:=fun(s:Int)=>((pT x a ((x.length:Nat):Int) s).map (Sum.elim (fun(t:Int)=>Sum.inl t) (Sum.elim (fun(t:Bool)=>Sum.inr (Sum.inl t)) (fun(t:Unit)=>Sum.inr (Sum.inr t)))):Option ((Int)⊕(Bool⊕Unit))))
   (fun k=>(k:Int)) x.length (fun k=>x.getD k 0==a.getD k 0) (fun b=>cond b (Sum.inr ()) (Sum.inl false))
   (fun k d t=>by
    rw[e8,bh d,ie,e8,bh (show k<a.length by omega),ie] at t
    grind [pT,decide_eq_true,List.length,bR,bne])
   (fun k d t=>by
    rw[e8,bh d,ie,e8,bh (show k<a.length by omega),ie] at t
    grind [pT,decide_eq_true,List.length,bR,bne])
   (by
    grind [pT,decide_eq_false,List.length]) LL (by grind [LL])
  have g:ai _ LL (0:Int)=_:=f
  simp only[ac]
  rw[g]
  have i:(range x.length).all (fun k=>x.getD k 0==a.getD k 0)=(x==a):=by
   rw[e3,bQ,cb]
   constructor
   ·intro h
    refine k6 c fun k d j=> ?_
    simp_all
   simp_all
  rw[i]
  cases x==a<;>rfl
 ·have b:((((x.length:Nat):Int)) !=(((a.length:Nat):Int)))=true:=by
   grind
  rw[b,show(x==a)=false from dg.mpr (fun e=>c (by rw[e]))]
  rfl
theorem alF {n:List Int} {p:List (List Int)} (o:dV (n,p)=true) (k x a:Int) (r:iV k x a=true) (d:eU (k,x,a,()) 5=false):zM n p k x a=some (fq (n,p) (k,x,a,())):=by
 obtain⟨t,f,i⟩:=kO o
 simp only at t f i
 obtain⟨u,v⟩:=du t
 have e:zM n p k x a=tA n p k x a:=by unfold zM;rfl
 have j: ∀z∈p,z.length<=1048576:=fun z b=>by grind [du]
 rw[e]
 unfold tA fq
 rw[aA o,d,k2,aG (show¬false=true by simp),alC t k x a r,ac,fH,ac]
 cases g:aB (ee n (k,x,a,())) with
 |false=>
  grind [Bool.not_false,mn]
 |true=>
  obtain⟨q,s⟩:=du g
  simp only[bo,au,alE _ n (show(ee n (k,x,a,())).length<=1048576 by omega),ac,Bool.or_false]
  cases ee n (k,x,a,())==n with
  |true=>grind [mn]
  |false=>
   simp only[au,alB p (by omega),ac,aG (show¬false=true by simp)]
   rw[room_le (by grind),ac]
   have m:(p++ [n]).length=p.length+1:=by simp
   have w:wrap .i64 ((((p++ [n]).length:Nat):Int)-8)=(p.length:Int)-7:=by grind [wrap64]
   have l: ∀z∈p++ [n],z.length<=1048576:=fun z b=>by
    grind
   rw[w]
   unfold mj
   by_cases c:p.length<8
   ·grind [inc,imax,List.length,List.take_length,mn]
   grind [inc,imax,List.length,List.take_of_length_le,List.length_drop,mn,List.mem_of_mem_drop]
theorem alG {n:List Int} {p:List (List Int)} (o:dV (n,p)=true) (k x c:Int) (b:eU (k,x,c,()) 5=true):zA n p=some (fq (n,p) (k,x,c,())):=by
 obtain⟨t,j,m⟩:=kO o
 simp only at t j m
 obtain⟨r,s⟩:=du t
 have e:zA n p=tt n p:=by unfold zA;rfl
 have d: ∀z∈p,z.length<=1048576:=fun z q=>by grind [du]
 have g:ee n (k,x,c,())=[]:=by
  have b:k=5:=by
   grind [eU]
  subst b
  rfl
 rw[e]
 unfold tt fq
 rw[aA o,b,d8,g]
 cases p with
 |nil=>
  have w:wrap .i64 (((([]:List (List Int)).length:Nat):Int)-1)= -1:=by decide
  grind [mn,ZD]
 |cons z a=>
  have w:wrap .i64 ((((z::a).length:Nat):Int)-1)=(((z::a).length-1:Nat):Int):=by grind [wrap64,List.length_cons]
  have i:inc (((z::a).length-1:Nat):Int) (z::a).length=some ((z::a).length-1):=by grind [inc]
  rw[w,cy (by omega),au,bR (by simp),ac,i,ac,fY,mn _ _ (d _ (dc _)) (by grind) (fun l f=>d l (CE f)),ac]
  grind [List.dropLast_eq_take]
theorem alH (n:List Int) (p:List (List Int)) (a:gi):zN n p a.1 a.2.1 a.2.2.1=some (fq (n,p) a):=by
 obtain⟨k,x,b,u⟩:=a
 simp only
 have e:zN n p k x b=tB n p k x b:=by unfold zN;rfl
 rw[e]
 unfold tB
 rw[ZC,ac]
 cases o:dV (n,p) with
 |false=>rw[Zk _ o];rfl
 |true=>
  obtain⟨t,c,d⟩:=kO o
  simp only at t c d
  obtain⟨j,l⟩:=du t
  have f: ∀z∈p,z.length<=1048576:=fun z g=>by grind [du]
  simp only[bo,au,ZE,ac]
  cases r:iV k x b with
  |false=>
   have i:eU (k,x,b,u) 5=false:=by
    grind [eU,iV]
   have m:=alD (h:=n) r
   grind [Bool.not_false,mn,fq,ee,ZD]
  |true=>
   grind [Bool.not_true,eU,iV,alG,alF]
def Lp (n:Nat):List UInt8:=if n<10 then[UInt8.ofNat (48+n)] else[UInt8.ofNat (48+n/10),UInt8.ofNat (48+n%10)]
theorem alI {n:Nat} (h:n<100):decDigits n=Lp n:=by
 unfold Lp
 rw[decDigits]
 by_cases c:n<10
 ·rw[dif_pos c,aA c]
 ·rw[dif_neg c,aG c,decDigits,dif_pos (show n/10<10 by omega)]
  rfl
def ZF (n:Nat):Bool:=match cV (n:Int) with
 |some t=>t.data.toList==Lp n
 |none=>false
theorem alJ:((range 100).all ZF)=true:=by decide+kernel
theorem ZG {n:Nat} (h:n<100):C6 (n:Int)=some (bE n):=by
 have a:=bQ.mp alJ n (fh.mpr h)
 unfold ZF at a
 rw[(hq h).1] at a
 simp only[cb] at a
 unfold C6
 rw[aA (by omega),e0,alI h,<-a]
theorem alK {n:Nat} (h:n<100):oW (n:Int)=some (bE n):=by
 have e:=ZG h
 unfold C6 at e
 rw[aA (by omega)] at e
 unfold oW itoa
 rw[aA (by omega),aG (by omega)]
 exact e
theorem alL {n:Nat} (h:n<100):strconv_Itoa (n:Int)=some (bE n):=by
 unfold strconv_Itoa
 first|exact ZG h|exact alK h
def ZH (n:Nat):Bool:=match cV (n:Int) with
 |some t=>(eb t).1==(n:Int)
 |none=>false
theorem alM:((range 100).all ZH)=true:=by decide+kernel
theorem ZI {n:Nat} (h:n<100):(eb (bE n)).1=(n:Int):=by
 have a:=bQ.mp alM n (fh.mpr h)
 unfold ZH at a
 rw[(hq h).1] at a
 simpa using a
theorem alN (k a b:Int):Hg k a b=some (cM k a b):=by
 unfold Hg x2 cM
 rw[ZE]
 unfold iV
 by_cases j:k=0
 ·subst j
  by_cases d:0<=a<;>by_cases e:a<=99<;>by_cases c:0<=b<;>by_cases m:b<=99<;>simp[d,e,c,m]
 ·have o:(k==0)=false:=dg.mpr j
  by_cases l:k=1
  ·subst l
   by_cases c:b=0
   ·subst c
    by_cases d:0<=a<;>by_cases e:a<=99<;>simp[d,e]
   ·rw[dg.mpr c]
    simp
  ·have q:(k==1)=false:=dg.mpr l
   rw[o,q]
   by_cases f:2<=k/\k<=5
   ·rw[an (show k>=0 by omega),an (show k<6 by omega),an f.1,an f.2]
    by_cases d:a=0
    ·by_cases c:b=0
     ·subst d
      subst c
      rfl
     ·rw[dg.mpr c]
      simp
    ·rw[dg.mpr d]
     simp
   ·have r:(false&&decide (0<=a)&&decide (a<=99)&&decide (0<=b)&&decide (b<=99)||false&&decide (0<=a)&&decide (a<=99)&&b==0||decide (2<=k)&&decide (k<=5)&&a==0&&b==0)=false:=by
     by_cases i:2<=k
     ·rw[cy (show¬k<=5 from fun h=>f ⟨i,h⟩)]
      simp
     ·rw[cy i]
      simp
    rw[r]
    by_cases g:k>=0
    ·rw[an g,cy (show¬k<6 by omega)]
     rfl
    ·rw[cy g]
     rfl
theorem qj {a c:Type} {body:a->Option (a⊕c)} {s b:a} (h:body s=some (.inl b)) (N:Nat):ai body (N+1) s=ai body N b:=by
 rw[ai,h]
 rfl
theorem qk {a b:Type} {body:a->Option (a⊕b)} {s:a} {o:b} (h:body s=some (.inr o)) (N:Nat):ai body (N+1) s=some o:=by
 rw[ai,h]
 rfl
theorem Ba: ∃N,LL=N+1+1+1:=⟨LL-3,by simp only[LL]⟩
abbrev nU (xs:List Int) (n:Int):ByteArray×Int->Option ((ByteArray×Int)⊕ByteArray):=
 fun(s:ByteArray×Int)=>((sa s.1 xs n s.2).map (Sum.elim (fun(t:ByteArray×Int)=>Sum.inl (t.1,t.2)) (fun(t:ByteArray)=>Sum.inr t)):Option ((ByteArray×Int)⊕(ByteArray)))
theorem Lq {t:ByteArray} {xs:List Int} {n:Int} {k m:Nat} (f:t.size<=1000) (b:k<xs.length) (e:k<1000) (c:(k:Int)<n) (a:m<100) (d:xs[k]=(m:Int)):
  nU xs n (t,(k:Int))=some (.inl (t++(gh++bE m),((k+1:Nat):Int))):=by
 obtain⟨_,g,i,_⟩:=hq a
 have w:wrap .i64 ((k:Int)+1)=((k+1:Nat):Int):=by rw[wrap64 (by omega) (by omega)];omega
 have j:(gh++bE m).size<=3:=by rw[e6];show 1+_<=3;omega
 simp only[nU,sa]
 rw[an c,bR b,d,w]
 simp only[aw,ac,alL a]
 rw[show cat (ByteArray.mk #[32]) (bE m)=some (gh++bE m) from kJ (by show 1+_<=_;omega)]
 simp only[ac]
 rw[kJ (by omega)]
 rfl
theorem Lr {t:ByteArray} {xs:List Int} {n k:Int} (a: ¬k<n):nU xs n (t,k)=some (.inr t):=by
 simp only[nU,sa]
 rw[cy a]
 rfl
theorem Ls (k a b:Int):ns k a b=some (cz k a b):=by
 have e:ns k a b=x7 k a b:=by unfold ns;rfl
 rw[e]
 unfold x7 Hh
 rw[alN,ac]
 cases d:cM k a b with
 |false=>rw[KT d];rfl
 |true=>
  simp only[bo,au]
  rcases kK d with⟨n,m,c,r,rfl,rfl,rfl⟩|⟨n,c,rfl,rfl,rfl⟩|⟨o,q,rfl,rfl⟩
  ·have i:idx cF 0=some (ByteArray.mk #[104,101,97,100]):=rfl
   rw[i,show same (List.length cF) 6=some () from rfl]
   simp only[ac,Sum.elim_inl]
   unfold x6 x5 r9 x4 x3 sb
   have l:ks 0=some 2:=by unfold ks;rfl
   rw[l,ac,show inc 2 (List.length [(n:Int),(m:Int)])=some 2 from rfl]
   simp only[ac]
   have f:ai (nU [(n:Int),(m:Int)] 2) LL (ByteArray.mk #[104,101,97,100],((0:Nat):Int))=some (ByteArray.mk #[104,101,97,100]++(gh++bE n)++(gh++bE m)):=by
    obtain⟨_,s,u,_⟩:=hq c
    obtain⟨N,j⟩:=Ba
    rw[j,qj (Lq (m:=n) (by decide) (by simp) (by decide) (by decide) c rfl),qj (Lq (m:=m) (by rw[e6,e6];show 4+(1+_)<=1000;omega) (by simp) (by decide) (by decide) r rfl),qk (Lr (by decide))]
   have g:ai _ LL (ByteArray.mk #[104,101,97,100],(0:Int))=_:=f
   refine(aR (fun x:Option ByteArray=>(x.map fun t=>t).bind fun t=>some t) g).trans ?_
   rw[AN c r]
   simp only[bn,ac]
   congr 1
   refine ma ?_
   simp only[jH]
   rw[show ao iR=ao (ByteArray.mk #[104,101,97,100])++ao gh from rfl]
   simp
  ·have i:idx cF 1=some (ByteArray.mk #[97,100,100]):=rfl
   rw[i,show same (List.length cF) 6=some () from rfl]
   simp only[ac,Sum.elim_inl]
   unfold x6 x5 r9 x4 x3 sb
   have l:ks 1=some 1:=by unfold ks;rfl
   rw[l,ac,show inc 1 (List.length [(n:Int),0])=some 1 from rfl]
   simp only[ac]
   have f:ai (nU [(n:Int)] 1) LL (ByteArray.mk #[97,100,100],((0:Nat):Int))=some (ByteArray.mk #[97,100,100]++(gh++bE n)):=by
    obtain⟨N,j⟩:=Ba
    rw[j,qj (Lq (m:=n) (by decide) (by simp) (by decide) (by decide) c rfl),qk (Lr (by decide))]
   have g:ai _ LL (ByteArray.mk #[97,100,100],(0:Int))=_:=f
   refine(aR (fun x:Option ByteArray=>(x.map fun t=>t).bind fun t=>some t) g).trans ?_
   rw[AO c]
   simp only[bn,ac]
   congr 1
  ·rw[qf o q,show same (List.length cF) 6=some () from rfl]
   have l:ks k=some 0:=by
    unfold ks r8
    rw[dg.mpr (show k≠0 by omega),dg.mpr (show k≠1 by omega)]
    rfl
   have i:idx cF k=some (hU k):=by
    rcases md o q with rfl|rfl|rfl|rfl<;>rfl
   rw[i]
   simp only[ac,Sum.elim_inl]
   unfold x6 x5 r9 x4 x3 sb
   rw[l,ac,show inc 0 (List.length [(0:Int),0])=some 0 from rfl]
   simp only[ac]
   have f:ai (nU ([]:List Int) 0) LL (hU k,((0:Nat):Int))=some (hU k):=by
    obtain⟨N,j⟩:=Ba
    rw[j,qk (Lr (by decide))]
   have g:ai _ LL (hU k,(0:Int))=_:=f
   exact(aR (fun x:Option ByteArray=>(x.map fun t=>t).bind fun t=>some t) g).trans rfl
theorem ZJ: ∀(l:List UInt8) (c:UInt8),(indexByte l c= -1/\c∉l)\/ ∃a f,l=a++c::f/\c∉a/\indexByte l c=(a.length:Int)
 |[],c=> .inl ⟨rfl,by simp⟩
 |b::l,c=>by
  rw[indexByte]
  by_cases e:b=c
  ·subst e
   rw[e4,aA rfl]
   exact .inr ⟨[],l,rfl,by simp,rfl⟩
  ·rw[dg.mpr e,aG (by simp)]
   rcases ZJ l c with⟨g,d⟩|⟨a,f,rfl,d,i⟩
   ·rw[g]
    exact .inl ⟨rfl,fun m=>by
     rcases eh.1 m with m|m
     ·exact e m.symm
     ·exact d m⟩
   ·rw[i,dg.mpr (show((a.length:Nat):Int)≠ -1 by omega),aG (by simp)]
    exact .inr ⟨b::a,f,rfl,fun m=>by
     rcases eh.1 m with m|m
     ·exact e m.symm
     ·exact d m,by simp⟩
theorem Bb {e:Type} {x:e}: ∀{c d a b:List e},c++x::a=d++x::b->x∉c->x∉d->c=d/\a=b
 |[],[],a,b,h,_,_=>by simpa using h
 |[],y::d,a,b,h,_,n=>by simp at h;exact absurd (by rw[h.1];exact bl ..) n
 |y::c,[],a,b,h,n,_=>by simp at h;exact absurd (by rw[<-h.1];exact bl ..) n
 |y::c,z::d,a,b,h,f,g=>by
  simp only[fr,ls] at h
  obtain⟨rfl,h⟩:=h
  obtain⟨rfl,rfl⟩:=Bb h (fun m=>f (bA _ m)) (fun m=>g (bA _ m))
  exact⟨rfl,rfl⟩
theorem Lt (s:ByteArray) (c:UInt8):(kq s (ByteArray.mk #[c])=some (-1)/\c.toNat∉ao s)\/ ∃a g,ao s=a++c.toNat::g/\c.toNat∉a/\kq s (ByteArray.mk #[c])=some (a.length:Int):=by
 have e:kq s (ByteArray.mk #[c])=some (indexByte s.data.toList c):=rfl
 have inj: ∀(l:List UInt8),c∉l->c.toNat∉l.map (fun b:UInt8=>b.toNat):=fun l h m=>by
  obtain⟨b,j,e⟩:=iB.1 m
  exact h (UInt8.toNat_inj.mp e▸j)
 rw[e]
 rcases ZJ s.data.toList c with⟨d,f⟩|⟨a,g,d,f,i⟩
 ·exact .inl ⟨by rw[d],inj _ f⟩
 ·refine .inr ⟨a.map (fun b:UInt8=>b.toNat),g.map (fun b:UInt8=>b.toNat),?_,inj _ f,by rw[i];simp⟩
  unfold ao
  rw[d]
  simp
theorem alO {s:ByteArray} {c:UInt8} (h:c.toNat∉ao s):kq s (ByteArray.mk #[c])=some (-1):=by
 rcases Lt s c with⟨a,_⟩|⟨b,d,a,_,_⟩
 ·exact a
 ·exact absurd (by rw[a];simp) h
theorem alP {s:ByteArray} {c:UInt8} {b f:List Nat} (h:ao s=b++c.toNat::f) (n:c.toNat∉b):kq s (ByteArray.mk #[c])=some (b.length:Int):=by
 rcases Lt s c with⟨_,a⟩|⟨g,i,d,a,e⟩
 ·exact absurd (by rw[h];simp) a
 ·obtain⟨rfl,_⟩:=Bb (h.symm.trans d) n a
  exact e
theorem alQ {s:ByteArray} {x:Nat} {a b:List Nat} (h:ao s=a++x::b):s.extract 0 a.length=cJ a:=by
 rw[<-AU (s.extract 0 a.length),nM,h,fY,List.take_left']
 rfl
theorem alR {s:ByteArray} {x:Nat} {a b:List Nat} (h:ao s=a++x::b):s.extract (a.length+1) s.size=cJ b:=by
 have c:s.size=a.length+(b.length+1):=by rw[<-ec,h];simp
 rw[<-AU (s.extract (a.length+1) s.size),nM,h,vv (by simp;omega)]
 congr 1
 rw[List.drop_append]
 simp
theorem alS {l:List Nat} (h: ∀x∈l,x<256):ao (cJ l)=l:=by
 unfold ao cJ
 simp only[g4]
 refine(op (g:=id) fun b a=> ?_).trans (List.map_id _)
 exact UInt8.toNat_ofNat_of_lt' (h b a)
theorem Lu {s:ByteArray} {x:Nat} {d e:List Nat} (h:ao s=d++x::e):(∀b∈d,b<256)/\(∀b∈e,b<256)/\d.length+(e.length+1)=s.size:=by
 refine⟨fun b c=>KQ (a:=s) b (by rw[h];simp[c]),fun b c=>KQ (a:=s) b (by rw[h];simp[c]),?_⟩
 rw[<-ec,h]
 simp
theorem ZK: ∀(d f:Nat) (n:Int),n<((10^(d+1):Nat):Int)->d+1<=f->d<=15-> ∃t,kr f n=some t/\1<=t.size/\t.size<=d+1
 |d,0,n,_,h,_=>by omega
 |d,f+1,n,m,l,hd=>by
  rw[kr]
  simp only[D0,rt]
  by_cases c:n<10
  ·rw[an c]
   exact⟨_,rfl,aS 1,by show 1<=d+1;omega⟩
  ·rw[cy c]
   cases d with
   |zero=>omega
   |succ d=>
    have o:(10:Nat)^(d+1+1)=10^(d+1)*10:=i7 ..
    have k:(10:Nat)^(d+1)<=10^15:=e5 (by omega) (by omega)
    have j:(10:Nat)^15=1000000000000000:=by decide
    have u:n.tdiv 10=n/10:=Int.tdiv_eq_ediv_of_nonneg (by omega)
    have i:quo .i64 n 10=some (n/10):=by
     grind [quo,wrap64]
    obtain⟨r,e,_⟩:=aks (a:=n) (b:=10) (by omega) (by omega)
    obtain⟨t,g,q,s⟩:=ZK d f (n/10) (by omega) (by omega) (by omega)
    simp only[au,i,e,g,ac]
    have sz:(bytesOf [wrap .u8 (wrap .i64 (48+r))]).size=1:=rfl
    grind [kJ,ByteArray.size_append]
noncomputable def bT (n:Int):ByteArray:=(cV n).getD empty
theorem hs {n:Int} (h:n<1000000000):cV n=some (bT n)/\1<=(bT n).size/\(bT n).size<=9:=by
 have e:cV n=kr RR n:=by unfold cV;rfl
 obtain⟨t,a,b,c⟩:=ZK 8 RR n (by simpa using h) (by grind [RR]) (by omega)
 grind [bT]
def ql:ByteArray:=ByteArray.mk #[110,111,110,101]
def Lv:ByteArray:=ByteArray.mk #[44]
noncomputable def dH:List Int->ByteArray
 |[]=>empty
 |[n]=>bT n
 |n::m::l=>bT n++Lv++dH (m::l)
noncomputable def gx (l:List Int):ByteArray:=if l=[] then ql else dH l
theorem Lw: ∀(l:List Int) (n:Int),dH (l++ [n])=(if l=[] then bT n else dH l++Lv++bT n)
 |[],n=>rfl
 |[m],n=>rfl
 |m::k::l,n=>by
  rw[fr,fr,dH,<-fr,Lw (k::l) n,aG (by simp),aG (by simp),dH]
  simp only[ByteArray.append_assoc]
theorem Lx: ∀(l:List Int),(∀n,n∈l->n<1000000000)->(dH l).size<=10*l.length
 |[],_=>vz _
 |[n],h=>by have:=(hs (h n (by simp))).2.2;grind [dH,List.length_cons,List.length_nil]
 |n::m::l,h=>by
  have:=(hs (h n (by simp))).2.2
  have:=Lx (m::l) (fun k a=>h k (bA _ a))
  rw[dH,e6,e6]
  simp only[cB] at*
  have:Lv.size=1:=rfl
  omega
abbrev Ly (l:List Int):ByteArray×Int->Option ((ByteArray×Int)⊕ByteArray):=
 fun(s:ByteArray×Int)=>((rF l s.1 s.2).map (Sum.elim (fun(t:ByteArray×Int)=>Sum.inl (t.1,t.2)) (fun(t:ByteArray)=>Sum.inr t)):Option ((ByteArray×Int)⊕(ByteArray)))
theorem ZL (l:List Int) (j:l.length<=1000000) (h: ∀n,n∈l->n<1000000000):lE l=some (gx l):=by
 have e:lE l=wM l:=by unfold lE;rfl
 rw[e]
 unfold wM EQ PI PH ER PG PF ES
 have g:=bu (body:=Ly l) (fun k=>(dH (l.take k),(k:Int))) l.length (dH l)
  (by
   intro k a
   have w:wrap .i64 ((k:Int)+1)=((k+1:Nat):Int):=by grind [wrap64]
   obtain⟨b,m,o⟩:=hs (h l[k] (dc a))
   have d:=Lx (l.take k) (fun n f=>h n (CE f))
   have lt:(l.take k).length=k:=by grind
   rw[lt] at d
   simp only[Ly,rF]
   rw[an (show(k:Int)<((l.length:Nat):Int) by omega),bR a,w]
   have one:(ByteArray.mk #[44]).size=1:=rfl
   by_cases c:(k:Int)>0
   ·rw[an c]
    simp only[aw]
    rw[kJ (by omega)]
    simp only[ac,b]
    rw[kJ (by grind)]
    simp only[ac,bn,Sum.elim_inl]
    rw[i6 a,Lw,aG (fun z=>by simp_all)]
    rfl
   ·rw[cy c]
    simp only[aw,au,ac,b]
    rw[kJ (by omega)]
    grind [List.take_succ_eq_append_getElem,Lw,dH,ByteArray.empty_append])
  (by
   grind [rF,decide_eq_false,List.length,List.take_length]) LL (by grind [LL])
 have i:ai (Ly l) LL (empty,0)=some (dH l):=g
 rw[ac,ac,i,bn,ac]
 unfold gx
 cases l with
 |nil=>rfl
 |cons n l=>
  grind
def kP (h:List Int):List Int:=(range h.length).map fun k=>(dep h (k+1):Int)
def ht (h:List Int):List Int:=if aB h then kP h else[]
theorem mo (h:List Int):(kP h).length=h.length:=by simp[kP]
theorem LA (h:List Int) {k:Nat} (a:k<h.length):(kP h)[k]'(by rw[mo];exact a)=(dep h (k+1):Int):=by simp[kP]
theorem ZM (h:List Int) {k:Nat} (a:k<h.length):(kP h).drop k=(dep h (k+1):Int)::(kP h).drop (k+1):=by
 grind [List.drop_eq_getElem_cons,mo,LA]
theorem alT (h:List Int):Hu h=some (ht h):=by
 unfold Hu Ht Hq Tl Tk Hr Tj Ti Hs ht
 rw[fH]
 cases b:aB h with
 |false=>simp
 |true=>
  have T:=(bK h).1 b
  have g:=T.le
  simp only[ac,bo,au,Sum.elim_inl,cN,hg (show h.length<=1099511627776 by omega)]
  have c:=de (body:=fun(s:Int×(List Int))=>((sg h h.length s.1 s.2).map (Sum.elim (fun(t:Int×(List Int))=>Sum.inl (t.1,t.2)) (fun(t:(List Int))=>Sum.inr t)):Option ((Int×(List Int))⊕(((List Int))))))
   (I:=fun s=> ∃k:Nat,s.1=k/\k<=h.length/\s.2.length=h.length) (μ:=fun s=>h.length-s.1.toNat) (f:=fun s=>s.2.take s.1.toNat++(kP h).drop s.1.toNat)
   (by
    rintro⟨_,out⟩ ⟨k,rfl,e,d⟩
    simp only at d
    by_cases a:k<h.length
    ·left
     refine⟨((k+1:Nat),out.set k (dep h (k+1))),?_,⟨k+1,rfl,a,by grind⟩,by simp;omega,?_⟩
     ·simp only[sg]
      rw[show decide ((k:Int)<((h.length:Nat):Int))=true from an (by omega),wrap64 (by omega) (by omega),show(k:Int)+1=((k+1:Nat):Int) by omega,XZ h (by omega) T.aU k a,T.tS (by omega) (by omega)]
      grind [bS]
     grind [Int.toNat_natCast,KB,ZM]
    grind [List.length,sg,Decidable.decide,decide_eq_false,List.take_of_length_le,Nat.le_of_eq,List.drop_of_length_le,mo])
  rw[c LL (0,replicate h.length 0) ⟨0,by simp,by omega,by simp⟩ (by grind [LL])]
  simp
theorem ZN (h:List Int):(ht h).length<=h.length:=by
 grind [ht,mo]
theorem alU (h:List Int) (q:h.length<=1048576):E2 h=some (ht h):=by
 unfold E2 E1 ET PS PR EU PQ PP E0 ht
 simp only[ac]
 cases c:aB h with
 |false=>
  have b:=de (body:=fun(s:Int×(List Int))=>((rG h s.1 s.2).map (Sum.elim (fun(t:Int×(List Int))=>Sum.inl (t.1,t.2)) (fun(t:(List Int))=>Sum.inr t)):Option ((Int×(List Int))⊕(((List Int))))))
   (I:=fun s=>s=(0,[])) (μ:=fun s=>0) (f:=fun s=> [])
   (by
    grind [rG,wN,cL,List.length,decide_eq_true,decide_eq_false])
  grind [LL]
 |true=>
  have T:=(bK h).1 c
  have r:=T.le
  have j: ∀k,k<h.length->EX h ((k+1:Nat):Int)=some (dep h (k+1):Int):=fun k a=>by
   unfold EX
   have b:=de (body:=fun(s:Int×Int)=>((wO h s.1 s.2).map (Sum.elim (fun(t:Int×Int)=>Sum.inl (t.1,t.2)) (fun(t:Int)=>Sum.inr t)):Option ((Int×Int)⊕(Int))))
    (I:=fun s=> ∃i k:Nat,s=((i:Int),((k+1:Nat):Int))/\k<h.length/\i+dep h (k+1)<h.length) (μ:=fun s=>dep h s.2.toNat) (f:=fun s=>s.1+(dep h s.2.toNat:Int))
    (by
     rintro _ ⟨i,k,rfl,a,hi⟩
     have g:=T.get (w:=k+1) (by omega) (by omega)
     rw[show k+1-1=k by omega,bh a] at g
     have o:h[k]=((hd h (k+1):Nat):Int):=by grind
     simp only[wO]
     rw[wrap64 (x:=((k+1:Nat):Int)-1) (by omega) (by omega),show((k+1:Nat):Int)-1=(k:Int) by omega,bR a,wrap64 (by omega) (by omega)]
     simp only[ac]
     by_cases e:hd h (k+1)=0
     ·grind [Tree.eA,dep,Tree.Kz,Decidable.decide,decide_eq_false]
     ·left
      have v:=T.fm (w:=k+1) (by omega) (by omega) e
      have u:=T.cR (w:=k+1) (by omega) (by omega)
      rw[show decide (h[k]>0)=true from an (by omega)]
      refine⟨(((i+1:Nat):Int),h[k]),by simp,⟨i+1,hd h (k+1)-1,?_,by omega,?_⟩,?_,?_⟩
      all_goals grind)
   have m:=T.hh (w:=k+1) (by omega) (by omega)
   grind [LL,Int.toNat_natCast]
  have b:=de (body:=fun(s:Int×(List Int))=>((rG h s.1 s.2).map (Sum.elim (fun(t:Int×(List Int))=>Sum.inl (t.1,t.2)) (fun(t:(List Int))=>Sum.inr t)):Option ((Int×(List Int))⊕(((List Int))))))
   (I:=fun s=> ∃k:Nat,s.1=(k:Int)/\k<=h.length/\s.2.length<=k) (μ:=fun s=>h.length-s.1.toNat) (f:=fun s=>s.2++(kP h).drop s.1.toNat)
   (by
    rintro⟨_,out⟩ ⟨k,rfl,a,l⟩
    simp only at l
    simp only[rG,wN]
    rw[cL,c]
    by_cases d:k<h.length
    ·left
     refine⟨((k+1:Nat),out++ [(dep h (k+1):Int)]),?_,⟨k+1,rfl,d,by simp;omega⟩,by simp;omega,?_⟩
     ·rw[show decide ((k:Int)<((h.length:Nat):Int))=true from an (by omega)]
      simp only[aw,ac,Sum.elim_inl]
      unfold PO PN PM EV EZ PL PK EW PJ EY
      rw[wrap64 (by omega) (by omega),show(k:Int)+1=((k+1:Nat):Int) by omega]
      simp only[ac,j k d,bn,room_le (show out.length+ [(dep h (k+1):Int)].length<=1099511627776 by simp;omega)]
      simp
     grind [Int.toNat_natCast,ZM]
    grind [List.length,Decidable.decide,decide_eq_false,List.drop_of_length_le,Nat.le_of_eq,mo])
  rw[b LL (0,[]) ⟨0,by simp,by omega,by simp⟩ (by grind [LL])]
  simp
def eW (m:Nat):Nat:=(range 8).countP fun i=>m.testBit i&& !m.testBit (i+1)
theorem alV:((range 256).all fun m=>Fl (m:Int)==some ((eW m:Nat):Int))=true:=by decide+kernel
theorem alW {m:Nat} (h:m<256):Fl (m:Int)=some ((eW m:Nat):Int):=by simpa using gN alV h
theorem alX (m:Nat):eW m<=(cg m).length:=by
 unfold eW cg
 rw[eZ,g5,g5.symm,g5.symm]
 simp_all [List.countP_mono_left,aT]
theorem LB (m:Nat):eW m<=8:=fu (alX m) (kE m)
theorem alY:((range 256).all fun m=>(m==0||decide (1<=eW m))&&(hj m==decide (eW m<=1)))=true:=by decide+kernel
theorem ZO {m:Nat} (h:m<256) (a:m≠0):1<=eW m:=by
 grind [gN,alY,absurd]
def jK (x y:Nat):Bool:=(range 8).any fun d=>(range d).any fun c=>(range c).any fun b=>(range b).any fun a=>
 (x.testBit a&&y.testBit b&&x.testBit c&&y.testBit d)||(y.testBit a&&x.testBit b&&y.testBit c&&x.testBit d)
theorem alZ (x y:Nat):jK y x=jK x y:=by
 simp_all [jK,Bool.or_comm]
theorem ZP (x e:Nat):jK x e=true↔ ∃a b c d,a<b/\b<c/\c<d/\d<8/\
  ((x.testBit a=true/\e.testBit b=true/\x.testBit c=true/\e.testBit d=true)\/(e.testBit a=true/\x.testBit b=true/\e.testBit c=true/\x.testBit d=true)):=by
 simp only[jK,g0,fh,ev,aT]
 constructor
 ·rintro⟨d,f,c,g,b,i,a,j,h⟩
  refine⟨a,b,c,d,j,i,g,f,?_⟩
  grind
 ·rintro⟨a,b,c,d,j,i,g,f,h⟩
  refine⟨d,f,c,g,b,i,a,j,?_⟩
  grind
def hX (o:Nat->Nat):Nat->Nat->Nat->Prop
 |0,_,l=>l=0
 |k+1,i,l=> ∃a,a<i/\o a=l/\l≠0/\ ∃b,b≠l/\hX o k a b
theorem hX.mono {o:Nat->Nat}: ∀{k i j l:Nat},i<=j->hX o k i l->hX o k j l
 |0,_,_,_,_,h=>h
 |k+1,i,j,l,d,⟨a,c,b⟩=>⟨a,by omega,b⟩
theorem hX.less {o:Nat->Nat} {i:Nat}: ∀{n k l:Nat},k<=n->hX o n i l-> ∃b,hX o k i b
 |0,k,l,h,c=>⟨l,by simp_all⟩
 |n+1,k,l,h,c=>by
  by_cases e:k=n+1
  ·grind
  ·obtain⟨a,f,g,j,b,m,d⟩:=c
   exact hX.less (n:=n) (by omega) (hX.mono (Nat.le_of_lt f) d)
def runN (o:Nat->Nat):Nat->Nat×Nat
 |0=>(0,0)
 |i+1=>if o i=0 then runN o i else if o i=(runN o i).1 then runN o i else(o i,(runN o i).2+1)
theorem LC (o:Nat->Nat): ∀i,hX o (runN o i).2 i (runN o i).1/\(∀k b,hX o k i b->k<=(runN o i).2/\(k=(runN o i).2->b=(runN o i).1))/\(runN o i).2<=i
 |0=>by
  refine⟨rfl,?_,aS _⟩
  intro k b c
  cases k with
  |zero=>exact⟨aS _,fun _=>c⟩
  |succ k=>
   obtain⟨a,h,_⟩:=c
   omega
 |i+1=>by
  obtain⟨m,g,w⟩:=LC o i
  unfold runN
  by_cases j:o i=0
  ·rw[aA j]
   refine⟨m.mono (by omega),?_,by omega⟩
   intro k b c
   cases k with
   |zero=>exact g 0 b c
   |succ k=>
    obtain⟨a,u,d,f,r⟩:=c
    have:a≠i:=by
     grind
    exact g (k+1) b ⟨a,by omega,d,f,r⟩
  ·rw[aG j]
   by_cases l:o i=(runN o i).1
   ·rw[aA l]
    refine⟨m.mono (by omega),?_,by omega⟩
    intro k b c
    cases k with
    |zero=>exact g 0 b c
    |succ k=>
     obtain⟨a,u,d,f,q,s,t⟩:=c
     by_cases e:a=i
     ·grind
     ·exact g (k+1) b ⟨a,by omega,d,f,q,s,t⟩
   ·rw[aG l]
    refine⟨⟨i,by omega,rfl,j,(runN o i).1,fun v=>l v.symm,m⟩,?_,by omega⟩
    intro k b c
    simp only
    cases k with
    |zero=>omega
    |succ k=>
     obtain⟨a,u,d,f,q,s,t⟩:=c
     by_cases e:a=i
     ·grind
     ·have:=(g (k+1) b ⟨a,by omega,d,f,q,s,t⟩).1
      omega
theorem al0 (o:Nat->Nat) (i:Nat):4<=(runN o i).2↔ ∃l,hX o 4 i l:=by
 obtain⟨a,b,_⟩:=LC o i
 constructor
 ·intro h
  exact a.less h
 grind
def fQ (x y i:Nat):Nat:=(if x.testBit i then 1 else 0)+2*(if y.testBit i then 1 else 0)
theorem LD {x a:Nat} (b:x&&&a=0) (i:Nat) (c:x.testBit i=true):a.testBit i=false:=by
 have:(x&&&a).testBit i=false:=by rw[b];simp
 grind
theorem al1 {x e:Nat} (u:x&&&e=0):jK x e=decide (4<=(runN (fQ x e) 8).2):=by
 rw[e3,db,al0,ZP]
 have m (i:Nat):fQ x e i=1↔x.testBit i=true:=by
  grind [fQ,testBit,LD]
 have o (i:Nat):fQ x e i=2↔e.testBit i=true:=by
  grind [fQ,testBit,LD]
 have C (i:Nat):fQ x e i=0\/fQ x e i=1\/fQ x e i=2:=by
  grind [fQ,testBit,LD]
 constructor
 ·rintro⟨a,b,c,d,f,g,j,k,h⟩
  rcases h with⟨q,r,s,t⟩|⟨q,r,s,t⟩
  ·exact⟨2,d,k,(o d).2 t,by omega,1,by omega,c,j,(m c).2 s,by omega,2,by omega,b,g,(o b).2 r,by omega,1,by omega,a,f,(m a).2 q,by omega,0,by omega,rfl⟩
  ·exact⟨1,d,k,(m d).2 t,by omega,2,by omega,c,j,(o c).2 s,by omega,1,by omega,b,g,(m b).2 r,by omega,2,by omega,a,f,(o a).2 q,by omega,0,by omega,rfl⟩
 ·rintro⟨l,d,k,G,K,y,B,c,j,F,J,w,A,b,g,E,I,v,z,a,f,D,H,_⟩
  refine⟨a,b,c,d,f,g,j,k,?_⟩
  grind
theorem al2 {x a:Nat} (k:x<256) (l:a<256) (m:x&&&a=0):xv (x:Int) (a:Int)=some (jK x a):=by
 have e:xv (x:Int) (a:Int)=xu (x:Int) (a:Int):=by unfold xv;rfl
 rw[e]
 unfold xu F7 Rr Rq F8 Rp Ro
 have o:=bu (body:=fun(s:Int×Int×Int)=>((xt (x:Int) (a:Int) s.1 s.2.1 s.2.2).map (Sum.elim (fun(t:Int×Int×Int)=>Sum.inl (t.1,t.2.1,t.2.2)) (fun(t:Int)=>Sum.inr t)):Option ((Int×Int×Int)⊕(Int))))
  (fun i=>(((runN (fQ x a) i).1:Int),((runN (fQ x a) i).2:Int),(i:Int))) 8 ((runN (fQ x a) 8).2:Int)
  (by
   intro i hi
   simp only[xt]
   rw[an (show(i:Int)<8 by omega)]
   have d:=Yi k hi
   have f:=Yi l hi
   have r:=(LC (fQ x a) i).2.2
   obtain⟨v1,b,c⟩:=k9.mp d
   obtain⟨v2,g,j⟩:=k9.mp f
   simp only[aw,b,c,g,j,ac]
   have q:wrap .i64 ((if x.testBit i then(1:Int) else 0)+wrap .i64 (2*(if a.testBit i then(1:Int) else 0)))=(fQ x a i:Int):=by
    unfold fQ
    cases x.testBit i<;>cases a.testBit i<;>rfl
   grind [wrap64,runN,fQ,decide_eq_false,decide_eq_true,bne_self_eq_false])
  (by rfl) LL (by grind [LL])
 grind [runN,fQ,F9,al1]
noncomputable def Bc (h:List Int) (v:Int):Int:=if dh h v then((eW (bq h v.toNat):Nat):Int)-1 else-1
theorem al3 (h:List Int) (v:Int):wV h v=some (Bc h v):=by
 have e:wV h v=rK h v:=by unfold wV;rfl
 rw[e]
 unfold rK Bc
 rw[cL,gs]
 simp only[ac]
 cases a:aB h with
 |false=>simp[dh,a]
 |true=>
  simp only[bo,au]
  cases f:(decide (1<=v)&&decide (v<=((h.length:Nat):Int))) with
  |false=>simp[dh,a,f]
  |true=>
   have b:dh h v=true:=by grind [dh]
   obtain⟨w,rfl,T,c,d⟩:=nF.1 b
   have g:=LB (bq h w)
   rw[b]
   simp only[bo,au,nI T c d,ac,alW (fK T.le w),cN,e0]
   grind [wrap64]
theorem ZQ {h:List Int} (T:Tree h) {k:Nat} (a:1<=k) (b:k<=h.length):bq h k≠0:=by
 intro e
 have c:(bq h k).testBit (k-1)=true:=by
  rw[AD T,jF,show k-1+1=k by omega]
  exact .refl a b
 simp_all
noncomputable def iW (h:List Int) (a b:Int):Bool:=dh h a&&dh h b&&(decide (bq h a.toNat&&&bq h b.toNat=0)&&jK (bq h a.toNat) (bq h b.toNat))
theorem ZR (h:List Int) (a b:Int):xw h a b=some (iW h a b):=by
 have e:xw h a b=rU h a b:=by unfold xw;rfl
 rw[e]
 unfold rU iW
 rw[cL,gs,gs]
 simp only[ac]
 cases c:aB h with
 |false=>simp[dh,c]
 |true=>
  simp only[bo,au]
  cases g:(decide (1<=a)&&decide (a<=((h.length:Nat):Int))) with
  |false=>simp[dh,c,g]
  |true=>
   have d:dh h a=true:=by grind [dh]
   cases i:(decide (1<=b)&&decide (b<=((h.length:Nat):Int))) with
   |false=>simp[dh,c,i]
   |true=>
    have f:dh h b=true:=by grind [dh]
    obtain⟨u,rfl,T,j,k⟩:=nF.1 d
    obtain⟨v,rfl,_,v1,v2⟩:=nF.1 f
    have l:=fK T.le u
    have m:=fK T.le v
    rw[d,f]
    simp only[bo,au,nI T j k,nI T v1 v2,ac,d8,e0]
    grind [ajJ,bq,decide_eq_true,al2,beq_eq_false_iff_ne,decide_eq_false]
noncomputable def dk (h:List Int) (k:Nat):Nat:=(range k).foldl (fun m i=>max m (eW (bq h (i+1)))) 0
noncomputable def jL (h:List Int):Int:=if aB h then(dk h h.length:Int)-1 else-1
theorem LF (h:List Int) (k:Nat):dk h (k+1)=max (dk h k) (eW (bq h (k+1))):=by
 simp[dk,f0]
theorem ZS (h:List Int): ∀k,dk h k<=8
 |0=>by simp[dk]
 |k+1=>by
  have:=ZS h k
  grind [LB,bq,LF]
theorem ZT (h:List Int) (b:Nat): ∀k,dk h k<=b↔ ∀i,i<k->eW (bq h (i+1))<=b
 |0=>by simp[dk]
 |k+1=>by
  rw[LF,Nat.max_le,ZT h b k]
  grind
theorem al4 (h:List Int):wX h=some (jL h):=by
 have e:wX h=wW h:=by unfold wX;rfl
 rw[e]
 unfold wW Fm Qi Qg Fo Qf Qe jL
 simp only[ac]
 cases b:aB h with
 |false=>
  have a:=bu (body:=fun(s:Int×Int)=>((nq h s.1 s.2).map (Sum.elim (fun(t:Int×Int)=>Sum.inl (t.1,t.2)) (fun(t:Int)=>Sum.inr t)):Option ((Int×Int)⊕(Int))))
   (fun _=>((-1:Int),(1:Int))) 0 (-1) (fun k d=>by omega)
   (by
    grind [nq,cL,Decidable.decide,List.length]) LL (by grind [LL])
  rw[a]
  rfl
 |true=>
  have T:=(bK h).mp b
  have f:=T.le
  have a:=bu (body:=fun(s:Int×Int)=>((nq h s.1 s.2).map (Sum.elim (fun(t:Int×Int)=>Sum.inl (t.1,t.2)) (fun(t:Int)=>Sum.inr t)):Option ((Int×Int)⊕(Int))))
   (fun k=>((dk h k:Int)-1,((k+1:Nat):Int))) h.length ((dk h h.length:Int)-1)
   (by
    intro k d
    have g:Bc h ((k+1:Nat):Int)=(eW (bq h (k+1)):Int)-1:=by
     grind [Bc,nF,Int.toNat_natCast]
    have m:imax ((dk h k:Int)-1) ((eW (bq h (k+1)):Int)-1)=(dk h (k+1):Int)-1:=by
     grind [LF,imax]
    simp only[nq,cL,b,al3,g,ac,m]
    grind [decide_eq_true,List.length,wrap64])
   (by
    grind [nq,decide_eq_false,List.length]) LL (by grind [LL])
  have c:=a
  rw[show((dk h 0:Int)-1)= -1 from rfl,show((0+1:Nat):Int)=1 from rfl] at c
  rw[c]
  rfl
theorem al5 {h:List Int} (T:Tree h):1<=dk h h.length:=by
 have a:=T.pos
 have:=(ZT h 0 h.length).mp
 grind [dk,List.length,ZO,fK,Tree.le,ZQ]
noncomputable def ul (h:List Int) (i:Nat):Bool:=(range i).all fun j=> !iW h ((i+1:Nat):Int) ((j+1:Nat):Int)
noncomputable def nV (h:List Int):Bool:=(range h.length).all (ul h)&&aB h
theorem al6 (h:List Int) (c:h.length<=1048576):xz h=some (nV h):=by
 have e:xz h=xy h:=by unfold xz;rfl
 rw[e]
 unfold xy Ga Rw Ru Gb Rt Rs Gi nV
 simp only[ac]
 have d: ∀i,i<h.length->Gc h ((i+1:Nat):Int)=some (if ul h i then Sum.inr () else Sum.inl false):=by
  intro i hi
  unfold Gc
  have:=lV (body:=fun(s:Int)=>((pn h ((i+1:Nat):Int) s).map (Sum.elim (fun(t:Int)=>Sum.inl t) (Sum.elim (fun(t:Bool)=>Sum.inr (Sum.inl t)) (fun(t:Unit)=>Sum.inr (Sum.inr t)))):Option ((Int)⊕(Bool⊕Unit))))
   (fun k=>((k+1:Nat):Int)) i (fun j=> !iW h ((i+1:Nat):Int) ((j+1:Nat):Int)) (fun b=>if b then Sum.inr () else Sum.inl false)
   (by
    grind [iW,pn,ZR,decide_eq_true,wrap64])
   (by
    grind [iW,pn,ZR,decide_eq_true])
   (by
    grind [pn,decide_eq_false]) LL (by grind [LL])
  exact this
 have f:=lV (body:=fun(s:Int)=>((rW h s).map (Sum.elim (fun(t:Int)=>Sum.inl t) (Sum.elim (fun(t:Bool)=>Sum.inr (Sum.inl t)) (fun(t:Unit)=>Sum.inr (Sum.inr t)))):Option ((Int)⊕(Bool⊕Unit))))
  (fun k=>((k+1:Nat):Int)) h.length (ul h) (fun b=>if b then Sum.inr () else Sum.inl false)
  (by
   intro k a p
   simp only[rW,rV]
   rw[an (show((k+1:Nat):Int)<=((h.length:Nat):Int) by omega)]
   simp only[aw,ac,Sum.elim_inl]
   unfold Gh Gf Ge xx Gd Gg
   simp only[ac]
   grind [wrap64])
  (by
   intro k a p
   simp only[rW,rV]
   rw[an (show((k+1:Nat):Int)<=((h.length:Nat):Int) by omega)]
   simp_all [aw,ac,Sum.elim_inl,Gh,Gf,Ge,xx,Gd])
  (by
   grind [rW,rV,decide_eq_false,List.length]) LL (by grind [LL])
 grind [cL,range,List.length,ul]
theorem al7 {h:List Int} {f g w:Nat} {p b:Nat×Nat} (e:bg h f w=some p) (c:bg h g w=some b):p=b:=by
 have a:=Aw (Nat.le_max_left f g) e
 grind [Aw,Nat.le_max_right,Option.some.inj]
theorem ZU {h:List Int}: ∀{f w:Nat} {p:Nat×Nat},bg h f w=some p->bg h (p.2+1) w=some p
 |0,w,p,e=>by simp[bg] at e
 |f+1,w,p,e=>by
  simp only[bg] at e
  rw[bg]
  split at e
  ·cases e
  ·rename_i x c
   split at e
   ·simp_all
   ·rename_i a
    simp only[a,iZ]
    obtain⟨d,b,rfl⟩:=co.1 e
    rw[ZU b]
    rfl
theorem ZV {h:List Int} (c:fG h=true): ∀{f w:Nat} {p:Nat×Nat},1<=w->w<=h.length->bg h f w=some p->
  ∃l:List Nat,l.length=p.2+1/\l.Nodup/\ ∀x∈l,1<=x/\x<=h.length/\ ∃g b,bg h g x=some b/\b.2<=p.2
 |0,w,p,_,_,e=>by simp[bg] at e
 |f+1,w,p,s,t,e=>by
  have m:=e
  simp only[bg] at e
  split at e
  ·cases e
  ·rename_i x a
   split at e
   ·rename_i d
    cases e
    exact⟨[w],rfl,by simp,fun u o=>by
     grind⟩
   ·rename_i d
    obtain⟨b,i,rfl⟩:=co.1 e
    have lt:w-1<h.length:=by omega
    have k:=jD c lt
    rw[bh lt] at a
    injection a with a
    rw[a] at k
    obtain⟨l,j,q,r⟩:=ZV c (w:=x.toNat) (by omega) (by omega) i
    refine⟨w::l,by simp[j],?_,?_⟩
    all_goals grind [List.nodup_cons,al7,Nat.le_trans]
theorem al8 {h:List Int} (c:fG h=true) {f w:Nat} (j:1<=w) (k:w<=h.length) (e:(bg h f w).isSome=true):(bg h h.length w).isSome=true:=by
 obtain⟨p,e⟩:=Ck.mp e
 obtain⟨l,m,g,i⟩:=ZV c j k e
 have:=apz (l₂:=(range h.length).map (· +1)) g (by
  intro x d
  obtain⟨a,b,_⟩:=i x d
  rw[iB]
  exact⟨x-1,by grind,by omega⟩)
 grind [List.length_map,List.length_range,Aw,List.length,ZU]
structure dv (n i:Nat) (st:List Nat) (h:List Int):Prop where
 len:h.length=n
 hi:i<=n+1
 dec:st.Pairwise (· > ·)
 aU: ∀s∈st,1<=s/\s<i/\hd h s=0
 num: ∀x∈h,0<=x/\x<=(n:Int)
 cls: ∀w,1<=w->w<i->w∉st->hd h w≠0
 iP: ∀j,1<=j->j<i-> ∃s∈st,aL h j s/\ ∀t∈st,¬bC j s t
 below: ∀w j,1<=w->w<i->hd h w≠0->bC w (hd h w) j->aL h j (hd h w)
theorem dv.shift {n i:Nat} {st:List Nat} {h:List Int} (a:dv n i st h) (i1:1<=i) (hi:i<=n) (z:hd h i=0):dv n (i+1) (i::st) h where
 len:=a.len
 hi:=by omega
 dec:= .cons (fun s c=>(a.aU s c).2.1) a.dec
 aU:=fun s c=>by
  rcases eh.mp c with e|e
  ·simp_all
  ·have:=a.aU s e
   omega
 num:=a.num
 cls:=fun w d g k=>by
  grind [List.mem_cons_self,dv.cls,List.mem_cons_of_mem]
 iP:=fun j d g=>by
  by_cases e:j=i
  ·subst e
   refine⟨j,bl ..,.refl d (by rw[a.len];exact hi),?_⟩
   grind [bC]
  ·obtain⟨s,c,u,m⟩:=a.iP j d (by omega)
   refine⟨s,bA _ c,u,?_⟩
   intro t l b
   rcases eh.mp l with f|f
   ·subst f
    have:=(a.aU s c).2.1
    grind [bC]
   simp_all
 below:=fun w j d g k b=>by
  grind [dv.below]
theorem dv.hT {n i s t:Nat} {f:List Nat} {h:List Int} (l:dv n i (s::t::f) h) {a g r:Nat} (c:(a=t/\r=s)\/(a=s/\r=t)) (A:1<=g) (L:g<i) (u:aL h g r)
  (b: ∀j,bC a g j->aL h j g\/aL h j a):dv n i (r::f) (h.set (a-1) (g:Int)):=by
 have ms:s∈s::t::f:=bl ..
 have mt:t∈s::t::f:=bA _ (bl ..)
 have O: ∀{x},x∈f->x∈s::t::f:=fun x=>bA _ (bA _ x)
 have d:=l.dec
 rw[d9] at d
 obtain⟨v,d⟩:=d
 rw[d9] at d
 obtain⟨y,z⟩:=d
 have lt:t<s:=v t (bl ..)
 have R:=l.aU s ms
 have U:=l.aU t mt
 have D:=l.len
 have hi:=l.hi
 have G:a∈s::t::f:=by grind
 have H:r∈s::t::f:=by grind
 have I:=l.aU a G
 have Q:=l.aU r H
 have ar:a≠r:=by omega
 have m:1<=a/\a<=h.length:=by omega
 have M (w:Nat) (K:1<=w):=gf m.1 m.2 g w K
 have mono {x q:Nat} (u:aL h x q):aL (h.set (a-1) (g:Int)) x q:=qc m.1 m.2 I.2.2 u
 have F:(h.set (a-1) (g:Int)).length=n:=by simp[D]
 have J:aL (h.set (a-1) (g:Int)) a g:=by
  have e:hd (h.set (a-1) (g:Int)) a=g:=by simp_all
  refine .step m.1 (by omega) (by omega) ?_
  rw[e]
  exact .refl A (by omega)
 have V:aL (h.set (a-1) (g:Int)) a r:=kH J (mono u)
 have N: ∀x∈f,x<t:=y
 have split: ∀x,x∈s::t::f->x=a\/x=r\/x∈f:=by
  grind
 refine⟨F,l.hi,?_,?_,?_,?_,?_,?_⟩
 ·refine .cons ?_ z
  grind
 ·intro x o
  have E:x∈s::t::f:=by
   grind
  have k:=l.aU x E
  grind
 ·intro x o
  rcases apw o with e|e
  ·exact l.num x e
  omega
 ·grind [dv.cls,List.mem_cons_self,List.mem_cons_of_mem]
 ·intro j B C
  obtain⟨x,o,W,P⟩:=l.iP j B C
  rcases split x o with e|e|e
  all_goals grind [List.mem_cons_self,kH,bC,List.mem_cons_of_mem]
 grind [kH,dv.below]
theorem dv.get {n i:Nat} {st:List Nat} {h:List Int} (a:dv n i st h) {w:Nat} (c:1<=w) (d:w<=n):h[w-1]? =some ((hd h w:Nat):Int):=by
 have b:=a.len
 have lt:w-1<h.length:=by omega
 have:=a.num _ (dc lt)
 grind [List.getElem?_eq_getElem,hd]
theorem dv.tree {n r:Nat} {h:List Int} (a:dv n (n+1) [r] h) (D:n<=8):Tree h/\dp h/\top h=r:=by
 have B:=a.len
 have c:=a.aU r (bl ..)
 have m:fG h=true:=by
  grind [fG,List.all_eq_true,dv.num,dT]
 have tR: ∀w x,aL h w x->x=r-> ∃f,(bg h f w).isSome=true:=by
  intro w x u
  induction u with
  |refl d l=>
   intro e
   refine⟨1,?_⟩
   grind [bg,dv.get]
  |step d l y u o=>
   rename_i w x
   intro e
   obtain⟨f,z⟩:=o e
   refine⟨f+1,?_⟩
   grind [bg,dv.get,Option.isSome_map]
 have T:Tree h:=by
  refine⟨by omega,by omega,m,?_,?_⟩
  ·refine KM (r:=r-1) ?_ ?_
   ·grind [dv.get]
   ·intro i hi
    have lt:i<h.length:=(aO.mp hi).1
    have g:=a.get (w:=i+1) (by omega) (by omega)
    grind [dv.hi,dv.cls,List.mem_singleton]
  ·intro k A
   obtain⟨s,C,u,_⟩:=a.iP (k+1) (by omega) (by omega)
   grind [al8]
 have t:top h=r:=((T.eA c.1 (by omega)).mp c.2.2).symm
 refine⟨T,?_,t⟩
 rw[qb T]
 intro w j q E v b
 exact a.below w j q (by omega) v b
def eX (h:List Int):List Nat->Prop
 |[]=>True
 |[x]=>hd h x=0
 |y::x::q=>(hd h y=0\/hd h y=x)/\(∀j,x<j->j<y->aL h j x\/aL h j y)/\eX h (x::q)
def ef (h:List Int) (st:List Nat):List Nat:=st.filter fun w=>hd h w==0
theorem eX.tail {h:List Int} {y:Nat} {q:List Nat} (c:eX h (y::q)):eX h q:=by
 cases q with
 |nil=>trivial
 |cons x q=>exact c.2.2
theorem eX.set {h:List Int} {a g:Nat} (b:1<=a) (d:a<=h.length) (z:hd h a=0): ∀{st:List Nat},a∉st->(∀s∈st,1<=s)->eX h st->eX (h.set (a-1) (g:Int)) st
 |[],_,_,_=>trivial
 |[x],f,p,c=>by
  grind [eX,gf,List.mem_cons_self]
 |y::x::o,f,p,c=>by
  unfold eX at c⊢
  rw[gf b d g y (p y (bl ..)),aG (fun e=>f (by simp_all))]
  refine⟨c.1,fun j k l=>(c.2.1 j k l).imp (qc b d z) (qc b d z),?_⟩
  exact eX.set b d z (fun m=>f (bA _ m)) (fun s i=>p s (bA _ i)) c.2.2
theorem ZW {h:List Int} {a g:Nat} (b:1<=a) (c:a<=h.length) {st:List Nat} (d:a∉st) (p: ∀s∈st,1<=s):ef (h.set (a-1) (g:Int)) st=ef h st:=by
 grind [ef,List.filter_congr,gf]
theorem eX.top {h:List Int}: ∀{s:Nat} {d:List Nat},(∀x∈s::d,1<=x/\x<=h.length)->eX h (s::d)-> ∃t b,ef h (s::d)=t::b/\aL h s t
 |s,[],p,c=>by
  have a:=p s (bl ..)
  unfold eX at c
  exact⟨s,[],by simp[ef,c],.refl a.1 a.2⟩
 |s,x::b,p,c=>by
  have a:=p s (bl ..)
  have k:=p x (bA _ (bl ..))
  unfold eX at c
  by_cases z:hd h s=0
  ·exact⟨s,ef h (x::b),by grind [ef,List.filter_cons_of_pos],.refl a.1 a.2⟩
  ·obtain⟨t,g,e,u⟩:=eX.top (fun i f=>p i (bA _ f)) c.2.2
   have j:=c.1.resolve_left z
   refine⟨t,g,?_,.step a.1 a.2 z (by simp_all)⟩
   grind [ef,List.filter_cons_of_neg]
structure cA (n:Nat) (c:cx):Prop where
 i1:1<=c.1
 hi:c.1<=n+1
 dec:c.2.1.Pairwise (· > ·)
 aU: ∀s∈c.2.1,1<=s/\s<c.1
 chain:eX c.2.2 c.2.1
 dr: ∀w,c.1<=w->w<=n->hd c.2.2 w=0
 v1:c.1<=n->dv n (c.1+1) (c.1::ef c.2.2 c.2.1) c.2.2
 v2:c.1=n+1->dv n (n+1) (ef c.2.2 c.2.1) c.2.2
 um:c.1<=n-> ∀y q,c.2.1=y::q-> ∀j,y<j->j<c.1->aL c.2.2 j y\/aL c.2.2 j c.1
theorem LG (n w:Nat):hd (replicate n 0) w=0:=by
 grind [hd,getD]
theorem dv.start (n:Nat):dv n 1 [] (replicate n 0) where
 len:=by simp
 hi:=by omega
 dec:= .nil
 aU:=fun s c=>by cases c
 num:=fun x d=>by
  simp_all
 cls:=fun w a b=>by omega
 iP:=fun j a b=>by omega
 below:=fun w j a b=>by omega
theorem cA.start {n:Nat} (b:1<=n):cA n (1,[],replicate n 0) where
 i1:=by simp
 hi:=by simp
 dec:= .nil
 aU:=fun s a=>by cases a
 chain:=trivial
 dr:=fun w _ _=>LG n w
 v1:=fun _=>(dv.start n).shift (by omega) b (LG n 1)
 v2:=fun e=>by omega
 um:=fun _ d c e=>by cases e
theorem cA.len {n:Nat} {c:cx} (E:cA n c):c.2.2.length=n:=by
 by_cases h:c.1<=n
 ·exact(E.v1 h).len
 ·exact(E.v2 (by have:=E.hi;omega)).len
theorem cA.push {n i:Nat} {st:List Nat} {h:List Int} (a:cA n (i,st,h)) (hi:i<=n):cA n (i+1,i::st,h):=by
 have z:=a.dr i (aS _) hi
 have v:=a.v1 hi
 have i1:=a.i1
 simp only at z v i1
 have d:ef h (i::st)=i::ef h st:=by
  grind [ef,List.filter_cons_of_pos]
 refine⟨by omega,by omega,?_,?_,?_,?_,?_,?_,?_⟩
 ·exact .cons (fun s b=>(a.aU s b).2) a.dec
 ·intro s b
  simp only at b⊢
  rcases eh.mp b with e|e
  ·omega
  ·have:=a.aU s e
   omega
 ·have c:=a.chain
  have g:=a.um hi
  simp only at c g⊢
  cases st with
  |nil=>exact z
  |cons x m=>exact⟨.inl z,fun j f k=>g x m rfl j f k,c⟩
 ·intro w q o
  exact a.dr w (by omega) o
 ·intro l
  simp only at l⊢
  rw[d]
  exact v.shift (by omega) l (a.dr (i+1) (by omega) l)
 all_goals grind
theorem cA.left {n i s:Nat} {f:List Nat} {h:List Int} (c:cA n (i,s::f,h)) (hi:i<=n) (z:hd h s=0):cA n (i,f,h.set (s-1) (i:Int)):=by
 have v:=c.v1 hi
 have i1:=c.i1
 have B:=c.len
 have k:=c.aU s (bl ..)
 have d:=c.dec
 have A:=c.um hi s f rfl
 have ch:=c.chain
 simp only at v i1 B k d A ch
 rw[d9] at d
 have E:s∉f:=fun m=>by
  grind
 have F: ∀x∈f,1<=x:=fun x o=>(c.aU x (bA _ o)).1
 have y:ef h (s::f)=s::ef h f:=by
  grind [ef,List.filter_cons_of_pos]
 rw[y] at v
 have mono {x q:Nat} (u:aL h x q):aL (h.set (s-1) (i:Int)) x q:=qc k.1 (by omega) z u
 have I:aL (h.set (s-1) (i:Int)) s i:=by
  have e:hd (h.set (s-1) (i:Int)) s=i:=by grind [gf]
  refine .step k.1 (by simp;omega) (by omega) ?_
  rw[e]
  exact .refl i1 (by simp;omega)
 have J:=v.hT (a:=s) (g:=i) (r:=i) (.inl ⟨rfl,rfl⟩) i1 (by omega) (.refl i1 (by omega)) (fun j b=>by
  grind [bC])
 refine⟨i1,c.hi,d.2,fun x o=>c.aU x (bA _ o),?_,?_,?_,?_,?_⟩
 ·exact eX.set k.1 (by omega) z E F ch.tail
 ·intro w t G
  simp only at t⊢
  rw[gf k.1 (by omega) i w (by omega),aG (by omega)]
  exact c.dr w t G
 ·grind [ZW]
 ·omega
 ·intro _ q H e j C D
  simp only at e D⊢
  subst e
  rcases n9 j s with l|l|l
  ·rcases ch.2.1 j C l with u|u
   all_goals grind [kH]
  all_goals grind [kH]
theorem cA.right {n i s:Nat} {e:List Nat} {h:List Int} (c:cA n (i,s::e,h)) (hi:i<=n):cA n (i+1,i::s::e,h.set (i-1) (s:Int)):=by
 have v:=c.v1 hi
 have i1:=c.i1
 have E:=c.len
 have y:=c.aU s (bl ..)
 have d:=c.dec
 have q:=c.um hi s e rfl
 have ch:=c.chain
 have z:=c.dr i (aS _) hi
 have k:=c.aU
 simp only at v i1 E y d q ch z k
 have H:i∉s::e:=fun m=>by
  grind
 have I: ∀x∈s::e,1<=x:=fun x f=>(k x f).1
 obtain⟨t,J,o,K⟩:=eX.top (fun x f=>⟨(k x f).1,by grind⟩) ch
 rw[o] at v
 have L:=v.hT (a:=i) (g:=s) (r:=t) (.inr ⟨rfl,rfl⟩) y.1 (by omega) K (fun j b=>by
  grind [bC])
 have D:hd (h.set (i-1) (s:Int)) i=s:=by grind [gf,cA.i1]
 have C:ef (h.set (i-1) (s:Int)) (i::s::e)=t::J:=by
  rw[<-o,<-ZW (g:=s) i1 (by omega) H I]
  grind [ef,List.filter_cons_of_neg]
 have mono {x B:Nat} (u:aL h x B):aL (h.set (i-1) (s:Int)) x B:=qc i1 (by omega) z u
 have A: ∀w,i+1<=w->w<=n->hd (h.set (i-1) (s:Int)) w=0:=fun w N M=>by
  rw[gf i1 (by omega) s w (by omega),aG (by omega)]
  exact c.dr w (by omega) M
 refine⟨by omega,by omega,?_,?_,?_,A,?_,?_,?_⟩
 ·simp_all
 ·grind
 ·refine⟨.inr D,fun j F G=>(q j F G).imp mono mono,?_⟩
  grind [eX.set,cA.i1]
 ·intro l
  simp only at l⊢
  rw[C]
  exact L.shift (by omega) l (A (i+1) (aS _) l)
 all_goals grind
theorem cA.drop {n i s:Nat} {b:List Nat} {h:List Int} (a:cA n (i,s::b,h)) (z:hd h s≠0):cA n (i,b,h):=by
 have o:=a.len
 have f:=a.aU s (bl ..)
 have d:=a.dec
 have ch:=a.chain
 have hi:=a.hi
 simp only at o f d ch hi
 rw[d9] at d
 have y:ef h (s::b)=ef h b:=by
  grind [ef,List.filter_cons_of_neg]
 refine⟨a.i1,a.hi,d.2,fun x q=>a.aU x (bA _ q),ch.tail,a.dr,?_,?_,?_⟩
 ·intro l
  have:=a.v1 l
  simp_all
 ·intro e
  have:=a.v2 e
  simp_all
 ·intro l c w e j t v
  simp only at e v⊢
  subst e
  have m:=a.um l s (c::w) rfl
  have r:=ch.1.resolve_left z
  have g:=a.aU c (bA _ (bl ..))
  simp only at m g
  have A:aL h s c:= .step f.1 (by omega) z (by rw[r];exact .refl g.1 (by omega))
  rcases n9 j s with k|k|k
  ·rcases ch.2.1 j t k with u|u
   all_goals grind [kH]
  all_goals grind [kH]
def bM (n m:Nat) (c:cx):Option cx:=
 if m=83 then(if c.1<=n then some (c.1+1,c.1::c.2.1,c.2.2) else none) else
 match c.2.1 with
 |s::a=>
  if m=76 then(if c.1<=n/\hd c.2.2 s=0 then some (c.1,a,c.2.2.set (s-1) (c.1:Int)) else none) else
  if m=82 then(if c.1<=n then some (c.1+1,c.1::s::a,c.2.2.set (c.1-1) (s:Int)) else none) else
  if m=68 then(if hd c.2.2 s≠0 then some (c.1,a,c.2.2) else none) else none
 |[]=>none
def un (ms:List Nat):Nat:=ms.countP fun m=>m==76||m==82
def uo (ms:List Nat):Nat:=ms.countP fun m=>m==83||m==82
theorem ZX {h:List Int} {a g:Nat} (b:1<=a) (c:a<=h.length) (z:hd h a=0) (p: ∀x∈h,0<=x) (d:1<=g):(h.set (a-1) (g:Int)).count 0+1=h.count 0:=by
 grind [List.length,hd,List.getElem?_eq_getElem,List.getElem_mem,List.count]
theorem cA.num {n:Nat} {c:cx} (E:cA n c): ∀x∈c.2.2,0<=x/\x<=(n:Int):=by
 by_cases h:c.1<=n
 ·exact(E.v1 h).num
 ·exact(E.v2 (by have:=E.hi;omega)).num
theorem al9 {n m:Nat} {c b:cx} (a:cA n c) (e:bM n m c=some b):
  cA n b/\2*b.1+c.2.1.length=2*c.1+b.2.1.length+1/\un [m]+b.2.2.count 0=c.2.2.count 0/\uo [m]+c.1=b.1:=by
 obtain⟨i,st,h⟩:=c
 have q:=a.len
 have i1:=a.i1
 have j:=a.num
 unfold bM at e
 simp only at e q i1 j
 by_cases r:m=83
 ·grind [cA.push,List.length_cons,un,uo]
 ·rw[aG r] at e
  split at e
  ·rename_i s t
   have l:=a.aU s (bl ..)
   have hi:=a.hi
   simp only at l hi
   by_cases f:m=76
   ·rw[aA f] at e
    by_cases k:i<=n/\hd h s=0
    ·rw[aA k] at e
     injection e with e
     subst e f
     refine⟨a.left k.1 k.2,by grind,?_,by simp[uo]⟩
     have:=ZX (h:=h) (g:=i) l.1 (by omega) k.2 (fun x d=>(j x d).1) i1
     grind [un]
    simp_all
   ·rw[aG f] at e
    by_cases o:m=82
    ·rw[aA o] at e
     by_cases k:i<=n
     ·rw[aA k] at e
      injection e with e
      subst e o
      refine⟨a.right k,by grind,?_,by simp[uo];omega⟩
      have:=ZX (h:=h) (g:=s) i1 (by omega) (a.dr i (aS _) k) (fun x d=>(j x d).1) l.1
      grind [un]
     simp_all
    grind [hd,cA.drop,List.length_cons,un,uo]
  ·cases e
def er (a:List Int) (i:Nat) (st:List Nat):Nat:=
 match st with
 |[]=>83
 |s::b=>if hd a s=i then 76 else if hd a i=s then 82 else if b.any (fun k=>hd a i==k||hd a k==i)=true then 68 else 83
def hY (H:List Int):Nat->cx->Option (List Nat×cx)
 |0,c=>if c.1<=H.length then none else some ([],c)
 |k+1,c=>if c.1<=H.length then(bM H.length (er H c.1 c.2.1) c).bind fun d=>(hY H k d).map fun r=>(er H c.1 c.2.1::r.1,r.2) else some ([],c)
structure EO (H:List Int) (c:cx):Prop where
 e:cA H.length c
 agree: ∀w,1<=w->w<=H.length->hd c.2.2 w≠0->hd c.2.2 w=hd H w
 nW: ∀w,1<=w->w<c.1->hd c.2.2 w=0->hd H w=0\/c.1<=hd H w
 hk: ∀x,c.1<=x->x<=H.length->hd H x=0\/c.1<=hd H x\/hd H x∈c.2.1
theorem EO.start {a:List Int} (T:Tree a):EO a (1,[],replicate a.length 0) where
 e:=cA.start T.pos
 agree:=fun w _ _ h=>absurd (LG _ w) h
 nW:=fun w b c=>by omega
 hk:=fun x _ _=>by omega
theorem EO.free {a:List Int} {i:Nat} {st:List Nat} {h:List Int} (b:EO a (i,st,h)) (hi:i<=a.length) {w:Nat} (c:1<=w) (f:w<i) (z:hd h w=0):w∈st:=by
 have v:=b.e.v1 hi
 simp only at v
 refine k5 fun d=> ?_
 refine v.cls w c (by omega) ?_ z
 grind [ef]
theorem EO.push {a:List Int} (T:Tree a) {i:Nat} {st:List Nat} {h:List Int} (b:EO a (i,st,h)) (hi:i<=a.length) (k:hd a i∉st) (l: ∀w∈st,hd a w≠i):EO a (i+1,i::st,h):=by
 have i1:=b.e.i1
 simp only at i1
 refine⟨b.e.push hi,b.agree,?_,?_⟩
 ·intro w d f z
  simp only at f z⊢
  by_cases e:w=i
  ·subst e
   have c:=b.hk w (aS _) hi
   grind [Tree.nD,absurd]
  ·have o:=b.nW w d (by omega) z
   grind [EO.free]
 ·intro x g j
  simp only at g⊢
  have c:=b.hk x (by omega) j
  grind
theorem ZY {f:List Int} (T:Tree f) (F:dp f) {c:cx} (b:EO f c) (hi:c.1<=f.length): ∃d,bM f.length (er f c.1 c.2.1) c=some d/\EO f d:=by
 obtain⟨i,st,h⟩:=c
 have v:=(qb T).mp F
 have i1:=b.e.i1
 have G:=b.e.len
 simp only at hi i1 G
 match st,b with
 |[],b=>
  grind [er,bM,EO.push]
 |s::y,b=>
  have j:=b.e.aU s (bl ..)
  have d:=b.e.dec
  have ch:=b.e.chain
  have E:=b.e.aU
  simp only at j d ch E
  rw[d9] at d
  have M:hd h s=0\/hd h s<s:=by
   cases y with
   |nil=>exact .inl ch
   |cons x q=>
    have:=d.1 x (bl ..)
    rcases ch.1 with k|k
    all_goals omega
  have L:s≠i:=by omega
  simp only[er]
  by_cases A:hd f s=i
  ·rw[aA A]
   have z:hd h s=0:=by
    refine k5 fun q=> ?_
    have a:=b.agree s j.1 (by omega) q
    grind
   have P:aL f s i:=by
    grind [Tree.iL]
   refine⟨(i,y,h.set (s-1) (i:Int)),by simp[bM,hi,z],b.e.left hi z,?_,?_,?_⟩
   ·intro w g l q
    simp only at q⊢
    rw[gf j.1 (by omega) i w g] at q⊢
    by_cases e:w=s
    ·simp_all
    ·rw[aG e] at q⊢
     exact b.agree w g l q
   ·intro w g l q
    simp only at l q⊢
    rw[gf j.1 (by omega) i w g] at q
    by_cases e:w=s
    ·simp_all
    ·rw[aG e] at q
     exact b.nW w g l q
   ·intro x r t
    simp only at r⊢
    have k:=b.hk x r t
    simp only at k
    rcases k with k|k|k
    ·exact .inl k
    ·omega
    ·rcases eh.mp k with k|k
     ·exfalso
      by_cases e:x=i
      ·grind [Tree.iL,Tree.kF]
      ·have u:=v x i (by omega) t (by omega) (.inr ⟨by omega,by omega⟩)
       grind [Tree.kF]
     simp_all
  ·rw[aG A]
   by_cases B:hd f i=s
   ·rw[aA B]
    have I:aL f i s:=by
     grind [Tree.iL]
    refine⟨(i+1,i::s::y,h.set (i-1) (s:Int)),by simp[bM,hi],b.e.right hi,?_,?_,?_⟩
    ·intro w g l q
     simp only at q⊢
     rw[gf i1 (by omega) s w g] at q⊢
     by_cases e:w=i
     ·simp_all
     ·rw[aG e] at q⊢
      exact b.agree w g l q
    ·intro w g l q
     simp only at l q⊢
     rw[gf i1 (by omega) s w g] at q
     by_cases e:w=i
     ·simp_all
     ·rw[aG e] at q
      have o:=b.nW w g (by omega) q
      have m:=b.free hi g (by omega) q
      simp only at o
      have:hd f w≠i:=by
       intro k
       rcases eh.mp m with m|m
       ·simp_all
       ·have lt:=d.1 w m
        have u:=v w s g (by omega) (by omega) (.inl ⟨by omega,by omega⟩)
        grind [Tree.kF]
      omega
    ·intro x r t
     simp only at r⊢
     have k:=b.hk x (by omega) t
     grind
   ·rw[aG B]
    by_cases C:y.any (fun k=>hd f i==k||hd f k==i)=true
    ·rw[aA C]
     obtain⟨k,mk,D⟩:=g0.mp C
     simp only[ev,cb] at D
     have K:=d.1 k mk
     have H:=E k (bA _ mk)
     have O:(hd f i=k/\aL f s k)\/(hd f k=i/\aL f s i):=by
      rcases D with e|e
      ·left
       refine⟨e,?_⟩
       have u:=v i s i1 hi (by omega) (.inr ⟨by omega,by omega⟩)
       rwa[e] at u
      ·right
       refine⟨e,?_⟩
       have u:=v k s H.1 (by omega) (by omega) (.inl ⟨by omega,by omega⟩)
       rwa[e] at u
     have z:hd h s≠0:=by
      intro q
      have o:=b.nW s j.1 j.2 q
      simp only at o
      rcases o with o|o
      ·grind [Tree.eA,Tree.AC]
      ·have J:=T.cR j.1 (by omega:s<=f.length)
       have N:=v s i j.1 (by omega) (by omega) (.inl ⟨by omega,by omega⟩)
       grind [Tree.lW,Tree.kF]
     refine⟨(i,y,h),by simp[bM,z],b.e.drop z,b.agree,b.nW,?_⟩
     intro x r t
     simp only at r⊢
     have q:=b.hk x r t
     simp only at q
     rcases q with q|q|q
     ·exact .inl q
     ·omega
     ·rcases eh.mp q with q|q
      ·exfalso
       by_cases e:x=i
       ·simp_all
       ·have I:=v x i (by omega) t (by omega) (.inr ⟨by omega,by omega⟩)
        grind [Tree.lW,Tree.kF]
      simp_all
    grind [hd,mk,bM,EO.push]
theorem EO.done {a:List Int} (T:Tree a) {st:List Nat} {h:List Int} (b:EO a (a.length+1,st,h)):h=a:=by
 have f:=b.e.len
 have v:=b.e.v2 rfl
 simp only at f v
 apply k6 f
 intro k g i
 have c:=v.get (w:=k+1) (by omega) (by omega)
 have d:=T.get (w:=k+1) (by omega) (by omega)
 rw[show k+1-1=k by omega,bh g] at c
 rw[show k+1-1=k by omega,bh i] at d
 injection c with c
 injection d with d
 rw[c,d]
 congr 1
 by_cases z:hd h (k+1)=0
 ·have o:=b.nW (k+1) (by omega) (by omega) z
  grind [Tree.cR]
 ·exact b.agree (k+1) (by omega) (by omega) z
def eD (h:List Int):List Int:=h.map fun x=>if x=0 then-1 else x
theorem ama (h:List Int):(eD h).length=h.length:=by simp[eD]
theorem ZZ (h:List Int) (k:Nat) {g:Nat} (a:1<=g):(eD h).set k (g:Int)=eD (h.set k (g:Int)):=by
 grind [eD,List.map_set]
theorem amb {h:List Int} (p: ∀x∈h,0<=x) {w:Nat} (a:1<=w) (b:w<=h.length):(eD h)[w-1]? =some (if hd h w=0 then-1 else((hd h w:Nat):Int)):=by
 have lt:w-1<h.length:=by omega
 grind [List.getElem_mem,eD,hd,List.getElem?_eq_getElem]
theorem mq: ∀{st:List Nat} {i:Nat},st.Pairwise (· > ·)->(∀s∈st,1<=s/\s<i)->1<=i->st.length<i
 |[],i,_,_,h=>h
 |s::c,i,d,r,_=>by
  rw[d9] at d
  have b:=r s (bl ..)
  have:=mq d.2 (fun x a=>⟨(r x (bA _ a)).1,d.1 x a⟩) b.1
  grind
theorem amc {n i m:Nat} {st:List Nat} {h:List Int} (b:cA n (i,st,h)) (H:n<=8):Gx (aF st) (i:Int) (m:Int) (eD h)=
  some (match bM n m (i,st,h) with
   |some d=>(aF d.2.1,(d.1:Int),true,eD d.2.2)
   |none=>(aF st,(i:Int),false,eD h)):=by
 have E:h.length=n:=b.len
 have hi:i<=n+1:=b.hi
 have i1:1<=i:=b.i1
 have B: ∀x∈h,0<=x/\x<=(n:Int):=b.num
 have c:=mq b.dec b.aU b.i1
 have f:=eR st
 have j:=ama h
 simp only at c
 unfold Gx Gw Gq RO RN RM Gr RL RJ Gt Gu Gs Gv
 rw[wrap64 (x:=(((aF st).length:Nat):Int)-1) (by omega) (by omega)]
 have J:wrap .i64 ((i:Int)+1)=(i:Int)+1:=wrap64 (by omega) (by omega)
 by_cases w:m=83
 ·subst w
  by_cases le:i<=n
  ·have e:bM n 83 (i,st,h)=some (i+1,i::st,h):=by simp[bM,le]
   grind [decide_eq_true,eD,fp,List.length_nil,List.length_cons,eS]
  grind [bM,decide_eq_false,eD]
 ·rw[show((m:Int)==83)=false from dg.2 (by omega)]
  match st,b,f,c with
  |[],b,f,c=>
   grind [bM,aF,Decidable.decide,eD]
  |s::a,b,f,c=>
   have r:=b.aU s (bl ..)
   simp only at r
   have G:=eR a
   have len:(aF (s::a)).length=a.length+1:=by rw[f];rfl
   have lt:(((aF (s::a)).length:Nat):Int)-1=(a.length:Int):=by omega
   have D:(aF (s::a))[a.length]? =some (s:Int):=by grind [eS]
   have l:idx (aF (s::a)) (a.length:Int)=some (s:Int):=by
    grind [idx,Int.toNat_natCast]
   have q:ap ((s:Int)-1) h.length=some (s-1):=by
    grind [ap]
   have F:inc (a.length:Int) (a.length+1)=some a.length:=by grind [inc]
   have I:((aF (s::a)).take a.length).drop 0=aF a:=by grind [eS]
   have t:wrap .i64 ((s:Int)-1)=(s:Int)-1:=wrap64 (by omega) (by omega)
   have C:wrap .i64 ((i:Int)-1)=(i:Int)-1:=wrap64 (by omega) (by omega)
   have g:decide ((a.length:Int)>=0)=true:=an (by omega)
   have o:=amb (fun x u=>(B x u).1) r.1 (show s<=h.length by omega)
   simp only[cB] at c
   rw[lt]
   by_cases y:m=76
   ·subst y
    rw[show(((76:Nat):Int)==76)=true from rfl,show(((76:Nat):Int)==82)=false from rfl,show(((76:Nat):Int)==68)=false from rfl]
    by_cases k:i<=n/\hd h s=0
    ·have e:bM n 76 (i,s::a,h)=some (i,a,h.set (s-1) (i:Int)):=by grind [bM]
     rw[e,an (show(i:Int)<=(((eD h).length:Nat):Int) by omega)]
     simp only[aw,au,g,l,ac,t,j,q,o,k.2,cN]
     grind [Decidable.decide,fp,List.length_nil,ZZ]
    grind [bM,decide_eq_true,eD,hd,decide_eq_false]
   ·rw[show((m:Int)==76)=false from dg.2 (by omega)]
    by_cases z:m=82
    ·subst z
     rw[show(((82:Nat):Int)==82)=true from rfl,show(((82:Nat):Int)==68)=false from rfl]
     by_cases k:i<=n
     ·have e:bM n 82 (i,s::a,h)=some (i+1,i::s::a,h.set (i-1) (s:Int)):=by simp[bM,k]
      have v:ap ((i:Int)-1) h.length=some (i-1):=by
       grind [ap]
      rw[e,an (show(i:Int)<=(((eD h).length:Nat):Int) by omega)]
      simp only[aw,au,g,l,ac,C,j,v,len]
      grind [fp,List.length_nil,List.length_cons,ZZ,eS]
     grind [bM,decide_eq_false,eD]
    ·rw[show((m:Int)==82)=false from dg.2 (by omega)]
     by_cases A:m=68
     ·subst A
      rw[show(((68:Nat):Int)==68)=true from rfl]
      by_cases k:hd h s=0
      ·grind [bM]
      ·have e:bM n 68 (i,s::a,h)=some (i,a,h):=by simp[bM,k]
       rw[e]
       simp only[aw,au,g,l,ac,t,j,q,o]
       grind [decide_eq_true,hd,fp,List.length_nil]
     grind [beq_eq_false_iff_ne,bM]
theorem amd (n:Nat):eD (replicate n 0)=replicate n (-1):=by simp[eD]
def cE (n i:Nat) (st:List Nat):List Bool:=(range n).map fun k=>decide (k+1<i)&& !st.contains (k+1)
theorem LH (n i:Nat) (st:List Nat):(cE n i st).length=n:=by simp[cE]
theorem Bd {n i:Nat} {st:List Nat} {k:Nat} (a:k<n):(cE n i st)[k]? =some (decide (k+1<i)&& !st.contains (k+1)):=by simp[cE,a]
theorem Be {a:Type} (xs:List a) (k:Nat):idx xs (k:Int)=xs[k]? :=by
 grind [idx,Int.toNat_natCast]
open Classical in
theorem Bf {d:List Int} (T:Tree d) (i:Nat) (st:List Nat) (w:Nat):lH d (w:Int) (cE d.length i st)=some (decide (dq d i st w)):=by
 have e:lH d (w:Int) (cE d.length i st)=xA d (w:Int) (cE d.length i st):=by unfold lH;rfl
 have q:=T.le
 rw[e]
 unfold xA Gj RA Rz Gk Ry Rx Gl
 have l:=lV (body:=fun(s:Int)=>((po d (w:Int) (cE d.length i st) s).map (Sum.elim (fun(t:Int)=>Sum.inl t) (Sum.elim (fun(t:Bool)=>Sum.inr (Sum.inl t)) (fun(t:Unit)=>Sum.inr (Sum.inr t)))):Option ((Int)⊕(Bool⊕Unit))))
  (fun k=>(k:Int)) d.length (fun k=> !(hd d (k+1)==w)||(decide (k+1<i)&& !st.contains (k+1))) (fun b=>if b then Sum.inr () else Sum.inl false)
  (by
   intro k f p
   have g:=T.get (w:=k+1) (by omega) (by omega)
   rw[show k+1-1=k by omega] at g
   simp only[po]
   grind [decide_eq_true,List.length,Be,Bd,wrap64,hd,Decidable.decide])
  (by
   intro k f p
   have g:=T.get (w:=k+1) (by omega) (by omega)
   rw[show k+1-1=k by omega] at g
   simp only[po]
   grind [decide_eq_true,List.length,Be,Bd,Bool.or_eq_false_iff,hd])
  (by
   grind [po,decide_eq_false,List.length]) LL (by grind [LL])
 simp only[ac]
 have j:=l
 rw[show((0:Nat):Int)=0 from rfl] at j
 rw[j]
 have r:((range d.length).all fun k=> !(hd d (k+1)==w)||(decide (k+1<i)&& !st.contains (k+1)))=decide (dq d i st w):=by
  rw[e3,db,bQ]
  constructor
  ·intro a c m o u eq
   have:=a (c-1) (by grind)
   rw[show c-1+1=c by omega,eq] at this
   simp only[e4,bo,kh,aT,db,gl] at this
   rcases u with u|u
   all_goals grind
  ·intro a k f
   simp only[fh] at f
   by_cases c:hd d (k+1)=w
   ·have v: ¬gO i st (k+1):=fun u=>a (k+1) (by omega) (by omega) u c
    grind [gO,Bool.not_eq_true']
   ·simp[c]
 grind
def fR (m:Nat):ByteArray:=ByteArray.mk #[m.toUInt8]
theorem Z0 (a b:ByteArray):ao (a++b)=ao a++ao b:=by
 simp[ao,apx]
theorem Bg {a b:ByteArray} (h:a.size+b.size<=1000):cat a b=some (a++b):=by
 grind [cat,maxLen]
theorem LI (n i:Nat) (st:List Nat):cE n (i+1) (i::st)=cE n i st:=by
 grind [cE,List.map_congr_left,decide_eq_true,beq_eq_false_iff_ne,decide_eq_false]
theorem Z1 {n i a g:Nat} {st b:List Nat} (c:1<=a) (d:a<i) (f:a∉b) (e: ∀x,x∈st↔x=a\/x∈b):(cE n i st).set (a-1) true=cE n i b:=by
 apply hx
 grind [LH,Bd,decide_eq_true,List.contains_iff_mem,List.getElem?_eq_none,List.length_set]
open Classical in
theorem ame {b:List Int} (T:Tree b) {i:Nat} {st:List Nat} {h:List Int} {d:cx} (l:ho b (i,st,h)) (j:ByteArray) (b5:j.size<=100)
  (e:eC b.length (cw b i st) (i,st,h)=some d):
  xC b j (i:Int) (cE b.length i st) (aF st)=some (j++fR (cw b i st),(d.1:Int),cE b.length d.1 d.2.1,aF d.2.1):=by
 have k:=l.o.base
 have b6:h.length=b.length:=k.len
 have b7:=T.le
 have hi:i<=b.length+1:=k.hi
 obtain⟨c,d7,q,_⟩:=k.kI
 simp only at q
 have u:=eR st
 have a8:cat j (ByteArray.mk #[83])=some (j++fR 83):=Bg (by grind [ByteArray.size])
 have a6:cat j (ByteArray.mk #[76])=some (j++fR 76):=Bg (by grind [ByteArray.size])
 have a7:cat j (ByteArray.mk #[82])=some (j++fR 82):=Bg (by grind [ByteArray.size])
 have d6:wrap .i64 ((i:Int)+1)=((i+1:Nat):Int):=by grind [wrap64]
 have v:room (st.length+List.length [(i:Int)])=some ():=fp (by grind)
 have push (r:cw b i st=83):d=(i+1,i::st,h):=by
  grind [eC,List.length]
 unfold xC
 rw[u,wrap64 (x:=((st.length:Nat):Int)-1) (by omega) (by omega)]
 match st,l,k,u,q,v,push with
 |[],l,k,u,q,v,push=>
  grind [cw,LI,eS,decide_eq_false]
 |[s],l,k,u,q,v,push=>
  grind [cw,LI,eS,decide_eq_false]
 |s::t::a,l,k,u,q,v,push=>
  have w:=k.aU s (bl ..)
  have y:=k.aU t (bA _ (bl ..))
  simp only at w y
  have m:=k.dec
  rw[d9] at m
  obtain⟨G,m⟩:=m
  rw[d9] at m
  obtain⟨a9,b0⟩:=m
  have lt:t<s:=G t (bl ..)
  have c2:=eR a
  have b1:aF (s::t::a)=aF a++ [(t:Int),(s:Int)]:=by grind [eS]
  have A:(aF (s::t::a))[a.length]? =some (t:Int):=by simp_all
  have B:(aF (s::t::a))[a.length+1]? =some (s:Int):=by simp_all
  have c3:a.length<=20:=by grind
  have i1:ap (a.length:Int) (a.length+2)=some a.length:=by unfold ap;rw[if_pos (by omega)];simp
  have D:ap ((a.length:Int)+1) (a.length+2)=some (a.length+1):=by
   unfold ap
   rw[aA (by omega),show((a.length:Int)+1).toNat=a.length+1 by omega]
  have b8:inc (a.length:Int) (a.length+2)=some a.length:=by unfold inc;rw[if_pos (by omega)];simp
  have b9:inc ((a.length:Int)+1) (a.length+2)=some (a.length+1):=by
   unfold inc
   rw[aA (by omega),show((a.length:Int)+1).toNat=a.length+1 by omega]
  have c0:ap ((t:Int)-1) b.length=some (t-1):=by
   unfold ap
   rw[aA (by omega),show((t:Int)-1).toNat=t-1 by omega]
  have c1:ap ((s:Int)-1) b.length=some (s-1):=by
   unfold ap
   rw[aA (by omega),show((s:Int)-1).toNat=s-1 by omega]
  have a4:idx b ((t:Int)-1)=some ((hd b t:Nat):Int):=by
   grind [Be,Tree.get]
  have a5:idx b ((s:Int)-1)=some ((hd b s:Nat):Int):=by
   grind [Be,Tree.get]
  have d0:((aF (s::t::a)).drop 0).take (a.length-0)=aF a:=by simp_all
  have d1:((aF (s::t::a)).drop 0).take (a.length+1-0)=aF (t::a):=by
   grind [eS,List.take_length_add_append]
  have len:(s::t::a).length=a.length+2:=rfl
  have a1:((a.length+2:Nat):Int)-1=(a.length:Int)+1:=by omega
  have F:wrap .i64 ((a.length:Int)+1-1)=(a.length:Int):=by grind [wrap64]
  have a2:wrap .i64 ((t:Int)-1)=(t:Int)-1:=wrap64 (by omega) (by omega)
  have a3:wrap .i64 ((s:Int)-1)=(s:Int)-1:=wrap64 (by omega) (by omega)
  have C:decide ((a.length:Int)+1>=1)=true:=an (by omega)
  have c5:room (aF a).length=some ():=fp (by omega)
  have c6:room ((aF a).length+List.length [(s:Int)])=some ():=fp (by grind)
  have c7:room (List.length ([]:List Int)+(aF (t::a)).length)=some ():=fp (by grind)
  have I:t∉s::a:=fun z=>by
   grind
  have H:s∉t::a:=fun z=>by
   grind
  have b2:(cE b.length i (s::t::a)).set (t-1) true=cE b.length i (s::a):=Z1 (g:=s) y.1 y.2.1 I (by
   intro x
   simp only[eh]
   constructor
   all_goals grind)
  have b3:(cE b.length i (s::t::a)).set (s-1) true=cE b.length i (t::a):=Z1 (g:=t) w.1 w.2.1 H (fun x=>eh)
  have c8:room (a.length+2+List.length [(i:Int)])=some ():=v
  rw[len,a1]
  have b4:(cE b.length i (s::t::a)).length=b.length:=LH ..
  have fin: ¬(hd b t=s/\dq b i (s::t::a) t)->(cond (decide ((a.length:Int)+1>=1)) ((ap ((a.length:Int)+1) (a.length+2)).bind fun(K:Nat)=>((aF (s::t::a))[K]?).bind fun(L:Int)=>(idx b (wrap .i64 (L-1))).bind fun(M:Int)=>(ap (wrap .i64 ((a.length:Int)+1-1)) (a.length+2)).bind fun(N:Nat)=>((aF (s::t::a))[N]?).bind fun(O:Int)=>cond (M==O) ((ap ((a.length:Int)+1) (a.length+2)).bind fun(P:Nat)=>((aF (s::t::a))[P]?).bind fun(Q:Int)=>(lH b Q (cE b.length i (s::t::a))).bind fun(R:Bool)=>cond R ((cat j (ByteArray.mk #[82])).bind fun(U:ByteArray)=>(ap ((a.length:Int)+1) (a.length+2)).bind fun(V:Nat)=>((aF (s::t::a))[V]?).bind fun(W:Int)=>(ap (wrap .i64 (W-1)) (List.length (cE b.length i (s::t::a)))).bind fun(X:Nat)=>(inc ((a.length:Int)+1) (a.length+2)).bind fun(E:Nat)=>(room ((List.length ([]:List Int))+List.length (((aF (s::t::a)).drop 0).take (E-0)))).bind fun(d2:Unit)=>some (U,(i:Int),((cE b.length i (s::t::a)).set X true),(([]:List Int)++(((aF (s::t::a)).drop 0).take (E-0))))) ((cat j (ByteArray.mk #[83])).bind fun(Y:ByteArray)=>(room ((a.length+2)+List.length ([(i:Int)]))).bind fun(d3:Unit)=>some (Y,(wrap .i64 ((i:Int)+1)),cE b.length i (s::t::a),(aF (s::t::a)++([(i:Int)]))))) ((cat j (ByteArray.mk #[83])).bind fun(Z:ByteArray)=>(room ((a.length+2)+List.length ([(i:Int)]))).bind fun(d4:Unit)=>some (Z,(wrap .i64 ((i:Int)+1)),cE b.length i (s::t::a),(aF (s::t::a)++([(i:Int)]))))) ((cat j (ByteArray.mk #[83])).bind fun(a0:ByteArray)=>(room ((a.length+2)+List.length ([(i:Int)]))).bind fun(d5:Unit)=>some (a0,(wrap .i64 ((i:Int)+1)),cE b.length i (s::t::a),(aF (s::t::a)++([(i:Int)])))))
    =some (j++fR (cw b i (s::t::a)),(d.1:Int),cE b.length d.1 d.2.1,aF d.2.1):=by
   intro c4
   have c9:cw b i (s::t::a)=83->some (j++fR 83,((i+1:Nat):Int),cE b.length i (s::t::a),aF (s::t::a)++ [(i:Int)])=some (j++fR (cw b i (s::t::a)),(d.1:Int),cE b.length d.1 d.2.1,aF d.2.1):=by
    simp_all [LI,eS]
   simp only[C,aw,i1,D,ac,A,B,F,a3,a5,Bf T]
   by_cases J:hd b s=t
   ·rw[show(((hd b s:Nat):Int)==(t:Int))=true from cb.mpr (by omega)]
    by_cases f:dq b i (s::t::a) s
    ·have r:cw b i (s::t::a)=82:=by simp_all [cw,aG,aA]
     rw[r] at e⊢
     simp[eC] at e
     subst e
     simp_all
    simp_all [cw,aG,aw,cy,au,ac]
   ·rw[show(((hd b s:Nat):Int)==(t:Int))=false from dg.2 (by omega)]
    simp_all [cw,aG,au,ac]
  rw[C]
  simp only[aw,i1,D,ac,A,B,F,a2,a4,Bf T]
  by_cases J:hd b t=s
  ·rw[show(((hd b t:Nat):Int)==(s:Int))=true from cb.mpr (by omega)]
   by_cases f:dq b i (s::t::a) t
   ·have r:cw b i (s::t::a)=76:=by grind [cw]
    rw[r] at e⊢
    simp[eC] at e
    subst e
    simp_all [aw,an,ac,eS]
   simp_all [aw,ac,Bf,cy,au]
  ·rw[show(((hd b t:Nat):Int)==(s:Int))=false from dg.2 (by omega)]
   simp_all [aw,ac,Bf,au]
theorem Z2 (H:List Int) (i:Nat) (st:List Nat):cw H i st=83\/cw H i st=76\/cw H i st=82:=by
 unfold cw
 grind
theorem amf {m:Nat} (h:m=83\/m=76\/m=82):ao (fR m)=[m]/\(fR m).size=1:=by
 rcases h with rfl|rfl|rfl<;>exact⟨rfl,rfl⟩
theorem Z3 {a:List Int} (T:Tree a) (F:dp a): ∀(k:Nat) (c:cx) (b:ByteArray) (N:Nat),ho a c->2*c.1+k=2*a.length+1+c.2.1.length->b.size+k<=100->k<N->
  ∃mv ms,ai (fun(s:ByteArray×Int×(List Bool)×(List Int))=>((xD a s.1 s.2.1 s.2.2.1 s.2.2.2).map (Sum.elim (fun(t:ByteArray×Int×(List Bool)×(List Int))=>Sum.inl (t.1,t.2.1,t.2.2.1,t.2.2.2)) (fun(t:ByteArray)=>Sum.inr t)):Option ((ByteArray×Int×(List Bool)×(List Int))⊕(ByteArray)))) N (b,(c.1:Int),cE a.length c.1 c.2.1,aF c.2.1)=some mv/\
   hn a k c=some (ms,(a.length+1,[top a],a))/\ao mv=ao b++ms
 |0,c,b,N,f,e,x,w=>by
  obtain⟨N,rfl⟩: ∃j,N=j+1:=⟨N-1,by omega⟩
  obtain⟨ms,m⟩:=YB T F 0 c f e
  have g:=m
  unfold hn at g
  injection g with g
  injection g with u v
  subst u v
  refine⟨b,[],?_,m,by simp⟩
  grind [ai,xD,rX,decide_eq_false,List.length,aF,top,eR]
 |k+1,c,b,N,f,e,x,w=>by
  obtain⟨N,rfl⟩: ∃j,N=j+1:=⟨N-1,by omega⟩
  have A: ¬(c.1=a.length+1/\c.2.1.length=1):=by
   omega
  obtain⟨d,l,q,r⟩:=KO T F f A
  obtain⟨i,st,h⟩:=c
  have hi:i<=a.length+1:=f.o.base.hi
  have z:=ame T f b (by omega) l
  have D:=amf (Z2 a i st)
  have size:(b++fR (cw a i st)).size=b.size+1:=by
   simp_all
  simp only at e l r
  obtain⟨mv,ms,y,B,C⟩:=Z3 T F k d (b++fR (cw a i st)) N q (by omega) (by omega) (by omega)
  refine⟨mv,cw a i st::ms,?_,?_,?_⟩
  ·unfold ai xD
   have go:rX a b (i:Int) (aF st)=some (Sum.inl ()):=by
    grind [rX,List.length,decide_eq_true,Tree.pos,decide_eq_false,aF,eR]
   simp only
   rw[go]
   simp only[ac,Sum.elim_inl,z,bn]
   exact y
  all_goals grind [hn,Z0,List.append_assoc,List.singleton_append]
theorem amg (n:Nat):cE n 1 []=replicate n false:=by
 apply hx
 grind [Bd,List.getElem?_eq_none,LH]
theorem LJ {a:List Int} (T:Tree a) (F:dp a): ∃mv ms,jp a=some (mv,true)/\hn a (2*a.length-1) (1,[],replicate a.length 0)=some (ms,(a.length+1,[top a],a))/\ao mv=ms:=by
 have j:=T.pos
 have i:=T.le
 obtain⟨mv,ms,g,b,c⟩:=Z3 T F (2*a.length-1) (1,[],replicate a.length 0) empty LL ⟨gg.start a T,(iQ.start a.length).dr⟩
  (by grind) (by show 0+(2*a.length-1)<=100;omega) (by grind [LL])
 refine⟨mv,ms,?_,b,c⟩
 have e:jp a=rY a:=by unfold jp;rfl
 have f:dj a=true:=by unfold dj;rw[(bK a).mpr T,p7.mpr F];rfl
 have d:mk ((a.length:Nat):Int) ((a.length:Nat):Int)=some a.length:=hg (by omega)
 rw[e]
 unfold rY xB
 rw[p8 a (by omega),f]
 simp only[ac,bo,au,d,Sum.elim_inl]
 grind [RD,RC,RB,Gm,amg,aF]
theorem LK {a:List Int} (b:a.length<=1048576) (f:dj a=false):jp a=some (empty,false):=by
 simp_all [jp,rY,xB,p8]
def hu (H:List Int) (i k:Nat):Bool:=hd H i==k||hd H k==i
theorem Z4 {c:List Int} (T:Tree c) {i s:Nat} {a:List Nat} (i1:1<=i) (hi:i<=c.length) (f: ∀x∈a,1<=x/\x<=c.length) (m:a.length<=8): ∀(r k N:Nat),k+r=a.length->r<N->
  ai (fun(l:Int)=>((pp c (aF (s::a)) (i:Int) ((a.length:Nat):Int) l).map (Sum.elim (fun(t:Int)=>Sum.inl t) (Sum.elim (fun(t:ByteArray)=>Sum.inr (Sum.inl t)) (fun(t:Unit)=>Sum.inr (Sum.inr t)))):Option ((Int)⊕(ByteArray⊕Unit)))) N (k:Int)
   =some (if(a.reverse.drop k).any (hu c i)=true then Sum.inl (ByteArray.mk #[68]) else Sum.inr ())
 |0,k,N,e,g=>by
  obtain⟨N,rfl⟩: ∃d,N=d+1:=⟨N-1,by omega⟩
  grind [ai,pp,decide_eq_false,List.length,List.drop_eq_nil_of_le]
 |r+1,k,N,e,g=>by
  obtain⟨N,rfl⟩: ∃d,N=d+1:=⟨N-1,by omega⟩
  have w:=Z4 T (s:=s) i1 hi f m r (k+1) N (by omega) (by omega)
  have v:k<a.reverse.length:=by simp;omega
  have j:a.reverse[k]∈a:=by
   simp_all
  have y:=f _ j
  have q:idx (aF (s::a)) (k:Int)=some ((a.reverse[k]:Nat):Int):=by
   unfold idx
   grind [Int.toNat_natCast,eS,List.getElem?_append_left,eR,aF,List.map_reverse,List.getElem?_eq_getElem]
  have z:wrap .i64 ((i:Int)-1)=((i-1:Nat):Int):=by grind [wrap64,Tree.le]
  have A:wrap .i64 (((a.reverse[k]:Nat):Int)-1)=((a.reverse[k]-1:Nat):Int):=by grind [wrap64,Tree.le]
  have B:wrap .i64 ((k:Int)+1)=((k+1:Nat):Int):=by grind [wrap64]
  have o:idx c ((i-1:Nat):Int)=some ((hd c i:Nat):Int):=by
   grind [idx,Int.toNat_natCast,Tree.get]
  have u:idx c ((a.reverse[k]-1:Nat):Int)=some ((hd c a.reverse[k]:Nat):Int):=by
   grind [idx,Int.toNat_natCast,Tree.get]
  have b:pp c (aF (s::a)) (i:Int) ((a.length:Nat):Int) (k:Int)=some (if hu c i a.reverse[k]=true then Sum.inr (Sum.inl (ByteArray.mk #[68])) else Sum.inl ((k+1:Nat):Int)):=by
   grind [pp,decide_eq_true,List.length,hd,reverse,hu,beq_eq_false_iff_ne]
  grind [List.drop_eq_getElem_cons,ai,hu,reverse]
theorem amh {a:List Int} (T:Tree a) {i:Nat} {st:List Nat} (i1:1<=i) (hi:i<=a.length) (c: ∀x∈st,1<=x/\x<=a.length) (g:st.length<=8):xF a (aF st) (i:Int)=some (fR (er a i st)):=by
 have e:xF a (aF st) (i:Int)=xE a (aF st) (i:Int):=by unfold xF;rfl
 rw[e]
 unfold xE Gn
 have f:=eR st
 rw[wrap64 (x:=(((aF st).length:Nat):Int)-1) (by omega) (by omega)]
 match st,c,g,f with
 |[],c,g,f=>rfl
 |s::b,c,g,f=>
  have z:=c s (bl ..)
  have y:=eR b
  have w:=T.le
  simp only[cB] at g f
  have lt:(((aF (s::b)).length:Nat):Int)-1=((b.length:Nat):Int):=by omega
  have v:idx (aF (s::b)) ((b.length:Nat):Int)=some (s:Int):=by
   grind [idx,Int.toNat_natCast,eS]
  have t:wrap .i64 ((i:Int)-1)=((i-1:Nat):Int):=by grind [wrap64]
  have u:wrap .i64 ((s:Int)-1)=((s-1:Nat):Int):=by grind [wrap64]
  have o:idx a ((i-1:Nat):Int)=some ((hd a i:Nat):Int):=by
   grind [idx,Int.toNat_natCast,Tree.get]
  have q:idx a ((s-1:Nat):Int)=some ((hd a s:Nat):Int):=by
   grind [idx,Int.toNat_natCast,Tree.get]
  rw[lt,cy (show¬((b.length:Nat):Int)<0 by omega),v]
  simp only[au,ac,t,u,o,q,er]
  by_cases j:hd a s=i
  ·rw[show(((hd a s:Nat):Int)==(i:Int))=true from cb.mpr (by omega),aA j]
   rfl
  ·rw[show(((hd a s:Nat):Int)==(i:Int))=false from dg.2 (by omega),aG j]
   by_cases m:hd a i=s
   ·rw[show(((hd a i:Nat):Int)==(s:Int))=true from cb.mpr (by omega),aA m]
    rfl
   ·rw[show(((hd a i:Nat):Int)==(s:Int))=false from dg.2 (by omega),aG m]
    simp only[au,ac,Sum.elim_inl]
    unfold RI RG Gp RF RE
    have l:=Z4 T (s:=s) i1 hi (fun x r=>c x (bA _ r)) (by omega) b.length 0 LL (by omega) (by grind [LL])
    rw[show((0:Nat):Int)=0 from rfl,fY,List.any_reverse] at l
    rw[l]
    have eq:b.any (hu a i)=b.any (fun k=>hd a i==k||hd a k==i):=rfl
    rw[eq]
    by_cases d:b.any (fun k=>hd a i==k||hd a k==i)=true
    ·rw[aA d,aA d]
     rfl
    ·rw[aG d,aG d]
     rfl
theorem Z5 (H:List Int) (i:Nat) (st:List Nat):er H i st=83\/er H i st=76\/er H i st=82\/er H i st=68:=by
 unfold er
 grind
theorem ami {m:Nat} (h:m=83\/m=76\/m=82\/m=68):ao (fR m)=[m]/\(fR m).size=1/\hB (fR m) 0=some (m:Int):=by
 rcases h with rfl|rfl|rfl|rfl<;>exact⟨rfl,rfl,rfl⟩
theorem Z6 {a:List Int} (T:Tree a) (F:dp a): ∀(k:Nat) (c:cx) (f:ByteArray) (N:Nat),EO a c->2*(a.length+1)+c.2.1.length<=2*c.1+k->f.size+k<=100->k<N->
  ∃mv ms st,ai (fun(s:(List Int)×ByteArray×Int×(List Int))=>((r0 a s.1 s.2.1 s.2.2.1 s.2.2.2).map (Sum.elim (fun(t:(List Int)×ByteArray×Int×(List Int))=>Sum.inl (t.1,t.2.1,t.2.2.1,t.2.2.2)) (Sum.elim (fun(t:ByteArray×Bool)=>Sum.inr (Sum.inl t)) (fun(t:ByteArray)=>Sum.inr (Sum.inr t)))):Option (((List Int)×ByteArray×Int×(List Int))⊕((ByteArray×Bool)⊕ByteArray)))) N (aF c.2.1,f,(c.1:Int),eD c.2.2)=some (Sum.inr mv)/\
   hY a k c=some (ms,(a.length+1,st,a))/\ao mv=ao f++ms
 |k,c,f,N,b,e,C,B=>by
  obtain⟨N,rfl⟩: ∃q,N=q+1:=⟨N-1,by omega⟩
  have w:=T.le
  by_cases g:c.1<=a.length
  ·cases k with
   |zero=>omega
   |succ k=>
    obtain⟨d,j,r⟩:=ZY T F b g
    have G:=(al9 b.e j).2.1
    have i1:=b.e.i1
    have H:=mq b.e.dec b.e.aU i1
    have o:=amh T (st:=c.2.1) i1 g (fun x y=>by have:=b.e.aU x y;omega) (by omega)
    obtain⟨i,st,h⟩:=c
    have v:=ami (Z5 a i st)
    have l:=amc (m:=er a i st) b.e w
    simp only at j g o
    rw[j] at l
    simp only at l
    have size:(f++fR (er a i st)).size=f.size+1:=by
     simp_all
    obtain⟨mv,ms,A,z,D,E⟩:=Z6 T F k d (f++fR (er a i st)) N r (by omega) (by omega) (by omega)
    refine⟨mv,er a i st::ms,A,?_,?_,?_⟩
    ·unfold ai r0
     simp only
     rw[an (show(i:Int)<=((a.length:Nat):Int) by omega),o]
     simp only[aw,ac,v.2.2,l,bo,au]
     rw[Bg (by omega)]
     simp only[ac,bn,Sum.elim_inl]
     exact z
    all_goals grind [hY,Z0,List.append_assoc,List.singleton_append]
  ·obtain⟨i,st,h⟩:=c
   have hi:=b.e.hi
   have:i=a.length+1:=by omega
   subst this
   have u:=b.done T
   subst u
   refine⟨f,[],st,?_,?_,by simp⟩
   ·grind [ai,r0,decide_eq_false]
   ·cases k<;>(unfold hY;rw[if_neg g])
theorem Z7 {a:List Int} (c:a.length<=8): ∀(r k N:Nat),k+r=a.length->r<N->
  ai (fun(s:Int×(List Int))=>((rZ a s.1 s.2).map (Sum.elim (fun(t:Int×(List Int))=>Sum.inl (t.1,t.2)) (fun(t:(List Int))=>Sum.inr t)):Option ((Int×(List Int))⊕(((List Int)))))) N ((k:Int),replicate k (-1))
   =some (replicate a.length (-1))
 |0,k,N,e,d=>by
  obtain⟨N,rfl⟩: ∃b,N=b+1:=⟨N-1,by omega⟩
  grind [ai,rZ,decide_eq_false,List.length]
 |r+1,k,N,e,d=>by
  obtain⟨N,rfl⟩: ∃b,N=b+1:=⟨N-1,by omega⟩
  have w:wrap .i64 ((k:Int)+1)=((k+1:Nat):Int):=by grind [wrap64]
  have f:=Z7 c r (k+1) N (by omega) (by omega)
  unfold ai rZ
  simp only
  rw[an (show(k:Int)<((a.length:Nat):Int) by omega),fp (by simp;omega),w]
  simp only[aw,ac,bn,Sum.elim_inl]
  rw[show replicate k (-1:Int)++ [-1]=replicate (k+1) (-1) from(List.replicate_succ').symm]
  exact f
theorem LM {a:List Int} (T:Tree a) (F:dp a): ∃mv ms st,jq a=some (mv,true)/\hY a (2*a.length) (1,[],replicate a.length 0)=some (ms,(a.length+1,st,a))/\ao mv=ms:=by
 have i:=T.pos
 have d:=T.le
 obtain⟨mv,ms,st,g,b,c⟩:=Z6 T F (2*a.length) (1,[],replicate a.length 0) empty LL (EO.start T)
  (by grind) (by show 0+2*a.length<=100;omega) (by grind [LL])
 refine⟨mv,ms,st,?_,b,c⟩
 have e:jq a=r1 a:=by unfold jq;rfl
 have f:dj a=true:=by unfold dj;rw[(bK a).mpr T,p7.mpr F];rfl
 have l:=Z7 d a.length 0 LL (by omega) (by grind [LL])
 rw[show((0:Nat):Int)=0 from rfl,show replicate 0 (-1:Int)=[] from rfl] at l
 rw[e]
 unfold r1 xG
 rw[p8 a (by omega),f]
 simp only[ac,bo,au,Sum.elim_inl]
 unfold RX RS Gy RQ RP
 rw[l]
 simp only[ac,bn]
 simp_all [RW,Gz,RV,RU,RT,GA,amd,aF]
theorem LN {a:List Int} (b:a.length<=1048576) (f:dj a=false):jq a=some (empty,false):=by
 simp_all [jq,r1,xG,p8]
def LP (a b j:Nat):Bool:=(blt a j&&blt j b)||(blt b j&&blt j a)
def LQ (a b j:Nat):Bool:=(blt j a&&blt j b)||(blt a j&&blt b j)
def uq (a b c d:Nat):Bool:=(LP a b c&&LQ a b d)||(LP a b d&&LQ a b c)
def ur (w v:Nat):Nat->List Nat->Bool
 |_,[]=>true
 |i,x::xs=> !(uq i x w v)&&ur w v (i+1) xs
def us (a:List Nat) (w:Nat):Nat->Nat->Bool
 |0,_=>true
 |f+1,x=>beq x 0||blt w x||(!(beq x w)&&us a w f (a.getD (x-1) 0))
def Bh (a:List Nat) (v:Nat):Bool:=
 us a (a.length+1) 9 v&&ur (a.length+1) v 1 a&& !(beq v 0&&a.contains 0)
def mr (P:List Int->Bool) (n:Nat):Nat->List Nat->Bool
 |0,a=>P (a.map Int.ofNat)
 |k+1,a=>(range (n+1)).all fun v=> !(Bh a v)||mr P n k (a++ [v])
def fS (h:List Int) (j:Nat):List Nat:=(range j).map fun i=>hd h (i+1)
theorem amj (h:List Int) (j:Nat):fS h (j+1)=fS h j++ [hd h (j+1)]:=by
 simp[fS,f0]
theorem amk {h:List Int} (T:Tree h):(fS h h.length).map Int.ofNat=h:=by
 apply k6
 ·simp[fS]
 ·intro i a b
  have:=T.get (w:=i+1) (by omega) (by omega)
  grind [List.getElem?_eq_getElem,fS]
theorem aml (a b c d:Nat):uq a b c d=true↔(bC a b c/\iO a b d)\/(bC a b d/\iO a b c):=by
 grind [blt,Nat.blt_eq,uq,LP,LQ,bC,iO]
theorem amm {h:List Int} (T:Tree h) (F:dp h) {w v:Nat} (d:1<=w) (f:w<=h.length) (v1:1<=v) (v2:v<=h.length) (ne:w≠v):
  uq w (hd h w) v (hd h v)=false:=by
 rw[k7]
 intro x
 rw[aml] at x
 have g:=(qb T).mp F
 by_cases c:hd h w=0
 ·have e:=(T.eA d f).mp c
  have a:hd h v≠0:=fun i=>ne (e.trans ((T.eA v1 v2).mp i).symm)
  have b:bC v (hd h v) w:=by
   grind [bC,iO]
  have:=g v w v1 v2 a b
  grind [Tree.AC,bC]
 ·by_cases a:hd h v=0
  ·have e:=(T.eA v1 v2).mp a
   have b:bC w (hd h w) v:=by
    grind [bC,iO]
   have:=g w v d f c b
   grind [Tree.AC,bC]
  ·have N:=(Yz T).mp ((akn T).mp F).1 w v d f c v1 v2 a
   exact N x
theorem Z8 (w v:Nat): ∀(l:List Nat) (i:Nat),(∀k (b:k<l.length),uq (i+k) l[k] w v=false)->ur w v i l=true
 |[],_,_=>rfl
 |x::xs,i,h=>by
  unfold ur
  have a:=h 0 (by simp)
  simp only[gV,List.getElem_cons_zero] at a
  rw[a,Z8 w v xs (i+1) (fun k b=>by
   have:=h (k+1) (by simp;omega)
   grind)]
  rfl
theorem amn (h:List Int) {i j:Nat} (hi:i<j):(fS h j).getD i 0=hd h (i+1):=by simp[fS,getD,hi]
theorem Z9 {h:List Int} (T:Tree h) {j:Nat} (a:j<h.length): ∀(f x:Nat),(x=0\/aL h (hd h (j+1)) x)->us (fS h j) (j+1) f x=true
 |0,_,_=>rfl
 |f+1,x,u=>by
  unfold us
  simp only[ev,aT,Nat.beq_eq_true_eq,Nat.blt_eq,gl]
  by_cases b:x=0
  ·simp_all
  ·have u:=u.resolve_left b
   have r:=T.iK u
   by_cases c:j+1<x
   ·omega
   ·have d:x≠j+1:=by
     grind [hd,Tree.iL,Tree.kF,Tree.nD]
    refine .inr ⟨?_,?_⟩
    ·grind [Nat.eq_of_beq_eq_true]
    ·rw[amn h (show x-1<j by omega),show x-1+1=x by omega]
     refine Z9 T a f _ ?_
     grind [hd,Tree.KH,Tree.iL]
theorem amo {h:List Int} (T:Tree h) (F:dp h) {j:Nat} (c:j<h.length):Bh (fS h j) (hd h (j+1))=true:=by
 have d:(fS h j).length=j:=by simp[fS]
 unfold Bh
 rw[d]
 have a:us (fS h j) (j+1) 9 (hd h (j+1))=true:=by
  refine Z9 T c 9 _ ?_
  by_cases z:hd h (j+1)=0
  ·exact .inl z
  ·exact .inr (.refl (Nat.pos_of_ne_zero z) (T.cR (w:=j+1) (by omega) (by omega)))
 have b:ur (j+1) (hd h (j+1)) 1 (fS h j)=true:=by
  grind [Z8,fS,hd,Nat.add_comm,amm]
 rw[a,b]
 simp only[d8,gl,Bool.and_eq_false_iff]
 grind [hd,List.contains_iff_mem,fS,Tree.eA,Nat.eq_of_beq_eq_true]
theorem aaa {h:List Int} (T:Tree h) (F:dp h) {P:List Int->Bool}: ∀(k j:Nat),j+k=h.length->mr P h.length k (fS h j)=true->P h=true
 |0,j,e,s=>by
  grind [List.length,mr,amk]
 |k+1,j,e,s=>by
  unfold mr at s
  rw[bQ] at s
  have a:=T.cR (w:=j+1) (by omega) (by omega)
  have:=s (hd h (j+1)) (by grind)
  rw[<-amj,amo T F (by omega)] at this
  refine aaa T F k (j+1) (by omega) ?_
  simp_all
theorem amp {P:List Int->Bool} {n:Nat} (s:mr P n n []=true) {h:List Int} (T:Tree h) (F:dp h) (e:h.length=n):P h=true:=by
 subst e
 exact aaa T F h.length 0 (by omega) s
def ut:Nat->Nat
 |0=>0|1=>1|2=>2|3=>7|4=>30|5=>143|6=>728|_=>0
def amq:Nat->Nat
 |0=>1|1=>1|2=>3|3=>12|4=>55|5=>273|6=>1428|_=>0
theorem aab:((range 7).all fun n=>lJ (n:Int)==some (amq n:Int))=true:=by decide+kernel
theorem amr:((range 7).all fun n=>xH (n:Int)==some (ut n:Int))=true:=by decide+kernel
def aac (f:Int->Option Int) (t:Nat->Nat) (x:Int):Option Int:=
 match x with
 | .ofNat n=>cond (ble n 6) (some (t n:Int)) (f x)
 | .negSucc _=>f x
theorem LR {f:Int->Option Int} {t:Nat->Nat} (h:((range 7).all fun n=>f (n:Int)==some (t n:Int))=true):f=aac f t:=by
 funext x
 cases x<;>grind [aac,ble,Nat.le_of_ble_eq_true]
def aad (L:Nat) (x:Int):Int:=
 match x with
 | .ofNat n=>cond (ble n L) (.ofNat n) (wrap .i64 x)
 | .negSucc n=>cond (ble n L) (.negSucc n) (wrap .i64 x)
theorem ams (n a:Nat) (b:(a:Int)<=9223372036854775807) (h:n<=a):wrap .i64 (n:Int)=(n:Int):=wrap64 (by omega) (by omega)
theorem amt (n a:Nat) (b:(a:Int)<=9223372036854775807) (h:n<=a):wrap .i64 (Int.negSucc n)=Int.negSucc n:=by
 grind [Int.negSucc_eq,wrap64]
theorem aae {d:Type} {n c:Nat} {a b:d} (h:n<=c->b=a):b=cond (ble n c) a b:=by
 cases e:ble n c<;>simp_all
theorem amu (a:Nat) (b:(a:Int)<=9223372036854775807):wrap .i64=aad a:=by
 funext x
 cases x with
 |ofNat n=>exact aae (ams n a b)
 |negSucc n=>exact aae (amt n a b)
def amv:Int->Int:=aad 1000000000000000000
theorem aaf:wrap .i64=amv:=amu 1000000000000000000 (by omega)
def ltF (a b:Int):Bool:=
 match a,b with
 | .ofNat a,.ofNat b=>blt a b
 | .negSucc _,.ofNat _=>true
 | .ofNat _,.negSucc _=>false
 | .negSucc a,.negSucc b=>blt b a
def leF (a b:Int):Bool:=
 match a,b with
 | .ofNat a,.ofNat b=>ble a b
 | .negSucc _,.ofNat _=>true
 | .ofNat _,.negSucc _=>false
 | .negSucc a,.negSucc b=>ble b a
theorem aag (a b:Int):decide (a<b)=ltF a b:=by
 cases a<;>cases b<;>simp only[ltF,Int.ofNat_eq_natCast,Int.negSucc_eq]<;>rw[e3]<;>simp<;>omega
theorem aah (a b:Int):decide (a<=b)=leF a b:=by
 cases a<;>cases b<;>simp only[leF,Int.ofNat_eq_natCast,Int.negSucc_eq]<;>rw[e3]<;>simp<;>omega
abbrev mu:=List Int->Int->Int->Int->Option Int
def aai:{F:mu->mu->mu//xI=F}:=by
 apply Subtype.mk
 unfold xI GD Sf GC Se Sd Sc GB
 rewrite [LR aab,aaf]
 simp only[aag,aah]
 exact rfl
def aaj:{F:mu->mu->mu//xJ=F}:=by
 apply Subtype.mk
 unfold xJ GH Su Ss Sr Sq Sp GG So Sn Sm GF
 rewrite [LR aab,LR amr,aaf]
 simp only[aag,aah]
 exact rfl
def mw:Nat->mu×mu
 |0=>((fun _ _ _ _=>none),(fun _ _ _ _=>none))
 |n+1=>(aai.1 (mw n).1 (mw n).2,aaj.1 (mw n).1 (mw n).2)
theorem aak: ∀n,he n=mw n
 |0=>rfl
 |n+1=>by
  show((fun a b c d=>xI (he n).1 (he n).2 a b c d),(fun a b c d=>xJ (he n).1 (he n).2 a b c d))=mw (n+1)
  rw[aak n,aai.2,aaj.2]
  rfl
theorem amw:r2=(mw RR).1:=by
 rw[<-aak]
 funext a b c d
 unfold r2
 rfl
def fN {a:Type} (n:Nat) (k:Nat->a):a:=
 match n with
 |0=>k 0|1=>k 1|2=>k 2|3=>k 3|4=>k 4|5=>k 5|6=>k 6|7=>k 7|8=>k 8|n=>k n
theorem uu {a:Type} (n:Nat) (k:Nat->a):fN n k=k n:=by unfold fN;split<;>rfl
def fI {a:Type} (x:Int) (k:Int->a):a:=
 match x with
 | .ofNat n=>fN n fun n=>k (.ofNat n)
 | .negSucc n=>k (.negSucc n)
theorem amx {a:Type} (x:Int) (k:Int->a):fI x k=k x:=by cases x<;>simp only[fI,uu]
def fL {a:Type} (l:List Int) (k:List Int->a):a:=
 match l with
 |[]=>k []
 |x::xs=>fI x fun x=>fL xs fun xs=>k (x::xs)
theorem aal {a:Type}: ∀(l:List Int) (k:List Int->a),fL l k=k l
 |[],k=>rfl
 |x::xs,k=>by rw[fL,amx,aal xs]
def fM {a:Type} (l:List Nat) (k:List Nat->a):a:=
 match l with
 |[]=>k []
 |x::xs=>fN x fun x=>fM xs fun xs=>k (x::xs)
theorem Bi {a:Type}: ∀(l:List Nat) (k:List Nat->a),fM l k=k l
 |[],k=>rfl
 |x::xs,k=>by rw[fM,uu,Bi xs]
def cZ (P:List Int->Bool) (n:Nat):Nat->List Nat->Bool
 |0,a=>fL (a.map Int.ofNat) P
 |k+1,a=>(range (n+1)).all fun v=>fN v fun v=> !(Bh a v)||fM (a++ [v]) fun b=>cZ P n k b
theorem aam (P:List Int->Bool) (n:Nat): ∀k a,cZ P n k a=mr P n k a
 |0,a=>by rw[cZ,mr,aal]
 |k+1,a=>by
  rw[cZ,mr]
  congr 1
  funext v
  rw[uu,Bi,aam P n k]
theorem aan {P:List Int->Bool} {n:Nat} (s:cZ P n n []=true) {h:List Int} (T:Tree h) (F:dp h) (e:h.length=n):P h=true:=
 amp (by grind [aam]) T F e
def uv (h:List Int):Option Int:=(mw RR).1 h 1 (h.length:Int) (top h:Int)
theorem amy {P:List Int->Bool} {k:Nat} (h: ∀v,v<=k+1->v≠1->cZ P (k+1) k [v]=true):cZ P (k+1) (k+1) []=true:=by
 rw[cZ,bQ]
 intro v a
 rw[uu,Bi,hz]
 by_cases e:v=1
 ·subst e
  rfl
 grind
def kQ (h:List Int):Bool:=
 match uv h with
 |some (.ofNat k)=>blt k (ut h.length)
 |_=>false
theorem amz:((range 5).all fun n=>cZ kQ (n+1) (n+1) [])=true:=by decide+kernel
theorem amA:cZ kQ 6 5 [0]=true:=by decide+kernel
theorem amB:cZ kQ 6 5 [2]=true:=by decide+kernel
theorem amC:cZ kQ 6 5 [3]=true:=by decide+kernel
theorem amD:cZ kQ 6 5 [4]=true:=by decide+kernel
theorem amE:cZ kQ 6 5 [5]=true:=by decide+kernel
theorem amF:cZ kQ 6 5 [6]=true:=by decide+kernel
theorem amG {P:List Int->Bool} {k:Nat} (h: ∀v,v<=k+1->v≠1->cZ P (k+1) k [v]=true):cZ P (k+1) (k+1) []=true:=by
 rw[cZ,bQ]
 intro v a
 rw[uu,Bi,hz]
 by_cases e:v=1
 ·subst e
  rfl
 grind
theorem amH {n:Nat} (a:1<=n) (b:n<=6):cZ kQ n n []=true:=by
 by_cases e:n=6
 ·grind [amG,amA,amB,amC,amD,amE,amF]
 ·have s:=bQ.mp amz (n-1) (by grind)
  simp_all
theorem LS {h:List Int} (T:Tree h) (F:dp h) (l:h.length<=6): ∃k:Nat,k<ut h.length/\uv h=some (k:Int):=by
 have a:=T.pos
 have c:=aan (amH a l) T F rfl
 unfold kQ at c
 split at c
 all_goals grind [Nat.blt_eq]
theorem amI (n:Nat):ut n<=728:=by unfold ut;grind
noncomputable def hZ (h:List Int):Int:=if dj h=true/\h.length<=6 then(uv h).getD 0 else-1
theorem nX {h:List Int}:dj h=true↔Tree h/\dp h:=by
 grind [dj,bK,p7]
theorem amJ (h:List Int) (a:h.length<=1048576):GI h=some (hZ h):=by
 unfold GI xK hZ
 rw[p8 h a]
 cases f:dj h with
 |false=>simp
 |true=>
  obtain⟨T,F⟩:=nX.mp f
  simp only[ac,bo,au,true_and]
  by_cases l:h.length<=6
  ·obtain⟨k,c,b⟩:=LS T F l
   rw[cy (by omega),aA l,KW h a,amw]
   unfold uv at b⊢
   have:fo h=(top h:Int):=by unfold fo;rw[(bK h).mpr T];rfl
   simp only[au,ac,this,b,ie]
  ·rw[an (by omega),aG l]
   rfl
noncomputable def iX (h:List Int) (w:Nat):Nat:=aH (fun i=>ind (eO h (i+1) w)) h.length
theorem size_le (h:List Int) (w:Nat):iX h w<=h.length:=by
 have:=ue (f:=fun i=>ind (eO h (i+1) w)) (g:=fun _=>1) (n:=h.length) fun i _=>Y4 _
 simp_all [mh,iX]
def fT:List Nat->Nat
 |[]=>0
 |x::r=>x*r.length+fT r
def ca:List Nat->Nat->List Nat×List Nat
 |[],_=>([],[])
 |x::r,s=>if s%2=1 then(x::(ca r (s/2)).1,(ca r (s/2)).2) else((ca r (s/2)).1,x::(ca r (s/2)).2)
theorem aao: ∀(l:List Nat) (s:Nat),(ca l s).1.Sublist l/\(ca l s).2.Sublist l
 |[],_=>⟨List.Sublist.refl _,List.Sublist.refl _⟩
 |x::r,s=>by
  have a:=aao r (s/2)
  grind [ca]
def ft (l:List Nat) (root:Bool) (s:Nat):Nat:=fT (ca l s).2+fT (ca l s).1+if root=true then 0 else(ca l s).1.sum
def iY (f:Nat->Nat):Nat->Nat
 |0=>f 0
 |n+1=>min (iY f n) (f (n+1))
theorem LU {f:Nat->Nat}: ∀{n k:Nat},k<=n->iY f n<=f k
 |0,k,h=>by
  have:k=0:=by omega
  subst this
  exact aS _
 |n+1,k,h=>by
  unfold iY
  by_cases e:k=n+1
  ·grind
  ·exact fu (Nat.min_le_left _ _) (LU (by omega))
theorem Bj {f:Nat->Nat}: ∀n,∃k,k<=n/\iY f n=f k
 |0=>⟨0,aS _,rfl⟩
 |n+1=>by
  obtain⟨k,a,e⟩:=Bj (f:=f) n
  grind [iY,Nat.min_eq_left,Nat.min_eq_right]
def jM (l:List Nat) (root:Bool):Nat:=iY (ft l root) (2^l.length-1)
theorem amK {l:List Nat} {root:Bool} {s:Nat} (a:s<2^l.length):jM l root<=ft l root s:=LU (by omega)
def hv (out:List Nat) (x:Nat):List Nat:=out.takeWhile (fun y=>decide (y<x))++x::out.dropWhile (fun y=>decide (y<x))
theorem LV (out:List Nat) (x:Nat):(hv out x).Perm (x::out):=by
 have:=List.perm_middle (a:=x) (l₁:=out.takeWhile (fun y=>decide (y<x))) (l₂:=out.dropWhile (fun y=>decide (y<x)))
 rw[o0] at this
 exact this
theorem aap {out:List Nat} (b:out.Pairwise (· <= ·)) (x:Nat):(hv out x).Pairwise (· <= ·):=by
 induction out with
 |nil=>simp[hv]
 |cons e r d=>
  rw[d9] at b
  unfold hv
  by_cases a:e<x
  ·rw[List.takeWhile_cons_of_pos (by simpa using a),List.dropWhile_cons_of_pos (by simpa using a),fr,d9]
   refine⟨fun z c=> ?_,d b.2⟩
   have:=(LV r x).subset c
   grind
  grind [List.takeWhile_cons_of_neg,List.dropWhile_cons_of_neg,List.pairwise_cons]
def ia (l:List Nat):List Nat:=l.foldl hv []
theorem LW: ∀(l out:List Nat),out.Pairwise (· <= ·)->(l.foldl hv out).Pairwise (· <= ·)/\(l.foldl hv out).Perm (l++out)
 |[],out,a=>⟨a,List.Perm.refl _⟩
 |x::l,out,a=>by
  have b:=LW l (hv out x) (aap a x)
  grind [Trans.trans,LV,List.perm_middle]
theorem amL (l:List Nat):(ia l).Pairwise (· <= ·):=(LW l [] List.Pairwise.nil).1
theorem uw (l:List Nat):(ia l).Perm l:=by
 have:=(LW l [] List.Pairwise.nil).2
 rwa[fZ] at this
theorem aaq: ∀{l a:List Nat},l.Pairwise (· <= ·)->a.Pairwise (· <= ·)->l.Perm a->l=a
 |[],a,_,_,p=>(List.nil_perm.mp p).symm
 |x::r,[],_,_,p=>absurd p.length_eq (by simp)
 |x::r,c::g,s,b,p=>by
  rw[d9] at s b
  have d:=p.subset (bl ..)
  have f:=p.symm.subset (bl ..)
  have e:x=c:=by
   grind
  subst e
  rw[aaq s.2 b.2 p.cons_inv]
def dX (h:List Int) (w:Nat):List Nat:=((range h.length).map (· +1)).filter fun k=>hd h k==w
noncomputable def eE (h:List Int) (w:Nat):List Nat:=ia ((dX h w).map (iX h))
noncomputable def gT (h:List Int) (w:Nat):Nat:=jM (eE h w) (hd h w==0)
noncomputable def nY (h:List Int):Nat:=(h.length-1)+aH (fun i=>gT h (i+1)) h.length
def bm (l:List Nat):List Int:=l.map fun(x:Nat)=>(x:Int)
theorem gy (l:List Nat):(bm l).length=l.length:=by simp[bm]
theorem qm (l:List Nat) (k:Nat):(bm l)[k]? =(l[k]?).map fun(x:Nat)=>(x:Int):=by simp[bm]
theorem aar {h:List Int} (T:Tree h) {w:Nat}:(cg (bq h w)).length=iX h w:=by
 unfold bq iX
 rw[KF _ T.le,eZ,uf,g5]
theorem amM (x:Nat) (l:List Nat) (q:l.length<=100):FB (x:Int) (bm l)=some (((l.takeWhile (fun a=>decide (a<x))).length:Nat):Int):=by
 unfold FB
 have d:=gy l
 have u:(l.takeWhile (fun a=>decide (a<x))).length<=l.length:=(apA _).length_le
 have j: ∀k,k<(l.takeWhile (fun a=>decide (a<x))).length-> ∃a,l[k]? =some a/\a<x:=fun k b=>by
  have f:(l.takeWhile (fun a=>decide (a<x)))[k]∈l.takeWhile (fun a=>decide (a<x)):=dc b
  have c:((l.takeWhile (fun a=>decide (a<x))).all fun a=>decide (a<x))=true:=List.all_takeWhile
  have c:=bQ.mp c _ f
  refine⟨(l.takeWhile (fun a=>decide (a<x)))[k],?_,by grind⟩
  have o:=List.takeWhile_prefix (fun a=>decide (a<x)) (l:=l)
  obtain⟨t,r⟩:=o
  grind
 have stop:(l.takeWhile (fun a=>decide (a<x))).length<l.length-> ∃a,l[(l.takeWhile (fun a=>decide (a<x))).length]? =some a/\ ¬a<x:=fun b=>by
  have e:=o0 (p:=fun a=>decide (a<x)) (l:=l)
  cases hd:l.dropWhile (fun a=>decide (a<x))<;>grind [hd,dropWhile,Decidable.decide,takeWhile,List.head?_dropWhile_not]
 have m:=bu (body:=fun(s:Int)=>((rN (x:Int) s (bm l)).map (Sum.elim (fun(t:Int)=>Sum.inl t) (fun(t:Int)=>Sum.inr t)):Option ((Int)⊕(Int))))
  (fun k=>(k:Int)) (l.takeWhile (fun a=>decide (a<x))).length (((l.takeWhile (fun a=>decide (a<x))).length:Nat):Int)
  (by
   intro k b
   obtain⟨a,g,i⟩:=j k b
   have w:wrap .i64 ((k:Int)+1)=((k+1:Nat):Int):=by grind [wrap64]
   grind [rN,decide_eq_true,List.length,bS,qm])
  (by
   simp only[rN]
   by_cases lt:(l.takeWhile (fun a=>decide (a<x))).length<l.length
   ·obtain⟨a,g,i⟩:=stop lt
    rw[d,an (show(((l.takeWhile (fun a=>decide (a<x))).length:Nat):Int)<((l.length:Nat):Int) by omega),bS lt]
    grind [qm,decide_eq_false]
   grind) LL (by grind [LL])
 exact m
theorem amN (x:Nat) (l:List Nat) (b:l.length<=100):FD (x:Int) (bm l)=some (bm (hv l x)):=by
 unfold FD QB
 rw[amM x l b]
 have c:=gy l
 have g:(l.takeWhile (fun a=>decide (a<x))).length<=l.length:=(apA _).length_le
 have i:inc (((l.takeWhile (fun a=>decide (a<x))).length:Nat):Int) (bm l).length=some (l.takeWhile (fun a=>decide (a<x))).length:=by
  grind [inc,Int.toNat_natCast]
 simp only[bn,ac,FC,i]
 rw[fp (by simp;omega),fp (by simp;omega),fp (by simp;omega)]
 simp only[ac]
 congr 1
 have e:=o0 (p:=fun a=>decide (a<x)) (l:=l)
 have d:(bm l).take (l.takeWhile (fun a=>decide (a<x))).length=bm (l.takeWhile (fun a=>decide (a<x))):=by
  grind [bm,List.map_take,takeWhile,Decidable.decide,dropWhile,List.take_left']
 have f:(bm l).drop (l.takeWhile (fun a=>decide (a<x))).length=bm (l.dropWhile (fun a=>decide (a<x))):=by
  grind [bm,List.map_drop,takeWhile,Decidable.decide,dropWhile,List.drop_left']
 grind [List.take_of_length_le,gy,List.length,List.length_append,hv,bm]
def mx (h:List Int) (w k:Nat):List Nat:=((range k).map (· +1)).filter fun c=>hd h c==w
theorem amO (h:List Int) (w k:Nat):mx h w (k+1)=mx h w k++if(hd h (k+1)==w)=true then[k+1] else[]:=by
 grind [mx,List.range_succ]
theorem amP (h:List Int) (w k:Nat):(mx h w k).length<=k:=by
 grind [mx,Nat.le_trans,List.length_filter_le]
theorem aas (l:List Nat) (x:Nat):ia (l++ [x])=hv (ia l) x:=by grind [ia]
theorem amQ {h:List Int} (T:Tree h) {w:Nat} (l:1<=w) (m:w<=h.length):xb h (w:Int)=some (bm (eE h w)):=by
 have e:xb h (w:Int)=xa h (w:Int):=by unfold xb;rfl
 have b:=T.le
 rw[e]
 unfold xa Fy QI QH Fz QG QF FF
 have j:=bu (body:=fun(s:Int×(List Int))=>((w9 h (w:Int) s.1 s.2).map (Sum.elim (fun(t:Int×(List Int))=>Sum.inl (t.1,t.2)) (fun(t:(List Int))=>Sum.inr t)):Option ((Int×(List Int))⊕(((List Int))))))
  (fun k=>((k:Int),bm (ia ((mx h w k).map (iX h))))) h.length (bm (eE h w))
  (by
   intro k f
   have g:=T.get (w:=k+1) (by omega) (by omega)
   rw[e9] at g
   have d:wrap .i64 ((k:Int)+1)=((k+1:Nat):Int):=by grind [wrap64]
   have i:=amP h w k
   have c:(ia ((mx h w k).map (iX h))).length<=100:=by rw[(uw _).length_eq,eZ];omega
   simp only[w9,w8,QE,QD,QC,FA,FE]
   rw[an (show(k:Int)<((h.length:Nat):Int) by omega),eN,g,d]
   simp only[aw,ac,Sum.elim_inl]
   rw[amO,f2]
   by_cases a:hd h (k+1)=w
   ·rw[show(((hd h (k+1):Nat):Int) !=(w:Int))=false by rw[a];simp,aA (cb.mpr a),dJ,iA,aas]
    simp only[au,nI T (show 1<=k+1 by omega) (show k+1<=h.length by omega),ac,Yh (fK b (k+1)),aar T,Sum.elim_inl,amN _ _ c,bn]
   ·rw[show(((hd h (k+1):Nat):Int) !=(w:Int))=true by grind,aG (fun z=>a (cb.mp z)),iA,fZ]
    simp_all)
  (by
   simp only[w9,w8]
   rw[cy (show¬((h.length:Nat):Int)<((h.length:Nat):Int) by omega)]
   rfl) LL (by grind [LL])
 simp_all [bm,ia,mx,iX,ac]
def dY (a:Nat) (l:List Nat) (s:Nat):List Nat:=if a=1 then(ca l s).1 else(ca l s).2
theorem amR {a:Nat} (b:a<=1) (x:Nat) (r:List Nat) (s:Nat):dY a (x::r) s=if s%2=a then x::dY a r (s/2) else dY a r (s/2):=by
 grind [dY,ca]
theorem LX {a:Nat} (l:List Nat) (s:Nat):(dY a l s).Sublist l:=by
 grind [dY,aao]
theorem aat {b:Nat}: ∀{l:List Nat},(∀x∈l,x<=b)->fT l<=b*l.length*l.length
 |[],_=>by simp[fT]
 |x::r,h=>by
  have f:=aat (l:=r) fun e d=>h e (bA _ d)
  have c:=h x (bl ..)
  rw[fT,cB]
  have a:x*r.length<=b*r.length:=ic _ c
  grind
theorem aau {a:Nat}: ∀{l:List Nat},(∀x∈l,x<=a)->l.sum<=a*l.length
 |[],_=>by simp
 |x::r,h=>by
  have d:=aau (l:=r) fun c b=>h c (bA _ b)
  grind [List.mem_cons_self,List.length_cons,Nat.mul_succ]
def eF (root:Bool) (a:Nat) (l:List Nat):Nat:=fT l+if a=1/\root=false then l.sum else 0
theorem amS (root:Bool) (a x:Nat) (r:List Nat):eF root a (x::r)=eF root a r+x*r.length+if a=1/\root=false then x else 0:=by
 grind [eF,fT]
theorem aav {root:Bool} {e:Nat} {l:List Nat} (h: ∀x∈l,x<=8) (d:l.length<=8):eF root e l<=576:=by
 unfold eF
 have a:=aat h
 have b:=aau h
 have c:8*l.length*l.length<=8*8*8:=fv (Nat.mul_le_mul_left _ d) d
 grind
theorem amT {a:List Nat} (f: ∀x∈a,x<=8) (l:a.length<=7) {s base b:Nat} (o:s<2^a.length) (K:base<=10000) (q:b<=1) (root:Bool):
  FL (bm a) root (s:Int) (base:Int) (b:Int) (((a.length:Nat):Int)-1)=some ((base+eF root b (dY b a s):Nat):Int):=by
 unfold FL
 have O:s<128:=gz o (e5 (by omega) l)
 have J:=gy a
 have y: ∀j,∀x∈dY b (a.drop j) (s/2^j),x<=8:=fun j x d=>f x (n8 ((LX _ _).subset d))
 have len: ∀j,(dY b (a.drop j) (s/2^j)).length<=8:=fun j=>by
  grind [LX,List.drop,List.length_drop]
 have D: ∀j,eF root b (dY b (a.drop j) (s/2^j))<=576:=fun j=>aav (y j) (len j)
 have N:=bu (body:=fun(t:Int×Int×Int)=>((rO (bm a) root (s:Int) t.1 (b:Int) t.2.1 t.2.2).map (Sum.elim (fun(t:Int×Int×Int)=>Sum.inl (t.1,t.2.1,t.2.2)) (fun(t:Int)=>Sum.inr t)):Option ((Int×Int×Int)⊕(Int))))
  (fun j=>(((base+eF root b (dY b (a.drop (a.length-j)) (s/2^(a.length-j))):Nat):Int),(((dY b (a.drop (a.length-j)) (s/2^(a.length-j))).length:Nat):Int),((a.length:Nat):Int)-1-(j:Int)))
  a.length ((base+eF root b (dY b a s):Nat):Int)
  (by
   intro j L
   have c:a.length-(j+1)<a.length:=by omega
   have e:a.length-j=a.length-(j+1)+1:=by omega
   generalize M:a.length-(j+1)=k at c e
   have i:a.drop k=a[k]::a.drop (k+1):=e7 c
   have d:=f a[k] (dc c)
   have z:s/2^(k+1)=s/2^k/2:=by rw[i7,Nat.div_div_eq_div_mul]
   have v:((a.length:Nat):Int)-1-(j:Int)=(k:Int):=by omega
   have E:shr .i64 (s:Int) (k:Int)=some ((s/2^k:Nat):Int):=by
    unfold shr
    rw[aG (by omega),e0,Nat.min_eq_left (show k<=IntKind.i64.bits by show k<=64;omega)]
    grind
   have B:rem ((s/2^k:Nat):Int) 2=some ((s/2^k%2:Nat):Int):=by
    grind [rem]
   have u:idx (bm a) (k:Int)=some ((a[k]:Nat):Int):=by rw[eN,qm,bh c];rfl
   have C:=D (k+1)
   have g:=len (k+1)
   have F:wrap .i64 ((k:Int)-1)=((a.length:Nat):Int)-1-((j+1:Nat):Int):=by grind [wrap64]
   simp only[rO]
   rw[e,v,an (show(k:Int)>=0 by omega),E,i,amR q,<-z,F]
   simp only[aw,ac,B,u]
   generalize dY b (a.drop (k+1)) (s/2^(k+1))=r at C g
   have w:a[k]*r.length<=64:=fu (fv d g) (by omega)
   have I:wrap .i64 (((r.length:Nat):Int)*((a[k]:Nat):Int))=((a[k]*r.length:Nat):Int):=by
    grind [Int.natCast_mul,Nat.mul_comm,wrap64]
   have H:wrap .i64 (((r.length:Nat):Int)+1)=((r.length+1:Nat):Int):=by grind [wrap64]
   rw[I,H]
   by_cases A:s/2^k%2=b
   ·rw[show(((s/2^k%2:Nat):Int)==(b:Int))=true from cb.mpr (by omega),aA A,amS,cB]
    simp only[aw]
    generalize a[k]*r.length=m at w
    have G:wrap .i64 (((base+eF root b r:Nat):Int)+((m:Nat):Int))=((base+eF root b r+m:Nat):Int):=by grind [wrap64]
    rw[G]
    by_cases P:b=1
    ·rw[show((b:Int)==1)=true from cb.mpr (by omega)]
     cases root with
     |true=>
      grind
     |false=>
      grind [wrap,eF,wrap64,Bool.not_false]
    grind
   grind)
  (by
   grind [rO,decide_eq_false,List.length]) LL (by grind [LL])
 grind [dY,List.drop,List.length,List.drop_length,ca,eF,fT]
theorem aaw (l:List Nat) (root:Bool) (s:Nat):eF root 0 (dY 0 l s)+eF root 1 (dY 1 l s)=ft l root s:=by
 grind [eF,ft,dY]
theorem aax {a:List Nat} (b: ∀x∈a,x<=8) (c:a.length<=7) (root:Bool) (s:Nat):ft a root s<=1152:=by
 rw[<-aaw]
 grind [aav,dY,LX]
theorem amU {a:List Nat} (b: ∀x∈a,x<=8) (c:a.length<=7) {s:Nat} (e:s<2^a.length) (root:Bool):
  FN (bm a) root (s:Int)=some ((ft a root s:Nat):Int):=by
 unfold FN
 have d:=aax b c root s
 rw[<-aaw] at d⊢
 have g:wrap .i64 ((((bm a).length:Nat):Int)-1)=((a.length:Nat):Int)-1:=by grind [gy,wrap64]
 have f:=bu (body:=fun(t:Int×Int)=>((xe (bm a) root (s:Int) t.1 t.2).map (Sum.elim (fun(t:Int×Int)=>Sum.inl (t.1,t.2)) (fun(t:Int)=>Sum.inr t)):Option ((Int×Int)⊕(Int))))
  (fun k=>(((aH (fun i=>eF root i (dY i a s)) k:Nat):Int),(k:Int))) 2 ((eF root 0 (dY 0 a s)+eF root 1 (dY 1 a s):Nat):Int)
  (by
   intro k m
   have l:aH (fun i=>eF root i (dY i a s)) k<=1152:=by
    have:k=0\/k=1:=by omega
    grind [aH]
   have j:wrap .i64 ((k:Int)+1)=((k+1:Nat):Int):=by grind [wrap64]
   simp only[xe,xd,QM,QL,QK,FK,QJ,FM]
   rw[an (show(k:Int)<2 by omega),g,j]
   simp only[aw,ac,Sum.elim_inl]
   rw[amT b c e (by omega) (by omega) root]
   rfl)
  (by
   grind [xe,xd,decide_eq_false,aH]) LL (by grind [LL])
 exact f
theorem amV {k:Nat} (a:k<=7):shl .i64 1 (k:Int)=some ((2^k:Nat):Int):=by
 grind [gN,Yg]
theorem amW {a:List Nat} (d: ∀x∈a,x<=8) (b:a.length<=7) (root:Bool):xh (bm a) root=some ((jM a root:Nat):Int):=by
 have e:xh (bm a) root=xg (bm a) root:=by unfold xh;rfl
 rw[e]
 unfold xg FG QW QV FH QU QT FQ
 have l:1<=2^a.length:=o1
 have m:2^a.length<=128:=e5 (j:=7) (by omega) b
 have c:=amV b
 have i:=bu (body:=fun(s:Int×Int)=>((xf (bm a) root s.1 s.2).map (Sum.elim (fun(t:Int×Int)=>Sum.inl (t.1,t.2)) (fun(t:Int)=>Sum.inr t)):Option ((Int×Int)⊕(Int))))
  (fun k=>((if k=0 then(-1:Int) else((iY (ft a root) (k-1):Nat):Int)),(k:Int))) (2^a.length) ((jM a root:Nat):Int)
  (by
   intro k f
   have g:wrap .i64 ((k:Int)+1)=((k+1:Nat):Int):=by grind [wrap64]
   simp only[xf,xc,QS,QR,QQ,FI,QP,QO,FJ,QN,FP]
   rw[gy,c,g]
   simp only[ac]
   rw[an (show(k:Int)<((2^a.length:Nat):Int) by omega)]
   simp only[aw,ac,Sum.elim_inl]
   rw[amU d b f root]
   simp only[bn,ac,FO]
   by_cases z:k=0
   ·subst z
    rw[aA rfl,aG (by omega)]
    rfl
   ·obtain⟨j,rfl⟩: ∃j,k=j+1:=⟨k-1,by omega⟩
    grind [Nat.add_sub_cancel,decide_eq_false,iY,ft,decide_eq_true,Nat.min_eq_right,Nat.min_eq_left])
  (by
   simp only[xf,xc]
   rw[gy,c]
   simp only[ac]
   rw[cy (show¬((2^a.length:Nat):Int)<((2^a.length:Nat):Int) by omega),aG (by omega)]
   rfl) LL (by grind [LL])
 simp_all
theorem aay {h:List Int} (T:Tree h) {w:Nat} (b:1<=w) (c:w<=h.length):(dX h w).length<=7:=by
 have a:=T.le
 unfold dX
 have:(((range h.length).map (· +1)).filter fun k=>hd h k==w).length<((range h.length).map (· +1)).length:=by
  rw[List.length_filter_lt_length_iff_exists]
  refine⟨w,iB.mpr ⟨w-1,fh.mpr (by omega),by omega⟩,?_⟩
  grind [A1]
 grind
theorem LY {h:List Int} (T:Tree h) {w:Nat}: ∀x∈eE h w,x<=8:=fun x a=>by
 grind [eE,uw,size_le,Tree.le]
theorem Bk {h:List Int} (T:Tree h) {w:Nat} (a:1<=w) (b:w<=h.length):(eE h w).length<=7:=by
 unfold eE
 rw[(uw _).length_eq,eZ]
 exact aay T a b
theorem Bl {h:List Int} (T:Tree h) {w:Nat} (b:1<=w) (c:w<=h.length):gT h w<=1152:=by
 unfold gT jM
 obtain⟨k,a,e⟩:=Bj (f:=ft (eE h w) (hd h w==0)) (2^(eE h w).length-1)
 grind [aax,LY,Bk]
noncomputable def jN (h:List Int):Int:=if aB h then((nY h:Nat):Int) else-1
theorem amX (h:List Int):xj h=some (jN h):=by
 have e:xj h=xi h:=by unfold xj;rfl
 rw[e]
 unfold xi FR jN
 rw[cL h]
 cases t:aB h with
 |false=>rfl
 |true=>
  have T:=(bK h).mp t
  have q:=T.le
  have o:=T.pos
  have f: ∀k,k<=h.length->aH (fun i=>gT h (i+1)) k<=1152*k:=by
   intro k
   induction k<;>grind [aH,Bl]
  have d:=bu (body:=fun(s:Int×Int)=>((rP h s.1 s.2).map (Sum.elim (fun(t:Int×Int)=>Sum.inl (t.1,t.2)) (fun(t:Int)=>Sum.inr t)):Option ((Int×Int)⊕(Int))))
   (fun k=>(((h.length-1+aH (fun i=>gT h (i+1)) k:Nat):Int),((k+1:Nat):Int))) h.length ((nY h:Nat):Int)
   (by
    intro k m
    have g:=T.get (w:=k+1) (by omega) (by omega)
    rw[e9] at g
    have b:=f k (by omega)
    have c:=Bl T (w:=k+1) (by omega) (by omega)
    have j:wrap .i64 (((k+1:Nat):Int)+1)=((k+1+1:Nat):Int):=by grind [wrap64]
    have l:wrap .i64 (((k+1:Nat):Int)-1)=(k:Int):=by grind [wrap64]
    simp only[rP]
    rw[an (show((k+1:Nat):Int)<=((h.length:Nat):Int) by omega),l,eN,g,j,amQ T (by omega) (by omega)]
    simp only[aw,ac]
    have r:(((hd h (k+1):Nat):Int)==0)=(hd h (k+1)==0):=by
     grind
    rw[r,amW (LY T) (Bk T (by omega) (by omega))]
    simp only[ac,bn,Sum.elim_inl]
    grind [aH,jM,eE,hd,gT,wrap64])
   (by
    simp only[rP]
    rw[cy (show¬((h.length+1:Nat):Int)<=((h.length:Nat):Int) by omega)]
    rfl) LL (by grind [LL])
  have w0:wrap .i64 (((h.length:Nat):Int)-1)=((h.length-1:Nat):Int):=by grind [wrap64]
  simp only[ac,bo,au,Sum.elim_inl,cN]
  rw[w0]
  unfold Q1 QZ FT QY QX
  have a:=d
  rw[show aH (fun i=>gT h (i+1)) 0=0 from rfl,gV,show((0+1:Nat):Int)=1 from rfl] at a
  simp only[ac]
  rw[a]
  rfl
def amY:ByteArray:=ByteArray.mk #[121,101,115]
def noW:ByteArray:=ByteArray.mk #[110,111]
def aaz:ByteArray:=ByteArray.mk #[119,104,97,116]
def okW:ByteArray:=ByteArray.mk #[111,107]
def amZ:ByteArray:=ByteArray.mk #[110,111,116]
def ux (b:Bool):ByteArray:=cond b amY noW
def uy (o:Option (ByteArray×Bool)):ByteArray:=match o with
 |some (t,true)=>t
 |_=>ql
noncomputable def Bm (h:List Int) (s:ByteArray):Option ByteArray:=
 cond (aE s (ByteArray.mk #[104,101,97,100,115])) (some (gx h)) (cond (aE s (ByteArray.mk #[100,101,112,116,104,115])) (some (gx (ht h))) (cond (aE s (ByteArray.mk #[111,114,100,101,114])) (some (gx (if aB h=true then dt h else[]))) (cond (aE s (ByteArray.mk #[114,111,111,116])) (some (bT (fo h))) (cond (aE s (ByteArray.mk #[99,114,111,115,115,105,110,103,115])) (some (bT (jE h))) (cond (aE s (ByteArray.mk #[103,97,112,115])) (some (bT (jL h))) (cond (aE s (ByteArray.mk #[101,120,99,104,97,110,103,101,115])) (some (bT (if aB h=true then(bZ (dt h):Int) else-1))) (cond (aE s (ByteArray.mk #[108,101,110,103,116,104])) (some (bT (jI h))) (cond (aE s (ByteArray.mk #[108,101,97,115,116])) (some (bT (jN h))) (cond (aE s (ByteArray.mk #[97,112,97,114,116])) (some (bT (jJ h))) (cond (aE s (ByteArray.mk #[112,114,111,106,101,99,116,105,118,101])) (some (ux (dj h))) (cond (aE s (ByteArray.mk #[110,101,115,116,101,100])) (some (ux (nV h))) (cond (aE s (ByteArray.mk #[109,111,118,101,115])) (some (uy (jp h))) (cond (aE s (ByteArray.mk #[101,97,103,101,114])) (some (uy (jq h))) (cond (aE s (ByteArray.mk #[112,108,97,99,101])) (some ((if hZ h<0 then ql else bT (hZ h)))) (none)))))))))))))))
noncomputable def Bn (s:ByteArray):Option Int:=match lC s 32 with
 |some [a,b]=>cond (aE a (ByteArray.mk #[121,105,101,108,100])) (match gJ b with
  |some v=>if v<0 then none else some v
  |none=>none) none
 |_=>none
noncomputable def uz (h:List Int) (s:ByteArray):ByteArray:=match Bn s with
 |some v=>gx (hS h v)
 |none=>aaz
noncomputable def my (d:gS) (s:ByteArray):ByteArray×gS:=
 if dV d=true then
  if(cD s).1=true then(cond (fq d ((cD s).2.1,(cD s).2.2.1,(cD s).2.2.2,())).1 okW amZ,(fq d ((cD s).2.1,(cD s).2.2.1,(cD s).2.2.2,())).2)
  else((Bm d.1 s).getD (uz d.1 s),d)
 else(empty,[],[])
structure Told (h:List Int):Prop where
 Bo: ∀n,n∈h->n<1000000000
 Bp: ∀n,n∈ht h->n<1000000000
 order: ∀n,n∈(if aB h=true then dt h else[])->n<1000000000
 root:fo h<1000000000
 Bq:jE h<1000000000
 Br:jL h<1000000000
 Bs:(if aB h=true then(bZ (dt h):Int) else-1)<1000000000
 len:jI h<1000000000
 least:jN h<1000000000
 apart:jJ h<1000000000
 place:hZ h<1000000000
 uA: ∀v n,n∈hS h v->n<1000000000
theorem am0 {h:List Int} (t:aB h=true): ∃m,jp h=some m:=by
 have a:=du t
 cases f:dj h with
 |true=>
  obtain⟨T,F⟩:=nX.mp f
  grind [LJ]
 |false=>exact⟨_,LK (by omega) f⟩
theorem am1 {h:List Int} (t:aB h=true): ∃m,jq h=some m:=by
 have a:=du t
 cases f:dj h with
 |true=>
  obtain⟨T,F⟩:=nX.mp f
  grind [LM]
 |false=>exact⟨_,LN (by omega) f⟩
theorem am2: ∀(l acc:List Nat) (x:List Nat),x∈bD 32 acc l->x.length<=acc.length+l.length:=by
 intro l
 induction l<;>grind [bD,List.mem_singleton,List.length_nil,List.length_cons,List.length_append]
theorem am3 {h:List Int} (i:Told h) (n:List Int) (p:List (List Int)) (s:ByteArray) (k:s.size<=1048576):xM s h n p=some (uz h s,n,p):=by
 unfold xM uz Bn
 obtain⟨out,e,j⟩:=KS s 32 (by omega)
 have f:lC s 32=some out:=e
 have d: ∀t,t∈out->t.size<=100000000:=fun t l=>by
  have m:ao t∈bD 32 [] (ao s):=by grind
  have:=am2 _ _ _ m
  grind [ec,List.length_nil]
 rw[f,ac]
 match out,d with
 |[],_=>rfl
 |[a],_=>rfl
 |a::b::c::r,_=>
  rw[show((((List.length (a::b::c::r):Nat):Int)) !=2)=true by grind]
  rfl
 |[a,b],d=>
  rw[show((((List.length [a,b]:Nat):Int)) !=2)=false from rfl,show ap 0 (List.length [a,b])=some 0 from rfl,show ap 1 (List.length [a,b])=some 1 from rfl]
  simp only[au,ac,vf,mF]
  cases aE a (ByteArray.mk #[121,105,101,108,100]) with
  |false=>rfl
  |true=>
   obtain⟨v,g⟩:=AR b (d b (by simp))
   simp only[bo,au,aw,g,ac]
   by_cases c:v<0
   ·rw[an c,aA c]
    rfl
   grind [decide_eq_false,aj5,ZL,Yj,Told.uA]
theorem am4 (d:gS) (s:ByteArray) (z:s.size<=1048576) (y:d.2.length<=1048576) (f:dV d=true->Told d.1):xO d.1 d.2 s=some (my d s):=by
 have e:xO d.1 d.2 s=xN d.1 d.2 s:=by unfold xO;rfl
 rw[e]
 unfold xN GJ my
 rw[Zf _ _ (by omega),ac]
 cases o:dV d with
 |false=>rfl
 |true=>
  have f:=f o
  obtain⟨t,A,w⟩:=kO o
  have x:=du t
  have:=uh d.2 w
  rw[aA rfl,Zg _ _ (by omega),akA s (by omega)]
  simp only[bo,au,ac]
  cases r:(cD s).1 with
  |true=>
   have g:=ak5 d.1 d.2 ((cD s).2.1,(cD s).2.2.1,(cD s).2.2.2,()) (by omega)
   simp only at g
   simp only[aw,g,ac,cN]
   cases (fq d ((cD s).2.1,(cD s).2.2.1,(cD s).2.2.2,())).1<;>rfl
  |false=>
   simp only[au,ac,Sum.elim_inl,qY,iZ]
   obtain⟨q,j⟩:=am0 t
   obtain⟨u,k⟩:=am1 t
   have row: ∀l:List Int,l.length<=8->(∀n,n∈l->n<1000000000)->lE l=some (gx l):=fun l a b=>ZL l (by omega) b
   have i:(if aB d.1=true then dt d.1 else[]).length<=8:=by grind [kL,bK]
   unfold SI SH GK SG SF GL SE SD GN SC SB GP SA Sz GR Sy Sx GU Sw GW GM GO GQ GS GV Bm
   simp only[ac,row d.1 (by omega) f.Bo,alU d.1 (by omega),row _ (by grind [ZN]) f.Bp,KX d.1 (by omega),row _ i f.order,KW d.1 (by omega),(hs f.root).1,ajG d.1 (by omega),(hs f.Bq).1,al4,(hs f.Br).1,akK d.1 (by omega),(hs f.Bs).1,akU,(hs f.len).1,amX,(hs f.least).1,ak1,(hs f.apart).1,p8 d.1 (by omega),al6 d.1 (by omega),j,k,amJ d.1 (by omega),(hs f.place).1]
   cases aE s (ByteArray.mk #[104,101,97,100,115]) with
   |true=>rfl
   |false=>
   simp only[au]
   cases aE s (ByteArray.mk #[100,101,112,116,104,115]) with
   |true=>rfl
   |false=>
   simp only[au]
   cases aE s (ByteArray.mk #[111,114,100,101,114]) with
   |true=>rfl
   |false=>
   simp only[au]
   cases aE s (ByteArray.mk #[114,111,111,116]) with
   |true=>rfl
   |false=>
   simp only[au]
   cases aE s (ByteArray.mk #[99,114,111,115,115,105,110,103,115]) with
   |true=>rfl
   |false=>
   simp only[au]
   cases aE s (ByteArray.mk #[103,97,112,115]) with
   |true=>rfl
   |false=>
   simp only[au]
   cases aE s (ByteArray.mk #[101,120,99,104,97,110,103,101,115]) with
   |true=>rfl
   |false=>
   simp only[au]
   cases aE s (ByteArray.mk #[108,101,110,103,116,104]) with
   |true=>rfl
   |false=>
   simp only[au]
   cases aE s (ByteArray.mk #[108,101,97,115,116]) with
   |true=>rfl
   |false=>
   simp only[au]
   cases aE s (ByteArray.mk #[97,112,97,114,116]) with
   |true=>rfl
   |false=>
   simp only[au]
   cases aE s (ByteArray.mk #[112,114,111,106,101,99,116,105,118,101]) with
   |true=>simp only[aw,xr,rT];cases dj d.1<;>rfl
   |false=>
   simp only[au]
   cases aE s (ByteArray.mk #[110,101,115,116,101,100]) with
   |true=>simp only[aw,xr,rT];cases nV d.1<;>rfl
   |false=>
   simp only[au]
   cases aE s (ByteArray.mk #[109,111,118,101,115]) with
   |true=>obtain⟨m,v⟩:=q;cases v<;>rfl
   |false=>
   simp only[au]
   cases aE s (ByteArray.mk #[101,97,103,101,114]) with
   |true=>obtain⟨m,v⟩:=u;cases v<;>rfl
   |false=>
   simp only[au]
   cases aE s (ByteArray.mk #[112,108,97,99,101]) with
   |true=>simp only[aw];by_cases c:hZ d.1<0;(rw[an c,aA c];rfl);grind
   |false=>
   grind [am3]
theorem aaA {h:List Int} (t:aB h=true):Told h:=by
 have T:=(bK h).mp t
 have d:=du t
 refine⟨fun n a=> ?_,fun n a=> ?_,fun n a=> ?_,?_,?_,?_,?_,?_,?_,?_,?_,fun v n a=> ?_⟩
 ·obtain⟨k,b,e⟩:=oh.mp a
  have g:=T.get (w:=k+1) (by omega) (by omega)
  rw[e9,bh b,e] at g
  have:=T.cR (w:=k+1) (by omega) (by omega)
  grind
 ·unfold ht at a
  rw[aA t] at a
  obtain⟨k,b,e⟩:=oh.mp a
  rw[mo] at b
  rw[LA h b] at e
  have:=T.hh (w:=k+1) (by omega) (by omega)
  omega
 ·grind [AH,KV,kL]
 ·unfold fo
  rw[aA t]
  have:=T.gb
  omega
 ·grind [jE,ajC]
 ·grind [jL,ZS,List.length]
 ·rw[aA t]
  have l:=kL T
  have:=KZ (o:=dt h) (by omega) (dt h).length (aS _)
  grind
 ·grind [jI,K1]
 ·unfold jN nY
  rw[aA t]
  have:=ue (f:=fun i=>gT h (i+1)) (g:=fun _=>1152) (n:=h.length) (fun i hi=>Bl T (by omega) (by omega))
  rw[mh] at this
  omega
 ·grind [jJ,ak2]
 ·unfold hZ
  split
  ·rename_i c
   obtain⟨T,F⟩:=nX.mp c.1
   grind [LS,amI,List.length]
  ·omega
 grind [hS,cg]
structure Whole (h:List Int):Prop where
 Bo: ∀n,n∈h->0<=n
 Bp: ∀n,n∈ht h->0<=n
 order: ∀n,n∈(if aB h=true then dt h else[])->0<=n
 root:0<=fo h
 Bq:0<=jE h
 Br:0<=jL h
 Bs:0<=(if aB h=true then(bZ (dt h):Int) else-1)
 len:0<=jI h
 least:0<=jN h
 apart:0<=jJ h
 uA: ∀v n,n∈hS h v->0<=n
theorem am5 {h:List Int} (t:aB h=true):Whole h:=by
 have T:=(bK h).mp t
 have c:=du t
 refine⟨fun n a=> ?_,fun n a=> ?_,fun n a=> ?_,?_,?_,?_,?_,?_,?_,?_,fun v n a=> ?_⟩
 ·obtain⟨k,b,e⟩:=oh.mp a
  have g:=T.get (w:=k+1) (by omega) (by omega)
  simp_all
 ·unfold ht at a
  rw[aA t] at a
  obtain⟨k,b,e⟩:=oh.mp a
  grind [mo,LA]
 ·grind [AH,KV]
 ·grind [fo]
 ·grind [jE]
 all_goals grind [jL,al5,jI,jN,nY,jJ,hS,cg]
def es (l:List UInt8):ByteArray:=⟨l.toArray⟩
theorem LZ (a b:List UInt8):es (a++b)=es a++es b:=by
 apply ma
 rw[jH]
 simp[es,ao,toList_data]
theorem uB (l:List UInt8):(es l).size=l.length:=by simp[es,ByteArray.size]
theorem am6: ∀n:Fin 10,bytesOf [wrap .u8 (wrap .i64 (48+(n.val:Int)))]=es [UInt8.ofNat (48+n.val)]:=by decide
theorem aaB {n:Nat} (h:n<10):bytesOf [wrap .u8 (wrap .i64 (48+(n:Int)))]=es [UInt8.ofNat (48+n)]:=am6 ⟨n,h⟩
theorem uC {n:Nat} (h:n<10):decDigits n=[UInt8.ofNat (48+n)]:=by grind [decDigits]
theorem L0 {n:Nat} (h: ¬n<10):decDigits n=decDigits (n/10)++ [UInt8.ofNat (48+n%10)]:=by grind [decDigits]
theorem L1: ∀(d f n:Nat),n<10^(d+1)->d+1<=f->d<=15->kr f (n:Int)=some (es (decDigits n))/\(decDigits n).length<=d+1
 |d,0,n,_,h,_=>by omega
 |d,f+1,n,k,j,hd=>by
  rw[kr]
  simp only[D0,rt]
  by_cases c:n<10
  ·grind [decide_eq_true,uC,imax,aaB]
  ·rw[cy (show¬(n:Int)<10 by omega),L0 c]
   cases d with
   |zero=>omega
   |succ d=>
    have l:(10:Nat)^(d+1+1)=10^(d+1)*10:=i7 ..
    have i:(10:Nat)^(d+1)<=10^15:=e5 (by omega) (by omega)
    have g:(10:Nat)^15=1000000000000000:=by decide
    have m:(n:Int).tdiv 10=((n/10:Nat):Int):=by simp_all
    have q:(n:Int).tmod 10=((n%10:Nat):Int):=by grind
    have b:quo .i64 (n:Int) 10=some ((n/10:Nat):Int):=by
     grind [quo,wrap64]
    have e:rem (n:Int) 10=some ((n%10:Nat):Int):=by
     grind [rem]
    obtain⟨a,o⟩:=L1 d f (n/10) (by omega) (by omega) (by omega)
    simp only[au,b,e,a,ac,aaB (show n%10<10 by omega)]
    grind [kJ,uB,List.length_cons,List.length_nil,LZ,List.length_append]
theorem L2 {n:Nat} (h:n<1000000000):bT (n:Int)=es (decDigits n):=by
 have e:cV (n:Int)=kr RR (n:Int):=by unfold cV;rfl
 unfold bT
 rw[e,(L1 8 RR n (by simpa using h) (by grind [RR]) (by omega)).1]
 rfl
theorem uD {n:Int} (a:0<=n) (h:n<1000000000):strconv_Itoa n=some (bT n):=by
 obtain⟨m,rfl⟩:=apB a
 unfold strconv_Itoa oW
 rw[aA (by omega),itoa,aG (by omega),L2 (by omega)]
 rfl
theorem aaC: ∀(l:List Int) (n:Int),es (join ((bT n).data.toList::l.map (fun x=>(bT x).data.toList)) [44])=dH (n::l)
 |[],n=>by
  rw[iA,Lib.join_one]
  rfl
 |m::l,n=>by
  have a:=aaC l m
  rw[Lib.join_cons] at a
  rw[Lib.join_cons,dH,<-a,dJ]
  show es _=es (bT n).data.toList++es [44]++es _
  rw[<-LZ,<-LZ]
  simp[Lib.joinTail]
abbrev L3 (l:List Int) (n:Int):Int×List ByteArray->Option ((Int×List ByteArray)⊕List ByteArray):=
 fun(s:Int×(List ByteArray))=>((sf l n s.1 s.2).map (Sum.elim (fun(t:Int×(List ByteArray))=>Sum.inl (t.1,t.2)) (fun(t:(List ByteArray))=>Sum.inr t)):Option ((Int×(List ByteArray))⊕(((List ByteArray)))))
theorem Bt (l:List Int) (g:l.length<=100000) (h: ∀n∈l,0<=n/\n<1000000000):nu l=some (dH l):=by
 have e:nu l=x9 l:=by unfold nu;rfl
 rw[e]
 unfold x9 Hm Th Tg Hn Tf Te Ho
 have j:=bu (body:=L3 l ((l.length:Nat):Int)) (fun k=>((k:Int),(l.take k).map bT++replicate (l.length-k) empty)) l.length (l.map bT)
  (by
   intro k a
   have w:wrap .i64 ((k:Int)+1)=((k+1:Nat):Int):=by grind [wrap64]
   have b:=h l[k] (dc a)
   have lt:((l.take k).map bT).length=k:=by grind
   have le:((l.take k).map bT++replicate (l.length-k) empty).length=l.length:=by grind
   simp only[L3,sf]
   rw[an (show(k:Int)<((l.length:Nat):Int) by omega),bR a,w]
   simp only[aw,ac,uD b.1 b.2]
   rw[le,bS a]
   simp only[ac,bn,Sum.elim_inl]
   have f:replicate (l.length-k) empty=empty::replicate (l.length-(k+1)) empty:=by
    rw[<-h9]
    grind
   rw[f,oP _ _ (by omega),lt,CG,g3,i6 a,f2,mZ]
   rfl)
  (by
   grind [sf,decide_eq_false,List.length,List.take_length]) LL (by grind [LL])
 have d:ai (L3 l ((l.length:Nat):Int)) LL (0,replicate l.length empty)=some (l.map bT):=by
  simp_all
 rw[hg (by omega)]
 simp only[ac]
 rw[d,bn,ac]
 unfold strings_Join vK
 have sz:=Lx l (fun n b=>(h n b).2)
 have c:es (join ((l.map bT).map (·.data.toList)) (ByteArray.mk #[44]).data.toList)=dH l:=by
  cases l with
  |nil=>rfl
  |cons n l=>
   have:=aaC l n
   simp only[dJ,g4]
   exact this
 have i:(join ((l.map bT).map (·.data.toList)) (ByteArray.mk #[44]).data.toList).length=(dH l).size:=by rw[<-c,uB]
 rw[aA ⟨by grind,by omega⟩,ac]
 exact aR some c
theorem am7 {l:List Int} (h: ∀n∈l,n<1000000000) (a:l≠ []):dH l≠empty:=by
 match l,a with
 |[n],_=>
  intro e
  have:=(hs (h n (by simp))).2.1
  simp_all [dH,absurd]
 |n::m::r,_=>
  intro e
  have:=(hs (h n (by simp))).2.1
  simp_all [dH,aR,ByteArray.size,e6]
theorem L4 (t:ByteArray):lP t=some (if t=empty then ql else t):=by
 have e:lP t=s6 t:=by unfold lP;rfl
 rw[e]
 unfold s6
 by_cases c:t=empty
 ·rw[aA c,qe.mpr c];rfl
 grind [mb]
theorem am8 {l:List Int} (h: ∀n∈l,n<1000000000):(if dH l=empty then ql else dH l)=gx l:=by
 unfold gx
 by_cases c:l=[]
 ·subst c
  rfl
 grind [am7]
theorem am9 {l m:List Nat} (h:l≠ []):(l++m).head? =l.head? :=by
 cases l<;>simp_all
theorem L5 (l:List UInt8):ao (es l)=l.map toNat:=by
 simp[ao,es,toList_data]
theorem Bu (l:List Nat) (x:Nat):cC (l++ [x])=10*cC l+(x-48):=by
 grind [cC]
theorem Bv {k:Nat} (h:k<10):(UInt8.ofNat (48+k)).toNat=48+k:=by
 rw[UInt8.toNat_ofNat']
 omega
theorem ana (n:Nat):(∀x∈(decDigits n).map toNat,48<=x/\x<=57)/\cC ((decDigits n).map toNat)=n/\(decDigits n)≠ []/\(1<=n->((decDigits n).map toNat).head? ≠some 48):=by
 induction n using Nat.strongRecOn with
 |ind n b=>
  by_cases c:n<10
  ·rw[uC c]
   simp only[dJ,iA,Bv c,uI,List.head?_cons]
   grind [cC,Option.some.inj]
  ·obtain⟨d,a,e,f⟩:=b (n/10) (by omega)
   rw[L0 c,f2,dJ,iA,Bv (show n%10<10 by omega),Bu,a]
   refine⟨fun x g=> ?_,by omega,by simp,fun _=> ?_⟩
   all_goals grind [decDigits,toNat,am9]
theorem anb: ∀(n:Nat) (l:List Nat),l.length=n->l≠ []->(∀x∈l,48<=x/\x<=57)->(l.length=1\/l.head? ≠some 48)->l=(decDigits (cC l)).map toNat:=by
 intro n
 induction n with
 |zero=>simp_all
 |succ n g=>
  intro l k ne hd c
  have a:=o2 ne
  generalize o:l.dropLast=m at a
  generalize q:l.getLast ne=x at a
  have d:m.length=n:=by grind
  rw[<-a] at hd c⊢
  have s:=hd x (by simp)
  by_cases e:m=[]
  ·grind [cC,uC,Bv]
  ·have i:m.head? ≠some 48:=by
    grind
   have b:=g m d e (fun j f=>hd j (by simp[f])) (.inr i)
   have r:1<=cC m:=by
    rcases Nat.eq_zero_or_pos (cC m) with z|z
    ·rw[z,uC (by omega)] at b
     simp_all
    ·exact z
   rw[Bu,L0 (by omega),show(10*cC m+(x-48))/10=cC m by omega,show(10*cC m+(x-48))%10=x-48 by omega,f2,<-b]
   grind [Bv]
def gk (b:ByteArray):Bool:=decide (1<=b.size)&&decide (b.size<=6)&&(decide (b.size=1)|| !((ao b).head? ==some 48))&&(ao b).all fun x=>decide (48<=x)&&decide (x<=57)
theorem qn {b:ByteArray}:gk b=true↔1<=b.size/\b.size<=6/\(b.size=1\/(ao b).head? ≠some 48)/\ ∀x∈ao b,48<=x/\x<=57:=by
 grind [gk,Bool.not_eq_true',beq_eq_false_iff_ne,List.all_eq_true]
theorem aaD: ∀(l:List Nat),(∀x∈l,48<=x/\x<=57)->cC l<10^l.length:=by
 intro l
 have k: ∀(n:Nat) (l:List Nat),l.length=n->(∀x∈l,48<=x/\x<=57)->cC l<10^n:=by
  intro n
  induction n with
  |zero=>intro l b _;rw[apC.mp b];decide
  |succ n f=>
   intro l b hd
   have ne:l≠ []:=fun e=>by simp_all
   have a:=o2 ne
   generalize i:l.dropLast=m at a
   generalize j:l.getLast ne=x at a
   have c:m.length=n:=by grind
   rw[<-a] at hd⊢
   have:=hd x (by simp)
   have:=f m c (fun g d=>hd g (by simp[d]))
   grind [Bu,Nat.pow_succ]
 simp_all
theorem anc {b:ByteArray} (h:gk b=true):b=es (decDigits (cC (ao b)))/\cC (ao b)<1000000:=by
 obtain⟨c,d,f,a⟩:=qn.mp h
 have g:=ec b
 refine⟨ma ?_,?_⟩
 ·rw[L5]
  exact anb _ (ao b) rfl (fun e=>by grind) a (by simp_all)
 ·have:=aaD _ a
  have:=e5 (n:=10) (by omega) (show(ao b).length<=6 by omega)
  omega
theorem ane {n:Nat} (h:n<1000000):gk (es (decDigits n))=true:=by
 obtain⟨a,b,c,d⟩:=ana n
 have sz:(es (decDigits n)).size<=6:=by
  rw[uB]
  exact(L1 5 15 n (by simpa using h) (by omega) (by omega)).2
 refine qn.mpr ⟨by grind [uB],sz,?_,by rw[L5];exact a⟩
 grind [L5,uB,uC]
theorem aaE: ∀(l:List UInt8) (acc:Nat),(∀x∈l.map toNat,48<=x/\x<=57)->Lib.decFrom acc l=some ((l.map toNat).foldl (fun a x=>10*a+(x-48)) acc)
 |[],acc,_=>rfl
 |b::r,acc,h=>by
  have c:=h b.toNat (by simp)
  rw[Lib.decFrom,Lib.digitVal,aA c]
  simp only
  rw[aaE r _ (fun x d=>h x (by simp_all)),dJ,List.foldl_cons,Nat.mul_comm acc 10]
theorem anf {b:ByteArray} (h:gk b=true):eb b=((cC (ao b):Int),false):=by
 obtain⟨j,k,_,a⟩:=qn.mp h
 have g:ao b=b.data.toList.map toNat:=by simp[ao,toList_data]
 have m:b.data.toList.length=b.size:=by simp_all
 rw[g] at a⊢
 unfold eb
 rw[Lib.atoiAll_short _ (by omega)]
 match i:b.data.toList with
 |[]=>
  grind
 |c::r=>
  rw[i] at a
  have l:=a c.toNat (by simp)
  have f:(c==45)=false:=by
   rw[dg]
   intro e
   simp_all
  have d:(c==43)=false:=by
   rw[dg]
   intro e
   simp_all
  rw[Lib.atoi,f,d]
  simp only[qY,iZ]
  rw[Lib.decNat,Ce]
  simp only[qY,iZ]
  rw[aaE _ _ a]
  rfl
theorem ang {x:Int} (a:0<=x) (b:x<=255):wrap .u8 x=x:=by
 grind [wrap,IntKind.bits,IntKind.signed]
theorem anh {t:ByteArray} (h:t.size<=100000000) {k:Nat} (a:k<t.size) {n:Int} (f:0<=n) (g:n<=1000000000):
  (∃j,j=(ao t)[k]'(by rw[ec];exact a)/\((48<=j/\j<=57/\iS t (n,(k:Int))=some (.inl (10*n+((j-48:Nat):Int),((k+1:Nat):Int))))\/(¬(48<=j/\j<=57)/\iS t (n,(k:Int))=some (.inr (.inl (-1)))))):=by
 refine⟨_,rfl,?_⟩
 simp only[iS,nl]
 rw[an (show(k:Int)<((t.size:Nat):Int) by omega),qd a,wrap64 (x:=(k:Int)+1) (by omega) (by omega)]
 generalize b:(ao t)[k]'(by rw[ec];exact a)=j
 have e:j<256:=KQ j (by rw[<-b];exact dc _)
 simp only[aw,ac]
 by_cases c:48<=j
 ·rw[cy (show¬(j:Int)<48 by omega)]
  by_cases d:j<=57
  all_goals grind [decide_eq_false,wrap64,wrap,ang,decide_eq_true]
 grind
theorem aaF {t:ByteArray} (h:t.size<=6): ∀(r k N:Nat),k+r=t.size->r<N->(∀x∈(ao t).take k,48<=x/\x<=57)->
  ((∀x∈ao t,48<=x/\x<=57)/\ai (iS t) N ((cC ((ao t).take k):Int),(k:Int))=some (.inr (cC (ao t):Int)))\/
  ((¬ ∀x∈ao t,48<=x/\x<=57)/\ai (iS t) N ((cC ((ao t).take k):Int),(k:Int))=some (.inl (-1)))
 |r,k,0,_,a,_=>by omega
 |0,k,N+1,b,_,hd=>by
  grind [ByteArray.size,ao,List.take_of_length_le,ec,ai,nl,decide_eq_false]
 |r+1,k,N+1,b,a,hd=>by
  have c:k<t.size:=by omega
  have i:k<(ao t).length:=by grind [ec]
  have lt:=aaD _ hd
  have le:=e5 (n:=10) (by omega) (show((ao t).take k).length<=6 by grind)
  obtain⟨j,g,d⟩:=anh (by omega) c (n:=(cC ((ao t).take k):Int)) (by omega) (by omega)
  rw[ai]
  rcases d with⟨m,o,e⟩|⟨q,e⟩
  ·rw[e]
   simp only[ac]
   have s:(ao t).take (k+1)=(ao t).take k++ [j]:=by simp_all
   have f:(10*(cC ((ao t).take k):Int)+((j-48:Nat):Int))=((cC ((ao t).take (k+1)):Nat):Int):=by
    grind [Bu]
   rw[f]
   refine aaF h r (k+1) N (by omega) (by omega) (fun x l=> ?_)
   grind
  grind [List.getElem_mem]
theorem ani (t:ByteArray) (h:t.size<=100000000):gJ t=some (if gk t=true then(cC (ao t):Int) else-1):=by
 have e:gJ t=pf t:=by unfold gJ;rfl
 rw[e]
 unfold pf ww
 rw[gs]
 simp only[ac]
 by_cases c:1<=t.size/\t.size<=6
 ·rw[an (show(1:Int)<=((t.size:Nat):Int) by omega),an (show((t.size:Nat):Int)<=6 by omega)]
  have run:=aaF c.2 t.size 0 LL (by omega) (by grind [LL]) (fun x a=>by simp at a)
  have go:rr t=some (if(∀x∈ao t,48<=x/\x<=57) then(cC (ao t):Int) else-1):=by
   unfold rr DZ wx DY DX wy
   grind [ai,LL,cC,ao]
  simp only[g2,bo,au]
  by_cases b:t.size>1
  ·rw[an (show((t.size:Nat):Int)>1 by omega),show((0:Int))=((0:Nat):Int) from rfl,qd (by omega)]
   simp only[aw,ac]
   have hd:(ao t).head? =some ((ao t)[0]'(by rw[ec];omega)):=by rw[List.head?_eq_getElem?,bh]
   grind [ao,ec,hd,gk,qn,Option.some.inj]
  grind [decide_eq_false,ByteArray.size,gk,ao,qn]
 grind [gk,Decidable.decide,ByteArray.size,Bool.and_eq_false_iff,decide_eq_false]
abbrev nZ (n:Int):ByteArray×Int×List ByteArray->Option ((ByteArray×Int×List ByteArray)⊕(ByteArray×Int×List ByteArray)):=
 fun(s:ByteArray×Int×(List ByteArray))=>((pw s.1 (ByteArray.mk #[32]) 0 n s.2.1 s.2.2).map (Sum.elim (fun(t:ByteArray×Int×(List ByteArray))=>Sum.inl (t.1,t.2.1,t.2.2)) (fun(t:ByteArray×Int×(List ByteArray))=>Sum.inr t)):Option ((ByteArray×Int×(List ByteArray))⊕((ByteArray×Int×(List ByteArray)))))
theorem aaG (s t:ByteArray):Ha s t=(kq s t).bind some:=by
 unfold Ha xU S2
 rfl
theorem L6 {n i:Int} {t:ByteArray} {row:List ByteArray} (h: ¬i<n):nZ n (t,i,row)=some (.inr (t,i,row)):=by
 grind [pw,decide_eq_false]
theorem aaH {n i:Int} {t:ByteArray} {row:List ByteArray} (h:i<n) (c:32∉ao t):nZ n (t,i,row)=some (.inr (t,i,row)):=by
 simp_all [nZ,pw,an,aaG,alO]
theorem aaI {n:Int} {k:Nat} {t:ByteArray} {row:List ByteArray} {a b:List Nat} (h:(k:Int)<n) (e:k<row.length) (l:k<=1000) (m:t.size<=1000000000) (c:ao t=a++32::b) (d:32∉a):
  nZ n (t,(k:Int),row)=some (.inl (cJ b,((k+1:Nat):Int),row.set k (cJ a))):=by
 obtain⟨_,_,j⟩:=Lu c
 have f:wrap .i64 (((a.length:Nat):Int)+0)=((a.length:Nat):Int):=by grind [wrap64]
 have g:wrap .i64 (((a.length:Nat):Int)+(((ByteArray.mk #[32]).size:Nat):Int))=((a.length+1:Nat):Int):=by
  show wrap .i64 (((a.length:Nat):Int)+1)=_
  grind [wrap64]
 have i:wrap .i64 ((k:Int)+1)=((k+1:Nat):Int):=by grind [wrap64]
 simp only[nZ,pw]
 rw[an h,aaG,alP (c:=32) c d]
 simp only[aw,ac]
 rw[cy (by omega),f,g,i,au,t8 (by omega) (by omega),ac,bS e,ac,t8 (by omega) (by omega),ac,e0,e0,alQ c,alR c]
 rfl
def L7 (s:ByteArray) (n:Nat) (row:List ByteArray):Prop:=
 n<=row.length/\1<=n/\n<=3/\(∀x∈row,x.size<=s.size)/\
 (32∉ao s->n=1/\row[0]? =some s)/\
 (∀a b,ao s=a++32::b->32∉a->32∉b->n=2/\row[0]? =some (cJ a)/\row[1]? =some (cJ b))/\
 (∀a b c,ao s=a++32::(b++32::c)->32∉a->32∉b->n=3/\row[0]? =some (cJ a)/\row[1]? =some (cJ b)/\row[2]? =some (cJ c))
theorem uE (l:List Nat):(cJ l).size=l.length:=by
 show(Array.size _)=_
 simp[cJ]
theorem aaJ {s:ByteArray} (h: ¬32∉ao s): ∃a b,ao s=a++32::b/\32∉a:=by
 rcases Lt s 32 with⟨_,c⟩|⟨a,b,d,c,_⟩
 all_goals grind
theorem anj (s:ByteArray) (P:s.size<=1000000000): ∃n row,xX s (ByteArray.mk #[32]) 3=some (n,row)/\L7 s n row:=by
 obtain⟨N,z⟩:=Ba
 have e:xX s (ByteArray.mk #[32]) 3=r7 s (ByteArray.mk #[32]) 3:=by unfold xX;rfl
 have J:Hc s (ByteArray.mk #[32]) 0 3=xW s (ByteArray.mk #[32]) 0 3:=by unfold Hc;rfl
 rw[e]
 unfold r7
 rw[J]
 unfold xW Hb
 have w:wrap .i64 (((s.size:Nat):Int)+1)=((s.size+1:Nat):Int):=by grind [wrap64]
 have U:aE (ByteArray.mk #[32]) empty=false:=mb (by decide)
 rw[U,w,show((3:Int)==0)=false from rfl,show decide ((3:Int)<0)=false from rfl]
 simp only[au]
 obtain⟨m,O,a7,a9,ms⟩: ∃m:Nat,bV 3 ((s.size+1:Nat):Int)=(m:Int)/\1<=m/\m<=3/\ ∀l,l<=s.size->l<=2->l<m:=by
  by_cases c:s.size+1<=3
  ·refine⟨s.size+1,?_,by omega,by omega,fun l o j=>by omega⟩
   grind [bV]
  ·refine⟨3,?_,by omega,by omega,fun l o j=>by omega⟩
   grind [bV]
 rw[O,hg (by omega),ac,wrap64 (x:=(m:Int)-1) (by omega) (by omega)]
 simp only[ac,Sum.elim_inl]
 unfold S5 S4 S3
 have fin: ∀(t:ByteArray) (k:Nat) (row:List ByteArray),row.length=m->k<m->ai (nZ ((m:Int)-1)) LL (s,((0:Nat):Int),replicate m empty)=some (t,((k:Nat):Int),row)->L7 s (k+1) (row.set k t)->
   ∃n C,((((ai (nZ ((m:Int)-1)) LL (s,((0:Nat):Int),replicate m empty)).map (fun(t:ByteArray×Int×(List ByteArray))=>(t.1,t.2.1,t.2.2))).bind (fun(t:ByteArray×Int×(List ByteArray))=>xV t.1 t.2.1 t.2.2)).bind fun(v:Nat×(List ByteArray))=>some ((v.1),(v.2)))=some (n,C)/\L7 s n C:=by
  intro t k row L a4 K a3
  rw[K]
  simp only[bn,ac]
  grind [xV,wrap,wrap64,bS,t8,List.length_set,Int.toNat_natCast]
 have R:(replicate m empty).length=m:=List.length_replicate ..
 have u: ∀x∈replicate m empty,x.size<=s.size:=fun x Q=>by simp_all
 have g: ∀{row:List ByteArray} {k:Nat} {y:ByteArray},(∀x∈row,x.size<=s.size)->y.size<=s.size-> ∀x∈row.set k y,x.size<=s.size:=fun {row k y} h a5 x Q=>by
  grind
 by_cases i:32∉ao s
 ·refine fin s 0 _ R (by omega) ?_ ⟨by simp_all,by omega,by omega,g u (aS _),fun _=>⟨rfl,by simp_all⟩,fun f d h _ _=>absurd (by rw[h];simp) i,fun f d a6 h _ _=>absurd (by rw[h];simp) i⟩
  grind [qk,aaH,L6]
 ·obtain⟨f,d,o,H⟩:=aaJ i
  obtain⟨Z,F,L⟩:=Lu o
  have a8:1<m:=ms 1 (by omega) (by omega)
  have D:=aaI (n:=(m:Int)-1) (k:=0) (t:=s) (row:=replicate m empty) (by omega) (by omega) (by omega) P o H
  have E:(cJ f).size<=s.size:=by rw[uE];omega
  have W:(cJ d).size<=s.size:=by rw[uE];omega
  have G:ao (cJ d)=d:=alS F
  by_cases a2:32∉d
  ·refine fin (cJ d) 1 ((replicate m empty).set 0 (cJ f)) (by simp_all) (by omega) ?_ ⟨by grind,by omega,by omega,g (g u E) W,fun h=>absurd h i,fun a b h q r=> ?_,fun a b c h q r=> ?_⟩
   ·rw[z,qj D]
    grind [qk,aaH,L6]
   all_goals grind [Bb,List.getElem?_set_self,List.length_set,List.getElem?_set_ne,absurd]
  ·obtain⟨A,B,j,I⟩:=aaJ (s:=cJ d) (by simp_all)
   obtain⟨a0,a1,M⟩:=Lu j
   rw[uE] at M
   have b0:2<m:=ms 2 (by omega) (by omega)
   have V:=aaI (n:=(m:Int)-1) (k:=1) (t:=cJ d) (row:=(replicate m empty).set 0 (cJ f)) (by omega) (by simp_all) (by omega) (by omega) j I
   have X:(cJ A).size<=s.size:=by rw[uE];omega
   have Y:(cJ B).size<=s.size:=by rw[uE];omega
   rw[G] at j
   refine fin (cJ B) 2 (((replicate m empty).set 0 (cJ f)).set 1 (cJ A)) (by grind) (by omega) ?_ ⟨by grind,by omega,by omega,g (g (g u E) X) Y,fun h=>absurd h i,fun a b h q r=> ?_,fun a b c h q r=> ?_⟩
   ·rw[z,qj D,qj V]
    grind [qk,L6]
   all_goals grind [Bb,absurd,List.getElem?_set_self,List.length_set,List.getElem?_set_ne]
theorem ank (w:ByteArray): ∃k,jr w=some k:=by
 have e:jr w=xZ w:=by unfold jr;rfl
 rw[e]
 unfold xZ Hd S9 S8 He S7 S6 Hf
 rw[show same (List.length cF) 6=some () from rfl]
 simp only[ac]
 obtain⟨r,b,_⟩:=KP (body:=fun(s:Int)=>((xY w (cF.getD 0 empty) (cF.getD 1 empty) (cF.getD 2 empty) (cF.getD 3 empty) (cF.getD 4 empty) (cF.getD 5 empty) s).map (Sum.elim (fun(t:Int)=>Sum.inl t) (Sum.elim (fun(t:Int)=>Sum.inr (Sum.inl t)) (fun(t:Unit)=>Sum.inr (Sum.inr t)))):Option ((Int)⊕(Int⊕Unit))))
  (I:=fun s=>0<=s/\s<=6) (μ:=fun s=>(6-s).toNat) (Q:=fun _=>True)
  (by
   intro s ⟨f,g⟩
   unfold xY
   by_cases c:s<6
   ·rw[an c]
    obtain⟨j,rfl⟩:=apB f
    have a:j< [cF.getD 0 empty,cF.getD 1 empty,cF.getD 2 empty,cF.getD 3 empty,cF.getD 4 empty,cF.getD 5 empty].length:=by simp;omega
    rw[aw,bR a,ac,wrap64 (by omega) (by omega)]
    cases aE _ w with
    |true=>simp_all
    |false=>exact .inl ⟨_,rfl,⟨by omega,by omega⟩,by omega⟩
   simp_all [cy,trivial]) LL 0 ⟨by omega,by omega⟩ (by grind [LL])
 have d:ai _ LL (0:Int)=some r:=b
 rw[d]
 cases r<;>simp_all
theorem L8:jr (ByteArray.mk #[104,101,97,100])=some 0/\jr (ByteArray.mk #[97,100,100])=some 1/\jr (hU 2)=some 2/\jr (hU 3)=some 3/\jr (hU 4)=some 4/\jr (hU 5)=some 5:=by
 decide+kernel
theorem aaK {t:ByteArray} (h:t.size<=1000000000):strconv_Atoi t=some (eb t):=by
 grind [strconv_Atoi,ra]
def Bw (s:ByteArray) (k x y:Int) (t:ByteArray):Bool×Int×Int×Int:=cond (aE s empty) (false,0,0,0) (cond (!(aE t s)) (false,0,0,0) (true,k,x,y))
theorem anl (s:ByteArray) (M:s.size<=100000000):sd s=some (cD s):=by
 obtain⟨n,row,D,L,O,P,N,H,I,J⟩:=anj s (by omega)
 have e:sd s=sc s:=by unfold sd;rfl
 have z: ∀i (hi:i<row.length),row[i].size<=1000000000:=fun i hi=>by grind
 obtain⟨k,m⟩:=ank (row[0]'(by omega))
 have A:sd s=some (Bw s k (if h:1<n then(eb (row[1]'(by omega))).1 else 0) (if h:2<n then(eb (row[2]'(by omega))).1 else 0) (cz k (if h:1<n then(eb (row[1]'(by omega))).1 else 0) (if h:2<n then(eb (row[2]'(by omega))).1 else 0))):=by
  rw[e]
  unfold sc Bw
  rw[D]
  simp only[ac,ix]
  rw[show(0:Int)=((0:Nat):Int) from rfl,bS (show 0<n by omega),ac,bh (show 0<row.length by omega),ac,m,ac]
  by_cases g:1<n
  ·rw[an (show(n:Int)>1 by omega),aw,show(1:Int)=((1:Nat):Int) from rfl,bS g,ac,bh (show 1<row.length by omega),ac,aaK (z 1 _),ac,dif_pos g]
   by_cases j:2<n
   ·rw[an (show(n:Int)>2 by omega),aw,show(2:Int)=((2:Nat):Int) from rfl,bS j,ac,bh (show 2<row.length by omega),ac,aaK (z 2 _),ac,dif_pos j,Ls]
    cases aE s empty<;>grind
   ·rw[cy (show¬(n:Int)>2 by omega),au,dif_neg j]
    have:=Ls k (eb (row[1]'(by omega))).1 0
    rw[show((0:Nat):Int)=0 from rfl,this]
    cases aE s empty<;>grind
  ·rw[cy (show¬(n:Int)>1 by omega),au,cy (show¬(n:Int)>2 by omega),au,dif_neg g,dif_neg (show¬2<n by omega)]
   have:=Ls k 0 0
   rw[show((0:Nat):Int)=0 from rfl,this]
   cases aE s empty<;>grind
 rw[A]
 by_cases y: ∃d:Int×Int×Int,cM d.1 d.2.1 d.2.2=true/\cz d.1 d.2.1 d.2.2=s
 ·obtain⟨⟨w,a,b⟩,d,t⟩:=y
  simp only at d t
  have R:=YK d
  rw[t] at R
  have ne:=KU d
  rw[t] at ne
  rw[R]
  have same:k=w/\(if h:1<n then(eb (row[1]'(by omega))).1 else 0)=a/\(if h:2<n then(eb (row[2]'(by omega))).1 else 0)=b:=by
   have r: ∀{x:ByteArray},row[0]? =some x->row[0]'(by omega)=x:=fun h=>by
    grind
   rcases kK d with⟨u,v,c,F,rfl,rfl,rfl⟩|⟨u,c,rfl,rfl,rfl⟩|⟨B,C,rfl,rfl⟩
   ·have l:ao s=[104,101,97,100]++32::(ao (bE u)++32::ao (bE v)):=by
     rw[<-t,AN c F,jH,jH,jH]
     simp_all [ao,iR,gh]
    obtain⟨rfl,f,q,K⟩:=J _ _ _ l (by decide) (AP c)
    rw[AU] at q K
    have o:=r f
    rw[o,show cJ [104,101,97,100]=ByteArray.mk #[104,101,97,100] from rfl,L8.1] at m
    grind [List.getElem?_eq_getElem,Option.some.inj,ZI]
   ·have l:ao s=[97,100,100]++32::ao (bE u):=by
     rw[<-t,AO c,jH]
     simp_all [ao,mc]
    obtain⟨rfl,f,q⟩:=I _ _ l (by decide) (AP c)
    rw[AU] at q
    have o:=r f
    rw[o,show cJ [97,100,100]=ByteArray.mk #[97,100,100] from rfl,L8.2.1] at m
    grind [List.getElem?_eq_getElem,Option.some.inj,ZI]
   ·have G:s=hU w:=by grind [qf]
    obtain⟨rfl,f⟩:=H (by
     rw[G]
     rcases md B C with rfl|rfl|rfl|rfl<;>decide)
    grind [L8,md,Option.some.inj]
  grind [same,Bw,mb,nL]
 ·rw[YL (fun k a b hd E=>y ⟨(k,a,b),hd,E⟩)]
  unfold Bw
  by_cases em:s=empty
  all_goals grind [nL,mb,eb,aE,cz,cM,KT]
def uF:Nat->List (List Bool)
 |0=> [[]]
 |n+1=>(uF n).flatMap fun l=> [true::l,false::l]
theorem aaL: ∀(l:List Bool),l∈uF l.length
 |[]=>by simp[uF]
 |b::l=>by
  simp only[cB,uF,List.mem_flatMap]
  refine⟨l,aaL l,?_⟩
  simp_all
theorem anm (h:List Int) (a b:Int):iW h b a=iW h a b:=by
 grind [iW,alZ,Bool.and_comm,dh]
theorem ann:((range 256).all fun m=>H4 (m:Int)==some ((eW m:Nat)-1:Int))=true:=by decide+kernel
theorem ano {m:Nat} (h:m<256):H4 (m:Int)=some ((eW m:Nat)-1:Int):=by simpa using gN ann h
theorem anp (h:List Int):yu h=some (jL h):=by
 have e:yu h=yt h:=by unfold yu;rfl
 rw[e]
 unfold yt H5 jL
 rw[fH]
 cases c:aB h with
 |false=>rfl
 |true=>
  have T:=(bK h).mp c
  have b:=T.le
  have l:=T.pos
  simp only[ac,bo,au,Sum.elim_inl]
  unfold Ub Ua H6 T9 T8 H7
  rw[tX T]
  simp only[ac]
  have one: ∀i,i<h.length->1<=eW (bq h (i+1)):=fun i hi=>ZO (fK b _) (ZQ T (by omega) (by omega))
  have m: ∀k,dk h k<=8:=by
   intro k
   induction k<;>grind [dk,List.range_succ,LB,bq]
  have f:=bu (body:=fun(s:Int×Int)=>((sD s.1 ((eQ h).length:Nat) s.2 (eQ h)).map (Sum.elim (fun(t:Int×Int)=>Sum.inl (t.1,t.2)) (fun(t:Int)=>Sum.inr t)):Option ((Int×Int)⊕(Int))))
   (fun j=>(((dk h j-1:Nat):Int),(j:Int))) h.length ((dk h h.length-1:Nat):Int)
   (by
    intro j a
    simp only[sD,jG]
    rw[an (show(j:Int)<((h.length:Nat):Int) by omega),bS a]
    simp only[aw,ac,nH h a,ano (fK b (j+1))]
    rw[wrap64 (by omega) (by omega)]
    have o:=one j a
    have st:dk h (j+1)=max (dk h j) (eW (bq h (j+1))):=by
     grind [dk,List.range_succ]
    grind [imax,dk,eW,bq])
   (by
    grind [sD,jG,decide_eq_false])
  have d:=f LL (by grind [LL])
  rw[show((0:Int),(0:Int))=(((dk h 0-1:Nat):Int),((0:Nat):Int)) from rfl,d]
  have:1<=dk h h.length:=by
   obtain⟨k,g⟩: ∃k,h.length=k+1:=⟨h.length-1,by omega⟩
   grind [dk,List.range_succ]
  grind
end Go.Rv
