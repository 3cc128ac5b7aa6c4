/-
  The law FnDeskSay,in plain words: it is true of every argument. Conditions: none.
-/
import Derived.Test.YthjlnoplibeclaaGreatDoorHFnDeskSay
open Go.IntKind (wrap)
set_option linter.all false
namespace Go.Rv
theorem apB (l:List ByteArray) (h:l.length<=2097152):g6 l l=some true:=by
 have e:g6 l l=i7 l l:=by unfold g6;rfl
 rw[e]
 unfold i7 l1 o2 o1 l2 o0 op l3
 have a:=bH (body:=fun(s:Int)=>((g5 l l s).map (Sum.elim (fun(t:Int)=>Sum.inl t) (Sum.elim (fun(t:Bool)=>Sum.inr (Sum.inl t)) (fun(t:Unit)=>Sum.inr (Sum.inr t)))):Option ((Int)⊕(Bool⊕Unit))))
  (fun k=>(k:Int)) l.length (Sum.inr ())
  (by
   grind [wrap,wrap64,g5,decide_eq_true,List.length,cb,jL])
  (by
   grind [g5,decide_eq_false,List.length]) LL (by grind [LL])
 simp_all
abbrev apC (h b:List Int):Int×Int×List ByteArray->Option ((Int×Int×List ByteArray)⊕(Int×List ByteArray)):=
 fun(s:Int×Int×(List ByteArray))=>((g2 s.1 b s.2.1 h s.2.2).map (Sum.elim (fun(t:Int×Int×(List ByteArray))=>Sum.inl (t.1,t.2.1,t.2.2)) (fun(t:Int×(List ByteArray))=>Sum.inr t)):Option ((Int×Int×(List ByteArray))⊕((Int×(List ByteArray)))))
theorem apR (x:List Int) (w: ∀n∈x,(Lit.int .u8 n).wf=true) (l:x.length<=maxLen): ∃(d:fa) (g:List ByteArray),h7 x=some (d.1,g,d.2)/\Small d/\g.length<=41/\ ∀s∈g,s.size<=16:=by
 obtain⟨b,v,f⟩:=akK x w l
 obtain⟨a,d,A,R,S,i⟩:=aoY f 12 (by omega) (p:=0) (by omega) (by omega)
 obtain⟨m,y,P,j,_⟩:=cI f 7 (by omega) (p:=a) (by omega) (by omega)
 have j:=j (by omega)
 have O:=i.1
 obtain⟨r,B,T,U,V,H⟩:=nX (body:=apC d.1 b)
  (I:=fun t=>0<=t.1/\t.1+((t.2.2.length:Nat):Int)<=7/\a<=t.2.1/\t.2.1+20*t.1<=a+200/\ ∀s∈t.2.2,s.size<=16)
  (μ:=fun t=>t.1.toNat) (Q:=fun r=>a<=r.1/\r.1<=a+200/\r.2.length<=7/\ ∀s∈r.2,s.size<=16)
  (by
   rintro⟨k,s,l⟩ ⟨E,F,o,q,h⟩
   simp only at E F o q h
   simp only[apC,g2]
   by_cases c:k>0
   ·left
    obtain⟨t,J,hd,M,N,K⟩:=ao0 f d.1 (by omega) (p:=s) (by omega) (by omega)
    have w:wrap .i64 (k-1)=k-1:=wrap64 (by omega) (by omega)
    rw[an c,w]
    simp only[au,hd,ac]
    rw[room_le (by simp only[ck,jh];omega)]
    exact⟨(k-1,J,l++ [t]),rfl,⟨by simp only;omega,by simp only[C2,ck,jh];omega,by simp only;omega,by simp only;omega,by
     intro u hu
     rcases jb.mp hu with hu|hu
     ·exact h u hu
     ·rw[uY.mp hu];exact K⟩,by simp only;omega⟩
   ·right
    rw[cy c]
    exact⟨(s,l),rfl,by simp only;omega,by simp only;omega,by simp only;omega,h⟩) LL (m,a+1,([]:List ByteArray))
  ⟨by simp only;omega,by simp only[jh];omega,by simp only;omega,by simp only;omega,by simp⟩ (by simp only[LL];omega)
 obtain⟨L,s,z,o,q⟩:=KY f 30 (by omega) (p:=r.1) (by omega) (by omega)
 have e:h7 x=h6 x:=by unfold h7;rfl
 rw[e]
 unfold h6 k2 n5 n4 k3 n3 n2 k4
 have C:ai (fun(s:Int×Int×(List ByteArray))=>((g2 s.1 b s.2.1 d.1 s.2.2).map (Sum.elim (fun(t:Int×Int×(List ByteArray))=>Sum.inl (t.1,t.2.1,t.2.2)) (fun(t:Int×(List ByteArray))=>Sum.inr t)):Option ((Int×Int×(List ByteArray))⊕((Int×(List ByteArray)))))) LL (m,a+1,([]:List ByteArray))=some r:=B
 simp only[v,A,y,ac,C,bn,z]
 cases L with
 |true=>
  have G:mk 41 41=some 41:=rfl
  simp only[au,G,ac]
  exact⟨d,_,rfl,i,by simp,fun s D=>by rw[List.eq_of_mem_replicate D];decide⟩
 |false=>exact⟨d,r.2,rfl,i,by omega,H⟩
theorem apS (a:List ByteArray) (h:a.length<=1048576) (ne: ∀t∈a,t≠ByteArray.empty):l6 a=some (Sum.inl ()):=by
 unfold l6 l5 o4 o3
 have c:=bH (body:=fun(s:Int)=>((f5 s a).map (Sum.elim (fun(t:Int)=>Sum.inl t) (Sum.elim (fun(t:Bool)=>Sum.inr (Sum.inl t)) (fun(t:Unit)=>Sum.inr (Sum.inr t)))):Option ((Int)⊕(Bool⊕Unit))))
  (fun k=>(k:Int)) a.length (Sum.inr ())
  (by
   intro k b
   have w:wrap .i64 ((k:Int)+1)=((k+1:Nat):Int):=by rw[wrap64 (by omega) (by omega)];omega
   simp only[f5]
   rw[an (show(k:Int)<((a.length:Nat):Int) by omega),cg b,w]
   simp only[au,ac,bh b,kU (ne _ (cT b)),aq]
   rfl)
  (by
   simp only[f5]
   rw[cy (show¬(((a.length:Nat):Int))<((a.length:Nat):Int) by omega)]
   rfl) LL (by simp only[LL];omega)
 have d:ai (fun(s:Int)=>((f5 s a).map (Sum.elim (fun(t:Int)=>Sum.inl t) (Sum.elim (fun(t:Bool)=>Sum.inr (Sum.inl t)) (fun(t:Unit)=>Sum.inr (Sum.inr t)))):Option ((Int)⊕(Bool⊕Unit)))) LL 0=some (Sum.inr ()):=c
 rw[d]
 rfl
theorem apT (x:List Int) (w: ∀n∈x,(Lit.int .u8 n).wf=true) (l:x.length<=maxLen):j0 x=some true:=by
 have e:j0 x=i8 x:=by unfold j0;rfl
 rw[e]
 unfold i8 l4
 by_cases c:((x.length:Nat):Int)>1048576
 ·rw[an c]
  rfl
 rw[cy c]
 obtain⟨d,f,y,P,K,j⟩:=apR x w l
 have W:=P.2.1
 have u: ∀(a:fa) (m:List ByteArray),m.length<=41->(∀s∈m,s.size<=16)->f1 a.1 a.2 m=some (e2 a m):=fun a m t A=>apK a m (by omega) (fun s i=>by have:=A s i;omega)
 have k:=apJ d f (by omega) (fun s i=>by have:=j s i;omega) (by omega)
 have z:nw d.1 d.2=some (cS d):=Lj d.1 d.2 (by omega)
 have i1:=u d f K j
 by_cases g:cS d=true/\f.length<=40
 ·obtain⟨o,J⟩:=g
  obtain⟨q,R⟩:=h5 o f.length f rfl
  have v:e2 d f=dg d f:=by unfold e2;rw[if_pos ⟨o,J⟩]
  have same:=abA _ (dg d f).2 (abw q).1
  rw[d9] at same
  rw[v] at i1 k
  have M:quo .i64 (((List.length f:Nat):Int)) 2=some ((f.length/2:Nat):Int):=by
   obtain⟨X,t,A,S⟩:=A7 (a:=((List.length f:Nat):Int)) (b:=2) (by omega) (by omega) (by omega)
   unfold quo at t⊢
   rw[aG (by omega)] at t⊢
   rw[wrap64 (by have:=Int.tdiv_nonneg (show(0:Int)<=((List.length f:Nat):Int) by omega) (show(0:Int)<=2 by omega);omega) (by
    have:(((List.length f:Nat):Int)).tdiv 2=((f.length/2:Nat):Int):=rfl
    omega)]
   rfl
  have I:inc ((f.length/2:Nat):Int) f.length=some (f.length/2):=by rw[qp (by omega) (by omega),d8]
  have Q:(f.drop (f.length/2)).take (f.length-f.length/2)=f.drop (f.length/2):=vN (by rw[oz];omega)
  have lt:(f.take (f.length/2)).length<=40:=by rw[mR];omega
  have L:(f.drop (f.length/2)).length<=40:=by rw[oz];omega
  have C:=u d (f.take (f.length/2)) (by omega) (fun s i=>j s (vK i))
  have N:e2 d (f.take (f.length/2))=dg d (f.take (f.length/2)):=by unfold e2;rw[if_pos ⟨o,lt⟩]
  obtain⟨B,U⟩:=h5 o _ (f.take (f.length/2)) rfl
  have D:=u (dg d (f.take (f.length/2))).2 (f.drop (f.length/2)) (by omega) (fun s i=>j s (hr i))
  have O:e2 (dg d (f.take (f.length/2))).2 (f.drop (f.length/2))=dg (dg d (f.take (f.length/2))).2 (f.drop (f.length/2)):=by unfold e2;rw[if_pos ⟨B,L⟩]
  obtain⟨_,V⟩:=h5 B _ (f.drop (f.length/2)) rfl
  rw[N] at C
  rw[O] at D
  have r:=Kf d (f.take (f.length/2)) (f.drop (f.length/2))
  rw[u1] at r
  have p:=apB (dg d f).1 (by omega)
  have ne:=apS (dg d f).1 (by omega) (apO f o)
  have T:=(kZ q).1
  have E:=abu (dg d f).2 (ByteArray.mk #[109,111,118,101,115]) (by decide)
  have F:=abu (dg d f).2 (ByteArray.mk #[101,97,103,101,114]) (by decide)
  rw[apP _ q] at E
  rw[apQ _ q] at F
  have v1:aD (uP (jw (dg d f).2.1)) (ByteArray.mk #[110,111,110,101])= !dm (dg d f).2.1:=(RK T).2
  have v2:aD (uP (jx (dg d f).2.1)) (ByteArray.mk #[110,111,110,101])= !dm (dg d f).2.1:=(add T).2
  have G:(dg d (f.take (f.length/2))).1++(dg (dg d (f.take (f.length/2))).2 (f.drop (f.length/2))).1=(dg d f).1:=by rw[r]
  have H:(dg (dg d (f.take (f.length/2))).2 (f.drop (f.length/2))).2=(dg d f).2:=by rw[r]
  simp only[aq,y,ac,i1,k,same,bo,p,z,o,cy (show¬(((List.length f:Nat):Int))>40 by omega),M,I,fl,CY,C,Q,D,Sum.elim_inl]
  unfold o5 l7
  rw[ne,ac,Sum.elim_inl,E,ac,F,ac]
  simp only[H,same,ac,au]
  rw[room_le (by simp only[jh];omega),ac,room_le (by simp only[jh,hC];omega),ac,hC,G,p]
  simp only[ac,au,R,d9,v1,v2,A1]
 ·have v:e2 d f=([],[],[]):=by unfold e2;rw[if_neg g]
  have same:=abA ([],[]) ([],[]) ⟨by simp,by simp,by simp⟩
  rw[d9] at same
  have p:=apB [] (by simp)
  simp only at same
  rw[v] at i1 k
  simp only[aq,y,ac,i1,k,same,bo,p,z,apa,ao7]
  cases o:cS d with
  |false=>rfl
  |true=>
   have: ¬f.length<=40:=fun h=>g ⟨o,h⟩
   rw[an (show(((List.length f:Nat):Int))>40 by omega)]
   rfl
end Go.Rv
