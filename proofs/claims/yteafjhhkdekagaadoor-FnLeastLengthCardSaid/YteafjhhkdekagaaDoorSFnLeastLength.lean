/-
  The law FnLeastLength,in plain words: it is true of every argument. Conditions: none.
-/
import Derived.Test.YteafjhhkdekagaaDoorHFnLeastLength
set_option linter.unusedVariables false
set_option linter.unusedSimpArgs false
namespace Go.Rv
def posB (b:List Int) (k:Nat):Nat:=if b.length=0 then 0 else(b.getD ((k+1)%b.length) 0).toNat% (k+1)
def ordB (b:List Int):Nat→List Int
 |0=> []
 |k+1=>insL (ordB b k) (posB b k) ((k+1:Nat):Int)
theorem ordB_order (b:List Int): ∀k,(ordB b k).length=k∧OrderP (ordB b k) (k:Nat)
 |0=>⟨rfl,by
  rw[orderP_iff]
  exact⟨fun x hx=>(List.not_mem_nil hx).elim,List.nodup_nil⟩⟩
 |k+1=>by
  obtain⟨l,p⟩:=ordB_order b k
  have q:OrderP (ordB b k) ((ordB b k).length:Nat):=by rw[l];exact p
  have r:=insL_order q (posB b k)
  rw[l] at r
  have len:(insL (ordB b k) (posB b k) ((k+1:Nat):Int)).length=k+1:=by rw[insL_length,l]
  rw[len] at r
  exact⟨len,r⟩
theorem posB_le (b:List Int) (k:Nat):posB b k≤k:=by
 unfold posB
 split
 ·omega
 ·have:=Nat.mod_lt (b.getD ((k+1)%b.length) 0).toNat (show 0<k+1 by omega)
  omega
theorem bytes_step {β:Type} {o:List Int} {p:Nat} (hp:p≤o.length) (ho:o.length≤100) (x v:Int) (hv:v=(p:Int)) (K:List Int→Option β):
  ((inc v (List.length o)).bind fun(p1:Nat)=>(room ((List.length ([]:List Int))+List.length ((o.drop 0).take (p1-0)))).bind fun(_:Unit)=>(room ((List.length (([]:List Int)++((o.drop 0).take (p1-0))))+List.length ([x]))).bind fun(_:Unit)=>(inc v (List.length o)).bind fun(p2:Nat)=>(room ((List.length ((([]:List Int)++((o.drop 0).take (p1-0)))++([x])))+List.length ((o.drop p2).take ((List.length o)-p2)))).bind fun(_:Unit)=>K (((([]:List Int)++((o.drop 0).take (p1-0)))++([x]))++((o.drop p2).take ((List.length o)-p2))))
   =K (insL o p x):=by
 subst hv
 have i:inc (p:Int) (List.length o)=some p:=by
  unfold inc
  rw[if_pos (by omega),Int.toNat_natCast]
 simp only[Option.bind_some,i]
 rw[room_ok (by simp;omega),room_ok (by simp;omega),room_ok (by simp;omega)]
 simp only[Option.bind_some]
 congr 1
 rw[insL,List.drop_zero,Nat.sub_zero,List.nil_append,List.append_assoc,List.singleton_append]
 congr 2
 rw[List.take_of_length_le (by simp)]
theorem least_bytes {b:List Int} (hb: ∀n∈b,0≤n∧n≤255) (hl:b.length≤1048576) {n:Nat} (n8:n≤8):Na6 b (n:Int)=some (ordB b n):=by
 unfold Na6 N79 Ni3 Ne9
 have lp:=nloop_to (body:=fun(s:Int×(List Int))=>((N3r b (n:Int) s.1 s.2).map (Sum.elim (fun(t:Int×(List Int))=>Sum.inl (t.1,t.2)) (fun(t:(List Int))=>Sum.inr t)):Option ((Int×(List Int))⊕(((List Int))))))
  (fun k=>(((k+1:Nat):Int),ordB b k)) n (ordB b n)
  (by
   intro k hk
   have w:IntKind.wrap .i64 (((k+1:Nat):Int)+1)=((k+1+1:Nat):Int):=by rw[wrap64 (by omega) (by omega)];omega
   have ol:=(ordB_order b k).1
   have pl:=posB_le b k
   simp only[N3r]
   rw[decide_eq_true (show((k+1:Nat):Int)≤(n:Int) by omega),w]
   simp only[cond_true]
   by_cases z:b.length=0
   ·rw[decide_eq_false (show¬((b.length:Nat):Int)>0 by omega)]
    simp only[cond_false]
    have pz:posB b k=0:=by unfold posB;rw[if_pos z]
    rw[bytes_step (p:=0) (by omega) (by omega) (((k+1:Nat):Int)) 0 rfl (fun l=>some (Sum.inl (((k+1+1:Nat):Int),l)))]
    simp only[Option.map_some,Sum.elim_inl]
    rw[ordB,pz]
   ·rw[decide_eq_true (show((b.length:Nat):Int)>0 by omega)]
    have r1:rem ((k+1:Nat):Int) ((b.length:Nat):Int)=some (((k+1)%b.length:Nat):Int):=by
     unfold rem
     rw[if_neg (by omega)]
     rfl
    have lt:(k+1)%b.length<b.length:=Nat.mod_lt _ (by omega)
    have g:b[(k+1)%b.length]? =some (b.getD ((k+1)%b.length) 0):=by
     rw[List.getD_eq_getElem?_getD,List.getElem?_eq_getElem lt,Option.getD_some]
    have m:b.getD ((k+1)%b.length) 0∈b:=List.mem_of_getElem? g
    have bd:=hb _ m
    have pe:posB b k=(b.getD ((k+1)%b.length) 0).toNat% (k+1):=by unfold posB;rw[if_neg z]
    generalize b.getD ((k+1)%b.length) 0=y at g bd pe
    have r2:rem (IntKind.wrap .i64 y) ((k+1:Nat):Int)=some ((y.toNat% (k+1):Nat):Int):=by
     rw[wrap64 (by omega) (by omega)]
     unfold rem
     rw[if_neg (by omega)]
     have:y=((y.toNat:Nat):Int):=by omega
     rw[this]
     rfl
    simp only[cond_true,r1,Option.bind_some,idx_nat,g,r2]
    rw[bytes_step (p:=posB b k) (by omega) (by omega) (((k+1:Nat):Int)) ((y.toNat% (k+1):Nat):Int) (by rw[pe]) (fun l=>some (Sum.inl (((k+1+1:Nat):Int),l)))]
    rfl)
  (by
   simp only[N3r]
   rw[decide_eq_false (show¬((n+1:Nat):Int)≤(n:Int) by omega)]
   rfl) LL (by simp only[LL];omega)
 have lp':=lp
 simp only[Option.bind_some]
 rw[show((0+1:Nat):Int)=1 from rfl,show ordB b 0=[] from rfl] at lp'
 rw[lp']
 rfl
theorem least_fact {n:Nat} (n1:1≤n) (n8:n≤8):Nbh (n:Int)=some ((factN n:Nat):Int):=by
 unfold Nbh N5u Nd6 Ne6
 have lp:=nloop_to (body:=fun(s:Int×Int)=>((N2w (n:Int) s.1 s.2).map (Sum.elim (fun(t:Int×Int)=>Sum.inl (t.1,t.2)) (fun(t:Int)=>Sum.inr t)):Option ((Int×Int)⊕(Int))))
  (fun k=>(((factN (k+1):Nat):Int),((k+2:Nat):Int))) (n-1) ((factN n:Nat):Int)
  (by
   intro k hk
   have f2:=fact_le (n:=k+1+1) (by omega)
   have w:IntKind.wrap .i64 (((k+2:Nat):Int)+1)=((k+1+2:Nat):Int):=by rw[wrap64 (by omega) (by omega)];omega
   simp only[N2w]
   rw[decide_eq_true (show((k+2:Nat):Int)≤(n:Int) by omega),w,←Int.natCast_mul]
   have f3:factN (k+1)*(k+2)≤40320:=f2
   have e3:factN (k+1+1)=factN (k+1)*(k+2):=rfl
   rw[e3]
   generalize factN (k+1)*(k+2)=q at f3⊢
   rw[wrap64 (by omega) (by omega)]
   rfl)
  (by
   simp only[N2w]
   rw[decide_eq_false (show¬((n-1+2:Nat):Int)≤(n:Int) by omega),show n-1+1=n by omega]
   rfl) LL (by simp only[LL];omega)
 have lp':=lp
 rw[show factN (0+1)=1 from rfl,show((0+2:Nat):Int)=2 from rfl,show((1:Nat):Int)=1 from rfl] at lp'
 simp only[Option.bind_some]
 rw[lp']
 rfl
theorem least_order {n a:Nat} (n8:n≤8) (ha:a≤1000000):Nbq (n:Int) (a:Int)=some (orderAt n a):=by
 unfold Nbq
 have lp:=nloop_to (body:=fun(s:Int×Int×(List Int))=>((N3k (n:Int) s.1 s.2.1 s.2.2).map (Sum.elim (fun(t:Int×Int×(List Int))=>Sum.inl (t.1,t.2.1,t.2.2)) (fun(t:(List Int))=>Sum.inr t)):Option ((Int×Int×(List Int))⊕(((List Int))))))
  (fun k=>((((ordK a k).2:Nat):Int),((k+1:Nat):Int),(ordK a k).1)) n (orderAt n a)
  (by
   intro k hk
   have w:IntKind.wrap .i64 (((k+1:Nat):Int)+1)=((k+1+1:Nat):Int):=by rw[wrap64 (by omega) (by omega)];omega
   simp only[N3k]
   rw[decide_eq_true (show((k+1:Nat):Int)≤(n:Int) by omega),w]
   simp only[cond_true]
   rw[order_step ha (by omega) (fun q l=>some (Sum.inl (q,((k+1+1:Nat):Int),l)))]
   rfl)
  (by
   simp only[N3k]
   rw[decide_eq_false (show¬((n+1:Nat):Int)≤(n:Int) by omega)]
   rfl) LL (by simp only[LL];omega)
 exact lp
noncomputable def bestK (h:List Int):Nat→Int
 |0=> -1
 |k+1=>if flatB (putRow h (orderAt h.length k))=true then(if bestK h k<0 then((lenN (putRow h (orderAt h.length k)):Nat):Int) else if((lenN (putRow h (orderAt h.length k)):Nat):Int)<bestK h k then((lenN (putRow h (orderAt h.length k)):Nat):Int) else bestK h k) else bestK h k
theorem best_ge {h:List Int} (T:Tree h): ∀k,bestK h k= -1∨((leastN h:Nat):Int)≤bestK h k
 |0=> .inl rfl
 |k+1=>by
  have ih:=best_ge T k
  unfold bestK
  by_cases f:flatB (putRow h (orderAt h.length k))=true
  ·rw[if_pos f]
   have T':=putAt_tree T k
   have fl:=flat_least T' (flatB_iff.mp f)
   rw[put_leastN T (orderAt_length _ _) (orderAt_order _ _)] at fl
   split
   ·right;omega
   ·split
    ·right;omega
    ·exact ih
  ·rw[if_neg f]
   exact ih
theorem best_le {h:List Int} (T:Tree h) {a:Nat} (F:FlatP (putRow h (orderAt h.length a))): ∀k,a<k→bestK h k≤((lenN (putRow h (orderAt h.length a)):Nat):Int)∧0≤bestK h k
 |0,hk=>by omega
 |k+1,hk=>by
  unfold bestK
  by_cases e:a=k
  ·subst e
   rw[if_pos (flatB_iff.mpr F)]
   split
   ·omega
   ·split<;>omega
  ·have ih:=best_le T F k (by omega)
   by_cases f:flatB (putRow h (orderAt h.length k))=true
   ·rw[if_pos f]
    split
    ·omega
    ·split<;>omega
   ·rw[if_neg f]
    exact ih
theorem best_least {h:List Int} (T:Tree h) (h5:h.length≤5):bestK h (factN h.length)=((leastN h:Nat):Int):=by
 obtain⟨a,ha,F,e⟩:=least_att T h5
 have b:=best_le T F (factN h.length) ha
 have g:=best_ge T (factN h.length)
 rw[e] at b
 omega
theorem least_best (hL: ∀h,h.length≤1048576→Nf h=some (lenI h)) {h:List Int} (T:Tree h) (h5:h.length≤5):
  N4e ((h.length:Nat):Int) ((factN h.length:Nat):Int) h=some (bestK h (factN h.length)):=by
 unfold N4e N54 N9k N99
 have l8:=T.le
 have f8:=fact_le (n:=h.length) (by omega)
 have lp:=nloop_to (body:=fun(s:Int×Int)=>((N3q ((h.length:Nat):Int) s.1 ((factN h.length:Nat):Int) s.2 h).map (Sum.elim (fun(t:Int×Int)=>Sum.inl (t.1,t.2)) (fun(t:Int)=>Sum.inr t)):Option ((Int×Int)⊕(Int))))
  (fun k=>(bestK h k,(k:Int))) (factN h.length) (bestK h (factN h.length))
  (by
   intro k hk
   have w:IntKind.wrap .i64 ((k:Int)+1)=((k+1:Nat):Int):=by rw[wrap64 (by omega) (by omega)];omega
   have T':=putAt_tree T k
   have t':=(tree_iff _).mpr T'
   have le:lenI (putRow h (orderAt h.length k))=((lenN (putRow h (orderAt h.length k)):Nat):Int):=by unfold lenI;rw[t'];rfl
   have fl:flatI (putRow h (orderAt h.length k))=flatB (putRow h (orderAt h.length k)):=by unfold flatI;rw[t',Bool.true_and]
   have li:=hL (putRow h (orderAt h.length k)) (by rw[putAt_len];omega)
   simp only[N3q,N2l,New,Ng7,Nhv,N8p,Ne0,Nd1,N8k,Nfn,N63]
   rw[decide_eq_true (show(k:Int)<((factN h.length:Nat):Int) by omega),decide_eq_true (show((h.length:Nat):Int)≤5 by omega),least_order l8 (by omega),w]
   simp only[cond_true,Option.bind_some,Option.map_some,Sum.elim_inl,N7b,implPut_at T k,implFlat_eq,fl,li,le]
   rw[bestK]
   cases f:flatB (putRow h (orderAt h.length k)) with
   |false=>rfl
   |true=>
    rw[if_pos rfl]
    simp only[cond_true]
    by_cases q:bestK h k<0
    ·rw[decide_eq_true q,if_pos q]
     rfl
    ·rw[decide_eq_false q,if_neg q]
     simp only[cond_false]
     by_cases q2:((lenN (putRow h (orderAt h.length k)):Nat):Int)<bestK h k
     ·rw[decide_eq_true q2,if_pos q2]
      rfl
     ·rw[decide_eq_false q2,if_neg q2]
      rfl)
  (by
   simp only[N3q,N2l]
   rw[decide_eq_false (show¬((factN h.length:Nat):Int)<((factN h.length:Nat):Int) by omega)]
   rfl) LL (by simp only[LL];omega)
 have lp':=lp
 rw[show bestK h 0= -1 from rfl,show((0:Nat):Int)=0 from rfl] at lp'
 simp only[Option.bind_some]
 rw[lp']
 rfl
theorem least_none {h:List Int} (h6: ¬h.length≤5) (f:Int) (hf:0<f):N4e ((h.length:Nat):Int) f h=some (-1):=by
 unfold N4e N54 N9k N99
 have lp:=nloop_to (body:=fun(s:Int×Int)=>((N3q ((h.length:Nat):Int) s.1 f s.2 h).map (Sum.elim (fun(t:Int×Int)=>Sum.inl (t.1,t.2)) (fun(t:Int)=>Sum.inr t)):Option ((Int×Int)⊕(Int))))
  (fun k=>(-1,0)) 0 (-1)
  (by intro k hk;omega)
  (by
   simp only[N3q,N2l]
   rw[decide_eq_true (show(0:Int)<f by omega),decide_eq_false (show¬((h.length:Nat):Int)≤5 by omega)]
   rfl) LL (by simp only[LL];omega)
 have lp':=lp
 simp only[Option.bind_some]
 rw[lp']
 rfl
theorem core_FnLeastLength (hS: ∀h,h.length≤1048576→N13 h=some (leastI h)) (hL: ∀h,h.length≤1048576→Nf h=some (lenI h)) (hM: ∀h,h.length≤1048576→N1y h=some (if treeB h=true then putRow h (flatOI h) else[]))
  (x b:List Int) (w: ∀n∈x,(Lit.int .u8 n).wf=true) (l:x.length≤maxLen) (w2: ∀n∈b,(Lit.int .u8 n).wf=true) (l2:b.length≤maxLen):N2c x b=some true:=by
 unfold N2c Nhk N5c
 have hb: ∀n∈b,0≤n∧n≤255:=fun n hn=>by
  have:=w2 n hn
  simp only[Lit.wf,Bool.and_eq_true,decide_eq_true_eq] at this
  have e1:IntKind.u8.min=0:=rfl
  have e2:IntKind.u8.max=255:=rfl
  omega
 by_cases hx:x.length≤1048576
 ·by_cases hx2:b.length≤1048576
  ·rw[show decide (((x.length:Nat):Int)>1048576)=false from decide_eq_false (by omega),show decide (((b.length:Nat):Int)>1048576)=false from decide_eq_false (by omega)]
   obtain⟨h,h8,hdr⟩:=drawn_wild x w l 9 (by omega)
   have hd':N2r x=some h:=by unfold N2r N7a;exact hdr
   simp only[hd',cond_false,Option.bind_some,hS h (by omega),specLeast_eq,bne_self_eq_false,alive_eq,implTree_eq]
   cases t:treeB h with
   |false=>
    have e0:leastI h= -1:=by unfold leastI;rw[t];rfl
    rw[e0]
    rfl
   |true=>
    have T:=(tree_iff h).mp t
    have hp:=T.pos
    have e0:leastI h=((leastN h:Nat):Int):=by unfold leastI;rw[t];rfl
    obtain⟨ol,oP⟩:=ordB_order b h.length
    have oP':OrderP (ordB b h.length) ((ordB b h.length).length:Nat):=by rw[ol];exact oP
    have oB:orderB (ordB b h.length) ((h.length:Nat):Int)=true:=by
     rw[orderB_iff]
     exact⟨by omega,by omega,by omega,oP⟩
    have T':=put_tree T ol oP'
    have t':=(tree_iff _).mpr T'
    have len':=putRow_length h (ordB b h.length)
    have i':leastI (putRow h (ordB b h.length))=((leastN h:Nat):Int):=by
     unfold leastI
     rw[t',if_pos rfl,put_leastN T ol oP']
    have le':lenI (putRow h (ordB b h.length))=((lenN (putRow h (ordB b h.length)):Nat):Int):=by unfold lenI;rw[t'];rfl
    have fl':flatI (putRow h (ordB b h.length))=flatB (putRow h (ordB b h.length)):=by unfold flatI;rw[t',Bool.true_and]
    have fl:=flatOI_length T
    have fP:=flatOI_order T
    have Tm:=put_tree T fl fP
    have tm:=(tree_iff _).mpr Tm
    have lenm:=putRow_length h (flatOI h)
    have lem:lenI (putRow h (flatOI h))=((lenN (putRow h (flatOI h)):Nat):Int):=by unfold lenI;rw[tm];rfl
    have fm:=flat_least Tm (made_flat T)
    rw[put_leastN T fl fP] at fm
    have lg:=least_ge h
    have f8:=fact_le (n:=h.length) (by omega)
    rw[e0,decide_eq_false (show¬((leastN h:Nat):Int)<0 by omega)]
    simp only[cond_false,Option.bind_some,Sum.elim_inl,Nhw,least_bytes hb hx2 T.le,Neb]
    have n7:N51 ((leastN h:Nat):Int) h (ordB b h.length)=some (Sum.inl ()):=by
     unfold N51
     rw[implPut_eq,t,oB]
     simp only[Bool.and_self,if_true,Option.bind_some,Bool.not_true,cond_false,hS _ (show(putRow h (ordB b h.length)).length≤1048576 by omega),i',bne_self_eq_false,implFlat_eq,fl',hL _ (show(putRow h (ordB b h.length)).length≤1048576 by omega),le']
     cases f:flatB (putRow h (ordB b h.length)) with
     |false=>rfl
     |true=>
      have fb:=flat_least T' (flatB_iff.mp f)
      rw[put_leastN T ol oP'] at fb
      rw[decide_eq_false (show¬((lenN (putRow h (ordB b h.length)):Nat):Int)<((leastN h:Nat):Int) by omega)]
      rfl
    rw[n7]
    simp only[Option.bind_some,Sum.elim_inl,Nf6,least_fact hp T.le,Nfw]
    have n31: ∀v,(h.length≤5→v=((leastN h:Nat):Int))→N4y ((leastN h:Nat):Int) ((h.length:Nat):Int) v h=some true:=by
     intro v hv
     unfold N4y
     rw[wrap64 (x:=((h.length:Nat):Int)-1) (by omega) (by omega),decide_eq_true (show((leastN h:Nat):Int)≥((h.length:Nat):Int)-1 by omega),hM h (by omega),t,if_pos rfl]
     simp only[cond_true,Option.bind_some,hL _ (show(putRow h (flatOI h)).length≤1048576 by omega),lem]
     rw[decide_eq_true (show((lenN (putRow h (flatOI h)):Nat):Int)≥((leastN h:Nat):Int) by omega)]
     simp only[cond_true]
     by_cases h5:h.length≤5
     ·rw[decide_eq_false (show¬((h.length:Nat):Int)>5 by omega),hv h5]
      simp
     ·rw[decide_eq_true (show((h.length:Nat):Int)>5 by omega)]
      rfl
    by_cases h5:h.length≤5
    ·rw[least_best hL T h5]
     exact n31 _ fun _=>best_least T h5
    ·have fp:0<factN h.length:=by
      have: ∀n,0<factN n:=fun n=>by
       induction n with
       |zero=>exact Nat.one_pos
       |succ n ih=>exact Nat.mul_pos ih (Nat.succ_pos _)
      exact this _
     rw[least_none h5 _ (by omega)]
     exact n31 _ fun z=>absurd z h5
  ·rw[show decide (((x.length:Nat):Int)>1048576)=false from decide_eq_false (by omega),show decide (((b.length:Nat):Int)>1048576)=true from decide_eq_true (by omega)]
   rfl
 ·rw[show decide (((x.length:Nat):Int)>1048576)=true from decide_eq_true (by omega)]
  rfl
theorem same_FnLeastLength (x:List Int) (w: ∀n∈x,(Lit.int .u8 n).wf=true) (l:x.length≤maxLen) (b:List Int) (w2: ∀n∈b,(Lit.int .u8 n).wf=true) (l2:b.length≤maxLen):N2c x b=some true:=
 core_FnLeastLength (fun h _=>implLeast_eq h) (fun h _=>implLen_eq h) (fun h _=>implMade_eq h) x b w l w2 l2
end Go.Rv
