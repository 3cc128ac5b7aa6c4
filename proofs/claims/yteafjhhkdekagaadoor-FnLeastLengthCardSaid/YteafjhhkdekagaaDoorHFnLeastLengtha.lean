/-
  Plain mathematics of what the law reaches. Conditions: none.
-/
import Derived.Test.YteafjhhkdekagaaDoorGFnLeastLength
set_option linter.unusedVariables false
set_option linter.unusedSimpArgs false
namespace Go.Rv
theorem nloop_run {σ ω:Type} {body:σ→Option (σ⊕ω)} (I:σ→Prop) (μ:σ→Nat) (f:σ→ω)
  (h: ∀s,I s→(∃s',body s=some (.inl s')∧I s'∧μ s'<μ s∧f s'=f s)∨body s=some (.inr (f s))): ∀(n:Nat) (s:σ),I s→μ s<n→nloop body n s=some (f s)
 |0,s,_,hn=>by omega
 |n+1,s,hi,hn=>by
  rcases h s hi with⟨s',hb,hi',hm,hf⟩|hb
  ·simp only[nloop,hb,Option.bind_some]
   rw[nloop_run I μ f h n s' hi' (by omega),hf]
  ·simp only[nloop,hb,Option.bind_some]
theorem wrap64 {x:Int} (h1: -9223372036854775808≤x) (h2:x≤9223372036854775807):IntKind.wrap .i64 x=x:=by
 simp only[IntKind.wrap,IntKind.bits,IntKind.signed]
 simp
 omega
theorem idx_nat {α:Type} (xs:List α) (k:Nat):idx xs (k:Int)=xs[k]? :=by simp[idx]
theorem idx_lt {α:Type} {xs:List α} {k:Nat} (h:k<xs.length):idx xs (k:Int)=some xs[k]:=by simp[idx,h]
theorem inb_nat {k n:Nat} (h:k<n):inb (k:Int) n=some k:=by
 simp only[inb]
 rw[if_pos (by omega)]
 simp
theorem mk_nat {n:Nat} (h:n≤1099511627776):mk (n:Int) (n:Int)=some n:=by
 simp only[mk]
 rw[if_pos (by omega)]
 simp
theorem room_le {n:Nat} (h:n≤1099511627776):room n=some ():=by simp[room,h]
theorem drop_cons {α:Type} {xs:List α} {k:Nat} (h:k<xs.length):xs.drop k=xs[k]::xs.drop (k+1):=List.drop_eq_getElem_cons h
def climb (h:List Int):Nat→Nat→Option (Nat×Nat)
 |0,_=>none
 |f+1,w=>match h[w-1]? with
  |none=>none
  |some x=>if x=0 then some (w,0) else(climb h f x.toNat).map fun p=>(p.1,p.2+1)
def okHead (n:Nat) (x:Int):Bool:=decide (0≤x)&&decide (x≤n)
def inRange (h:List Int):Bool:=h.all (okHead h.length)
def treeB (h:List Int):Bool:=
 decide (1≤h.length)&&decide (h.length≤8)&&inRange h&&(h.count 0==1)&&(List.range h.length).all fun k=>(climb h h.length (k+1)).isSome
theorem all_drop_cons {h:List Int} {p:Int→Bool} {k:Nat} (hk:k<h.length):(h.drop k).all p=(p h[k]&&(h.drop (k+1)).all p):=by
 rw[drop_cons hk];rfl
theorem count_drop_cons {h:List Int} {k:Nat} (hk:k<h.length):(h.drop k).count 0=(if h[k]=0 then 1 else 0)+(h.drop (k+1)).count 0:=by
 rw[drop_cons hk,List.count_cons]
 by_cases e:h[k]=0<;>simp[e]<;>omega
theorem oneRoot_eq (h:List Int) (hl:h.length≤1048576):N3b h=some (inRange h&&(h.count 0==1)):=by
 have hloop:=nloop_run (body:=fun(s:Int×Int)=>((N2v h s.1 h.length s.2).map (Sum.elim (fun(t:Int×Int)=>Sum.inl (t.1,t.2)) (Sum.elim (fun(t:Bool)=>Sum.inr (Sum.inl t)) (fun(t:Int)=>Sum.inr (Sum.inr t)))):Option ((Int×Int)⊕(Bool⊕Int))))
  (I:=fun s=> ∃k r:Nat,s=((r:Int),(k:Int))∧k≤h.length∧r≤k) (μ:=fun s=>h.length-s.2.toNat)
  (f:=fun s=>cond ((h.drop s.2.toNat).all (okHead h.length)) (.inr (s.1+((h.drop s.2.toNat).count 0:Nat))) (.inl false))
  (by
   rintro _ ⟨k,r,rfl,hk,hr⟩
   by_cases hlt:k<h.length
   ·simp only[N2v]
    rw[show decide ((k:Int)<((h.length:Nat):Int))=true from decide_eq_true (by omega)]
    simp only[cond_true,idx_lt hlt,Option.bind_some,Int.toNat_natCast]
    rw[wrap64 (x:=(k:Int)+1) (by omega) (by omega),wrap64 (x:=(r:Int)+1) (by omega) (by omega),all_drop_cons hlt,count_drop_cons hlt]
    by_cases h1:h[k]<0
    ·right
     have:okHead h.length h[k]=false:=by simp[okHead];omega
     simp[h1,this]
    ·by_cases h2:h[k]>(h.length:Int)
     ·right
      have:okHead h.length h[k]=false:=by simp[okHead];omega
      simp[h1,h2,this]
     ·left
      have hok:okHead h.length h[k]=true:=by simp[okHead];omega
      by_cases h3:h[k]=0
      ·refine⟨(((r+1:Nat):Int),((k+1:Nat):Int)),?_,⟨k+1,r+1,rfl,hlt,by omega⟩,by simp;omega,?_⟩
       ·have h4:decide ((h.length:Int)<0)=false:=decide_eq_false (by omega)
        simp[h3,h4]
       ·have e:((k+1:Nat):Int).toNat=k+1:=by simp
        rw[e,hok]
        simp only[h3,if_true,Bool.true_and]
        congr 2
        push_cast
        omega
      ·refine⟨((r:Int),((k+1:Nat):Int)),?_,⟨k+1,r,rfl,hlt,by omega⟩,by simp;omega,?_⟩
       ·have e1:(h[k]==0)=false:=by simpa using h3
        have e2:decide (h[k]<0)=false:=decide_eq_false h1
        have e3:decide (h[k]>(h.length:Int))=false:=decide_eq_false h2
        simp[e1,e2,e3]
       ·have e:((k+1:Nat):Int).toNat=k+1:=by simp
        rw[e,hok]
        simp[h3]
   ·right
    have e:k=h.length:=by omega
    subst e
    simp only[N2v]
    rw[show decide (((h.length:Nat):Int)<((h.length:Nat):Int))=false from decide_eq_false (by omega)]
    simp)
 unfold N3b Nhm N6g Ngx Nhx N6z Nft Nf5
 simp only[Option.bind_some]
 rw[hloop LL (0,0) ⟨0,0,rfl,by omega,by omega⟩ (by simp only[LL];simp;omega)]
 simp only[Int.toNat_zero,List.drop_zero]
 unfold inRange
 cases ha:h.all (okHead h.length) with
 |false=>simp
 |true=>
  simp only[cond_true,Option.map_some,Sum.elim_inr,Option.bind_some,Sum.elim_inl,N8c,Bool.true_and]
  congr 1
  by_cases e:h.count 0=1
  ·simp[e]
  ·have e1:((0:Int)+((h.count 0:Nat):Int)==1)=false:=by rw[beq_eq_false_iff_ne];omega
   have e2:(h.count 0==1)=false:=by rw[beq_eq_false_iff_ne];exact e
   rw[e2];exact e1
theorem inRange_get {h:List Int} (hr:inRange h=true) {k:Nat} (hk:k<h.length):0≤h[k]∧h[k]≤h.length:=by
 have:=List.all_eq_true.1 hr h[k] (List.getElem_mem hk)
 simpa[okHead] using this
theorem up_eq (h:List Int) (k:Nat) (s:Nat) (hk:k<h.length) (hl:h.length≤1048576) (hs:s≤h.length):
  N2g h ((k+1:Nat):Int) (s:Int)=some (if h[k]=0 then(false,((k+1:Nat):Int),(s:Int)) else(true,h[k],((s+1:Nat):Int))):=by
 unfold N2g N7p
 rw[wrap64 (by omega) (by omega),show((k+1:Nat):Int)-1=(k:Int) by omega,idx_lt hk]
 simp only[Option.bind_some]
 rw[wrap64 (by omega) (by omega)]
 by_cases e:h[k]=0
 ·simp[e]
 ·have e1:(h[k]==0)=false:=by simpa using e
  simp[e,e1]
theorem steps_eq (h:List Int) (hl:h.length≤1048576) (hr:inRange h=true) (k:Nat) (hk:k<h.length):
  N2s h ((k+1:Nat):Int)=some (match climb h h.length (k+1) with|some p=>((p.2:Int),true)|none=>(0,false)):=by
 have hloop:=nloop_run (body:=fun(s:Int×Int)=>((N4c h s.1 s.2).map (Sum.elim (fun(t:Int×Int)=>Sum.inl (t.1,t.2)) (Sum.elim (fun(t:Int×Bool)=>Sum.inr (Sum.inl t)) (fun(t:Int×Int)=>Sum.inr (Sum.inr t)))):Option ((Int×Int)⊕((Int×Bool)⊕(Int×Int)))))
  (I:=fun s=> ∃k i:Nat,s=(((k+1:Nat):Int),(i:Int))∧k<h.length∧i<h.length) (μ:=fun s=>h.length-s.2.toNat)
  (f:=fun s=>match climb h (h.length-s.2.toNat) s.1.toNat with|some p=> .inr ((p.1:Int),s.2+(p.2:Int))|none=> .inl (0,false))
  (by
   rintro _ ⟨k,i,rfl,hk,hi⟩
   simp only[N4c]
   rw[up_eq h k i hk hl (by omega)]
   obtain⟨hr1,hr2⟩:=inRange_get hr hk
   have hf:h.length-i=(h.length-i-1)+1:=by omega
   have hg:h[k+1-1]? =some h[k]:=by simp[hk]
   have hcl:climb h (h.length-i) (k+1)=if h[k]=0 then some (k+1,0) else(climb h (h.length-i-1) h[k].toNat).map fun p=>(p.1,p.2+1):=by
    rw[hf];simp only[climb,hg];simp
   simp only[Option.bind_some,Int.toNat_natCast]
   rw[hcl]
   by_cases e:h[k]=0
   ·right
    simp[e]
   ·simp only[e,if_false,cond_true]
    by_cases hlast:i+1≥h.length
    ·right
     have h0:h.length-i-1=0:=by omega
     have hd:decide (((i+1:Nat):Int)≥((h.length:Nat):Int))=true:=decide_eq_true (by omega)
     simp only[hd,h0,climb]
     simp
    ·left
     have hd:decide (((i+1:Nat):Int)≥((h.length:Nat):Int))=false:=decide_eq_false (by omega)
     refine⟨(h[k],((i+1:Nat):Int)),by simp only[hd];simp,⟨h[k].toNat-1,i+1,by
      have:((h[k].toNat-1+1:Nat):Int)=h[k]:=by omega
      rw[this],by omega,by omega⟩,by simp;omega,?_⟩
     have e2:h.length-((i+1:Nat):Int).toNat=h.length-i-1:=by simp;omega
     simp only[e2]
     cases climb h (h.length-i-1) h[k].toNat with
     |none=>rfl
     |some p=>simp;omega)
 unfold N2s Nhr N7g Nd4 Ndx Nhh
 simp only[Option.bind_some]
 rw[hloop LL (((k+1:Nat):Int),0) ⟨k,0,rfl,hk,by omega⟩ (by simp only[LL];simp;omega)]
 simp only[Int.toNat_natCast,Int.toNat_zero,Nat.sub_zero]
 cases climb h h.length (k+1) with
 |none=>simp
 |some p=>simp[N8s]
theorem implTree_eq (h:List Int):N8 h=some (treeB h):=by
 unfold N8 Nf1 N8l Ng6 Nfg N6d Ne3 Nhb
 unfold treeB
 by_cases h1:h.length<1
 ·have e:decide (1≤h.length)=false:=decide_eq_false (by omega)
  have e2:decide ((((h.length:Nat):Int))<1)=true:=decide_eq_true (by omega)
  simp[e,e2]
 ·have e1:decide ((((h.length:Nat):Int))<1)=false:=decide_eq_false (by omega)
  have e1':decide (1≤h.length)=true:=decide_eq_true (by omega)
  by_cases h2:h.length>8
  ·have e:decide (h.length≤8)=false:=decide_eq_false (by omega)
   have e2:decide ((((h.length:Nat):Int))>8)=true:=decide_eq_true (by omega)
   simp only[e1,e2,e]
   simp
  ·have e2:decide ((((h.length:Nat):Int))>8)=false:=decide_eq_false (by omega)
   have e2':decide (h.length≤8)=true:=decide_eq_true (by omega)
   simp only[e1,e2,e1',e2',cond_false,oneRoot_eq h (by omega),Option.bind_some,Bool.true_and]
   cases hr:inRange h with
   |false=>simp
   |true=>
    cases hc:(h.count 0==1) with
    |false=>simp
    |true=>
     simp only[Bool.true_and,Bool.not_true,cond_false,Option.bind_some,Sum.elim_inl]
     have hloop:=nloop_run (body:=fun(s:Int)=>((N47 h h.length s).map (Sum.elim (fun(t:Int)=>Sum.inl t) (Sum.elim (fun(t:Bool)=>Sum.inr (Sum.inl t)) (fun(t:Unit)=>Sum.inr (Sum.inr t)))):Option ((Int)⊕(Bool⊕Unit))))
      (I:=fun s=> ∃k:Nat,s=(k:Int)∧k≤h.length) (μ:=fun s=>h.length-s.toNat)
      (f:=fun s=>cond (((List.range h.length).drop s.toNat).all fun k=>(climb h h.length (k+1)).isSome) (.inr ()) (.inl false))
      (by
       rintro _ ⟨k,rfl,hk⟩
       by_cases hlt:k<h.length
       ·simp only[N47]
        rw[show decide ((k:Int)<((h.length:Nat):Int))=true from decide_eq_true (by omega)]
        rw[wrap64 (x:=(k:Int)+1) (by omega) (by omega),show(k:Int)+1=((k+1:Nat):Int) by omega,steps_eq h (by omega) hr k hlt]
        simp only[cond_true,Option.bind_some,Int.toNat_natCast]
        have hd:(List.range h.length).drop k=k::(List.range h.length).drop (k+1):=by
         rw[List.drop_eq_getElem_cons (by simpa using hlt)]
         simp
        rw[hd]
        simp only[List.all_cons]
        cases hcl:climb h h.length (k+1) with
        |none=>right;simp
        |some p=>
         left
         refine⟨((k+1:Nat):Int),by simp,⟨k+1,rfl,hlt⟩,by simp;omega,by simp⟩
       ·right
        have e:k=h.length:=by omega
        subst e
        simp only[N47]
        rw[show decide (((h.length:Nat):Int)<((h.length:Nat):Int))=false from decide_eq_false (by omega)]
        simp[List.drop_of_length_le (show(List.range h.length).length≤h.length by simp)])
     rw[hloop LL 0 ⟨0,rfl,by omega⟩ (by simp only[LL];simp;omega)]
     simp only[Int.toNat_zero,List.drop_zero]
     cases ((List.range h.length).all fun k=>(climb h h.length (k+1)).isSome)<;>rfl
theorem l1In_eq (a b c:Int):Np a b c=some (decide (b≤a)&&decide (a≤c)):=by
 unfold Np N6e
 by_cases h:a≥b
 ·have e:decide (a≥b)=true:=decide_eq_true h
  rw[e];rfl
 ·have e:decide (a≥b)=false:=decide_eq_false h
  rw[e];rfl
def goUp (h:List Int):Nat→Int→Bool⊕Int
 |0,a=> .inr a
 |f+1,a=>if 0<a then(match h[a.toNat-1]? with
   |some x=>if okHead h.length x then goUp h f x else .inl false
   |none=> .inl false) else .inr a
theorem inner_eq (h:List Int) (hl:h.length≤8) (a:Int) (ha0:0≤a) (ha:a≤h.length):Nc3 h h.length a=some (goUp h h.length a):=by
 unfold Nc3
 have hloop:=nloop_run (body:=fun(s:Int×Int)=>((N4w h h.length s.1 s.2).map (Sum.elim (fun(t:Int×Int)=>Sum.inl (t.1,t.2)) (Sum.elim (fun(t:Bool)=>Sum.inr (Sum.inl t)) (fun(t:Int)=>Sum.inr (Sum.inr t)))):Option ((Int×Int)⊕(Bool⊕Int))))
  (I:=fun s=> ∃k i:Nat,s=((k:Int),(i:Int))∧k≤h.length∧i≤h.length) (μ:=fun s=>h.length-s.2.toNat)
  (f:=fun s=>goUp h (h.length-s.2.toNat) s.1)
  (by
   rintro _ ⟨k,i,rfl,hk,hi⟩
   simp only[N4w,Int.toNat_natCast]
   by_cases h1:0<k
   ·have e1:decide ((k:Int)>0)=true:=decide_eq_true (by omega)
    by_cases h2:i<h.length
    ·have e2:decide ((i:Int)<((h.length:Nat):Int))=true:=decide_eq_true (by omega)
     have hk':k-1<h.length:=by omega
     rw[e1,e2,wrap64 (x:=(k:Int)-1) (by omega) (by omega),show(k:Int)-1=((k-1:Nat):Int) by omega,idx_lt hk',wrap64 (x:=(i:Int)+1) (by omega) (by omega)]
     simp only[cond_true,Option.bind_some,l1In_eq]
     have hf:h.length-i=(h.length-i-1)+1:=by omega
     have hg:goUp h (h.length-i) (k:Int)=if okHead h.length h[k-1] then goUp h (h.length-i-1) h[k-1] else .inl false:=by
      rw[hf]
      simp only[goUp]
      rw[if_pos (by omega)]
      simp[hk']
     rw[hg]
     by_cases h3:okHead h.length h[k-1]=true
     ·left
      have h3':=h3
      simp only[okHead,Bool.and_eq_true,decide_eq_true_eq] at h3'
      refine⟨(h[k-1],((i+1:Nat):Int)),?_,⟨h[k-1].toNat,i+1,by
       have:((h[k-1].toNat:Nat):Int)=h[k-1]:=by omega
       rw[this],by omega,by omega⟩,by simp;omega,?_⟩
      ·have e4:(decide ((0:Int)≤h[k-1])&&decide (h[k-1]≤((h.length:Nat):Int)))=true:=h3
       rw[e4];simp
      ·have e5:h.length-((i+1:Nat):Int).toNat=h.length-i-1:=by simp;omega
       simp only[e5,h3,if_true]
     ·right
      have h3':okHead h.length h[k-1]=false:=by simpa using h3
      have e4:(decide ((0:Int)≤h[k-1])&&decide (h[k-1]≤((h.length:Nat):Int)))=false:=h3'
      rw[e4]
      simp[h3']
    ·right
     have e2:decide ((i:Int)<((h.length:Nat):Int))=false:=decide_eq_false (by omega)
     have h0:h.length-i=0:=by omega
     rw[e1,e2,h0]
     simp[goUp]
   ·right
    have hk0:k=0:=by omega
    subst hk0
    have e1:decide (((0:Nat):Int)>0)=false:=by simp
    rw[e1]
    cases h.length-i<;>simp[goUp])
 exact hloop LL (a,0) ⟨a.toNat,0,by
  have:((a.toNat:Nat):Int)=a:=by omega
  rw[this];rfl,by omega,by omega⟩ (by simp only[LL];simp;omega)
theorem goUp_climb {h:List Int} (hr:inRange h=true): ∀(f k:Nat),k<h.length→goUp h f ((k+1:Nat):Int)=(if(climb h f (k+1)).isSome then .inr 0 else goUp h f ((k+1:Nat):Int))∧
  ((climb h f (k+1)).isSome=false→ ∃a:Int,0<a∧goUp h f ((k+1:Nat):Int)= .inr a)
 |0,k,hk=>by
  refine⟨by simp[climb],fun _=>⟨((k+1:Nat):Int),by omega,rfl⟩⟩
 |f+1,k,hk=>by
  obtain⟨h1,h2⟩:=inRange_get hr hk
  have hok:okHead h.length h[k]=true:=by simp[okHead];omega
  have hg:goUp h (f+1) ((k+1:Nat):Int)=goUp h f h[k]:=by
   simp only[goUp]
   rw[if_pos (by omega)]
   simp[hk,hok]
  have hc:climb h (f+1) (k+1)=if h[k]=0 then some (k+1,0) else(climb h f h[k].toNat).map fun p=>(p.1,p.2+1):=by
   simp[climb,hk]
  rw[hg,hc]
  by_cases e:h[k]=0
  ·have:goUp h f 0= .inr 0:=by cases f<;>simp[goUp]
   simp[e,this]
  ·obtain⟨j,hj⟩: ∃j:Nat,h[k]=((j+1:Nat):Int):=⟨h[k].toNat-1,by omega⟩
   have ih:=goUp_climb hr f j (by omega)
   rw[hj]
   have ne: ¬((j+1:Nat):Int)=0:=by omega
   simp only[ne,if_false,Int.toNat_natCast,Option.isSome_map]
   exact ih
def wordOk1 (h:List Int) (k:Nat):Bool:=match h[k]? with
 |some x=>okHead h.length x&& !(x==((k+1:Nat):Int))&&(match goUp h h.length ((k+1:Nat):Int) with| .inr a=> !decide (a>0)| .inl _=>false)
 |none=>false
theorem specTree_eq0 (h:List Int):Nx h=some (decide (1≤h.length)&&decide (h.length≤8)&&(List.range h.length).all (wordOk1 h)&&(h.count 0==1)):=by
 unfold Nx Nde N73
 rw[l1In_eq]
 by_cases h1:(decide ((1:Int)≤((h.length:Nat):Int))&&decide (((h.length:Nat):Int)≤8))=true
 ·have h1':=h1
  simp only[Bool.and_eq_true,decide_eq_true_eq] at h1'
  have e1:decide (1≤h.length)=true:=decide_eq_true (by omega)
  have e2:decide (h.length≤8)=true:=decide_eq_true (by omega)
  simp only[h1,e1,e2,Option.bind_some,Bool.not_true,cond_false,Sum.elim_inl,Bool.true_and]
  unfold Ng8 Nhy N8o Ney Nd5
  have hloop:=nloop_run (body:=fun(s:Int×Int)=>((N6a h h.length s.1 s.2).map (Sum.elim (fun(t:Int×Int)=>Sum.inl (t.1,t.2)) (Sum.elim (fun(t:Bool)=>Sum.inr (Sum.inl t)) (fun(t:Int)=>Sum.inr (Sum.inr t)))):Option ((Int×Int)⊕(Bool⊕Int))))
   (I:=fun s=> ∃k r:Nat,s=((r:Int),(k:Int))∧k≤h.length∧r≤k) (μ:=fun s=>h.length-s.2.toNat)
   (f:=fun s=>cond (((List.range h.length).drop s.2.toNat).all (wordOk1 h)) (.inr (s.1+((h.drop s.2.toNat).count 0:Nat))) (.inl false))
   (by
    rintro _ ⟨k,r,rfl,hk,hr⟩
    by_cases hlt:k<h.length
    ·have hd:(List.range h.length).drop k=k::(List.range h.length).drop (k+1):=by
      rw[List.drop_eq_getElem_cons (by simpa using hlt)]
      simp
     simp only[N6a,N4r,Int.toNat_natCast]
     rw[show decide ((k:Int)<((h.length:Nat):Int))=true from decide_eq_true (by omega)]
     simp only[cond_true,Option.bind_some,Sum.elim_inl]
     unfold Neo Ndk Ng5 N5d N7f Ndj Ngv N5h Ngc N5p
     have hw:IntKind.wrap .i64 ((k:Int)+1)=((k+1:Nat):Int):=by rw[wrap64 (by omega) (by omega)];omega
     have hw2:IntKind.wrap .i64 ((r:Int)+1)=((r+1:Nat):Int):=by rw[wrap64 (by omega) (by omega)];omega
     simp only[idx_lt hlt,Option.bind_some,l1In_eq,hw,hw2]
     rw[hd,List.all_cons,count_drop_cons hlt]
     have hwk:wordOk1 h k=(okHead h.length h[k]&& !(h[k]==((k+1:Nat):Int))&&(match goUp h h.length ((k+1:Nat):Int) with| .inr a=> !decide (a>0)| .inl _=>false)):=by
      simp[wordOk1,hlt]
     have hin:=inner_eq h (by omega) ((k+1:Nat):Int) (by omega) (by omega)
     rw[hwk]
     cases h3:okHead h.length h[k] with
     |false=>
      right
      have e4:(decide ((0:Int)≤h[k])&&decide (h[k]≤((h.length:Nat):Int)))=false:=h3
      rw[e4];simp
     |true=>
      have e4:(decide ((0:Int)≤h[k])&&decide (h[k]≤((h.length:Nat):Int)))=true:=h3
      rw[e4]
      simp only[Bool.not_true,cond_false,Bool.true_and]
      cases h5:(h[k]==((k+1:Nat):Int)) with
      |true=>right;simp
      |false=>
       simp only[cond_false,Bool.not_false,Bool.true_and]
       by_cases h6:h[k]=0
       ·simp only[h6,beq_self_eq_true,cond_true,Option.bind_some,Sum.elim_inl,Option.map_some,hin,if_true]
        cases h7:goUp h h.length ((k+1:Nat):Int) with
        |inl b=>
         right
         have:b=false:=by
          have key: ∀f a b,goUp h f a= .inl b→b=false:=by
           intro f
           induction f with
           |zero=>intro a b hh;simp[goUp] at hh
           |succ f ih=>
            intro a b hh
            simp only[goUp] at hh
            split at hh
            ·split at hh
             ·split at hh
              ·exact ih _ _ hh
              ·simpa using hh.symm
             ·simpa using hh.symm
            ·cases hh
          exact key _ _ _ h7
         subst this
         simp
        |inr a=>
         by_cases h8:a>0
         ·right
          simp[h8]
         ·left
          refine⟨(((r+1:Nat):Int),((k+1:Nat):Int)),by simp[h8],⟨k+1,r+1,rfl,hlt,by omega⟩,by simp;omega,?_⟩
          have e:((k+1:Nat):Int).toNat=k+1:=by simp
          simp only[e,h8,decide_false,Bool.not_false,Bool.true_and]
          congr 2
          push_cast
          omega
       ·have e9:(h[k]==0)=false:=by simpa using h6
        simp only[e9,cond_false,Option.bind_some,Sum.elim_inl,Option.map_some,hin,h6,if_false]
        cases h7:goUp h h.length ((k+1:Nat):Int) with
        |inl b=>
         right
         have:b=false:=by
          have key: ∀f a b,goUp h f a= .inl b→b=false:=by
           intro f
           induction f with
           |zero=>intro a b hh;simp[goUp] at hh
           |succ f ih=>
            intro a b hh
            simp only[goUp] at hh
            split at hh
            ·split at hh
             ·split at hh
              ·exact ih _ _ hh
              ·simpa using hh.symm
             ·simpa using hh.symm
            ·cases hh
          exact key _ _ _ h7
         subst this
         simp
        |inr a=>
         by_cases h8:a>0
         ·right
          simp[h8]
         ·left
          refine⟨((r:Int),((k+1:Nat):Int)),by simp[h8],⟨k+1,r,rfl,hlt,by omega⟩,by simp;omega,?_⟩
          have e:((k+1:Nat):Int).toNat=k+1:=by simp
          simp only[e,h8,decide_false,Bool.not_false,Bool.true_and]
          congr 2
          omega
    ·right
     have e:k=h.length:=by omega
     subst e
     simp only[N6a,N4r]
     rw[show decide (((h.length:Nat):Int)<((h.length:Nat):Int))=false from decide_eq_false (by omega)]
     simp[List.drop_of_length_le (show(List.range h.length).length≤h.length by simp)])
  simp only[Option.bind_some]
  rw[hloop LL (0,0) ⟨0,0,rfl,by omega,by omega⟩ (by simp only[LL];simp;omega)]
  simp only[Int.toNat_zero,List.drop_zero,Option.bind_some]
  cases (List.range h.length).all (wordOk1 h) with
  |false=>simp
  |true=>
   simp only[cond_true,Option.map_some,Sum.elim_inr,Option.bind_some,Sum.elim_inl,N6w,Bool.true_and]
   congr 1
   by_cases e:h.count 0=1
   ·simp[e]
   ·have e1:((0:Int)+((h.count 0:Nat):Int)==1)=false:=by rw[beq_eq_false_iff_ne];omega
    have e2:(h.count 0==1)=false:=by rw[beq_eq_false_iff_ne];exact e
    rw[e2];exact e1
 ·have h1':(decide ((1:Int)≤((h.length:Nat):Int))&&decide (((h.length:Nat):Int)≤8))=false:=by simpa using h1
  have e:(decide (1≤h.length)&&decide (h.length≤8))=false:=by
   simp only[Bool.and_eq_true,decide_eq_true_eq] at h1
   simp only[Bool.and_eq_false_iff,decide_eq_false_iff_not]
   omega
  rw[h1']
  simp[e]
theorem specTree_eq (h:List Int):Nx h=some (treeB h):=by
 rw[specTree_eq0]
 congr 1
 unfold treeB
 have key:(List.range h.length).all (wordOk1 h)=(inRange h&&(List.range h.length).all fun k=>(climb h h.length (k+1)).isSome):=by
  cases hr:inRange h with
  |false=>
   rw[Bool.false_and,List.all_eq_false]
   have: ¬ ∀x∈h,okHead h.length x=true:=fun hh=>by
    have:inRange h=true:=List.all_eq_true.2 hh
    rw[hr] at this;cases this
   have⟨x,hx⟩:=Classical.not_forall.1 this
   have⟨hm,hb⟩:=Classical.not_imp.1 hx
   obtain⟨k,hk,rfl⟩:=List.getElem_of_mem hm
   refine⟨k,by simpa using hk,?_⟩
   simp[wordOk1,hk,hb]
  |true=>
   rw[Bool.true_and,Bool.eq_iff_iff,List.all_eq_true,List.all_eq_true]
   constructor
   ·intro hh k hk
    have hk':k<h.length:=by simpa using hk
    have h1:=hh k hk
    cases hc:(climb h h.length (k+1)).isSome with
    |true=>rfl
    |false=>
     obtain⟨a,ha,hg⟩:=(goUp_climb hr h.length k hk').2 hc
     have hg':goUp h h.length ((k:Int)+1)= .inr a:=hg
     simp[wordOk1,hk',hg',ha] at h1
   ·intro hh k hk
    have hk':k<h.length:=by simpa using hk
    have h1:=hh k hk
    have h2:=(goUp_climb hr h.length k hk').1
    rw[if_pos h1] at h2
    obtain⟨h3,h4⟩:=inRange_get hr hk'
    have hok:okHead h.length h[k]=true:=by simp[okHead];omega
    have hself: ¬h[k]=((k+1:Nat):Int):=fun e=>by
     have none: ∀f,climb h f (k+1)=none:=by
      intro f
      induction f with
      |zero=>rfl
      |succ f ih=>
       simp only[climb]
       have:h[k+1-1]? =some h[k]:=by simp[hk']
       rw[this]
       simp only
       rw[if_neg (by omega),e]
       simp[ih]
     rw[none] at h1
     cases h1
    have h2':goUp h h.length ((k:Int)+1)= .inr 0:=h2
    have hself': ¬h[k]=(k:Int)+1:=hself
    simp[wordOk1,hk',hok,h2',hself']
 rw[key]
 cases inRange h<;>simp[Bool.and_comm,Bool.and_assoc,Bool.and_left_comm]
theorem climb_mono {h:List Int}: ∀{f w:Nat} {p:Nat×Nat},climb h f w=some p→climb h (f+1) w=some p
 |0,w,p,e=>by simp[climb] at e
 |f+1,w,p,e=>by
  simp only[climb] at e
  rw[climb]
  split at e
  ·cases e
  ·rename_i x hx
   split at e
   ·rename_i h0
    simp only[h0,if_true];exact e
   ·rename_i h0
    simp only[h0,if_false]
    obtain⟨q,hq,rfl⟩:=Option.map_eq_some_iff.1 e
    rw[climb_mono hq];rfl
theorem climb_le {h:List Int} {f g w:Nat} {p:Nat×Nat} (hfg:f≤g) (e:climb h f w=some p):climb h g w=some p:=by
 induction hfg with
 |refl=>exact e
 |step _ ih=>exact climb_mono ih
theorem climb_lt {h:List Int}: ∀{f w:Nat} {p:Nat×Nat},climb h f w=some p→p.2<f
 |0,w,p,e=>by simp[climb] at e
 |f+1,w,p,e=>by
  simp only[climb] at e
  split at e
  ·cases e
  ·split at e
   ·cases e;simp
   ·obtain⟨q,hq,rfl⟩:=Option.map_eq_some_iff.1 e
    have:=climb_lt hq
    simp;omega
theorem climb_root {h:List Int}: ∀{f w:Nat} {p:Nat×Nat},climb h f w=some p→h[p.1-1]? =some 0
 |0,w,p,e=>by simp[climb] at e
 |f+1,w,p,e=>by
  simp only[climb] at e
  split at e
  ·cases e
  ·rename_i x hx
   split at e
   ·rename_i h0
    cases e
    rw[hx,h0]
   ·obtain⟨q,hq,rfl⟩:=Option.map_eq_some_iff.1 e
    show h[q.1-1]? =some 0
    exact climb_root hq
theorem climb_pos {h:List Int} (hr:inRange h=true): ∀{f w:Nat} {p:Nat×Nat},1≤w→climb h f w=some p→1≤p.1
 |0,w,p,_,e=>by simp[climb] at e
 |f+1,w,p,hw,e=>by
  simp only[climb] at e
  split at e
  ·cases e
  ·rename_i x hx
   split at e
   ·cases e;exact hw
   ·rename_i h0
    obtain⟨q,hq,rfl⟩:=Option.map_eq_some_iff.1 e
    obtain⟨hlt,hx'⟩:=List.getElem?_eq_some_iff.1 hx
    have:=inRange_get hr hlt
    show 1≤q.1
    exact climb_pos hr (by rw[hx'] at this;omega) hq
structure Tree (h:List Int):Prop where
 pos:1≤h.length
 le:h.length≤8
 rng:inRange h=true
 one:h.count 0=1
 way: ∀k,k<h.length→(climb h h.length (k+1)).isSome=true
theorem tree_iff (h:List Int):treeB h=true↔Tree h:=by
 unfold treeB
 simp only[Bool.and_eq_true,decide_eq_true_eq,beq_iff_eq,List.all_eq_true]
 constructor
 ·rintro⟨⟨⟨⟨h1,h2⟩,h3⟩,h4⟩,h5⟩
  exact⟨h1,h2,h3,h4,fun k hk=>h5 k (by simpa using hk)⟩
 ·rintro⟨h1,h2,h3,h4,h5⟩
  exact⟨⟨⟨⟨h1,h2⟩,h3⟩,h4⟩,fun k hk=>h5 k (by simpa using hk)⟩
def hd (h:List Int) (w:Nat):Nat:=(h.getD (w-1) 0).toNat
def dep (h:List Int) (w:Nat):Nat:=((climb h h.length w).getD (0,0)).2
def top (h:List Int):Nat:=h.idxOf 0+1
theorem top_pos (h:List Int):1≤top h:=by simp[top]
section
variable {h : List Int} (T : Tree h)
include T
theorem Tree.get {w:Nat} (h1:1≤w) (h2:w≤h.length):h[w-1]? =some ((hd h w:Nat):Int):=by
 have hk:w-1<h.length:=by omega
 have:=inRange_get T.rng hk
 rw[List.getElem?_eq_getElem hk,hd,List.getD_eq_getElem?_getD,List.getElem?_eq_getElem hk]
 simp only[Option.getD_some,Option.some.injEq]
 omega
theorem Tree.hd_le {w:Nat} (h1:1≤w) (h2:w≤h.length):hd h w≤h.length:=by
 have hk:w-1<h.length:=by omega
 have:=inRange_get T.rng hk
 rw[hd,List.getD_eq_getElem?_getD,List.getElem?_eq_getElem hk]
 simp only[Option.getD_some]
 omega
theorem Tree.top_lt:h.idxOf 0<h.length:=by
 rw[List.idxOf_lt_length_iff]
 exact List.count_pos_iff.1 (by rw[T.one];omega)
theorem Tree.top_le:top h≤h.length:=T.top_lt
theorem Tree.root_unique {i:Nat} (hi:h[i]? =some 0):i=h.idxOf 0:=by
 have hlt:=T.top_lt
 have h0:h[h.idxOf 0]? =some 0:=by rw[List.getElem?_eq_getElem hlt];simp
 have two: ∀(l:List Int) (i j:Nat),i<j→l[i]? =some 0→l[j]? =some 0→2≤l.count 0:=by
  intro l
  induction l with
  |nil=>intro i j _ h1;simp at h1
  |cons a r ih=>
   intro i j hij h1 h2
   cases j with
   |zero=>omega
   |succ j=>
    rw[List.count_cons]
    cases i with
    |zero=>
     simp at h1 h2
     have:0<r.count 0:=List.count_pos_iff.2 (List.mem_of_getElem? h2)
     rw[h1]
     simp only[beq_self_eq_true,if_true]
     omega
    |succ i=>
     simp at h1 h2
     have:=ih i j (by omega) h1 h2
     omega
 rcases Nat.lt_trichotomy i (h.idxOf 0) with hl|he|hg
 ·have:=two h i _ hl hi h0;have:=T.one;omega
 ·exact he
 ·have:=two h _ i hg h0 hi;have:=T.one;omega
theorem Tree.hd_zero {w:Nat} (h1:1≤w) (h2:w≤h.length):hd h w=0↔w=top h:=by
 have hg:=T.get h1 h2
 constructor
 ·intro e
  rw[e] at hg
  have:=T.root_unique hg
  unfold top;omega
 ·intro e
  have hlt:=T.top_lt
  have h0:h[h.idxOf 0]? =some 0:=by rw[List.getElem?_eq_getElem hlt];simp
  have:w-1=h.idxOf 0:=by unfold top at e;omega
  rw[this,h0] at hg
  simp at hg
  omega
theorem Tree.climb_some {w:Nat} (h1:1≤w) (h2:w≤h.length):climb h h.length w=some (top h,dep h w):=by
 have hs:=T.way (w-1) (by omega)
 rw[show w-1+1=w by omega] at hs
 obtain⟨p,hp⟩:=Option.isSome_iff_exists.1 hs
 have hr:=climb_root hp
 have h3:=T.root_unique hr
 have h4:=climb_pos T.rng h1 hp
 have e1:p.1=top h:=by unfold top;omega
 have e2:dep h w=p.2:=by simp[dep,hp]
 rw[hp,e2,←e1]
theorem Tree.dep_lt {w:Nat} (h1:1≤w) (h2:w≤h.length):dep h w<h.length:=by
 have:=climb_lt (T.climb_some h1 h2)
 exact this
theorem Tree.dep_top:dep h (top h)=0:=by
 have h1:=T.climb_some (top_pos h) T.top_le
 have hg:=T.get (top_pos h) T.top_le
 rw[(T.hd_zero (top_pos h) T.top_le).2 rfl] at hg
 obtain⟨n,hn⟩: ∃n,h.length=n+1:=⟨h.length-1,by have:=T.pos;omega⟩
 rw[hn] at h1
 simp only[climb,hg] at h1
 simp at h1
 exact h1.symm
theorem Tree.dep_step {w:Nat} (h1:1≤w) (h2:w≤h.length) (h3:hd h w≠0):dep h w=dep h (hd h w)+1:=by
 have hc:=T.climb_some h1 h2
 have hg:=T.get h1 h2
 have hc2:=T.climb_some (w:=hd h w) (by omega) (T.hd_le h1 h2)
 obtain⟨n,hn⟩: ∃n,h.length=n+1:=⟨h.length-1,by have:=T.pos;omega⟩
 rw[hn] at hc
 simp only[climb,hg] at hc
 rw[if_neg (by omega)] at hc
 simp only[Int.toNat_natCast] at hc
 obtain⟨q,hq,e⟩:=Option.map_eq_some_iff.1 hc
 have hq2:=climb_le (show n≤h.length by omega) hq
 rw[hc2] at hq2
 cases hq2
 simp at e
 exact e.symm
theorem Tree.dep_zero {w:Nat} (h1:1≤w) (h2:w≤h.length):dep h w=0↔w=top h:=by
 constructor
 ·intro e
  by_cases h3:hd h w=0
  ·exact(T.hd_zero h1 h2).1 h3
  ·have:=T.dep_step h1 h2 h3;omega
 ·intro e;rw[e];exact T.dep_top
end
theorem set_take {l:List Int} {k:Nat} {v:Int} (hk:k<l.length):(l.set k v).take (k+1)=l.take k++ [v]:=by
 rw[List.take_set,List.take_add_one,List.getElem?_eq_getElem hk]
 have hl:(l.take k).length=k:=by simp;omega
 rw[List.set_append_right _ _ (by omega),hl]
 simp
def dupB (o:List Int):Bool:=(List.range o.length).any fun j=>(List.range j).any fun i=>o.getD i 0==o.getD j 0
def orderAll (o:List Int) (m:Int):Bool:=o.all (fun x=>decide (1≤x)&&decide (x≤m))&& !dupB o
def orderB (o:List Int) (m:Int):Bool:=decide (1≤m)&&decide (m≤8)&&(((o.length:Nat):Int)==m)&&orderAll o m
def OrderP (o:List Int) (m:Int):Prop:=(∀(k:Nat) (hk:k<o.length),1≤o[k]∧o[k]≤m)∧ ∀(i j:Nat) (hij:i<j) (hj:j<o.length),o[i]≠o[j]
theorem orderAll_iff (o:List Int) (m:Int):orderAll o m=true↔OrderP o m:=by
 unfold orderAll dupB OrderP
 simp only[Bool.and_eq_true,List.all_eq_true,decide_eq_true_eq,Bool.not_eq_true',List.any_eq_false,List.mem_range]
 constructor
 ·rintro⟨h1,h2⟩
  refine⟨fun k hk=>h1 _ (List.getElem_mem hk),fun i j hij hj e=> ?_⟩
  have:=h2 j hj
  rw[List.any_eq_true] at this
  refine this ⟨i,by simpa using hij,?_⟩
  simp[List.getD,hj,show i<o.length by omega,e]
 ·rintro⟨h1,h2⟩
  refine⟨fun x hx=> ?_,fun j hj=> ?_⟩
  ·obtain⟨k,hk,rfl⟩:=List.getElem_of_mem hx
   exact h1 k hk
  ·rw[List.any_eq_true]
   rintro⟨i,hi,e⟩
   have hi':i<j:=by simpa using hi
   simp only[List.getD,List.getElem?_eq_getElem hj,List.getElem?_eq_getElem (show i<o.length by omega),Option.getD_some,beq_iff_eq] at e
   exact h2 i j hi' hj e
theorem orderAll_false {o:List Int} {m:Int} (h: ¬OrderP o m):orderAll o m=false:=by
 cases e:orderAll o m with
 |false=>rfl
 |true=>exact absurd ((orderAll_iff o m).1 e) h
theorem mem_take {o:List Int} {k:Nat} {x:Int} (hk:k≤o.length):x∈o.take k↔ ∃(i:Nat) (hi:i<k),o[i]'(by omega)=x:=by
 constructor
 ·intro h
  obtain⟨i,hi,e⟩:=List.getElem_of_mem h
  have hi':i<k:=by simp at hi;omega
  exact⟨i,hi',by simpa using e⟩
 ·rintro⟨i,hi,e⟩
  have:(o.take k)[i]'(by simp;omega)=x:=by simpa using e
  rw[←this];exact List.getElem_mem _
theorem implOrder_eq (o:List Int) (m:Int):N42 o m=some (orderB o m):=by
 unfold N42 Ngo N64 Ni4 Nho N70 Ngp Nfv N7u orderB
 by_cases h1:m<1
 ·rw[decide_eq_true h1,show decide (1≤m)=false from decide_eq_false (by omega)];rfl
 rw[decide_eq_false h1,show decide (1≤m)=true from decide_eq_true (by omega)]
 by_cases h2:m>8
 ·rw[decide_eq_true h2,show decide (m≤8)=false from decide_eq_false (by omega)];rfl
 rw[decide_eq_false h2,show decide (m≤8)=true from decide_eq_true (by omega)]
 by_cases h3:((o.length:Nat):Int)=m
 ·rw[show(((o.length:Nat):Int) !=m)=false by simp[h3],show(((o.length:Nat):Int)==m)=true by simp[h3]]
  simp only[cond_false,Option.bind_some,Sum.elim_inl,Bool.true_and]
  have hloop:=nloop_run (body:=fun(s:Int×(List Bool))=>((N57 m o o.length s.1 s.2).map (Sum.elim (fun(t:Int×(List Bool))=>Sum.inl (t.1,t.2)) (Sum.elim (fun(t:Bool)=>Sum.inr (Sum.inl t)) (fun(t:Unit)=>Sum.inr (Sum.inr t)))):Option ((Int×(List Bool))⊕(Bool⊕Unit))))
   (I:=fun s=> ∃k:Nat,s.1=(k:Int)∧k≤o.length∧s.2.length=9∧(∀v:Nat,v<9→s.2[v]? =some (decide ((v:Int)∈o.take k)))∧OrderP (o.take k) m) (μ:=fun s=>o.length-s.1.toNat)
   (f:=fun _=>cond (orderAll o m) (.inr ()) (.inl false))
   (by
    rintro⟨_,seen⟩ ⟨k,rfl,hk,hs,hseen,hP⟩
    simp only at hs hseen
    simp only[N57]
    by_cases hlt:k<o.length
    ·rw[show decide ((k:Int)<((o.length:Nat):Int))=true from decide_eq_true (by omega),idx_lt hlt,wrap64 (by omega) (by omega)]
     simp only[cond_true,Option.bind_some]
     by_cases c1:o[k]<1
     ·right
      rw[decide_eq_true c1,orderAll_false (fun hh=>by have:=(hh.1 k hlt).1;omega)]
      rfl
     rw[decide_eq_false c1]
     by_cases c2:o[k]>m
     ·right
      rw[decide_eq_true c2,orderAll_false (fun hh=>by have:=(hh.1 k hlt).2;omega)]
      rfl
     rw[decide_eq_false c2]
     obtain⟨v,hv⟩: ∃v:Nat,o[k]=(v:Int):=⟨o[k].toNat,by omega⟩
     have hv9:v<9:=by omega
     have hin:inb o[k] 9=some v:=by rw[hv];exact inb_nat hv9
     have hsame:same seen.length 9=some ():=by simp[same,hs]
     simp only[cond_false,hsame,hin,Option.bind_some,hseen v hv9]
     by_cases c3:(v:Int)∈o.take k
     ·right
      rw[decide_eq_true c3]
      obtain⟨i,hi,e⟩:=(mem_take hk).1 c3
      rw[orderAll_false (fun hh=>hh.2 i k hi hlt (by rw[e,hv]))]
      rfl
     ·left
      rw[decide_eq_false c3]
      refine⟨(((k+1:Nat):Int),seen.set v true),by simp,⟨k+1,rfl,hlt,by simpa using hs,fun u hu=> ?_,?_⟩,by simp;omega,trivial⟩
      ·rw[List.take_add_one,List.getElem?_eq_getElem hlt,hv]
       simp only[Option.toList_some,List.mem_append,List.mem_singleton]
       by_cases e:v=u
       ·subst e
        simp[hs,hv9]
       ·rw[List.getElem?_set_ne e,hseen u hu]
        have: ¬(u:Int)=(v:Int):=by omega
        simp[this]
      ·have hl:(o.take (k+1)).length=k+1:=by simp;omega
       refine⟨fun i hi=> ?_,fun i j hij hj=> ?_⟩
       ·rw[hl] at hi
        rw[List.getElem_take]
        by_cases e:i=k
        ·subst e;omega
        ·have:=hP.1 i (by simp;omega)
         rwa[List.getElem_take] at this
       ·rw[hl] at hj
        rw[List.getElem_take,List.getElem_take]
        by_cases e:j=k
        ·subst e
         intro hh
         exact c3 ((mem_take hk).2 ⟨i,hij,by rw[hh,hv]⟩)
        ·have:=hP.2 i j hij (by simp;omega)
         rwa[List.getElem_take,List.getElem_take] at this
    ·right
     have e:k=o.length:=by omega
     subst e
     rw[List.take_length] at hP
     rw[show decide (((o.length:Nat):Int)<((o.length:Nat):Int))=false from decide_eq_false (by omega),(orderAll_iff o m).2 hP]
     rfl)
  rw[hloop LL (0,List.replicate 9 false) ⟨0,by simp,by omega,by simp,fun v hv=>by rw[List.getElem?_replicate,if_pos hv];simp,⟨fun k hk=>by simp at hk,fun i j hij hj=>by simp at hj⟩⟩ (by simp only[LL];simp;omega)]
  cases orderAll o m<;>rfl
 ·rw[show(((o.length:Nat):Int) !=m)=true by simp[h3],show(((o.length:Nat):Int)==m)=false by simp[h3]]
  rfl
def placesK (o:List Int) (k:Nat):List Int:=(List.range (o.length+1)).map fun(v:Nat)=>if(v:Int)∈o.take k then(o.idxOf (v:Int):Int)+1 else 0
def placesL (o:List Int):List Int:=placesK o o.length
theorem placesK_length (o:List Int) (k:Nat):(placesK o k).length=o.length+1:=by simp[placesK]
theorem placesK_get (o:List Int) (k v:Nat) (hv:v<o.length+1):(placesK o k)[v]? =some (if(v:Int)∈o.take k then(o.idxOf (v:Int):Int)+1 else 0):=by
 simp[placesK,hv]
theorem idxOf_get {o:List Int} {m:Int} (hP:OrderP o m) {k:Nat} (hk:k<o.length):o.idxOf o[k]=k:=by
 have hm:o[k]∈o:=List.getElem_mem hk
 have hlt:o.idxOf o[k]<o.length:=List.idxOf_lt_length_iff.2 hm
 have he:o[o.idxOf o[k]]=o[k]:=by simp
 rcases Nat.lt_trichotomy (o.idxOf o[k]) k with h|h|h
 ·exact absurd he (hP.2 _ _ h hk)
 ·exact h
 ·exact absurd he.symm (hP.2 _ _ h hlt)
theorem placesK_step {o:List Int} (hP:OrderP o (o.length:Nat)) {k v:Nat} (hk:k<o.length) (hv:o[k]=(v:Int)):(placesK o k).set v ((k+1:Nat):Int)=placesK o (k+1):=by
 have hr:=hP.1 k hk
 apply List.ext_getElem?
 intro u
 by_cases hu:u<o.length+1
 ·rw[placesK_get o (k+1) u hu]
  rw[List.take_add_one,List.getElem?_eq_getElem hk,hv]
  simp only[Option.toList_some,List.mem_append,List.mem_singleton]
  by_cases e:v=u
  ·subst e
   rw[List.getElem?_set_self (by rw[placesK_length];omega)]
   have hidx:o.idxOf (v:Int)=k:=by rw[←hv];exact idxOf_get hP hk
   simp[hidx]
  ·rw[List.getElem?_set_ne e,placesK_get o k u hu]
   have: ¬(u:Int)=(v:Int):=by omega
   simp[this]
 ·rw[List.getElem?_eq_none (by rw[List.length_set,placesK_length];omega),List.getElem?_eq_none (by rw[placesK_length];omega)]
theorem placesK_zero (o:List Int):placesK o 0=List.replicate (o.length+1) 0:=by
 apply List.ext_getElem?
 intro u
 by_cases hu:u<o.length+1
 ·rw[placesK_get o 0 u hu,List.getElem?_replicate,if_pos hu];simp
 ·rw[List.getElem?_eq_none (by rw[placesK_length];omega),List.getElem?_eq_none (by simp;omega)]
theorem places_loop (o:List Int) (hl:o.length≤8) (hP:OrderP o (o.length:Nat)):
  nloop (fun(s:Int×(List Int))=>((N3d o o.length s.1 s.2).map (Sum.elim (fun(t:Int×(List Int))=>Sum.inl (t.1,t.2)) (fun(t:(List Int))=>Sum.inr t)):Option ((Int×(List Int))⊕(((List Int)))))) LL (0,List.replicate (o.length+1) 0)=some (placesL o):=by
 have hloop:=nloop_run (body:=fun(s:Int×(List Int))=>((N3d o o.length s.1 s.2).map (Sum.elim (fun(t:Int×(List Int))=>Sum.inl (t.1,t.2)) (fun(t:(List Int))=>Sum.inr t)):Option ((Int×(List Int))⊕(((List Int))))))
  (I:=fun s=> ∃k:Nat,s=((k:Int),placesK o k)∧k≤o.length) (μ:=fun s=>o.length-s.1.toNat) (f:=fun _=>placesL o)
  (by
   rintro _ ⟨k,rfl,hk⟩
   simp only[N3d]
   by_cases hlt:k<o.length
   ·left
    have hr:=hP.1 k hlt
    obtain⟨v,hv⟩: ∃v:Nat,o[k]=(v:Int):=⟨o[k].toNat,by omega⟩
    refine⟨(((k+1:Nat):Int),placesK o (k+1)),?_,⟨k+1,rfl,hlt⟩,by simp;omega,trivial⟩
    rw[show decide ((k:Int)<((o.length:Nat):Int))=true from decide_eq_true (by omega),idx_lt hlt,wrap64 (by omega) (by omega)]
    have hin:inb o[k] (placesK o k).length=some v:=by rw[hv,placesK_length];exact inb_nat (by omega)
    simp only[cond_true,Option.bind_some,hin]
    rw[show(k:Int)+1=((k+1:Nat):Int) by omega,placesK_step hP hlt hv]
    rfl
   ·right
    have e:k=o.length:=by omega
    subst e
    rw[show decide (((o.length:Nat):Int)<((o.length:Nat):Int))=false from decide_eq_false (by omega)]
    rfl)
 have:=hloop LL (0,placesK o 0) ⟨0,rfl,by omega⟩ (by simp only[LL];simp;omega)
 rw[placesK_zero] at this
 exact this
theorem implPlaces_eq (o:List Int) (hl:o.length≤8) (hP:OrderP o (o.length:Nat)):N2m o=some (placesL o):=by
 unfold N2m Nfk N6y Nh8 Nga N6p Ndr Nfz N6r
 rw[wrap64 (by omega) (by omega),show((o.length:Nat):Int)+1=((o.length+1:Nat):Int) by omega,mk_nat (by omega)]
 simp only[Option.bind_some]
 rw[places_loop o hl hP]
 rfl
def newHd (h o:List Int) (k:Nat):Int:=(placesL o).getD (h.getD (o.getD k 0-1).toNat 0).toNat 0
def putRow (h o:List Int):List Int:=(List.range o.length).map (newHd h o)
theorem putRow_length (h o:List Int):(putRow h o).length=o.length:=by simp[putRow]
theorem putRow_drop (h o:List Int) {k:Nat} (hk:k<o.length):(putRow h o).drop k=newHd h o k::(putRow h o).drop (k+1):=by
 rw[List.drop_eq_getElem_cons (by rw[putRow_length];exact hk)]
 simp[putRow]
theorem put_reads {h o:List Int} (T:Tree h) (hl:o.length=h.length) (hP:OrderP o (o.length:Nat)) {k:Nat} (hk:k<o.length):
  ∃w x:Nat,o[k]=((w+1:Nat):Int)∧w<h.length∧h[w]? =some (x:Int)∧x<o.length+1∧(placesL o)[x]? =some (newHd h o k):=by
 have hr:=hP.1 k hk
 refine⟨o[k].toNat-1,(h[o[k].toNat-1]'(by omega)).toNat,by omega,by omega,?_,?_,?_⟩
 ·have:=inRange_get T.rng (k:=o[k].toNat-1) (by omega)
  rw[List.getElem?_eq_getElem (by omega)]
  simp only[Option.some.injEq]
  omega
 ·have:=inRange_get T.rng (k:=o[k].toNat-1) (by omega);omega
 ·have h1:=inRange_get T.rng (k:=o[k].toNat-1) (by omega)
  have hx:(h[o[k].toNat-1]'(by omega)).toNat<(placesL o).length:=by rw[placesL,placesK_length];omega
  rw[List.getElem?_eq_getElem hx]
  have e1:o.getD k 0=o[k]:=by simp[List.getD,hk]
  have e2:h.getD (o[k]-1).toNat 0=h[o[k].toNat-1]'(by omega):=by
   rw[show(o[k]-1).toNat=o[k].toNat-1 by omega]
   simp[List.getD,show o[k].toNat-1<h.length by omega]
  simp only[newHd,e1,e2]
  simp[List.getD,hx]
theorem implPut_eq (h o:List Int):N1h h o=some (if treeB h&&orderB o h.length then(true,putRow h o) else(false,[])):=by
 unfold N1h N6h
 rw[implTree_eq,implOrder_eq]
 cases hT:treeB h with
 |false=>simp
 |true=>
  cases hO:orderB o h.length with
  |false=>simp
  |true=>
   have T:=(tree_iff h).1 hT
   unfold orderB at hO
   simp only[Bool.and_eq_true,decide_eq_true_eq,beq_iff_eq] at hO
   obtain⟨⟨_,hlen⟩,hA⟩:=hO
   have hl:o.length=h.length:=by omega
   have hle:=T.le
   have hP:OrderP o (o.length:Nat):=by rw[hl];exact(orderAll_iff o _).1 hA
   simp only[Option.bind_some,Bool.not_true,cond_false,implPlaces_eq o (by omega) hP,Bool.and_self,if_true]
   unfold N4l Nf7 N87 Ngm Nez N77 Nfh Neq N86
   rw[mk_nat (by omega)]
   simp only[Option.bind_some]
   have hloop:=nloop_run (body:=fun(s:Int×(List Int))=>((N48 h o o.length s.1 (placesL o) s.2).map (Sum.elim (fun(t:Int×(List Int))=>Sum.inl (t.1,t.2)) (fun(t:(List Int))=>Sum.inr t)):Option ((Int×(List Int))⊕(((List Int))))))
    (I:=fun s=> ∃k:Nat,s.1=(k:Int)∧k≤o.length∧s.2.length=o.length) (μ:=fun s=>o.length-s.1.toNat) (f:=fun s=>s.2.take s.1.toNat++(putRow h o).drop s.1.toNat)
    (by
     rintro⟨_,out⟩ ⟨k,rfl,hk,ho⟩
     simp only at ho
     simp only[N48]
     by_cases hlt:k<o.length
     ·left
      obtain⟨w,x,h1,hw,h2,h3,h4⟩:=put_reads T hl hP hlt
      refine⟨(((k+1:Nat):Int),out.set k (newHd h o k)),?_,⟨k+1,rfl,hlt,by simpa using ho⟩,by simp;omega,?_⟩
      ·rw[show decide ((k:Int)<((o.length:Nat):Int))=true from decide_eq_true (by omega),idx_lt hlt]
       simp only[cond_true,Option.bind_some]
       rw[h1,wrap64 (x:=((w+1:Nat):Int)-1) (by omega) (by omega),show((w+1:Nat):Int)-1=(w:Int) by omega,idx_nat,h2,wrap64 (by omega) (by omega)]
       have hin:N3m (x:Int) (placesL o)=some (newHd h o k):=by
        unfold N3m N7t
        rw[inb_nat (by rw[placesL,placesK_length];exact h3)]
        simp only[Option.bind_some,h4]
       simp only[Option.bind_some,hin,inb_nat (show k<out.length by omega)]
       simp
      ·simp only[Int.toNat_natCast]
       rw[set_take (by omega),putRow_drop h o hlt]
       simp
     ·right
      have e:k=o.length:=by omega
      subst e
      rw[show decide (((o.length:Nat):Int)<((o.length:Nat):Int))=false from decide_eq_false (by omega)]
      simp[List.take_of_length_le (Nat.le_of_eq ho),List.drop_of_length_le (Nat.le_of_eq (putRow_length h o))])
   rw[hloop LL (0,List.replicate o.length 0) ⟨0,by simp,by omega,by simp⟩ (by simp only[LL];simp;omega)]
   simp
theorem orderP_iff (o:List Int) (m:Int):OrderP o m↔(∀x∈o,1≤x∧x≤m)∧o.Nodup:=by
 unfold OrderP List.Nodup
 rw[List.pairwise_iff_getElem]
 constructor
 ·rintro⟨h1,h2⟩
  refine⟨fun x hx=> ?_,fun i j hi hj hij=>h2 i j hij hj⟩
  obtain⟨k,hk,rfl⟩:=List.getElem_of_mem hx
  exact h1 k hk
 ·rintro⟨h1,h2⟩
  exact⟨fun k hk=>h1 _ (List.getElem_mem hk),fun i j hij hj=>h2 i j (by omega) hj hij⟩
theorem order_mem {o:List Int} (hP:OrderP o (o.length:Nat)) {v:Int} (h1:1≤v) (h2:v≤(o.length:Nat)):v∈o:=by
 rw[orderP_iff] at hP
 obtain⟨hr,hn⟩:=hP
 apply Classical.byContradiction
 intro hv
 have hn':(v::o).Nodup:=List.nodup_cons.2 ⟨hv,hn⟩
 have:=List.Nodup.length_le_of_subset (l₂:=(List.range o.length).map fun k=>((k+1:Nat):Int)) hn' (by
  intro x hx
  rw[List.mem_map]
  have hx':1≤x∧x≤(o.length:Nat):=by
   rcases List.mem_cons.1 hx with rfl|h
   ·exact⟨h1,h2⟩
   ·exact hr x h
  exact⟨x.toNat-1,by rw[List.mem_range];omega,by omega⟩)
 simp at this
 omega
theorem orderB_iff (o:List Int) (m:Int):orderB o m=true↔1≤m∧m≤8∧(o.length:Int)=m∧OrderP o m:=by
 unfold orderB
 simp only[Bool.and_eq_true,decide_eq_true_eq,beq_iff_eq,orderAll_iff]
 constructor
 ·rintro⟨⟨⟨a,b⟩,c⟩,d⟩;exact⟨a,b,c,d⟩
 ·rintro⟨a,b,c,d⟩;exact⟨⟨⟨a,b⟩,c⟩,d⟩
def pl (o:List Int) (v:Nat):Nat:=((placesL o).getD v 0).toNat
theorem pl_val {o:List Int} {v:Nat} (hv:v≤o.length):pl o v=if(v:Int)∈o then o.idxOf (v:Int)+1 else 0:=by
 unfold pl
 rw[List.getD_eq_getElem?_getD,placesL,placesK_get _ _ _ (by omega)]
 simp only[Option.getD_some,List.take_length]
 split<;>omega
theorem places_get {o:List Int} {v:Nat} (hv:v≤o.length):(placesL o)[v]? =some ((pl o v:Nat):Int):=by
 rw[pl_val hv,placesL,placesK_get _ _ _ (by omega)]
 simp only[List.take_length]
 split<;>simp
section
variable {o : List Int} (hP : OrderP o (o.length : Nat))
include hP
theorem pl_zero:pl o 0=0:=by
 rw[pl_val (by omega),if_neg]
 intro hm
 obtain⟨k,hk,e⟩:=List.getElem_of_mem hm
 have:=hP.1 k hk
 omega
theorem pl_get {k:Nat} (hk:k<o.length):pl o o[k].toNat=k+1:=by
 have:=hP.1 k hk
 rw[pl_val (by omega),show((o[k].toNat:Nat):Int)=o[k] by omega,if_pos (List.getElem_mem hk),idxOf_get hP hk]
theorem pl_rng {v:Nat} (h1:1≤v) (h2:v≤o.length):1≤pl o v∧pl o v≤o.length∧o[pl o v-1]? =some (v:Int):=by
 have hm:=order_mem hP (v:=(v:Int)) (by omega) (by omega)
 obtain⟨k,hk,e⟩:=List.getElem_of_mem hm
 have hg:=pl_get hP hk
 rw[e,Int.toNat_natCast] at hg
 rw[hg]
 exact⟨by omega,by omega,by rw[Nat.add_sub_cancel,List.getElem?_eq_getElem hk,e]⟩
theorem order_perm:o.Perm ((List.range o.length).map fun k=>((k+1:Nat):Int)):=by
 have h:=(orderP_iff o _).1 hP
 rw[List.perm_ext_iff_of_nodup h.2 (by
  rw[List.Nodup,List.pairwise_map]
  refine List.Pairwise.imp ?_ List.nodup_range
  intro a b hab e
  exact hab (by omega))]
 intro x
 rw[List.mem_map]
 constructor
 ·intro hx
  have:=h.1 x hx
  exact⟨x.toNat-1,by rw[List.mem_range];omega,by omega⟩
 ·rintro⟨k,hk,rfl⟩
  rw[List.mem_range] at hk
  exact order_mem hP (by omega) (by omega)
end
section
variable {h o : List Int} (T : Tree h) (hl : o.length = h.length) (hP : OrderP o (o.length : Nat))
include T hl hP
theorem put_get {k:Nat} (hk:k<o.length):(putRow h o)[k]? =some ((pl o (hd h o[k].toNat):Nat):Int):=by
 obtain⟨w,x,e1,hw,e2,hx,e3⟩:=put_reads T hl hP hk
 have hg:=T.get (w:=w+1) (by omega) (by omega)
 rw[Nat.add_sub_cancel,e2] at hg
 have hg':(x:Int)=((hd h (w+1):Nat):Int):=Option.some.inj hg
 have hx':x=hd h (w+1):=by omega
 rw[places_get (by omega)] at e3
 have:(putRow h o)[k]? =some (newHd h o k):=by simp[putRow,hk]
 rw[this,←e3,hx',e1,Int.toNat_natCast]
theorem put_at {v:Nat} (h1:1≤v) (h2:v≤o.length):(putRow h o)[pl o v-1]? =some ((pl o (hd h v):Nat):Int):=by
 obtain⟨a,b,c⟩:=pl_rng hP h1 h2
 have hk:pl o v-1<o.length:=by omega
 rw[put_get T hl hP hk]
 rw[List.getElem?_eq_getElem hk] at c
 rw[Option.some.inj c,Int.toNat_natCast]
theorem pl_hd {v:Nat} (h1:1≤v) (h2:v≤o.length):pl o (hd h v)≤o.length∧(pl o (hd h v)=0↔hd h v=0):=by
 have h3:=T.hd_le h1 (by omega)
 by_cases e:hd h v=0
 ·rw[e,pl_zero hP];omega
 ·obtain⟨a,b,_⟩:=pl_rng hP (v:=hd h v) (by omega) (by omega)
  exact⟨b,by omega⟩
theorem put_climb: ∀(f v:Nat),1≤v→v≤o.length→climb (putRow h o) f (pl o v)=(climb h f v).map fun p=>(pl o p.1,p.2)
 |0,v,_,_=>rfl
 |f+1,v,h1,h2=>by
  have h3:=T.hd_le h1 (by omega)
  obtain⟨_,hz⟩:=pl_hd T hl hP h1 h2
  simp only[climb,put_at T hl hP h1 h2,T.get h1 (by omega)]
  by_cases e:hd h v=0
  ·rw[if_pos (by omega),if_pos (by omega)];rfl
  ·rw[if_neg (by omega),if_neg (by omega)]
   simp only[Int.toNat_natCast]
   rw[put_climb f (hd h v) (by omega) (by omega)]
   simp only[Option.map_map]
   rfl
theorem put_tree:Tree (putRow h o):=by
 have hlen:=putRow_length h o
 have hp:=T.pos
 have h8:=T.le
 refine⟨by omega,by omega,?_,?_,fun k hk=> ?_⟩
 ·unfold inRange
  rw[List.all_eq_true]
  intro x hx
  obtain⟨k,hk,e⟩:=List.getElem_of_mem hx
  have hk':k<o.length:=by omega
  have hg:=put_get T hl hP hk'
  rw[List.getElem?_eq_getElem hk,e] at hg
  have hr:=hP.1 k hk'
  obtain⟨a,_⟩:=pl_hd T hl hP (v:=o[k].toNat) (by omega) (by omega)
  rw[Option.some.inj hg,hlen]
  simp only[okHead,Bool.and_eq_true,decide_eq_true_eq]
  omega
 ·have e1:putRow h o=o.map fun x=>((pl o (hd h x.toNat):Nat):Int):=by
   apply List.ext_getElem?
   intro k
   by_cases hk:k<o.length
   ·rw[put_get T hl hP hk];simp[hk]
   ·rw[List.getElem?_eq_none (by omega),List.getElem?_eq_none (by simp;omega)]
  have e2:h=(List.range h.length).map fun k=>((hd h (k+1):Nat):Int):=by
   apply List.ext_getElem?
   intro k
   by_cases hk:k<h.length
   ·have:=T.get (w:=k+1) (by omega) (by omega)
    rw[Nat.add_sub_cancel] at this
    rw[this];simp[hk]
   ·rw[List.getElem?_eq_none (by omega),List.getElem?_eq_none (by simp;omega)]
  have e3:=T.one
  rw[List.count] at e3⊢
  rw[e1,List.countP_map,(order_perm hP).countP_eq,List.countP_map]
  rw[e2,List.countP_map] at e3
  refine Eq.trans ?_ e3
  rw[hl]
  apply List.countP_congr
  intro k hk
  rw[List.mem_range] at hk
  obtain⟨_,hz⟩:=pl_hd T hl hP (v:=k+1) (by omega) (by omega)
  simp only[Function.comp,Int.toNat_natCast,beq_iff_eq]
  omega
 ·have hk':k<o.length:=by omega
  have hr:=hP.1 k hk'
  have hc:=put_climb T hl hP h.length o[k].toNat (by omega) (by omega)
  rw[pl_get hP hk',T.climb_some (w:=o[k].toNat) (by omega) (by omega)] at hc
  rw[hlen,hl,hc]
  rfl
end
def arcX (l r l' r':Int):Bool:=decide ((l<l'∧l'<r∧r<r')∨(l'<l∧l<r'∧r'<r))
def pairB (a b:Int):Bool:=decide (1≤a∧1≤b∧a≠b)
theorem min_max {a b:Int} (h:a≠b):imin a b<imax a b:=by
 unfold imin imax
 split<;>split<;>omega
theorem arcBetween_eq (a b:Int):N39 a b=some (if pairB a b then(true,imin a b,imax a b) else(false,0,0)):=by
 unfold N39 N8q pairB
 by_cases h1:a<1
 ·rw[decide_eq_true h1,decide_eq_false (show¬(1≤a∧1≤b∧a≠b) by omega)];rfl
 ·rw[decide_eq_false h1]
  by_cases h2:b<1
  ·rw[decide_eq_true h2,decide_eq_false (show¬(1≤a∧1≤b∧a≠b) by omega)];rfl
  ·rw[decide_eq_false h2]
   by_cases h3:a=b
   ·rw[decide_eq_false (show¬(1≤a∧1≤b∧a≠b) by omega),h3];simp
   ·rw[decide_eq_true (show 1≤a∧1≤b∧a≠b by omega),show(a==b)=false from beq_eq_false_iff_ne.2 h3];rfl
theorem nloop_to {σ ω:Type} {body:σ→Option (σ⊕ω)} (S:Nat→σ) (n:Nat) (w:ω) (hs: ∀k,k<n→body (S k)=some (.inl (S (k+1)))) (he:body (S n)=some (.inr w)):
  ∀(N:Nat),n<N→nloop body N (S 0)=some w:=by
 have key: ∀(m k N:Nat),k+m=n→m<N→nloop body N (S k)=some w:=by
  intro m
  induction m with
  |zero=>
   intro k N hk hN
   obtain⟨N',rfl⟩: ∃N',N=N'+1:=⟨N-1,by omega⟩
   have:k=n:=by omega
   subst this
   simp only[nloop,he,Option.bind_some]
  |succ m ih=>
   intro k N hk hN
   obtain⟨N',rfl⟩: ∃N',N=N'+1:=⟨N-1,by omega⟩
   simp only[nloop,hs k (by omega),Option.bind_some]
   exact ih (k+1) N' (by omega) (by omega)
 intro N hN
 exact key n 0 N (by omega) hN
theorem nloop_while {σ ω:Type} {body:σ→Option (σ⊕ω)} (S:Nat→σ) (n:Nat) (p:Nat→Bool) (w:Bool→ω) (hs: ∀k,k<n→p k=true→body (S k)=some (.inl (S (k+1))))
  (hb: ∀k,k<n→p k=false→body (S k)=some (.inr (w false))) (he:body (S n)=some (.inr (w true))) (N:Nat) (hN:n<N):
  nloop body N (S 0)=some (w ((List.range n).all p)):=by
 have key: ∀(m k N:Nat),k+m=n→m<N→nloop body N (S k)=some (w ((List.range' k m).all p)):=by
  intro m
  induction m with
  |zero=>
   intro k N hk hN
   obtain⟨N',rfl⟩: ∃N',N=N'+1:=⟨N-1,by omega⟩
   have:k=n:=by omega
   subst this
   simp only[nloop,he,Option.bind_some]
   rfl
  |succ m ih=>
   intro k N hk hN
   obtain⟨N',rfl⟩: ∃N',N=N'+1:=⟨N-1,by omega⟩
   rw[List.range'_succ,List.all_cons]
   cases hp:p k with
   |false=>simp only[nloop,hb k (by omega) hp,Option.bind_some,Bool.false_and]
   |true=>
    simp only[nloop,hs k (by omega) hp,Option.bind_some,Bool.true_and]
    exact ih (k+1) N' (by omega) (by omega)
 rw[List.range_eq_range']
 exact key n 0 N (by omega) hN
def maskN (p:Nat→Bool):Nat→Nat
 |0=>0
 |n+1=>maskN p n|||(if p n then 2^n else 0)
theorem maskN_lt (p:Nat→Bool): ∀n,maskN p n<2^n
 |0=>by simp[maskN]
 |n+1=>by
  have h1:=maskN_lt p n
  have h2:2^n<2^(n+1):=by rw[Nat.pow_succ];have:=Nat.two_pow_pos n;omega
  simp only[maskN]
  refine Nat.or_lt_two_pow (by omega) ?_
  split
  ·exact h2
  ·exact Nat.two_pow_pos _
theorem maskN_bit (p:Nat→Bool) (n i:Nat):(maskN p n).testBit i=(decide (i<n)&&p i):=by
 induction n with
 |zero=>simp[maskN]
 |succ n ih=>
  simp only[maskN,Nat.testBit_or,ih]
  by_cases e:i=n
  ·subst e
   cases hp:p i<;>simp
  ·have h1:decide (i<n+1)=decide (i<n):=by
    rw[Bool.eq_iff_iff];simp only[decide_eq_true_eq];omega
   rw[h1]
   have:(if p n=true then 2^n else 0).testBit i=false:=by
    split
    ·rw[Nat.testBit_two_pow];simp;omega
    ·simp
   rw[this,Bool.or_false]
theorem eq_maskN {m n:Nat} {p:Nat→Bool} (hm:m<2^n) (h: ∀i,i<n→m.testBit i=p i):m=maskN p n:=by
 apply Nat.eq_of_testBit_eq
 intro i
 rw[maskN_bit]
 by_cases hi:i<n
 ·rw[h i hi];simp[hi]
 ·rw[Nat.testBit_lt_two_pow (Nat.lt_of_lt_of_le hm (Nat.pow_le_pow_right (by omega) (by omega)))]
  simp[hi]
theorem maskN_congr {p q:Nat→Bool} {n:Nat} (h: ∀i,i<n→p i=q i):maskN p n=maskN q n:=
 eq_maskN (maskN_lt p n) (fun i hi=>by rw[maskN_bit,h i hi];simp[hi])
theorem lt256 {m n:Nat} (h:n≤8) (hm:m<2^n):m<256:=
 Nat.lt_of_lt_of_le hm (Nat.pow_le_pow_right (n:=2) (by omega) h)
def arcsK (h:List Int) (k:Nat):List (Int×Int):=((List.range k).filter fun i=>decide (h.getD i 0>0)).map fun(i:Nat)=>(imin ((i:Int)+1) (h.getD i 0),imax ((i:Int)+1) (h.getD i 0))
def arcsP (h:List Int):List (Int×Int):=arcsK h h.length
theorem arcsK_length (h:List Int) (k:Nat):(arcsK h k).length≤k:=by
 unfold arcsK
 rw[List.length_map]
 exact Nat.le_trans (List.length_filter_le _ _) (by simp)
theorem arcsK_succ (h:List Int) (k:Nat):arcsK h (k+1)=if h.getD k 0>0 then arcsK h k++ [(imin ((k:Int)+1) (h.getD k 0),imax ((k:Int)+1) (h.getD k 0))] else arcsK h k:=by
 unfold arcsK
 have hf:List.filter (fun i=>decide (h.getD i 0>0)) [k]=if decide (h.getD k 0>0)=true then[k] else[]:=by simp only[List.filter_cons,List.filter_nil]
 rw[List.range_succ,List.filter_append,List.map_append,hf]
 by_cases e:h.getD k 0>0
 ·rw[if_pos e,if_pos (decide_eq_true e)];rfl
 ·rw[if_neg e,if_neg (fun x=>e (of_decide_eq_true x))]
  exact List.append_nil _
def asArc (p:Int×Int):Int×Int×Unit:=(p.1,p.2,())
theorem Tree.getD_hd {h:List Int} (T:Tree h) {k:Nat} (hk:k<h.length):h.getD k 0=((hd h (k+1):Nat):Int):=by
 have hg:=T.get (w:=k+1) (by omega) (by omega)
 rw[Nat.add_sub_cancel] at hg
 rw[List.getD_eq_getElem?_getD,hg];rfl
theorem Tree.hd_other {h:List Int} (T:Tree h) {w:Nat} (h1:1≤w) (h2:w≤h.length):hd h w≠w:=by
 intro e
 have:=T.dep_step h1 h2 (by omega)
 rw[e] at this
 omega
theorem implArcs_eq {h:List Int} (T:Tree h):N26 h=some ((arcsP h).map asArc):=by
 have e:N26 h=Nbk h:=by unfold N26;rfl
 have hle:=T.le
 rw[e]
 unfold Nbk N7c Nh1 Nht N8m Nd8 Ni6 N59
 have hmk:mk 0 ((h.length:Nat):Int)=some 0:=by
  simp only[mk]
  rw[if_pos (by omega)]
  rfl
 have hloop:=nloop_to (body:=fun(s:Int×(List (Int×Int×Unit)))=>((N36 h h.length s.1 s.2).map (Sum.elim (fun(t:Int×(List (Int×Int×Unit)))=>Sum.inl (t.1,t.2)) (fun(t:(List (Int×Int×Unit)))=>Sum.inr t)):Option ((Int×(List (Int×Int×Unit)))⊕(((List (Int×Int×Unit)))))))
  (fun k=>((k:Int),(arcsK h k).map asArc)) h.length ((arcsP h).map asArc)
  (by
   intro k hk
   have hlen:=arcsK_length h k
   have hg:=T.getD_hd hk
   have hi:idx h (k:Int)=some ((hd h (k+1):Nat):Int):=by
    rw[idx_lt hk,←hg];simp[List.getD,hk]
   have hne:=T.hd_other (w:=k+1) (by omega) (by omega)
   have hh:=T.hd_le (w:=k+1) (by omega) (by omega)
   simp only[N36]
   rw[show decide ((k:Int)<((h.length:Nat):Int))=true from decide_eq_true (by omega),hi,wrap64 (x:=(k:Int)+1) (by omega) (by omega),arcsK_succ,hg]
   simp only[cond_true,Option.bind_some,arcBetween_eq]
   by_cases e:hd h (k+1)=0
   ·have hp:pairB ((k:Int)+1) ((hd h (k+1):Nat):Int)=false:=decide_eq_false (by omega)
    rw[hp,if_neg (show¬((hd h (k+1):Nat):Int)>0 by omega)]
    rfl
   ·have hp:pairB ((k:Int)+1) ((hd h (k+1):Nat):Int)=true:=decide_eq_true (by omega)
    rw[hp,if_pos (show((hd h (k+1):Nat):Int)>0 by omega),if_pos rfl]
    simp only[cond_true]
    rw[room_le (by simp;omega)]
    simp[asArc])
  (by
   simp only[N36]
   rw[show decide (((h.length:Nat):Int)<((h.length:Nat):Int))=false from decide_eq_false (by omega)]
   rfl)
 have hl2:=hloop LL (by simp only[LL];omega)
 rw[hmk]
 simp only[Option.bind_some]
 rw[show((0:Int),(List.replicate 0 ((0:Int),((0:Int),()))))=(((0:Nat):Int),(arcsK h 0).map asArc) from rfl,hl2]
 rfl
theorem mem_arcs {h:List Int} (T:Tree h) {p:Int×Int}:p∈arcsP h↔ ∃w,1≤w∧w≤h.length∧hd h w≠0∧p=(imin (w:Int) ((hd h w:Nat):Int),imax (w:Int) ((hd h w:Nat):Int)):=by
 unfold arcsP arcsK
 rw[List.mem_map]
 constructor
 ·rintro⟨i,hi,rfl⟩
  rw[List.mem_filter,List.mem_range,decide_eq_true_eq] at hi
  rw[T.getD_hd hi.1] at hi⊢
  refine⟨i+1,by omega,by omega,by omega,?_⟩
  rw[show((i+1:Nat):Int)=(i:Int)+1 by omega]
 ·rintro⟨w,h1,h2,h3,rfl⟩
  refine⟨w-1,?_,?_⟩
  ·rw[List.mem_filter,List.mem_range,decide_eq_true_eq,T.getD_hd (by omega),show w-1+1=w by omega]
   omega
  ·rw[T.getD_hd (show w-1<h.length by omega),show w-1+1=w by omega,show((w-1:Nat):Int)+1=(w:Int) by omega]
def covB (h:List Int) (v:Int):Bool:=(arcsP h).any fun p=>decide (p.1<v∧v<p.2)
def crossP (p q:Int×Int):Bool:=arcX p.1 p.2 q.1 q.2
def pairsN (X:Int×Int→Int×Int→Bool):List (Int×Int)→Nat
 |[]=>0
 |a::r=>r.countP (X a)+pairsN X r
theorem pairsN_zero {X:Int×Int→Int×Int→Bool}: ∀l,pairsN X l=0↔l.Pairwise fun p q=>X p q=false
 |[]=>by simp[pairsN]
 |a::r=>by
  simp only[pairsN,List.pairwise_cons,←pairsN_zero r]
  constructor
  ·intro h
   have h1:r.countP (X a)=0:=by omega
   rw[List.countP_eq_zero] at h1
   exact⟨fun q hq=>by simpa using h1 q hq,by omega⟩
  ·rintro⟨h1,h2⟩
   have:r.countP (X a)=0:=List.countP_eq_zero.2 fun q hq=>by rw[h1 q hq];simp
   omega
theorem crossP_comm (p q:Int×Int):crossP p q=crossP q p:=by
 unfold crossP arcX
 apply Bool.eq_iff_iff.2
 simp only[decide_eq_true_eq]
 omega
def crossN (h:List Int):Nat:=pairsN crossP (arcsP h)
theorem covB_iff {h:List Int} (T:Tree h) {v:Nat}:covB h (v:Int)=true↔ ∃w,1≤w∧w≤h.length∧hd h w≠0∧((w<v∧v<hd h w)∨(hd h w<v∧v<w)):=by
 unfold covB
 rw[List.any_eq_true]
 constructor
 ·rintro⟨p,hp,hc⟩
  obtain⟨w,h1,h2,h3,rfl⟩:=(mem_arcs T).1 hp
  rw[decide_eq_true_eq] at hc
  refine⟨w,h1,h2,h3,?_⟩
  revert hc
  unfold imin imax
  simp only
  split<;>split<;>omega
 ·rintro⟨w,h1,h2,h3,hc⟩
  refine⟨_,(mem_arcs T).2 ⟨w,h1,h2,h3,rfl⟩,?_⟩
  rw[decide_eq_true_eq]
  unfold imin imax
  simp only
  split<;>split<;>omega
theorem wrapu64 {x:Int} (h1:0≤x) (h2:x<18446744073709551616):IntKind.wrap .u64 x=x:=by
 simp only[IntKind.wrap,IntKind.bits,IntKind.signed]
 simp
 omega
theorem ofInt_nat {a:Nat} (h:a<18446744073709551616):(BitVec.ofInt 64 (a:Int)).toNat=a:=by
 rw[BitVec.toNat_ofInt];omega
theorem ioru {a b:Nat} (ha:a<2^62) (hb:b<2^62):ior .u64 (a:Int) (b:Int)=((a|||b:Nat):Int):=by
 have h:=Nat.or_lt_two_pow ha hb
 show IntKind.wrap .u64 ((BitVec.ofInt 64 (a:Int)|||BitVec.ofInt 64 (b:Int)).toNat:Int)=_
 rw[BitVec.toNat_or,ofInt_nat (by omega),ofInt_nat (by omega),wrapu64 (by omega) (by omega)]
theorem iori {a b:Nat} (ha:a<2^62) (hb:b<2^62):ior .i64 (a:Int) (b:Int)=((a|||b:Nat):Int):=by
 have h:=Nat.or_lt_two_pow ha hb
 show IntKind.wrap .i64 ((BitVec.ofInt 64 (a:Int)|||BitVec.ofInt 64 (b:Int)).toNat:Int)=_
 rw[BitVec.toNat_or,ofInt_nat (by omega),ofInt_nat (by omega),wrap64 (by omega) (by omega)]
theorem iandu {a b:Nat} (ha:a<2^62) (hb:b<2^62):iand .u64 (a:Int) (b:Int)=((a&&&b:Nat):Int):=by
 have h:a&&&b<2^62:=Nat.and_lt_two_pow a hb
 show IntKind.wrap .u64 ((BitVec.ofInt 64 (a:Int)&&&BitVec.ofInt 64 (b:Int)).toNat:Int)=_
 rw[BitVec.toNat_and,ofInt_nat (by omega),ofInt_nat (by omega),wrapu64 (by omega) (by omega)]
theorem all_lt {n:Nat} {p:Nat→Bool} (h:(List.range n).all p=true) {i:Nat} (hi:i<n):p i=true:=
 List.all_eq_true.1 h i (List.mem_range.2 hi)
theorem only_tab:((List.range 8).all fun i=>N1s ((i:Int)+1)==some ((2^i:Nat):Int))=true:=by decide+kernel
theorem only_eq {w:Nat} (h1:1≤w) (h2:w≤8):N1s (w:Int)=some ((2^(w-1):Nat):Int):=by
 have h:=all_lt only_tab (i:=w-1) (by omega)
 rw[show((w-1:Nat):Int)+1=(w:Int) by omega] at h
 simpa using h
theorem pow_lt256 {w:Nat} (h:w≤8) (h1:1≤w):2^(w-1)<256:=by
 have:2^(w-1)<2^8:=Nat.pow_lt_pow_right (by omega) (by omega)
 simpa using this
def wordsL (m:Nat):List Int:=((List.range 8).filter fun i=>m.testBit i).map fun i=>((i+1:Nat):Int)
theorem filter_upto (p:Nat→Bool) (n:Nat): ∀N,n≤N→(List.range N).filter (fun i=>decide (i<n)&&p i)=(List.range n).filter p
 |0,h=>by
  have:n=0:=by omega
  subst this;rfl
 |N+1,h=>by
  by_cases e:n=N+1
  ·subst e
   apply List.filter_congr
   intro i hi
   rw[List.mem_range] at hi
   simp[hi]
  ·rw[List.range_succ,List.filter_append,filter_upto p n N (by omega)]
   have: ¬N<n:=by omega
   simp[this]
theorem wordsL_mask (p:Nat→Bool) {n:Nat} (h:n≤8):wordsL (maskN p n)=((List.range n).filter p).map fun i=>((i+1:Nat):Int):=by
 unfold wordsL
 rw[←filter_upto p n 8 h]
 congr 1
 apply List.filter_congr
 intro i _
 rw[maskN_bit]
theorem mem_wordsL {p:Nat→Bool} {n:Nat} (h:n≤8) {x:Int}:x∈wordsL (maskN p n)↔ ∃i,i<n∧p i=true∧x=((i+1:Nat):Int):=by
 rw[wordsL_mask p h,List.mem_map]
 constructor
 ·rintro⟨i,hi,e⟩
  rw[List.mem_filter,List.mem_range] at hi
  exact⟨i,hi.1,hi.2,e.symm⟩
 ·rintro⟨i,h1,h2,e⟩
  exact⟨i,by rw[List.mem_filter,List.mem_range];exact⟨h1,h2⟩,e.symm⟩
theorem wordsL_length_le (m:Nat):(wordsL m).length≤8:=by
 unfold wordsL
 rw[List.length_map]
 exact Nat.le_trans (List.length_filter_le _ _) (by simp)
def headB (h:List Int) (v:Int) (i:Nat):Bool:=h.getD i 0==v
theorem dependents_eq (h:List Int) (v:Int) (hl:h.length≤8):N1l h v=some ((maskN (headB h v) h.length:Nat):Int):=by
 have e:N1l h v=N8z h v:=by unfold N1l;rfl
 rw[e]
 unfold N8z Neg Nf3 N7k Ndi Ndo N5x
 have hloop:=nloop_to (body:=fun(s:Int×Int)=>((N30 h v s.1 h.length s.2).map (Sum.elim (fun(t:Int×Int)=>Sum.inl (t.1,t.2)) (fun(t:Int)=>Sum.inr t)):Option ((Int×Int)⊕(Int))))
  (fun k=>(((maskN (headB h v) k:Nat):Int),(k:Int))) h.length ((maskN (headB h v) h.length:Nat):Int)
  (by
   intro k hk
   have hb:headB h v k=(h[k]==v):=by simp[headB,List.getD,hk]
   have h1:=maskN_lt (headB h v) k
   have h2:(2:Nat)^k<2^62:=Nat.pow_lt_pow_right (by omega) (by omega)
   simp only[N30]
   rw[show decide ((k:Int)<((h.length:Nat):Int))=true from decide_eq_true (by omega),idx_lt hk,wrap64 (by omega) (by omega),show(k:Int)+1=((k+1:Nat):Int) by omega,
    only_eq (by omega) (by omega),Nat.add_sub_cancel]
   simp only[cond_true,Option.bind_some,←hb,maskN]
   rw[ioru (by omega) h2]
   cases headB h v k with
   |true=>rfl
   |false=>simp)
  (by
   simp only[N30]
   rw[show decide (((h.length:Nat):Int)<((h.length:Nat):Int))=false from decide_eq_false (by omega)]
   rfl)
 simp only[Option.bind_some]
 have:=hloop LL (by simp only[LL];omega)
 simp only[maskN] at this
 rw[show(((0:Nat):Int),((0:Nat):Int))=((0:Int),(0:Int)) from rfl] at this
 rw[this]
 rfl
theorem list_tab:((List.range 256).all fun m=>N1x (m:Int)==some (wordsL m))=true:=by decide+kernel
theorem list_eq {m:Nat} (h:m<256):N1x (m:Int)=some (wordsL m):=by simpa using all_lt list_tab h
def rootI (h:List Int):Int:=if treeB h then(top h:Int) else-1
theorem implRoot_eq (h:List Int):N28 h=some (rootI h):=by
 unfold N28 Nhl N7j Ndu Ngj Ngl rootI
 rw[implTree_eq]
 cases hT:treeB h with
 |false=>simp
 |true=>
  have T:=(tree_iff h).1 hT
  simp only[Option.bind_some,Bool.not_true,cond_false,Sum.elim_inl,if_true]
  have hloop:=nloop_run (body:=fun(s:Int×Int)=>((N53 h s.1 s.2).map (Sum.elim (fun(t:Int×Int)=>Sum.inl (t.1,t.2)) (fun(t:Int×Int)=>Sum.inr t)):Option ((Int×Int)⊕((Int×Int)))))
   (I:=fun s=> ∃k i:Nat,s=(((k+1:Nat):Int),(i:Int))∧k<h.length∧i+dep h (k+1)<h.length) (μ:=fun s=>dep h s.1.toNat)
   (f:=fun s=>((top h:Int),s.2+(dep h s.1.toNat:Int)))
   (by
    rintro _ ⟨k,i,rfl,hk,hi⟩
    have hle:=T.le
    simp only[N53]
    rw[up_eq h k i hk (by omega) (by omega)]
    have hg:=T.get (w:=k+1) (by omega) (by omega)
    rw[show k+1-1=k by omega,List.getElem?_eq_getElem hk] at hg
    have hg':h[k]=((hd h (k+1):Nat):Int):=by simpa using hg
    by_cases e:hd h (k+1)=0
    ·right
     have ht:=(T.hd_zero (w:=k+1) (by omega) (by omega)).1 e
     have hd0:dep h (k+1)=0:=by rw[ht];exact T.dep_top
     have hd0':dep h (((k+1:Nat):Int)).toNat=0:=hd0
     rw[if_pos (by omega)]
     simp only[Option.bind_some,cond_false,Option.map_some,Sum.elim_inr,hd0']
     rw[←ht]
     simp
    ·left
     have hs:=T.dep_step (w:=k+1) (by omega) (by omega) e
     have hle2:=T.hd_le (w:=k+1) (by omega) (by omega)
     rw[if_neg (by omega)]
     refine⟨(h[k],((i+1:Nat):Int)),by simp,⟨hd h (k+1)-1,i+1,?_,by omega,?_⟩,?_,?_⟩
     ·rw[hg',show hd h (k+1)-1+1=hd h (k+1) by omega]
     ·rw[show hd h (k+1)-1+1=hd h (k+1) by omega];omega
     ·simp only[hg',Int.toNat_natCast];omega
     ·simp only[hg',Int.toNat_natCast]
      rw[hs]
      simp;omega)
  rw[hloop LL (1,0) ⟨0,0,rfl,by have:=T.pos;omega,by have:=T.dep_lt (w:=0+1) (by omega) (by have:=T.pos;omega);omega⟩ (by
   have:=T.dep_lt (w:=1) (by omega) T.pos;have:=T.le;simp only[LL];simp;omega)]
  simp[N5i]
inductive Und (h:List Int):Nat→Nat→Prop
 |refl {a:Nat} (h1:1≤a) (h2:a≤h.length):Und h a a
 |step {a b:Nat} (h1:1≤a) (h2:a≤h.length) (h3:hd h a≠0) (u:Und h (hd h a) b):Und h a b
theorem Tree.climbInd {h:List Int} (T:Tree h) {P:Nat→Prop} (h0:P (top h)) (hs: ∀w,1≤w→w≤h.length→hd h w≠0→P (hd h w)→P w): ∀w,1≤w→w≤h.length→P w:=by
 have key: ∀(d w:Nat),dep h w=d→1≤w→w≤h.length→P w:=by
  intro d
  induction d with
  |zero=>
   intro w e h1 h2
   rw[(T.dep_zero h1 h2).1 e];exact h0
  |succ d ih=>
   intro w e h1 h2
   have hne:hd h w≠0:=fun e0=>by
    have:=(T.dep_zero h1 h2).2 ((T.hd_zero h1 h2).1 e0)
    omega
   have:=T.dep_step h1 h2 hne
   exact hs w h1 h2 hne (ih _ (by omega) (by omega) (T.hd_le h1 h2))
 intro w
 exact key _ w rfl
theorem Tree.fallInd {h:List Int} (T:Tree h) {P:Nat→Prop} (hs: ∀w,1≤w→w≤h.length→(∀c,1≤c→c≤h.length→hd h c=w→P c)→P w): ∀w,1≤w→w≤h.length→P w:=by
 have key: ∀(d w:Nat),h.length-dep h w≤d→1≤w→w≤h.length→P w:=by
  intro d
  induction d with
  |zero=>
   intro w e h1 h2
   have:=T.dep_lt h1 h2
   omega
  |succ d ih=>
   intro w e h1 h2
   refine hs w h1 h2 fun c hc1 hc2 hc=>ih c ?_ hc1 hc2
   have:=T.dep_step hc1 hc2 (by omega)
   rw[hc] at this
   have:=T.dep_lt h1 h2
   omega
 intro w
 exact key _ w (Nat.le_refl _)
theorem Tree.und_rng {h:List Int} (T:Tree h) {a b:Nat} (u:Und h a b):(1≤a∧a≤h.length)∧(1≤b∧b≤h.length):=by
 induction u with
 |refl h1 h2=>exact⟨⟨h1,h2⟩,h1,h2⟩
 |step h1 h2 h3 u ih=>exact⟨⟨h1,h2⟩,ih.2⟩
theorem Tree.und_hd {h:List Int} (T:Tree h) {a:Nat} (h1:1≤a) (h2:a≤h.length) (h3:hd h a≠0):Und h a (hd h a):=
 .step h1 h2 h3 (.refl (by omega) (T.hd_le h1 h2))
theorem Tree.und_top {h:List Int} (T:Tree h) {a:Nat} (h1:1≤a) (h2:a≤h.length):Und h a (top h):=
 T.climbInd (P:=fun w=>Und h w (top h)) (.refl (top_pos h) T.top_le) (fun w a b c d=> .step a b c d) a h1 h2
theorem Tree.und_trans {h:List Int} (T:Tree h) {a b c:Nat} (u:Und h a b) (v:Und h b c):Und h a c:=by
 induction u with
 |refl=>exact v
 |step h1 h2 h3 u ih=>exact .step h1 h2 h3 (ih v)
theorem Tree.und_dep {h:List Int} (T:Tree h) {a b:Nat} (u:Und h a b):dep h b≤dep h a∧(dep h b=dep h a→a=b):=by
 induction u with
 |refl=>exact⟨Nat.le_refl _,fun _=>rfl⟩
 |step h1 h2 h3 u ih=>
  have:=T.dep_step h1 h2 h3
  exact⟨by omega,fun e=>by omega⟩
theorem Tree.und_anti {h:List Int} (T:Tree h) {a b:Nat} (u:Und h a b) (v:Und h b a):a=b:=by
 have h1:=T.und_dep u
 have h2:=T.und_dep v
 exact h1.2 (by omega)
theorem Tree.und_iff {h:List Int} (T:Tree h) {a b:Nat} (h1:1≤a) (h2:a≤h.length):Und h a b↔a=b∨(hd h a≠0∧Und h (hd h a) b):=by
 constructor
 ·intro u
  cases u with
  |refl=>exact .inl rfl
  |step _ _ h3 u=>exact .inr ⟨h3,u⟩
 ·rintro(rfl|⟨h3,u⟩)
  ·exact .refl h1 h2
  ·exact .step h1 h2 h3 u
theorem Tree.und_of_top {h:List Int} (T:Tree h) {b:Nat} (u:Und h (top h) b):b=top h:=by
 rcases(T.und_iff (top_pos h) T.top_le).1 u with e|⟨e,_⟩
 ·exact e.symm
 ·exact absurd ((T.hd_zero (top_pos h) T.top_le).2 rfl) e
theorem Tree.und_lin {h:List Int} (T:Tree h) {a b c:Nat} (u:Und h a b) (v:Und h a c):Und h b c∨Und h c b:=by
 induction u with
 |refl=>exact .inl v
 |step h1 h2 h3 u ih=>
  rcases(T.und_iff h1 h2).1 v with rfl|⟨_,v'⟩
  ·exact .inr (.step h1 h2 h3 u)
  ·exact ih v'
theorem Tree.und_child {h:List Int} (T:Tree h) {a b:Nat}:Und h a b↔(a=b∧1≤a∧a≤h.length)∨(b≠0∧ ∃c,1≤c∧c≤h.length∧hd h c=b∧Und h a c):=by
 constructor
 ·intro u
  induction u with
  |refl h1 h2=>exact .inl ⟨rfl,h1,h2⟩
  |step h1 h2 h3 u ih=>
   rcases ih with⟨e,e2,_⟩|⟨hb,c,c1,c2,c3,c4⟩
   ·exact .inr ⟨by omega,_,h1,h2,e,.refl h1 h2⟩
   ·exact .inr ⟨hb,c,c1,c2,c3,.step h1 h2 h3 c4⟩
 ·rintro(⟨rfl,h1,h2⟩|⟨hb,c,c1,c2,rfl,c4⟩)
  ·exact .refl h1 h2
  ·exact T.und_trans c4 (T.und_hd c1 c2 hb)
theorem Tree.und_child_unique {h:List Int} (T:Tree h) {a b c d:Nat} (hb:b≠0) (hc:hd h c=b) (hd':hd h d=b) (u:Und h a c) (v:Und h a d):c=d:=by
 have one: ∀c d,hd h c=b→hd h d=b→Und h c d→c=d:=by
  intro c d hc hd' u
  have hr:=T.und_rng u
  rcases(T.und_iff hr.1.1 hr.1.2).1 u with e|⟨_,u'⟩
  ·exact e
  ·have h1:=T.und_dep u'
   have h2:=T.dep_step hr.2.1 hr.2.2 (by omega)
   rw[hd'] at h2
   rw[hc] at h1
   omega
 rcases T.und_lin u v with h1|h1
 ·exact one c d hc hd' h1
 ·exact(one d c hd' hc h1).symm
noncomputable def undB (h:List Int) (a b:Nat):Bool:= @decide (Und h a b) (Classical.propDecidable _)
theorem undB_iff {h:List Int} {a b:Nat}:undB h a b=true↔Und h a b:=by simp[undB]
theorem undB_false {h:List Int} {a b:Nat}:undB h a b=false↔ ¬Und h a b:=by simp[undB]
noncomputable def ymask (h:List Int) (k:Nat):Nat:=maskN (fun i=>undB h (i+1) k) h.length
theorem ymask_lt {h:List Int} (hl:h.length≤8) (k:Nat):ymask h k<256:=lt256 hl (maskN_lt _ _)
theorem ymask_bit {h:List Int} {k i:Nat} (T:Tree h):(ymask h k).testBit i=undB h (i+1) k:=by
 unfold ymask
 rw[maskN_bit]
 by_cases hi:i<h.length
 ·simp[hi]
 ·have:undB h (i+1) k=false:=undB_false.2 fun u=>by have:=T.und_rng u;omega
  rw[this];simp
def kidsL (h:List Int) (w:Nat):List Int:=wordsL (maskN (headB h (w:Int)) h.length)
theorem mem_kids {h:List Int} (T:Tree h) {w:Nat} {x:Int}:x∈kidsL h w↔ ∃c,1≤c∧c≤h.length∧hd h c=w∧x=(c:Int):=by
 unfold kidsL
 rw[mem_wordsL T.le]
 constructor
 ·rintro⟨i,h1,h2,e⟩
  refine⟨i+1,by omega,by omega,?_,e⟩
  have hg:=T.get (w:=i+1) (by omega) (by omega)
  rw[Nat.add_sub_cancel] at hg
  simp only[headB,List.getD_eq_getElem?_getD,hg,Option.getD_some,beq_iff_eq] at h2
  omega
 ·rintro⟨c,h1,h2,h3,rfl⟩
  refine⟨c-1,by omega,?_,by omega⟩
  have hg:=T.get (w:=c) (by omega) (by omega)
  simp only[headB,List.getD_eq_getElem?_getD,hg,Option.getD_some,beq_iff_eq,h3]
theorem kids_length (h:List Int) (w:Nat):(kidsL h w).length≤8:=wordsL_length_le _
noncomputable def partB (h:List Int) (w:Nat) (cs:List Int) (i:Nat):Bool:=(i+1==w)||cs.any fun c=>undB h (i+1) c.toNat
theorem part_all {h:List Int} (T:Tree h) {w:Nat} (h1:1≤w) (h2:w≤h.length) {i:Nat} (hi:i<h.length):partB h w (kidsL h w) i=undB h (i+1) w:=by
 rw[Bool.eq_iff_iff,undB_iff,T.und_child]
 simp only[partB,Bool.or_eq_true,beq_iff_eq,List.any_eq_true,undB_iff]
 constructor
 ·rintro(e|⟨x,hx,u⟩)
  ·exact .inl ⟨e,by omega,by omega⟩
  ·obtain⟨c,c1,c2,c3,rfl⟩:=(mem_kids T).1 hx
   exact .inr ⟨by omega,c,c1,c2,c3,by simpa using u⟩
 ·rintro(⟨e,_⟩|⟨_,c,c1,c2,c3,u⟩)
  ·exact .inl e
  ·exact .inr ⟨(c:Int),(mem_kids T).2 ⟨c,c1,c2,c3,rfl⟩,by simpa using u⟩
theorem part_step (h:List Int) (w:Nat) (cs:List Int) {j:Nat} (hj:j<cs.length) {n:Nat}:
  maskN (partB h w (cs.take (j+1))) n=maskN (partB h w (cs.take j)) n|||maskN (fun i=>undB h (i+1) cs[j].toNat) n:=by
 refine(eq_maskN (Nat.or_lt_two_pow (maskN_lt _ _) (maskN_lt _ _)) fun i hi=> ?_).symm
 rw[Nat.testBit_or,maskN_bit,maskN_bit]
 simp only[hi,decide_true,Bool.true_and,partB]
 rw[List.take_add_one,List.getElem?_eq_getElem hj]
 simp only[Option.toList_some,List.any_append,List.any_cons,List.any_nil,Bool.or_false,Bool.or_assoc]
theorem part_none (h:List Int) {w n:Nat} (h1:1≤w) (h2:w≤n):maskN (partB h w []) n=2^(w-1):=by
 refine(eq_maskN (Nat.pow_lt_pow_right (by omega) (by omega)) fun i hi=> ?_).symm
 rw[Nat.testBit_two_pow]
 simp only[partB,List.any_nil,Bool.or_false]
 rw[Bool.eq_iff_iff]
 simp only[decide_eq_true_eq,beq_iff_eq]
 omega
noncomputable def fillL (h:List Int) (ys cs:List Int):List Int:=(List.range h.length).map fun i=>if(cs.any fun c=>undB h (i+1) c.toNat)=true then((ymask h (i+1):Nat):Int) else ys.getD i 0
theorem fillL_length (h ys cs:List Int):(fillL h ys cs).length=h.length:=by simp[fillL]
theorem fillL_get (h ys cs:List Int) {i:Nat} (hi:i<h.length):(fillL h ys cs)[i]? =some (if(cs.any fun c=>undB h (i+1) c.toNat)=true then((ymask h (i+1):Nat):Int) else ys.getD i 0):=by
 simp[fillL,hi]
theorem fillL_nil {h ys:List Int} (hl:ys.length=h.length):fillL h ys []=ys:=by
 apply List.ext_getElem?
 intro i
 by_cases hi:i<h.length
 ·rw[fillL_get h ys [] hi]
  simp[List.getD,show i<ys.length by omega]
 ·rw[List.getElem?_eq_none (by rw[fillL_length];omega),List.getElem?_eq_none (by omega)]
theorem fillL_step (h ys cs:List Int) {j:Nat} (hj:j<cs.length):fillL h (fillL h ys (cs.take j)) [cs[j]]=fillL h ys (cs.take (j+1)):=by
 apply List.ext_getElem?
 intro i
 by_cases hi:i<h.length
 ·rw[fillL_get h _ _ hi,fillL_get h _ _ hi,List.getD_eq_getElem?_getD,fillL_get h _ _ hi,List.take_add_one,List.getElem?_eq_getElem hj]
  simp only[List.any_cons,List.any_nil,Bool.or_false,Option.getD_some,Option.toList_some,List.any_append]
  cases undB h (i+1) cs[j].toNat<;>cases ((List.take j cs).any fun c=>undB h (i+1) c.toNat)<;>simp
 ·rw[List.getElem?_eq_none (by rw[fillL_length];omega),List.getElem?_eq_none (by rw[fillL_length];omega)]
theorem fillL_set {h ys:List Int} (T:Tree h) {w:Nat} (h1:1≤w) (h2:w≤h.length):(fillL h ys (kidsL h w)).set (w-1) ((ymask h w:Nat):Int)=fillL h ys [(w:Int)]:=by
 apply List.ext_getElem?
 intro i
 by_cases hi:i<h.length
 ·by_cases e:i=w-1
  ·subst e
   rw[List.getElem?_set_self (by rw[fillL_length];omega),fillL_get h _ _ hi,if_pos]
   ·rw[show w-1+1=w by omega]
   ·have:undB h (w-1+1) w=true:=undB_iff.2 (by rw[show w-1+1=w by omega];exact .refl h1 h2)
    simpa using this
  ·rw[List.getElem?_set_ne (fun e'=>e e'.symm),fillL_get h _ _ hi,fillL_get h _ _ hi]
   have hp:=part_all T h1 h2 hi
   have hne:(i+1==w)=false:=by rw[beq_eq_false_iff_ne];omega
   simp only[partB,hne,Bool.false_or] at hp
   rw[hp]
   simp
 ·rw[List.getElem?_eq_none (by rw[List.length_set,fillL_length];omega),List.getElem?_eq_none (by rw[fillL_length];omega)]
theorem fill_fuel {h:List Int} (T:Tree h): ∀w,1≤w→w≤h.length→ ∀(f:Nat) (ys:List Int),h.length-dep h w<f→ys.length=h.length→
  N1t f h (w:Int) ys=some (((ymask h w:Nat):Int),fillL h ys [(w:Int)]):=by
 refine T.fallInd (P:=fun w=> ∀(f:Nat) (ys:List Int),h.length-dep h w<f→ys.length=h.length→N1t f h (w:Int) ys=some (((ymask h w:Nat):Int),fillL h ys [(w:Int)])) ?_
 intro w h1 h2 ih f ys hf hys
 obtain⟨f,rfl⟩: ∃g,f=g+1:=⟨f-1,by omega⟩
 have hle:=T.le
 simp only[N1t]
 generalize hR:N1t f=R0
 have ih': ∀c,1≤c→c≤h.length→hd h c=w→ ∀zs:List Int,zs.length=h.length→R0 h (c:Int) zs=some (((ymask h c:Nat):Int),fillL h zs [(c:Int)]):=by
  intro c c1 c2 c3 zs hz
  rw[←hR]
  refine ih c c1 c2 c3 f zs ?_ hz
  have:=T.dep_step c1 c2 (by omega)
  rw[c3] at this
  have:=T.dep_lt h1 h2
  omega
 have hkl:=kids_length h w
 have hloop:=nloop_to (body:=fun(s:Int×Int×(List Int))=>((N2d R0 h s.1 (kidsL h w).length s.2.1 s.2.2 (kidsL h w)).map (Sum.elim (fun(t:Int×Int×(List Int))=>Sum.inl (t.1,t.2.1,t.2.2)) (fun(t:Int×(List Int))=>Sum.inr t)):Option ((Int×Int×(List Int))⊕((Int×(List Int))))))
  (fun j=>(((maskN (partB h w ((kidsL h w).take j)) h.length:Nat):Int),(j:Int),fillL h ys ((kidsL h w).take j))) (kidsL h w).length (((maskN (partB h w (kidsL h w)) h.length:Nat):Int),fillL h ys (kidsL h w))
  (by
   intro j hj
   simp only[N2d]
   obtain⟨c,c1,c2,c3,hc⟩:=(mem_kids T).1 (List.getElem_mem hj)
   have ihc:=ih' c c1 c2 c3 (fillL h ys ((kidsL h w).take j)) (fillL_length _ _ _)
   have l1:maskN (partB h w ((kidsL h w).take j)) h.length<256:=lt256 hle (maskN_lt _ _)
   have l2:=ymask_lt hle c
   rw[show decide ((j:Int)<(((kidsL h w).length:Nat):Int))=true from decide_eq_true (by omega),inb_nat hj,wrap64 (by omega) (by omega)]
   simp only[cond_true,Option.bind_some,List.getElem?_eq_getElem hj]
   rw[hc,ihc]
   simp only[Option.bind_some]
   rw[ioru (by omega) (by omega),part_step h w _ hj,←fillL_step h ys _ hj,hc]
   rfl)
  (by
   simp only[N2d]
   rw[show decide ((((kidsL h w).length:Nat):Int)<(((kidsL h w).length:Nat):Int))=false from decide_eq_false (by omega),List.take_length]
   rfl)
 have hl:=hloop LL (by simp only[LL];omega)
 rw[List.take_zero,part_none h h1 h2,fillL_nil hys] at hl
 unfold Nfq Ndq N5t Ngb Ngk N7m Nen Nh6 N5e
 rw[only_eq h1 (by omega),dependents_eq h _ hle]
 simp only[Option.bind_some]
 rw[list_eq (lt256 hle (maskN_lt _ _))]
 show(((((some _).bind fun v1208=>some (((List.length v1208:Nat):Int),v1208)).bind _):Option _).bind _)=_
 simp only[Option.bind_some]
 change ((Option.map _ (nloop (fun(s:Int×Int×(List Int))=>((N2d R0 h s.1 (kidsL h w).length s.2.1 s.2.2 (kidsL h w)).map (Sum.elim (fun(t:Int×Int×(List Int))=>Sum.inl (t.1,t.2.1,t.2.2)) (fun(t:Int×(List Int))=>Sum.inr t)):Option ((Int×Int×(List Int))⊕((Int×(List Int)))))) LL (((2^(w-1):Nat):Int),((0:Nat):Int),ys))).bind _)=_
 rw[hl]
 simp only[Option.map_some,Option.bind_some]
 rw[wrap64 (by omega) (by omega),show(w:Int)-1=((w-1:Nat):Int) by omega,inb_nat (by rw[fillL_length];omega)]
 simp only[Option.bind_some]
 have hm:maskN (partB h w (kidsL h w)) h.length=ymask h w:=maskN_congr fun i hi=>part_all T h1 h2 hi
 rw[hm,fillL_set T h1 h2]
noncomputable def yieldL (h:List Int):List Int:=(List.range h.length).map fun i=>((ymask h (i+1):Nat):Int)
theorem yieldL_length (h:List Int):(yieldL h).length=h.length:=by simp[yieldL]
theorem yieldL_get (h:List Int) {i:Nat} (hi:i<h.length):(yieldL h)[i]? =some ((ymask h (i+1):Nat):Int):=by simp[yieldL,hi]
theorem yields_eq {h:List Int} (T:Tree h):N1z h=some (yieldL h):=by
 have hle:=T.le
 have e:N1z h=N4i h:=by unfold N1z;rfl
 rw[e]
 unfold N4i
 rw[mk_nat (by omega),implRoot_eq]
 have hT:treeB h=true:=(tree_iff h).2 T
 simp only[Option.bind_some,rootI,hT,if_true]
 have e2:N4u h (top h:Int) (List.replicate h.length 0)=N1t RR h (top h:Int) (List.replicate h.length 0):=by unfold N4u N1i;rfl
 rw[e2,fill_fuel T (top h) (top_pos h) T.top_le RR _ (by simp only[RR];omega) (by simp)]
 simp only[Option.bind_some]
 congr 1
 apply List.ext_getElem?
 intro i
 by_cases hi:i<h.length
 ·rw[fillL_get h _ _ hi,yieldL_get h hi,if_pos]
  have:undB h (i+1) (top h)=true:=undB_iff.2 (T.und_top (by omega) (by omega))
  simpa using this
 ·rw[List.getElem?_eq_none (by rw[fillL_length];omega),List.getElem?_eq_none (by rw[yieldL_length];omega)]
noncomputable def stepB (h:List Int) (w k i:Nat):Bool:=(i+1==w)||(List.range k).any fun c=>(hd h (c+1)==w)&&undB h (i+1) (c+1)
theorem step_all {h:List Int} (T:Tree h) {w:Nat} (h1:1≤w) (h2:w≤h.length) {i:Nat} (hi:i<h.length):stepB h w h.length i=undB h (i+1) w:=by
 rw[Bool.eq_iff_iff,undB_iff,T.und_child]
 simp only[stepB,Bool.or_eq_true,beq_iff_eq,List.any_eq_true,undB_iff,Bool.and_eq_true,List.mem_range]
 constructor
 ·rintro(e|⟨c,hc,e,u⟩)
  ·exact .inl ⟨e,by omega,by omega⟩
  ·exact .inr ⟨by omega,c+1,by omega,by omega,e,u⟩
 ·rintro(⟨e,_⟩|⟨_,c,c1,c2,c3,u⟩)
  ·exact .inl e
  ·exact .inr ⟨c-1,by omega,by rw[show c-1+1=c by omega];exact c3,by rw[show c-1+1=c by omega];exact u⟩
theorem step_one (h:List Int) (w:Nat) (k n:Nat):maskN (stepB h w (k+1)) n=maskN (stepB h w k) n|||(if hd h (k+1)=w then maskN (fun i=>undB h (i+1) (k+1)) n else 0):=by
 refine(eq_maskN (Nat.or_lt_two_pow (maskN_lt _ _) ?_) fun i hi=> ?_).symm
 ·split
  ·exact maskN_lt _ _
  ·exact Nat.two_pow_pos _
 ·rw[Nat.testBit_or,maskN_bit]
  simp only[hi,decide_true,Bool.true_and,stepB]
  rw[List.range_succ]
  simp only[List.any_append,List.any_cons,List.any_nil,Bool.or_false,Bool.or_assoc]
  congr 2
  by_cases e:hd h (k+1)=w
  ·rw[if_pos e,maskN_bit]
   simp[hi,e]
  ·rw[if_neg e]
   simp[e]
theorem step_none (h:List Int) {w n:Nat} (h1:1≤w) (h2:w≤n):maskN (stepB h w 0) n=2^(w-1):=by
 refine(eq_maskN (Nat.pow_lt_pow_right (by omega) (by omega)) fun i hi=> ?_).symm
 rw[Nat.testBit_two_pow]
 simp only[stepB,List.range_zero,List.any_nil,Bool.or_false]
 rw[Bool.eq_iff_iff]
 simp only[decide_eq_true_eq,beq_iff_eq]
 omega
theorem shl_tab:((List.range 8).all fun i=>shl .i64 1 (i:Int)==some ((2^i:Nat):Int))=true:=by decide+kernel
theorem shl_eq {w:Nat} (h1:1≤w) (h2:w≤8):shl .i64 1 (IntKind.wrap .i64 ((w:Int)-1))=some ((2^(w-1):Nat):Int):=by
 rw[wrap64 (by omega) (by omega),show(w:Int)-1=((w-1:Nat):Int) by omega]
 simpa using all_lt shl_tab (i:=w-1) (by omega)
theorem yield_fuel {h:List Int} (T:Tree h): ∀w,1≤w→w≤h.length→ ∀(f:Nat),h.length-dep h w<f→N20 f h (w:Int)=some ((ymask h w:Nat):Int):=by
 refine T.fallInd (P:=fun w=> ∀(f:Nat),h.length-dep h w<f→N20 f h (w:Int)=some ((ymask h w:Nat):Int)) ?_
 intro w h1 h2 ih f hf
 obtain⟨f,rfl⟩: ∃g,f=g+1:=⟨f-1,by omega⟩
 have hle:=T.le
 simp only[N20]
 generalize hR:N20 f=R0
 have ih': ∀c,1≤c→c≤h.length→hd h c=w→R0 h (c:Int)=some ((ymask h c:Nat):Int):=by
  intro c c1 c2 c3
  rw[←hR]
  refine ih c c1 c2 c3 f ?_
  have:=T.dep_step c1 c2 (by omega)
  rw[c3] at this
  have:=T.dep_lt h1 h2
  omega
 have hloop:=nloop_to (body:=fun(s:Int×Int)=>((N3v R0 h w s.1 s.2).map (Sum.elim (fun(t:Int×Int)=>Sum.inl (t.1,t.2)) (fun(t:Int)=>Sum.inr t)):Option ((Int×Int)⊕(Int))))
  (fun k=>(((maskN (stepB h w k) h.length:Nat):Int),(k:Int))) h.length ((maskN (stepB h w h.length) h.length:Nat):Int)
  (by
   intro k hk
   have hg:=T.get (w:=k+1) (by omega) (by omega)
   rw[Nat.add_sub_cancel,List.getElem?_eq_getElem hk] at hg
   have hg':h[k]=((hd h (k+1):Nat):Int):=Option.some.inj hg
   have l1:maskN (stepB h w k) h.length<256:=lt256 hle (maskN_lt _ _)
   simp only[N3v]
   rw[show decide ((k:Int)<((h.length:Nat):Int))=true from decide_eq_true (by omega),idx_lt hk,wrap64 (by omega) (by omega),hg',show(k:Int)+1=((k+1:Nat):Int) by omega]
   simp only[cond_true,Option.bind_some]
   rw[step_one]
   by_cases e:hd h (k+1)=w
   ·have l2:=ymask_lt hle (k+1)
    rw[show((((hd h (k+1):Nat):Int))==(w:Int))=true by rw[beq_iff_eq];omega,ih' (k+1) (by omega) (by omega) e,if_pos e]
    simp only[cond_true,Option.bind_some]
    rw[iori (by omega) (by omega)]
    rfl
   ·rw[show((((hd h (k+1):Nat):Int))==(w:Int))=false by rw[beq_eq_false_iff_ne];omega,if_neg e,Nat.or_zero]
    rfl)
  (by
   simp only[N3v]
   rw[show decide (((h.length:Nat):Int)<((h.length:Nat):Int))=false from decide_eq_false (by omega)]
   rfl)
 have hl:=hloop LL (by simp only[LL];omega)
 rw[step_none h h1 h2] at hl
 unfold Nd0 Ndl N6l Nd7 Nea N7i Ni1 Ndm N65
 rw[shl_eq h1 (by omega)]
 simp only[Option.bind_some]
 rw[show((((2^(w-1):Nat):Int)),(0:Int))=(((2^(w-1):Nat):Int),((0:Nat):Int)) from rfl,hl]
 simp only[Option.map_some,Option.bind_some]
 have hm:maskN (stepB h w h.length) h.length=ymask h w:=maskN_congr fun i hi=>step_all T h1 h2 hi
 rw[hm]
theorem l2Yield_eq {h:List Int} (T:Tree h) {w:Nat} (h1:1≤w) (h2:w≤h.length):N37 h (w:Int)=some ((ymask h w:Nat):Int):=by
 have e:N37 h (w:Int)=N20 RR h (w:Int):=by unfold N37 Nz;rfl
 rw[e]
 have:=T.le
 exact yield_fuel T w h1 h2 RR (by simp only[RR];omega)
theorem l2Words_tab:((List.range 256).all fun m=>N38 (m:Int)==some (wordsL m))=true:=by decide+kernel
theorem l2Words_eq {m:Nat} (h:m<256):N38 (m:Int)=some (wordsL m):=by simpa using all_lt l2Words_tab h
def rowN (m:Nat):Bool:=(List.range 8).all fun c=>(List.range c).all fun b=>(List.range b).all fun a=> !(m.testBit a&&m.testBit c)||m.testBit b
theorem rowN_iff (m:Nat):rowN m=true↔ ∀a b c,a<b→b<c→c<8→m.testBit a=true→m.testBit c=true→m.testBit b=true:=by
 unfold rowN
 simp only[List.all_eq_true,List.mem_range,Bool.or_eq_true,Bool.not_eq_true',Bool.and_eq_false_iff]
 constructor
 ·intro h a b c h1 h2 h3 h4 h5
  rcases h c h3 b h2 a h1 with(e|e)|e
  ·rw[h4] at e;cases e
  ·rw[h5] at e;cases e
  ·exact e
 ·intro h c h3 b h2 a h1
  cases x:m.testBit a with
  |false=>exact .inl (.inl rfl)
  |true=>
   cases y:m.testBit c with
   |false=>exact .inl (.inr rfl)
   |true=>exact .inr (h a b c h1 h2 h3 x y)
theorem isRow_tab:((List.range 256).all fun m=>N3o (m:Int)==some (rowN m))=true:=by decide+kernel
theorem isRow_eq {m:Nat} (h:m<256):N3o (m:Int)=some (rowN m):=by simpa using all_lt isRow_tab h
def FlatP (h:List Int):Prop:= ∀k a b c,a<b→b<c→Und h a k→Und h c k→Und h b k
noncomputable def flatB (h:List Int):Bool:= @decide (FlatP h) (Classical.propDecidable _)
theorem flatB_iff {h:List Int}:flatB h=true↔FlatP h:=by simp[flatB]
noncomputable def flatI (h:List Int):Bool:=treeB h&&flatB h
theorem row_iff {h:List Int} (T:Tree h) (k:Nat):rowN (ymask h k)=true↔ ∀a b c,a<b→b<c→Und h a k→Und h c k→Und h b k:=by
 rw[rowN_iff]
 simp only[ymask_bit T,undB_iff]
 have hle:=T.le
 constructor
 ·intro x a b c h1 h2 u v
  have ru:=T.und_rng u
  have rv:=T.und_rng v
  have:=x (a-1) (b-1) (c-1) (by omega) (by omega) (by omega) (by rw[show a-1+1=a by omega];exact u) (by rw[show c-1+1=c by omega];exact v)
  rw[show b-1+1=b by omega] at this
  exact this
 ·intro x a b c h1 h2 _ u v
  exact x (a+1) (b+1) (c+1) (by omega) (by omega) u v
theorem flat_rows {h:List Int} (T:Tree h):flatB h=(List.range h.length).all fun i=>rowN (ymask h (i+1)):=by
 rw[Bool.eq_iff_iff,flatB_iff,List.all_eq_true]
 constructor
 ·intro F i hi
  exact(row_iff T (i+1)).2 (F (i+1))
 ·intro x k a b c h1 h2 u v
  have ru:=T.und_rng u
  have:=(row_iff T (k-1+1)).1 (x (k-1) (by rw[List.mem_range];omega))
  rw[show k-1+1=k by omega] at this
  exact this a b c h1 h2 u v
theorem implFlat_eq (h:List Int):N1q h=some (flatI h):=by
 have e:N1q h=N94 h:=by unfold N1q;rfl
 rw[e]
 unfold N94 N5n Nhf Ni5 N7n Ngz Nfb N8t flatI
 rw[implTree_eq]
 cases hT:treeB h with
 |false=>rfl
 |true=>
  have T:=(tree_iff h).1 hT
  have hle:=T.le
  simp only[Option.bind_some,Bool.not_true,cond_false,Sum.elim_inl,yields_eq T,yieldL_length,Bool.true_and]
  have hloop:=nloop_while (body:=fun(s:Int)=>((N25 h.length s (yieldL h)).map (Sum.elim (fun(t:Int)=>Sum.inl t) (Sum.elim (fun(t:Bool)=>Sum.inr (Sum.inl t)) (fun(t:Unit)=>Sum.inr (Sum.inr t)))):Option ((Int)⊕(Bool⊕Unit))))
   (fun k=>(k:Int)) h.length (fun i=>rowN (ymask h (i+1))) (fun b=>cond b (.inr ()) (.inl false))
   (by
    intro k hk hp
    simp only[N25]
    rw[show decide ((k:Int)<((h.length:Nat):Int))=true from decide_eq_true (by omega),inb_nat (by rw[yieldL_length];exact hk),wrap64 (by omega) (by omega)]
    simp only[cond_true,Option.bind_some,yieldL_get h hk,isRow_eq (ymask_lt hle _),hp]
    rfl)
   (by
    intro k hk hp
    simp only[N25]
    rw[show decide ((k:Int)<((h.length:Nat):Int))=true from decide_eq_true (by omega),inb_nat (by rw[yieldL_length];exact hk),wrap64 (by omega) (by omega)]
    simp only[cond_true,Option.bind_some,yieldL_get h hk,isRow_eq (ymask_lt hle _),hp]
    rfl)
   (by
    simp only[N25]
    rw[show decide (((h.length:Nat):Int)<((h.length:Nat):Int))=false from decide_eq_false (by omega)]
    rfl)
  rw[show(0:Int)=((0:Nat):Int) from rfl,hloop LL (by simp only[LL];omega),flat_rows T]
  cases (List.range h.length).all fun i=>rowN (ymask h (i+1))<;>rfl
def Betw (a b j:Nat):Prop:=(a<j∧j<b)∨(b<j∧j<a)
def Outs (a b j:Nat):Prop:=(j<a∧j<b)∨(a<j∧b<j)
def CrossW (h:List Int) (w v:Nat):Prop:=
 (Betw w (hd h w) v∧Outs w (hd h w) (hd h v))∨(Betw w (hd h w) (hd h v)∧Outs w (hd h w) v)
def BelowP (h:List Int):Prop:= ∀w j,1≤w→w≤h.length→hd h w≠0→((w<j∧j<hd h w)∨(hd h w<j∧j<w))→Und h j (hd h w)
theorem flat_below {h:List Int} (T:Tree h):FlatP h↔BelowP h:=by
 constructor
 ·intro F w j h1 h2 h3 hj
  have hh:=T.hd_le h1 h2
  have u:=T.und_hd h1 h2 h3
  have r:Und h (hd h w) (hd h w):= .refl (by omega) hh
  rcases hj with⟨a,b⟩|⟨a,b⟩
  ·exact F (hd h w) w j (hd h w) a b u r
  ·exact F (hd h w) (hd h w) j w a b r u
 ·intro Bl
  have key: ∀k a,Und h a k→ ∀b,Betw a k b→Und h b k:=by
   intro k a u
   induction u with
   |refl h1 h2=>intro b hb;unfold Betw at hb;omega
   | @step a k h1 h2 h3 u ih=>
    intro b hb
    have hh:=T.hd_le h1 h2
    by_cases e:b=hd h a
    ·rw[e];exact u
    ·by_cases hm:(a<b∧b<hd h a)∨(hd h a<b∧b<a)
     ·exact T.und_trans (Bl a b h1 h2 h3 hm) u
     ·refine ih b ?_
      unfold Betw at hb⊢
      omega
  intro k a b c h1 h2 u v
  by_cases e:b=k
  ·have r:=T.und_rng u
   rw[e];exact .refl r.2.1 r.2.2
  ·rcases Nat.lt_or_ge b k with h|h
   ·exact key k a u b (.inl ⟨h1,h⟩)
   ·exact key k c v b (.inr ⟨by omega,h2⟩)
def PlanP (h:List Int):Prop:=
 (∀w,1≤w→w≤h.length→hd h w≠0→ ¬Betw w (hd h w) (top h))∧ ∀w v,1≤w→w≤h.length→hd h w≠0→1≤v→v≤h.length→hd h v≠0→ ¬CrossW h w v
theorem below_plan {h:List Int} (T:Tree h):BelowP h↔PlanP h:=by
 constructor
 ·intro Bl
  refine⟨fun w h1 h2 h3 hb=> ?_,fun w v h1 h2 h3 v1 v2 v3 hc=> ?_⟩
  ·have u:=Bl w (top h) h1 h2 h3 hb
   have:=T.und_of_top u
   unfold Betw at hb
   omega
  ·have hw:=T.hd_le h1 h2
   have hv:=T.hd_le v1 v2
   have s1:Und h (hd h v) (hd h w):=by
    rcases hc with⟨hb,ho⟩|⟨hb,ho⟩
    ·have u:=Bl w v h1 h2 h3 hb
     rcases(T.und_iff v1 v2).1 u with e|⟨_,u'⟩
     ·unfold Betw at hb;omega
     ·exact u'
    ·exact Bl w (hd h v) h1 h2 h3 hb
   have s2:Und h (hd h w) (hd h v):=by
    have ht:(Betw v (hd h v) w)∨(Betw v (hd h v) (hd h w)):=by
     unfold CrossW Betw Outs at hc
     unfold Betw
     omega
    rcases ht with hb|hb
    ·have u:=Bl v w v1 v2 v3 hb
     rcases(T.und_iff h1 h2).1 u with e|⟨_,u'⟩
     ·unfold Betw at hb;omega
     ·exact u'
    ·exact Bl v (hd h w) v1 v2 v3 hb
   have e:=T.und_anti s1 s2
   unfold CrossW Betw Outs at hc
   omega
 ·rintro⟨P1,P2⟩ w j h1 h2 h3 hj
  have hw:=T.hd_le h1 h2
  have j1:1≤j:=by omega
  have j2:j≤h.length:=by omega
  revert hj
  refine T.climbInd (P:=fun j=>(w<j∧j<hd h w)∨(hd h w<j∧j<w)→Und h j (hd h w)) (fun hj=>absurd hj (P1 w h1 h2 h3)) (fun v v1 v2 v3 ih hj=> ?_) j j1 j2
  have hv:=T.hd_le v1 v2
  have nc:=P2 w v h1 h2 h3 v1 v2 v3
  by_cases e1:hd h v=hd h w
  ·rw[←e1];exact T.und_hd v1 v2 v3
  ·by_cases e2:hd h v=w
   ·refine .step v1 v2 v3 ?_
    rw[e2];exact T.und_hd h1 h2 h3
   ·refine .step v1 v2 v3 (ih ?_)
    unfold CrossW Betw Outs at nc
    omega
theorem pairwise_all {α:Type} {R:α→α→Prop} (hs: ∀x y,R x y→R y x) (hr: ∀x,R x x): ∀l:List α,l.Pairwise R↔ ∀x∈l,∀y∈l,R x y
 |[]=>by simp
 |a::r=>by
  rw[List.pairwise_cons,pairwise_all hs hr r]
  constructor
  ·rintro⟨h1,h2⟩ x hx y hy
   rcases List.mem_cons.1 hx with ex|hx'<;>rcases List.mem_cons.1 hy with ey|hy'
   ·rw[ex,ey];exact hr _
   ·rw[ex];exact h1 y hy'
   ·rw[ey];exact hs _ _ (h1 x hx')
   ·exact h2 x hx' y hy'
  ·intro h
   exact⟨fun y hy=>h a List.mem_cons_self y (List.mem_cons_of_mem _ hy),fun x hx y hy=>h x (List.mem_cons_of_mem _ hx) y (List.mem_cons_of_mem _ hy)⟩
theorem arcs_pairs {h:List Int} (T:Tree h):crossN h=0↔ ∀w v,1≤w→w≤h.length→hd h w≠0→1≤v→v≤h.length→hd h v≠0→ ¬CrossW h w v:=by
 have one: ∀w v,hd h w≠w→hd h v≠v→(crossP (imin (w:Int) ((hd h w:Nat):Int),imax (w:Int) ((hd h w:Nat):Int)) (imin (v:Int) ((hd h v:Nat):Int),imax (v:Int) ((hd h v:Nat):Int))=true↔CrossW h w v):=by
  intro w v e1 e2
  unfold crossP arcX CrossW Betw Outs
  rw[decide_eq_true_eq]
  have m1:=min_max (a:=(w:Int)) (b:=((hd h w:Nat):Int)) (by omega)
  have m2:=min_max (a:=(v:Int)) (b:=((hd h v:Nat):Int)) (by omega)
  simp only
  unfold imin imax at m1 m2⊢
  split<;>split<;>split<;>split<;>omega
 unfold crossN
 rw[pairsN_zero,pairwise_all (fun x y e=>by rw[crossP_comm];exact e) (fun x=>by unfold crossP arcX;rw[decide_eq_false_iff_not];omega)]
 constructor
 ·intro H w v h1 h2 h3 v1 v2 v3 hc
  have:=H _ ((mem_arcs T).2 ⟨w,h1,h2,h3,rfl⟩) _ ((mem_arcs T).2 ⟨v,v1,v2,v3,rfl⟩)
  rw[(one w v (T.hd_other h1 h2) (T.hd_other v1 v2)).2 hc] at this
  cases this
 ·intro H p hp q hq
  obtain⟨w,h1,h2,h3,rfl⟩:=(mem_arcs T).1 hp
  obtain⟨v,v1,v2,v3,rfl⟩:=(mem_arcs T).1 hq
  cases hc:crossP (imin (w:Int) ((hd h w:Nat):Int),imax (w:Int) ((hd h w:Nat):Int)) (imin (v:Int) ((hd h v:Nat):Int),imax (v:Int) ((hd h v:Nat):Int)) with
  |false=>rfl
  |true=>exact absurd ((one w v (T.hd_other h1 h2) (T.hd_other v1 v2)).1 hc) (H w v h1 h2 h3 v1 v2 v3)
theorem plan_iff {h:List Int} (T:Tree h):FlatP h↔crossN h=0∧covB h ((top h:Nat):Int)=false:=by
 rw[flat_below T,below_plan T,arcs_pairs T]
 unfold PlanP
 constructor
 ·rintro⟨h1,h2⟩
  refine⟨h2,?_⟩
  cases hc:covB h ((top h:Nat):Int) with
  |false=>rfl
  |true=>
   obtain⟨w,w1,w2,w3,hw⟩:=(covB_iff T).1 hc
   exact absurd (by unfold Betw;omega) (h1 w w1 w2 w3)
 ·rintro⟨h2,hc⟩
  refine⟨fun w w1 w2 w3 hb=> ?_,h2⟩
  rw[(covB_iff T).2 ⟨w,w1,w2,w3,by unfold Betw at hb;omega⟩] at hc
  cases hc
def lessK (h:List Int) (w:Nat):List Nat:=((List.range (w-1)).map (· +1)).filter fun k=>hd h k==w
def moreK (h:List Int) (w:Nat):List Nat:=((List.range (h.length-w)).map (· +(w+1))).filter fun k=>hd h k==w
theorem mem_words {n k:Nat}:k∈(List.range n).map (· +1)↔1≤k∧k≤n:=by
 rw[List.mem_map]
 constructor
 ·rintro⟨j,hj,rfl⟩
  rw[List.mem_range] at hj
  omega
 ·rintro⟨a,b⟩
  exact⟨k-1,by rw[List.mem_range];omega,by omega⟩
theorem mem_lessK {h:List Int} {w k:Nat} (w2:w≤h.length):k∈lessK h w↔(1≤k∧k≤h.length)∧hd h k=w∧k<w:=by
 unfold lessK
 rw[List.mem_filter,mem_words,beq_iff_eq]
 omega
theorem mem_moreK {h:List Int} {w k:Nat}:k∈moreK h w↔(1≤k∧k≤h.length)∧hd h k=w∧w<k:=by
 unfold moreK
 rw[List.mem_filter,List.mem_map,beq_iff_eq]
 constructor
 ·rintro⟨⟨j,hj,rfl⟩,e⟩
  rw[List.mem_range] at hj
  omega
 ·rintro⟨⟨a,b⟩,e,l⟩
  exact⟨⟨k-(w+1),by rw[List.mem_range];omega,by omega⟩,e⟩
theorem words_sorted (n:Nat):((List.range n).map (· +1)).Pairwise (· < ·):=by
 rw[List.pairwise_map]
 refine List.Pairwise.imp ?_ List.pairwise_lt_range
 intro a b h
 omega
theorem lessK_sorted (h:List Int) (w:Nat):(lessK h w).Pairwise (· < ·):=(words_sorted _).filter _
theorem moreK_sorted (h:List Int) (w:Nat):(moreK h w).Pairwise (· < ·):=by
 refine List.Pairwise.filter _ ?_
 rw[List.pairwise_map]
 refine List.Pairwise.imp ?_ List.pairwise_lt_range
 intro a b h
 omega
def walkN (h:List Int):Nat→Nat→List Nat
 |0,_=> []
 |f+1,w=>(lessK h w).flatMap (walkN h f)++w::(moreK h w).flatMap (walkN h f)
section
variable {h : List Int} (T : Tree h)
include T
theorem kid_dep {w c:Nat} (c1:1≤c) (c2:c≤h.length) (w1:1≤w) (e:hd h c=w):dep h c=dep h w+1:=by
 have:=T.dep_step c1 c2 (by omega)
 rwa[e] at this
theorem walk_mem: ∀{f w x:Nat},1≤w→w≤h.length→h.length≤f+dep h w→(x∈walkN h f w↔Und h x w)
 |0,w,x,w1,w2,hf=>by
  have:=T.dep_lt w1 w2
  omega
 |f+1,w,x,w1,w2,hf=>by
  have kid: ∀c,(1≤c∧c≤h.length)∧hd h c=w→(x∈walkN h f c↔Und h x c):=fun c hc=>by
   have:=kid_dep T hc.1.1 hc.1.2 w1 hc.2
   exact walk_mem hc.1.1 hc.1.2 (by omega)
  rw[walkN,List.mem_append,List.mem_cons,List.mem_flatMap,List.mem_flatMap,T.und_child]
  constructor
  ·rintro(⟨c,hc,m⟩|e|⟨c,hc,m⟩)
   ·rw[mem_lessK w2] at hc
    exact .inr ⟨by omega,c,hc.1.1,hc.1.2,hc.2.1,(kid c ⟨hc.1,hc.2.1⟩).mp m⟩
   ·subst e
    exact .inl ⟨rfl,w1,w2⟩
   ·rw[mem_moreK] at hc
    exact .inr ⟨by omega,c,hc.1.1,hc.1.2,hc.2.1,(kid c ⟨hc.1,hc.2.1⟩).mp m⟩
  ·rintro(⟨e,_⟩|⟨_,c,c1,c2,c3,u⟩)
   ·exact .inr (.inl e)
   ·have m:=(kid c ⟨⟨c1,c2⟩,c3⟩).mpr u
    have ne:c≠w:=fun e=>T.hd_other c1 c2 (by rw[c3,e])
    by_cases l:c<w
    ·exact .inl ⟨c,(mem_lessK w2).mpr ⟨⟨c1,c2⟩,c3,l⟩,m⟩
    ·exact .inr (.inr ⟨c,mem_moreK.mpr ⟨⟨c1,c2⟩,c3,by omega⟩,m⟩)
theorem walk_pairs {R:Nat→Nat→Prop} (h1: ∀w c x,1≤w→w≤h.length→hd h c=w→c<w→Und h x c→R x w) (h2: ∀w c x,1≤w→w≤h.length→hd h c=w→w<c→Und h x c→R w x)
  (h3: ∀w c d x y,1≤w→w≤h.length→hd h c=w→hd h d=w→c<d→Und h x c→Und h y d→R x y): ∀{f w:Nat},1≤w→w≤h.length→h.length≤f+dep h w→(walkN h f w).Pairwise R
 |0,w,w1,w2,hf=>by
  have:=T.dep_lt w1 w2
  omega
 |f+1,w,w1,w2,hf=>by
  have mem: ∀c x,(1≤c∧c≤h.length)∧hd h c=w→x∈walkN h f c→Und h x c:=fun c x hc m=>by
   have:=kid_dep T hc.1.1 hc.1.2 w1 hc.2
   exact(walk_mem T hc.1.1 hc.1.2 (by omega)).mp m
  have rek: ∀c,(1≤c∧c≤h.length)∧hd h c=w→(walkN h f c).Pairwise R:=fun c hc=>by
   have:=kid_dep T hc.1.1 hc.1.2 w1 hc.2
   exact walk_pairs h1 h2 h3 hc.1.1 hc.1.2 (by omega)
  rw[walkN,List.pairwise_append,List.pairwise_cons,List.pairwise_flatMap,List.pairwise_flatMap]
  refine⟨⟨fun c hc=> ?_,?_⟩,⟨fun x m=> ?_,fun c hc=> ?_,?_⟩,fun x mx y my=> ?_⟩
  ·rw[mem_lessK w2] at hc
   exact rek c ⟨hc.1,hc.2.1⟩
  ·refine List.Pairwise.imp_of_mem ?_ (lessK_sorted h w)
   intro c d hc hd' l x mx y my
   rw[mem_lessK w2] at hc hd'
   exact h3 w c d x y w1 w2 hc.2.1 hd'.2.1 l (mem c x ⟨hc.1,hc.2.1⟩ mx) (mem d y ⟨hd'.1,hd'.2.1⟩ my)
  ·obtain⟨c,hc,mx⟩:=List.mem_flatMap.mp m
   rw[mem_moreK] at hc
   exact h2 w c x w1 w2 hc.2.1 hc.2.2 (mem c x ⟨hc.1,hc.2.1⟩ mx)
  ·rw[mem_moreK] at hc
   exact rek c ⟨hc.1,hc.2.1⟩
  ·refine List.Pairwise.imp_of_mem ?_ (moreK_sorted h w)
   intro c d hc hd' l x mx y my
   rw[mem_moreK] at hc hd'
   exact h3 w c d x y w1 w2 hc.2.1 hd'.2.1 l (mem c x ⟨hc.1,hc.2.1⟩ mx) (mem d y ⟨hd'.1,hd'.2.1⟩ my)
  ·obtain⟨c,hc,mx⟩:=List.mem_flatMap.mp mx
   rw[mem_lessK w2] at hc
   have ux:=mem c x ⟨hc.1,hc.2.1⟩ mx
   rcases List.mem_cons.mp my with e|my
   ·rw[e]
    exact h1 w c x w1 w2 hc.2.1 hc.2.2 ux
   ·obtain⟨d,hd',my⟩:=List.mem_flatMap.mp my
    rw[mem_moreK] at hd'
    exact h3 w c d x y w1 w2 hc.2.1 hd'.2.1 (by omega) ux (mem d y ⟨hd'.1,hd'.2.1⟩ my)
theorem walk_nodup {f w:Nat} (w1:1≤w) (w2:w≤h.length) (hf:h.length≤f+dep h w):(walkN h f w).Nodup:=by
 refine walk_pairs T ?_ ?_ ?_ w1 w2 hf
 ·intro w c x w1 w2 e l u q
  subst q
  have r:=(T.und_rng u).2
  have:=T.und_anti u (by have v:=T.und_hd r.1 r.2 (by omega);rwa[e] at v)
  omega
 ·intro w c x w1 w2 e l u q
  subst q
  have r:=(T.und_rng u).2
  have:=T.und_anti u (by have v:=T.und_hd r.1 r.2 (by omega);rwa[e] at v)
  omega
 ·intro w c d x y w1 w2 hc hd' l u v q
  subst q
  have:=T.und_child_unique (by omega) hc hd' u v
  omega
def flatO (h:List Int):List Nat:=walkN h h.length (top h)
theorem flatO_mem {x:Nat}:x∈flatO h↔1≤x∧x≤h.length:=by
 unfold flatO
 rw[walk_mem T (top_pos h) T.top_le (by omega)]
 exact⟨fun u=>(T.und_rng u).1,fun r=>T.und_top r.1 r.2⟩
theorem flatO_nodup:(flatO h).Nodup:=walk_nodup T (top_pos h) T.top_le (by omega)
theorem flatO_length:(flatO h).length=h.length:=by
 have p:(flatO h).Perm ((List.range h.length).map (· +1)):=by
  rw[List.perm_ext_iff_of_nodup (flatO_nodup T) (List.Pairwise.imp (fun h=>Nat.ne_of_lt h) (words_sorted _))]
  intro x
  rw[flatO_mem T,mem_words]
 rw[p.length_eq]
 simp
theorem flatO_part: ∀w,1≤w→w≤h.length→ ∃f A C,h.length≤f+dep h w∧flatO h=A++walkN h f w++C:=by
 refine T.climbInd ?_ ?_
 ·exact⟨h.length,[],[],by omega,by simp[flatO]⟩
 ·rintro w w1 w2 z ⟨f,A,C,hf,e⟩
  have hv:=T.hd_le w1 w2
  have dw:=T.dep_step w1 w2 z
  cases f with
  |zero=>
   have:=T.dep_lt (w:=hd h w) (by omega) hv
   omega
  |succ f=>
   rw[walkN] at e
   have ne:w≠hd h w:=fun q=>T.hd_other w1 w2 q.symm
   by_cases l:w<hd h w
   ·have m:w∈lessK h (hd h w):=(mem_lessK hv).mpr ⟨⟨w1,w2⟩,rfl,l⟩
    obtain⟨L1,L2,eL⟩:=List.append_of_mem m
    refine⟨f,A++L1.flatMap (walkN h f),L2.flatMap (walkN h f)++hd h w::(moreK h (hd h w)).flatMap (walkN h f)++C,by omega,?_⟩
    rw[e,eL]
    simp
   ·have m:w∈moreK h (hd h w):=mem_moreK.mpr ⟨⟨w1,w2⟩,rfl,by omega⟩
    obtain⟨L1,L2,eL⟩:=List.append_of_mem m
    refine⟨f,A++((lessK h (hd h w)).flatMap (walkN h f)++hd h w::L1.flatMap (walkN h f)),L2.flatMap (walkN h f)++C,by omega,?_⟩
    rw[e,eL]
    simp
end
def flatOI (h:List Int):List Int:=(flatO h).map fun(x:Nat)=>(x:Int)
section
variable {h : List Int} (T : Tree h)
include T
theorem flatOI_length:(flatOI h).length=h.length:=by
 unfold flatOI
 rw[List.length_map,flatO_length T]
theorem flatOI_get {k:Nat} (hk:k<h.length):(flatOI h)[k]? =some (((flatO h)[k]'(by rw[flatO_length T];exact hk):Nat):Int):=by
 unfold flatOI
 rw[List.getElem?_map,List.getElem?_eq_getElem (by rw[flatO_length T];exact hk)]
 rfl
theorem flatOI_order:OrderP (flatOI h) ((flatOI h).length:Nat):=by
 rw[orderP_iff,flatOI_length T]
 refine⟨fun x hx=> ?_,?_⟩
 ·unfold flatOI at hx
  obtain⟨y,hy,rfl⟩:=List.mem_map.mp hx
  have:=(flatO_mem T).mp hy
  omega
 ·unfold flatOI
  rw[List.Nodup,List.pairwise_map]
  refine List.Pairwise.imp ?_ (flatO_nodup T)
  intro a b hab e
  exact hab (by omega)
end
def atO (o:List Int) (i:Nat):Nat:=(o.getD (i-1) 0).toNat
theorem atO_get {o:List Int} (hP:OrderP o (o.length:Nat)) {i:Nat} (i1:1≤i) (i2:i≤o.length):1≤atO o i∧atO o i≤o.length∧o[i-1]? =some ((atO o i:Nat):Int)∧pl o (atO o i)=i:=by
 have lt:i-1<o.length:=by omega
 have r:=hP.1 (i-1) lt
 have e:atO o i=o[i-1].toNat:=by
  unfold atO
  rw[List.getD_eq_getElem?_getD,List.getElem?_eq_getElem lt,Option.getD_some]
 have g:=pl_get hP lt
 rw[e,g]
 refine⟨by omega,by omega,?_,by omega⟩
 rw[List.getElem?_eq_getElem lt]
 congr 1
 omega
theorem atO_pl {o:List Int} (hP:OrderP o (o.length:Nat)) {v:Nat} (v1:1≤v) (v2:v≤o.length):atO o (pl o v)=v:=by
 obtain⟨a,b,c⟩:=pl_rng hP v1 v2
 unfold atO
 rw[List.getD_eq_getElem?_getD,c,Option.getD_some,Int.toNat_natCast]
section
variable {h o : List Int} (T : Tree h) (hl : o.length = h.length) (hP : OrderP o (o.length : Nat))
include T hl hP
theorem put_hd {i:Nat} (i1:1≤i) (i2:i≤o.length):hd (putRow h o) i=pl o (hd h (atO o i)):=by
 have lt:i-1<o.length:=by omega
 have g:=put_get T hl hP lt
 have e:=(atO_get hP i1 i2).2.2.1
 rw[List.getElem?_eq_getElem lt] at e
 unfold hd
 rw[List.getD_eq_getElem?_getD,g,Option.getD_some,Option.some.inj e,Int.toNat_natCast,Int.toNat_natCast]
 rfl
theorem und_put {i j:Nat} (u:Und (putRow h o) i j):Und h (atO o i) (atO o j):=by
 have len:=putRow_length h o
 induction u with
 |refl h1 h2=>
  have:=atO_get hP h1 (by omega)
  exact .refl this.1 (by omega)
 |step h1 h2 h3 u ih=>
  rename_i i j
  have a:=atO_get hP h1 (by omega)
  rw[put_hd T hl hP h1 (by omega)] at h3 ih
  have k:=pl_hd T hl hP a.1 a.2.1
  have z:hd h (atO o i)≠0:=fun q=>h3 (k.2.mpr q)
  have hle:=T.hd_le a.1 (by omega)
  rw[atO_pl hP (by omega) (by omega)] at ih
  exact .step a.1 (by omega) z ih
theorem und_put_back {v w:Nat} (u:Und h v w):Und (putRow h o) (pl o v) (pl o w):=by
 have len:=putRow_length h o
 induction u with
 |refl h1 h2=>
  have:=pl_rng hP h1 (by omega)
  exact .refl this.1 (by omega)
 |step h1 h2 h3 u ih=>
  have a:=pl_rng hP h1 (by omega)
  have k:=pl_hd T hl hP h1 (by omega)
  refine .step a.1 (by omega) ?_ ?_
  ·rw[put_hd T hl hP a.1 a.2.1,atO_pl hP h1 (by omega)]
   exact fun q=>h3 (k.2.mp q)
  ·rw[put_hd T hl hP a.1 a.2.1,atO_pl hP h1 (by omega)]
   exact ih
end
theorem part_betw {l A B C:List Nat} (nd:l.Nodup) (e:l=A++B++C) {i j k:Nat} (ij:i<j) (jk:j<k) (hk:k<l.length) (mi:l[i]∈B) (mk:l[k]∈B):l[j]∈B:=by
 subst e
 have place: ∀m (hm:m<(A++B++C).length),(A++B++C)[m]∈B→A.length≤m∧m<A.length+B.length:=by
  intro m hm mb
  rw[List.append_assoc] at nd
  rw[List.nodup_append] at nd
  obtain⟨_,n2,n3⟩:=nd
  rw[List.nodup_append] at n2
  refine⟨?_,?_⟩
  ·refine Classical.byContradiction fun q=> ?_
   have lt:m<A.length:=by omega
   have e:(A++B++C)[m]=A[m]:=by
    rw[List.getElem_append_left (by simp;omega),List.getElem_append_left lt]
   rw[e] at mb
   exact n3 _ (List.getElem_mem lt) _ (List.mem_append_left _ mb) rfl
  ·refine Classical.byContradiction fun q=> ?_
   have e:(A++B++C)[m]∈C:=by
    rw[List.getElem_append_right (by simp;omega)]
    exact List.getElem_mem _
   exact n2.2.2 _ mb _ e rfl
 have a:=place i (by omega) mi
 have b:=place k hk mk
 rw[List.getElem_append_left (by simp;omega),List.getElem_append_right (by omega)]
 exact List.getElem_mem _
section
variable {h : List Int} (T : Tree h)
include T
theorem atO_flatOI {i:Nat} (i1:1≤i) (i2:i≤h.length):atO (flatOI h) i=(flatO h)[i-1]'(by rw[flatO_length T];omega):=by
 unfold atO
 rw[List.getD_eq_getElem?_getD,flatOI_get T (by omega),Option.getD_some,Int.toNat_natCast]
theorem made_flat:FlatP (putRow h (flatOI h)):=by
 have hP:=flatOI_order T
 have hl:=flatOI_length T
 have fl:=flatO_length T
 have len:=putRow_length h (flatOI h)
 intro k a b c ab bc ua uc
 have T':=put_tree T hl hP
 have ra:=T'.und_rng ua
 have rc:=T'.und_rng uc
 have va:=und_put T hl hP ua
 have vc:=und_put T hl hP uc
 have rk:=atO_get hP ra.2.1 (by omega)
 obtain⟨f,A,C,hf,e⟩:=flatO_part T (atO (flatOI h) k) rk.1 (by omega)
 rw[atO_flatOI T ra.1.1 (by omega)] at va
 rw[atO_flatOI T rc.1.1 (by omega)] at vc
 have mb:=part_betw (flatO_nodup T) e (i:=a-1) (j:=b-1) (k:=c-1) (by omega) (by omega) (by omega) ((walk_mem T rk.1 (by omega) hf).mpr va) ((walk_mem T rk.1 (by omega) hf).mpr vc)
 have vb:=(walk_mem T rk.1 (by omega) hf).mp mb
 rw[←atO_flatOI T (i:=b) (by omega) (by omega)] at vb
 have wb:=und_put_back T hl hP vb
 rwa[(atO_get hP (by omega) (by omega)).2.2.2,rk.2.2.2] at wb
end
def sumR (f:Nat→Nat):Nat→Nat
 |0=>0
 |n+1=>sumR f n+f n
theorem sumR_congr {f g:Nat→Nat}: ∀{n:Nat},(∀i,i<n→f i=g i)→sumR f n=sumR g n
 |0,_=>rfl
 |n+1,h=>by rw[sumR,sumR,sumR_congr fun i hi=>h i (by omega),h n (by omega)]
theorem sumR_le {f g:Nat→Nat}: ∀{n:Nat},(∀i,i<n→f i≤g i)→sumR f n≤sumR g n
 |0,_=>Nat.le_refl _
 |n+1,h=>by
  have:=sumR_le fun i (hi:i<n)=>h i (by omega)
  have:=h n (by omega)
  rw[sumR,sumR]
  omega
theorem sumR_add (f g:Nat→Nat): ∀n,sumR (fun i=>f i+g i) n=sumR f n+sumR g n
 |0=>rfl
 |n+1=>by
  rw[sumR,sumR,sumR,sumR_add f g n]
  omega
theorem sumR_const (c:Nat): ∀n,sumR (fun _=>c) n=n*c
 |0=>by simp[sumR]
 |n+1=>by rw[sumR,sumR_const c n,Nat.succ_mul]
theorem sumR_mul (c:Nat) (f:Nat→Nat): ∀n,sumR (fun i=>c*f i) n=c*sumR f n
 |0=>rfl
 |n+1=>by rw[sumR,sumR,sumR_mul c f n,Nat.mul_add]
theorem sumR_swap (f:Nat→Nat→Nat) (m:Nat): ∀n,sumR (fun i=>sumR (f i) m) n=sumR (fun j=>sumR (fun i=>f i j) n) m
 |0=>by
  simp only[sumR]
  rw[sumR_const]
  rfl
 |n+1=>by
  rw[sumR,sumR_swap f m n,←sumR_add]
  exact sumR_congr fun j _=>rfl
theorem sumR_list (f:Nat→Nat): ∀n,sumR f n=((List.range n).map f).sum
 |0=>rfl
 |n+1=>by rw[sumR,sumR_list f n,List.range_succ,List.map_append,List.sum_append];simp
theorem sum_perm {l l':List Nat} (p:l.Perm l'):l.sum=l'.sum:=by
 induction p with
 |nil=>rfl
 |cons x _ ih=>rw[List.sum_cons,List.sum_cons,ih]
 |swap x y l=>simp only[List.sum_cons];omega
 |trans _ _ h1 h2=>exact h1.trans h2
theorem sumR_perm {σ:Nat→Nat} {n:Nat} (h:((List.range n).map σ).Perm (List.range n)) (f:Nat→Nat):sumR (fun i=>f (σ i)) n=sumR f n:=by
 rw[sumR_list,sumR_list,←sum_perm (h.map f),List.map_map]
 rfl
def ind (b:Bool):Nat:=if b then 1 else 0
theorem ind_le (b:Bool):ind b≤1:=by cases b<;>simp[ind]
theorem sumR_ind (p:Nat→Bool): ∀n,sumR (fun i=>ind (p i)) n=(List.range n).countP p
 |0=>rfl
 |n+1=>by
  rw[sumR,sumR_ind p n,List.range_succ,List.countP_append]
  cases h:p n<;>simp[ind,h]
theorem sumR_zero {f:Nat→Nat}: ∀{n:Nat},sumR f n=0↔ ∀i,i<n→f i=0
 |0=>by simp[sumR]
 |n+1=>by
  rw[sumR]
  constructor
  ·intro h i hi
   by_cases e:i=n
   ·subst e;omega
   ·exact(sumR_zero (n:=n)).mp (by omega) i (by omega)
  ·intro h
   have:=(sumR_zero (n:=n)).mpr fun i hi=>h i (by omega)
   have:=h n (by omega)
   omega
theorem sumR_single {f:Nat→Nat}: ∀{n k:Nat},k<n→(∀i,i<n→i≠k→f i=0)→sumR f n=f k
 |n+1,k,hk,h=>by
  rw[sumR]
  by_cases e:k=n
  ·subst e
   rw[sumR_zero.mpr fun i hi=>h i (by omega) (by omega)]
   omega
  ·rw[sumR_single (n:=n) (k:=k) (by omega) fun i hi ne=>h i (by omega) ne,h n (by omega) (by omega)]
   omega
section
variable {o : List Int} (hP : OrderP o (o.length : Nat))
include hP
theorem atO_perm:((List.range o.length).map fun i=>atO o (i+1)-1).Perm (List.range o.length):=by
 have p:=(order_perm hP).map fun x:Int=>x.toNat-1
 rw[List.map_map] at p
 have e1:(o.map fun x:Int=>x.toNat-1)=(List.range o.length).map fun i=>atO o (i+1)-1:=by
  apply List.ext_getElem (by simp)
  intro i h1 h2
  simp only[List.length_map] at h1
  simp only[List.getElem_map,List.getElem_range]
  unfold atO
  rw[Nat.add_sub_cancel,List.getD_eq_getElem?_getD,List.getElem?_eq_getElem h1,Option.getD_some]
 have e2:((List.range o.length).map ((fun x:Int=>x.toNat-1)∘fun k=>((k+1:Nat):Int)))=List.range o.length:=by
  rw[List.map_congr_left (g:=id),List.map_id]
  intro k _
  simp only[Function.comp,id]
  omega
 rw[e1,e2] at p
 exact p
theorem sumR_order (f:Nat→Nat):sumR (fun i=>f (atO o (i+1))) o.length=sumR (fun i=>f (i+1)) o.length:=by
 rw[←sumR_perm (atO_perm hP) fun i=>f (i+1)]
 refine sumR_congr fun i hi=> ?_
 have:=(atO_get hP (show 1≤i+1 by omega) (by omega)).1
 rw[Nat.sub_add_cancel this]
theorem pl_eq_iff {v i:Nat} (v2:v≤o.length) (i1:1≤i) (i2:i≤o.length):pl o v=i↔v=atO o i:=by
 constructor
 ·rintro rfl
  by_cases v0:v=0
  ·subst v0
   rw[pl_zero hP] at i1
   omega
  ·rw[atO_pl hP (by omega) v2]
 ·rintro rfl
  exact(atO_get hP i1 i2).2.2.2
end
def kidsN (h:List Int) (w:Nat):Nat:=(List.range h.length).countP fun i=>hd h (i+1)==w
theorem kidsN_sum (h:List Int) (w:Nat):kidsN h w=sumR (fun i=>ind (hd h (i+1)==w)) h.length:=by rw[sumR_ind];rfl
section
variable {h o : List Int} (T : Tree h) (hl : o.length = h.length) (hP : OrderP o (o.length : Nat))
include T hl hP
theorem put_hd_zero {i:Nat} (i1:1≤i) (i2:i≤o.length):hd (putRow h o) i=0↔hd h (atO o i)=0:=by
 have g:=atO_get hP i1 i2
 rw[put_hd T hl hP i1 i2]
 exact(pl_hd T hl hP g.1 g.2.1).2
theorem put_hd_iff {i j:Nat} (i1:1≤i) (i2:i≤o.length) (j1:1≤j) (j2:j≤o.length):hd (putRow h o) i=j↔hd h (atO o i)=atO o j:=by
 have g:=atO_get hP i1 i2
 have l:=T.hd_le g.1 (by omega)
 rw[put_hd T hl hP i1 i2,pl_eq_iff hP (by omega) j1 j2]
end
section
variable {h : List Int} (T : Tree h)
include T
theorem kids_total:sumR (fun i=>kidsN h (i+1)) h.length=h.length-1:=by
 have e:sumR (fun i=>kidsN h (i+1)) h.length=sumR (fun j=>ind (hd h (j+1) !=0)) h.length:=by
  rw[sumR_congr fun i _=>kidsN_sum h (i+1),sumR_swap]
  refine sumR_congr fun j hj=> ?_
  have l:=T.hd_le (show 1≤j+1 by omega) (by omega)
  by_cases z:hd h (j+1)=0
  ·rw[z,(sumR_zero (f:=fun i=>ind (0==i+1))).mpr fun i _=>rfl]
   rfl
  ·rw[sumR_single (k:=hd h (j+1)-1) (by omega) fun i _ ne=>by
    rw[show(hd h (j+1)==i+1)=false from beq_eq_false_iff_ne.mpr (by omega)]
    rfl]
   rw[show(hd h (j+1)==hd h (j+1)-1+1)=true from beq_iff_eq.mpr (by omega),show(hd h (j+1) !=0)=true from bne_iff_ne.mpr z]
 have e2:sumR (fun j=>ind (hd h (j+1) !=0)) h.length+sumR (fun j=>ind (hd h (j+1)==0)) h.length=h.length:=by
  rw[←sumR_add,sumR_congr (g:=fun _=>1),sumR_const]
  ·omega
  ·intro i _
   by_cases z:hd h (i+1)=0
   ·rw[z];rfl
   ·rw[show(hd h (i+1) !=0)=true from bne_iff_ne.mpr z,show(hd h (i+1)==0)=false from beq_eq_false_iff_ne.mpr z]
    rfl
 have e3:sumR (fun j=>ind (hd h (j+1)==0)) h.length=1:=by
  have t1:=top_pos h
  have t2:=T.top_le
  rw[sumR_single (k:=top h-1) (by omega) fun i hi ne=> ?_]
  ·rw[show top h-1+1=top h by omega,(T.hd_zero t1 t2).mpr rfl]
   rfl
  ·rw[show(hd h (i+1)==0)=false from beq_eq_false_iff_ne.mpr fun z=>ne (by
    have:=(T.hd_zero (show 1≤i+1 by omega) (by omega)).mp z
    omega)]
   rfl
 omega
theorem heads_total:sumR (fun i=>if hd h (i+1)=0 then 0 else 1) h.length=h.length-1:=by
 have e:sumR (fun i=>if hd h (i+1)=0 then 0 else 1) h.length+sumR (fun j=>ind (hd h (j+1)==0)) h.length=h.length:=by
  rw[←sumR_add,sumR_congr (g:=fun _=>1),sumR_const]
  ·omega
  ·intro i _
   by_cases z:hd h (i+1)=0
   ·rw[z];rfl
   ·rw[if_neg z,show(hd h (i+1)==0)=false from beq_eq_false_iff_ne.mpr z]
    rfl
 have e3:sumR (fun j=>ind (hd h (j+1)==0)) h.length=1:=by
  have t1:=top_pos h
  have t2:=T.top_le
  rw[sumR_single (k:=top h-1) (by omega) fun i hi ne=> ?_]
  ·rw[show top h-1+1=top h by omega,(T.hd_zero t1 t2).mpr rfl]
   rfl
  ·rw[show(hd h (i+1)==0)=false from beq_eq_false_iff_ne.mpr fun z=>ne (by
    have:=(T.hd_zero (show 1≤i+1 by omega) (by omega)).mp z
    omega)]
   rfl
 omega
end
def lenW (h:List Int) (w:Nat):Nat:=if hd h w=0 then 0 else max (hd h w) w-min (hd h w) w
def lenN (h:List Int):Nat:=sumR (fun i=>lenW h (i+1)) h.length
theorem sumR_between {a b:Nat} (h1:1≤a) (h2:a≤b): ∀m,sumR (fun g=>ind (decide (a≤g+1∧g+1<b))) m=min b (m+1)-min a (m+1)
 |0=>by
  simp only[sumR]
  omega
 |m+1=>by
  rw[sumR,sumR_between h1 h2 m]
  by_cases e:a≤m+1∧m+1<b
  ·rw[decide_eq_true e]
   simp only[ind,if_true]
   omega
  ·rw[decide_eq_false e]
   simp only[ind,if_false,Bool.false_eq_true]
   omega
section
variable {h : List Int} (T : Tree h)
include T
theorem hd_self {w:Nat} (w1:1≤w) (w2:w≤h.length):hd h w≠w:=by
 intro e
 have:=T.dep_step w1 w2 (by omega)
 rw[e] at this
 omega
theorem lenW_lt {w:Nat} (w1:1≤w) (w2:w≤h.length):lenW h w<h.length:=by
 unfold lenW
 have:=T.hd_le w1 w2
 split<;>omega
theorem len_le:lenN h≤64:=by
 have l:=T.le
 have:=sumR_le (f:=fun i=>lenW h (i+1)) (g:=fun _=>8) (n:=h.length) fun i hi=>by
  have:=lenW_lt T (show 1≤i+1 by omega) (by omega)
  omega
 rw[sumR_const] at this
 unfold lenN
 omega
end
def pairsV {α:Type} (f:α→α→Nat):List α→Nat
 |[]=>0
 |a::r=>(r.map (f a)).sum+pairsV f r
section
variable {α : Type}
theorem sum_le {f g:α→Nat}: ∀{l:List α},(∀x∈l,f x≤g x)→(l.map f).sum≤(l.map g).sum
 |[],_=>Nat.le_refl _
 |a::r,h=>by
  rw[List.map_cons,List.map_cons,List.sum_cons,List.sum_cons]
  have:=h a List.mem_cons_self
  have:=sum_le fun x hx=>h x (List.mem_cons_of_mem a hx)
  omega
theorem sum_same {f g:α→Nat} {l:List α} (h: ∀x∈l,f x=g x):(l.map f).sum=(l.map g).sum:=
 Nat.le_antisymm (sum_le fun x hx=>Nat.le_of_eq (h x hx)) (sum_le fun x hx=>Nat.le_of_eq (h x hx).symm)
theorem sum_none {f:α→Nat}: ∀{l:List α},(∀x∈l,f x=0)→(l.map f).sum=0
 |[],_=>rfl
 |a::r,h=>by rw[List.map_cons,List.sum_cons,h a List.mem_cons_self,sum_none fun x hx=>h x (List.mem_cons_of_mem a hx)]
theorem sum_ind (p:α→Bool): ∀l:List α,(l.map fun x=>ind (p x)).sum=l.countP p
 |[]=>rfl
 |a::r=>by
  rw[List.map_cons,List.sum_cons,sum_ind p r,List.countP_cons]
  cases p a<;>simp[ind]<;>omega
theorem pairsV_same {R:α→α→Prop} {f g:α→α→Nat} (hfg: ∀a b,R a b→f a b=g a b): ∀{l:List α},l.Pairwise R→pairsV f l=pairsV g l
 |[],_=>rfl
 |a::r,h=>by
  rw[List.pairwise_cons] at h
  rw[pairsV,pairsV,pairsV_same hfg h.2,sum_same fun x hx=>hfg a x (h.1 x hx)]
theorem pairsV_le {R:α→α→Prop} {f g:α→α→Nat} (hfg: ∀a b,R a b→f a b≤g a b): ∀{l:List α},l.Pairwise R→pairsV f l≤pairsV g l
 |[],_=>Nat.le_refl _
 |a::r,h=>by
  rw[List.pairwise_cons] at h
  have:=pairsV_le hfg h.2
  have:=sum_le fun x hx=>hfg a x (h.1 x hx)
  rw[pairsV,pairsV]
  omega
end
def insL (l:List Int) (p:Nat) (k:Int):List Int:=l.take p++k::l.drop p
theorem insL_perm (l:List Int) (p:Nat) (k:Int):(insL l p k).Perm (k::l):=by
 have:=List.perm_middle (a:=k) (l₁:=l.take p) (l₂:=l.drop p)
 rw[List.take_append_drop] at this
 exact this
theorem insL_length (l:List Int) (p:Nat) (k:Int):(insL l p k).length=l.length+1:=(insL_perm l p k).length_eq
theorem insL_order {o:List Int} (hP:OrderP o (o.length:Nat)) (p:Nat):OrderP (insL o p ((o.length+1:Nat):Int)) ((insL o p ((o.length+1:Nat):Int)).length:Nat):=by
 rw[insL_length,orderP_iff]
 have h:=(orderP_iff o _).mp hP
 have pm:=insL_perm o p ((o.length+1:Nat):Int)
 refine⟨fun x hx=> ?_,pm.nodup_iff.mpr ?_⟩
 ·rcases List.mem_cons.mp (pm.mem_iff.mp hx) with rfl|hx
  ·omega
  ·have:=h.1 x hx
   omega
 ·rw[List.nodup_cons]
  refine⟨fun y=> ?_,h.2⟩
  have:=h.1 _ y
  omega
def ordK (at_:Nat):Nat→List Int×Nat
 |0=>([],at_)
 |k+1=>(insL (ordK at_ k).1 ((ordK at_ k).2% (k+1)) ((k+1:Nat):Int),(ordK at_ k).2/(k+1))
def orderAt (n at_:Nat):List Int:=(ordK at_ n).1
theorem ordK_order (at_:Nat): ∀k,(ordK at_ k).1.length=k∧OrderP (ordK at_ k).1 (k:Nat)
 |0=>⟨rfl,by
  rw[orderP_iff]
  exact⟨fun x hx=>(List.not_mem_nil hx).elim,List.nodup_nil⟩⟩
 |k+1=>by
  obtain⟨l,p⟩:=ordK_order at_ k
  have q:OrderP (ordK at_ k).1 ((ordK at_ k).1.length:Nat):=by rw[l];exact p
  have r:=insL_order q ((ordK at_ k).2% (k+1))
  rw[l] at r
  have len:(insL (ordK at_ k).1 ((ordK at_ k).2% (k+1)) ((k+1:Nat):Int)).length=k+1:=by rw[insL_length,l]
  rw[len] at r
  exact⟨len,r⟩
theorem orderAt_length (n at_:Nat):(orderAt n at_).length=n:=(ordK_order at_ n).1
theorem orderAt_order (n at_:Nat):OrderP (orderAt n at_) ((orderAt n at_).length:Nat):=by
 rw[orderAt_length]
 exact(ordK_order at_ n).2
def factN:Nat→Nat
 |0=>1
 |n+1=>factN n*(n+1)
section
variable {α : Type}
theorem pairsV_perm {f:α→α→Nat} (hf: ∀a b,f a b=f b a) {l l':List α} (p:l.Perm l'):pairsV f l=pairsV f l':=by
 induction p with
 |nil=>rfl
 |cons x p ih=>rw[pairsV,pairsV,ih,sum_perm (p.map (f x))]
 |swap x y l=>
  simp only[pairsV,List.map_cons,List.sum_cons]
  rw[hf x y]
  omega
 |trans _ _ h1 h2=>exact h1.trans h2
end
noncomputable def sizeW (h:List Int) (w:Nat):Nat:=sumR (fun i=>ind (undB h (i+1) w)) h.length
theorem ind_mul (a b:Bool):ind (a&&b)=ind a*ind b:=by cases a<;>cases b<;>rfl
theorem size_le (h:List Int) (w:Nat):sizeW h w≤h.length:=by
 have:=sumR_le (f:=fun i=>ind (undB h (i+1) w)) (g:=fun _=>1) (n:=h.length) fun i _=>ind_le _
 rw[sumR_const] at this
 unfold sizeW
 omega
section
variable {h : List Int} (T : Tree h)
include T
theorem kid_not_up {c:Nat} (c1:1≤c) (c2:c≤h.length) (hc:hd h c≠0): ¬Und h (hd h c) c:=by
 intro u
 have v:=T.und_hd c1 c2 hc
 exact hd_self T c1 c2 (T.und_anti u v)
theorem und_split {i w:Nat} (hi:i<h.length) (w1:1≤w) (w2:w≤h.length):
  ind (undB h (i+1) w)=ind (i+1==w)+sumR (fun c=>ind (hd h (c+1)==w&&undB h (i+1) (c+1))) h.length:=by
 by_cases e:i+1=w
 ·have z: ∀c,c<h.length→ind (hd h (c+1)==w&&undB h (i+1) (c+1))=0:=by
   intro c hc
   by_cases q:hd h (c+1)=w
   ·have n:=kid_not_up T (show 1≤c+1 by omega) (show c+1≤h.length by omega) (by omega)
    rw[q,←e,←undB_false] at n
    rw[n,Bool.and_false]
    rfl
   ·rw[show(hd h (c+1)==w)=false from beq_eq_false_iff_ne.mpr q]
    rfl
  rw[sumR_zero.mpr z,e,undB_iff.mpr (.refl w1 w2),beq_self_eq_true]
  rfl
 ·rw[show(i+1==w)=false from beq_eq_false_iff_ne.mpr e]
  by_cases u:Und h (i+1) w
  ·rcases T.und_child.mp u with⟨y,_⟩|⟨_,c,c1,c2,hc,uc⟩
   ·exact absurd y e
   ·rw[sumR_single (k:=c-1) (by omega) fun d hd' ne=>by
     by_cases q:hd h (d+1)=w∧Und h (i+1) (d+1)
     ·have:=T.und_child_unique (show w≠0 by omega) hc q.1 uc q.2
      omega
     ·rw[show(hd h (d+1)==w&&undB h (i+1) (d+1))=false from by
       rw[Bool.eq_false_iff]
       intro y
       rw[Bool.and_eq_true,beq_iff_eq,undB_iff] at y
       exact q y]
      rfl]
    rw[show c-1+1=c by omega,hc,undB_iff.mpr u,undB_iff.mpr uc,beq_self_eq_true]
    rfl
  ·have z: ∀c,c<h.length→ind (hd h (c+1)==w&&undB h (i+1) (c+1))=0:=by
    intro c hc
    rw[show(hd h (c+1)==w&&undB h (i+1) (c+1))=false from by
     rw[Bool.eq_false_iff]
     intro y
     rw[Bool.and_eq_true,beq_iff_eq,undB_iff] at y
     exact u (T.und_child.mpr (.inr ⟨by omega,c+1,by omega,by omega,y.1,y.2⟩))]
    rfl
   rw[sumR_zero.mpr z,undB_false.mpr u]
   rfl
end
def btwB (c w j:Nat):Bool:=decide ((c<j∧j<w)∨(w<j∧j<c))
def sideB (c w j:Nat):Bool:=decide ((c<w∧c<j)∨(w<c∧j<c))
theorem row_apart {h:List Int} (F:FlatP h) {d j c:Nat} (d1:1≤d) (d2:d≤h.length) (u:Und h j d) (n: ¬Und h c d):(c<j↔c<d)∧(j<c↔d<c):=by
 have ud:Und h d d:= .refl d1 d2
 have ne:j≠c:=by
  rintro rfl
  exact n u
 have nd:d≠c:=by
  rintro rfl
  exact n ud
 constructor
 ·constructor
  ·intro lt
   by_cases q:c<d
   ·exact q
   ·exact absurd (F d d c j (by omega) lt ud u) n
  ·intro lt
   by_cases q:c<j
   ·exact q
   ·exact absurd (F d j c d (by omega) lt u ud) n
 ·constructor
  ·intro lt
   by_cases q:d<c
   ·exact q
   ·exact absurd (F d j c d lt (by omega) u ud) n
  ·intro lt
   by_cases q:j<c
   ·exact q
   ·exact absurd (F d d c j lt (by omega) ud u) n
section
variable {h : List Int} (T : Tree h) (F : FlatP h)
include T F
theorem len_word {c:Nat} (c1:1≤c) (c2:c≤h.length) (hc:hd h c≠0):
  lenW h c=1+(sumR (fun d=>if(hd h (d+1)==c&&sideB c (hd h c) (d+1))=true then sizeW h (d+1) else 0) h.length+
   sumR (fun d=>if(hd h (d+1)==hd h c&&btwB c (hd h c) (d+1))=true then sizeW h (d+1) else 0) h.length):=by
 have w2:=T.hd_le c1 c2
 have ne:=hd_self T c1 c2
 have B:=(flat_below T).mp F
 have e1:lenW h c=1+sumR (fun i=>ind (btwB c (hd h c) (i+1))) h.length:=by
  have s:=sumR_between (a:=min c (hd h c)+1) (b:=max c (hd h c)) (by omega) (by omega) h.length
  rw[sumR_congr (g:=fun i=>ind (btwB c (hd h c) (i+1))) fun i _=>by
   congr 1
   unfold btwB
   apply Bool.eq_iff_iff.2
   rw[decide_eq_true_eq,decide_eq_true_eq]
   omega] at s
  rw[s]
  unfold lenW
  rw[if_neg hc]
  omega
 have e2: ∀i,i<h.length→ind (btwB c (hd h c) (i+1))=sumR (fun d=>ind (hd h (d+1)==hd h c&&undB h (i+1) (d+1))*ind (btwB c (hd h c) (i+1))) h.length:=by
  intro i hi
  by_cases b:btwB c (hd h c) (i+1)=true
  ·have b':=b
   unfold btwB at b'
   rw[decide_eq_true_eq] at b'
   have u:=B c (i+1) c1 c2 hc b'
   have s:=und_split T hi (show 1≤hd h c by omega) w2
   rw[undB_iff.mpr u,show(i+1==hd h c)=false from beq_eq_false_iff_ne.mpr (by omega)] at s
   rw[b,sumR_congr (g:=fun d=>ind (hd h (d+1)==hd h c&&undB h (i+1) (d+1))) fun d _=>by simp[ind]]
   simp only[ind,if_true,Bool.false_eq_true,if_false,Nat.zero_add] at s⊢
   exact s
  ·rw[Bool.eq_false_iff.mpr b,(sumR_zero (f:=fun d=>ind (hd h (d+1)==hd h c&&undB h (i+1) (d+1))*ind false)).mpr fun d _=>rfl]
   rfl
 have self:Und h c c:= .refl c1 c2
 have e3: ∀i,i<h.length→ ∀d,d<h.length→ind (hd h (d+1)==hd h c&&undB h (i+1) (d+1))*ind (btwB c (hd h c) (i+1))=
   ind (d+1==c)*ind (undB h (i+1) c&&sideB c (hd h c) (i+1))+ind (hd h (d+1)==hd h c&&btwB c (hd h c) (d+1))*ind (undB h (i+1) (d+1)):=by
  intro i hi d hd'
  rw[←ind_mul,←ind_mul,←ind_mul]
  by_cases q:hd h (d+1)=hd h c
  ·by_cases u:Und h (i+1) (d+1)
   ·have nw:=kid_not_up T (show 1≤d+1 by omega) (show d+1≤h.length by omega) (by omega)
    rw[q] at nw
    have rw':=row_apart F (show 1≤d+1 by omega) (show d+1≤h.length by omega) u nw
    by_cases dc:d+1=c
    ·rw[dc] at u rw'
     have b:btwB c (hd h c) (i+1)=sideB c (hd h c) (i+1):=by
      unfold btwB sideB
      apply Bool.eq_iff_iff.2
      rw[decide_eq_true_eq,decide_eq_true_eq]
      omega
     have n:btwB c (hd h c) c=false:=by
      unfold btwB
      rw[decide_eq_false_iff_not]
      omega
     rw[dc,undB_iff.mpr u,b,n,beq_self_eq_true,beq_self_eq_true]
     cases sideB c (hd h c) (i+1)<;>rfl
    ·have nc: ¬Und h c (d+1):=by
      intro y
      exact dc (T.und_child_unique (show hd h c≠0 from hc) q rfl y self)
     have rc:=row_apart F (show 1≤d+1 by omega) (show d+1≤h.length by omega) u nc
     have b:btwB c (hd h c) (i+1)=btwB c (hd h c) (d+1):=by
      unfold btwB
      apply Bool.eq_iff_iff.2
      rw[decide_eq_true_eq,decide_eq_true_eq]
      omega
     rw[undB_iff.mpr u,q,b,show(d+1==c)=false from beq_eq_false_iff_ne.mpr dc,beq_self_eq_true]
     cases btwB c (hd h c) (d+1)<;>rfl
   ·by_cases dc:d+1=c
    ·rw[dc] at u
     rw[dc,undB_false.mpr u]
     cases (hd h c==hd h c)<;>cases btwB c (hd h c) c<;>simp[ind]
    ·rw[undB_false.mpr u,show(d+1==c)=false from beq_eq_false_iff_ne.mpr dc,Bool.and_false,Bool.and_false]
     rfl
  ·have dc:d+1≠c:=by
    intro y
    rw[y] at q
    exact q rfl
   rw[show(hd h (d+1)==hd h c)=false from beq_eq_false_iff_ne.mpr q,show(d+1==c)=false from beq_eq_false_iff_ne.mpr dc]
   rfl
 have e4:sumR (fun i=>ind (undB h (i+1) c&&sideB c (hd h c) (i+1))) h.length=sumR (fun d=>if(hd h (d+1)==c&&sideB c (hd h c) (d+1))=true then sizeW h (d+1) else 0) h.length:=by
  have k: ∀i,i<h.length→ind (undB h (i+1) c&&sideB c (hd h c) (i+1))=sumR (fun d=>ind (hd h (d+1)==c&&sideB c (hd h c) (d+1))*ind (undB h (i+1) (d+1))) h.length:=by
   intro i hi
   have pt: ∀d,d<h.length→ind (hd h (d+1)==c&&sideB c (hd h c) (d+1))*ind (undB h (i+1) (d+1))=ind (sideB c (hd h c) (i+1))*ind (hd h (d+1)==c&&undB h (i+1) (d+1)):=by
    intro d hd'
    rw[←ind_mul,←ind_mul]
    by_cases q:hd h (d+1)=c
    ·by_cases u:Und h (i+1) (d+1)
     ·have n:=kid_not_up T (show 1≤d+1 by omega) (show d+1≤h.length by omega) (by omega)
      rw[q] at n
      have r:=row_apart F (show 1≤d+1 by omega) (show d+1≤h.length by omega) u n
      have b:sideB c (hd h c) (d+1)=sideB c (hd h c) (i+1):=by
       unfold sideB
       apply Bool.eq_iff_iff.2
       rw[decide_eq_true_eq,decide_eq_true_eq]
       omega
      rw[undB_iff.mpr u,q,b,beq_self_eq_true]
      cases sideB c (hd h c) (i+1)<;>rfl
     ·rw[undB_false.mpr u,Bool.and_false,Bool.and_false,Bool.and_false]
    ·rw[show(hd h (d+1)==c)=false from beq_eq_false_iff_ne.mpr q,Bool.false_and,Bool.false_and,Bool.and_false]
   rw[sumR_congr pt,sumR_mul]
   by_cases s:sideB c (hd h c) (i+1)=true
   ·have s':=s
    unfold sideB at s'
    rw[decide_eq_true_eq] at s'
    have sp:=und_split T hi c1 c2
    rw[show(i+1==c)=false from beq_eq_false_iff_ne.mpr (by omega)] at sp
    rw[s,Bool.and_true,sp]
    simp[ind]
   ·rw[Bool.eq_false_iff.mpr s,Bool.and_false]
    simp[ind]
  rw[sumR_congr k,sumR_swap (fun i d=>ind (hd h (d+1)==c&&sideB c (hd h c) (d+1))*ind (undB h (i+1) (d+1)))]
  refine sumR_congr fun d hd'=> ?_
  rw[sumR_mul]
  by_cases q:(hd h (d+1)==c&&sideB c (hd h c) (d+1))=true
  ·rw[if_pos q,q]
   simp only[ind,if_true,Nat.one_mul]
   rfl
  ·rw[if_neg q,Bool.eq_false_iff.mpr q]
   simp[ind]
 rw[e1,sumR_congr e2,sumR_congr fun i hi=>sumR_congr (e3 i hi),sumR_congr fun i _=>sumR_add _ _ _,sumR_add,←e4]
 congr 1
 congr 1
 ·refine sumR_congr fun i hi=> ?_
  rw[sumR_single (k:=c-1) (by omega) fun d _ nd=>by
   rw[show(d+1==c)=false from beq_eq_false_iff_ne.mpr (by omega)]
   simp[ind]]
  rw[show c-1+1=c by omega,beq_self_eq_true]
  simp[ind]
 ·rw[sumR_swap (fun i d=>ind (hd h (d+1)==hd h c&&btwB c (hd h c) (d+1))*ind (undB h (i+1) (d+1)))]
  refine sumR_congr fun d hd'=> ?_
  rw[sumR_mul]
  by_cases q:(hd h (d+1)==hd h c&&btwB c (hd h c) (d+1))=true
  ·rw[if_pos q,q]
   simp only[ind,if_true,Nat.one_mul]
   rfl
  ·rw[if_neg q,Bool.eq_false_iff.mpr q]
   simp[ind]
end
def costL:List Nat→Nat
 |[]=>0
 |x::r=>x*r.length+costL r
theorem costL_sum {R:Nat→Nat→Bool} (irr: ∀a,R a a=false) (asym: ∀a b,R a b=true→R b a=false) (f:Nat→Nat):
  ∀{l:List Nat},l.Pairwise (fun a b=>R a b=true)→(l.map fun x=>f x*l.countP (R x)).sum=costL (l.map f)
 |[],_=>rfl
 |x::r,p=>by
  rw[List.pairwise_cons] at p
  rw[List.map_cons,List.sum_cons,List.map_cons,costL,←costL_sum irr asym f p.2,List.countP_cons,irr x,List.length_map]
  have e:r.countP (R x)=r.length:=List.countP_eq_length.mpr fun y hy=>p.1 y hy
  rw[e,sum_same (g:=fun y=>f y*r.countP (R y)) fun y hy=>by
   rw[List.countP_cons,asym x y (p.1 y hy)]
   simp]
  simp
theorem kids_sum {h:List Int} (T:Tree h) {w:Nat} (w1:1≤w) (w2:w≤h.length) (f:Nat→Nat):
  sumR (fun i=>if(hd h (i+1)==w)=true then f (i+1) else 0) h.length=((lessK h w).map f).sum+((moreK h w).map f).sum:=by
 have nd:(lessK h w++moreK h w).Nodup:=by
  rw[List.nodup_append]
  refine⟨(lessK_sorted h w).imp fun {a b} lt=>by omega,(moreK_sorted h w).imp fun {a b} lt=>by omega,?_⟩
  intro a ha b hb
  have:=(mem_lessK w2).mp ha
  have:=mem_moreK.mp hb
  omega
 have nd2:(((List.range h.length).map (· +1)).filter fun k=>hd h k==w).Nodup:=((words_sorted h.length).filter _).imp fun {a b} lt=>by omega
 have pm:(((List.range h.length).map (· +1)).filter fun k=>hd h k==w).Perm (lessK h w++moreK h w):=by
  rw[List.perm_ext_iff_of_nodup nd2 nd]
  intro a
  rw[List.mem_filter,mem_words,beq_iff_eq,List.mem_append,mem_lessK w2,mem_moreK]
  constructor
  ·rintro⟨r,e⟩
   have:=hd_self T r.1 r.2
   rcases Nat.lt_or_gt_of_ne (show a≠w by rintro rfl;exact this e) with lt|lt
   ·exact .inl ⟨r,e,lt⟩
   ·exact .inr ⟨r,e,lt⟩
  ·rintro(⟨r,e,_⟩|⟨r,e,_⟩)
   ·exact⟨r,e⟩
   ·exact⟨r,e⟩
 rw[←List.sum_append,←List.map_append,←sum_perm (pm.map f)]
 have key: ∀n,sumR (fun i=>if(hd h (i+1)==w)=true then f (i+1) else 0) n=((((List.range n).map (· +1)).filter fun k=>hd h k==w).map f).sum:=by
  intro n
  induction n with
  |zero=>rfl
  |succ n ih=>
   rw[sumR,ih,List.range_succ,List.map_append,List.filter_append,List.map_append,List.sum_append]
   congr 1
   rw[List.map_cons,List.map_nil,List.filter_cons]
   split<;>simp
 exact key h.length
noncomputable def costW (h:List Int) (w:Nat):Nat:=
 costL ((lessK h w).reverse.map (sizeW h))+costL ((moreK h w).map (sizeW h))+
  (if hd h w=0 then 0 else if w<hd h w then((moreK h w).map (sizeW h)).sum else((lessK h w).map (sizeW h)).sum)
section
variable {h : List Int} (T : Tree h)
include T
theorem steps_sum {w:Nat} (w1:1≤w) (w2:w≤h.length):
  sumR (fun d=>if(hd h (d+1)==w)=true then sizeW h (d+1)*sumR (fun c=>ind (hd h (c+1)==w&&btwB (c+1) w (d+1))) h.length else 0) h.length=
   costL ((lessK h w).reverse.map (sizeW h))+costL ((moreK h w).map (sizeW h)):=by
 have cnt: ∀d,sumR (fun c=>ind (hd h (c+1)==w&&btwB (c+1) w d)) h.length=(lessK h w).countP (fun c=>btwB c w d)+(moreK h w).countP (fun c=>btwB c w d):=by
  intro d
  rw[←sum_ind,←sum_ind,←kids_sum T w1 w2 fun c=>ind (btwB c w d)]
  refine sumR_congr fun c _=> ?_
  by_cases q:(hd h (c+1)==w)=true
  ·rw[if_pos q,q,Bool.true_and]
  ·rw[if_neg q,Bool.eq_false_iff.mpr q,Bool.false_and]
   rfl
 rw[sumR_congr (g:=fun d=>if(hd h (d+1)==w)=true then(fun d=>sizeW h d*((lessK h w).countP (fun c=>btwB c w d)+(moreK h w).countP (fun c=>btwB c w d))) (d+1) else 0) fun d _=>by rw[cnt],
  kids_sum T w1 w2 fun d=>sizeW h d*((lessK h w).countP (fun c=>btwB c w d)+(moreK h w).countP (fun c=>btwB c w d))]
 congr 1
 ·rw[←costL_sum (R:=fun a b=>decide (b<a)) (fun a=>decide_eq_false (by omega)) (fun a b lt=>by
   rw[decide_eq_true_eq] at lt
   exact decide_eq_false (by omega)) (sizeW h) (List.pairwise_reverse.mpr ((lessK_sorted h w).imp fun {a b} lt=>decide_eq_true lt)),
   sum_perm (List.Perm.map _ (List.reverse_perm (lessK h w)))]
  refine sum_same fun d hd'=> ?_
  have m:=(mem_lessK w2).mp hd'
  congr 1
  have z:(moreK h w).countP (fun c=>btwB c w d)=0:=List.countP_eq_zero.mpr fun c hc=>by
   have:=mem_moreK.mp hc
   unfold btwB
   rw[decide_eq_true_eq]
   omega
  rw[(List.reverse_perm (lessK h w)).countP_eq,z,Nat.add_zero]
  refine List.countP_congr fun c hc=> ?_
  have:=(mem_lessK w2).mp hc
  unfold btwB
  rw[decide_eq_true_eq,decide_eq_true_eq]
  omega
 ·rw[←costL_sum (R:=fun a b=>decide (a<b)) (fun a=>decide_eq_false (by omega)) (fun a b lt=>by
   rw[decide_eq_true_eq] at lt
   exact decide_eq_false (by omega)) (sizeW h) ((moreK_sorted h w).imp fun {a b} lt=>decide_eq_true lt)]
  refine sum_same fun d hd'=> ?_
  have m:=mem_moreK.mp hd'
  congr 1
  have z:(lessK h w).countP (fun c=>btwB c w d)=0:=List.countP_eq_zero.mpr fun c hc=>by
   have:=(mem_lessK w2).mp hc
   unfold btwB
   rw[decide_eq_true_eq]
   omega
  rw[z,Nat.zero_add]
  refine List.countP_congr fun c hc=> ?_
  have:=mem_moreK.mp hc
  unfold btwB
  rw[decide_eq_true_eq,decide_eq_true_eq]
  omega
theorem side_sum {w:Nat} (w1:1≤w) (w2:w≤h.length) (hw:hd h w≠0):
  sumR (fun d=>if(hd h (d+1)==w&&sideB w (hd h w) (d+1))=true then sizeW h (d+1) else 0) h.length=
   (if w<hd h w then((moreK h w).map (sizeW h)).sum else((lessK h w).map (sizeW h)).sum):=by
 have ne:=hd_self T w1 w2
 rw[sumR_congr (g:=fun d=>if(hd h (d+1)==w)=true then(fun d=>if sideB w (hd h w) d=true then sizeW h d else 0) (d+1) else 0) fun d _=>by
  by_cases q:(hd h (d+1)==w)=true
  ·rw[if_pos q,q,Bool.true_and]
  ·rw[if_neg q,Bool.eq_false_iff.mpr q,Bool.false_and]
   rfl,kids_sum T w1 w2 fun d=>if sideB w (hd h w) d=true then sizeW h d else 0]
 by_cases lt:w<hd h w
 ·rw[if_pos lt,sum_none (l:=lessK h w) fun d hd'=>by
   have:=(mem_lessK w2).mp hd'
   rw[if_neg]
   unfold sideB
   rw[decide_eq_true_eq]
   omega,Nat.zero_add]
  refine sum_same fun d hd'=> ?_
  have:=mem_moreK.mp hd'
  rw[if_pos]
  unfold sideB
  rw[decide_eq_true_eq]
  omega
 ·rw[if_neg lt,sum_none (l:=moreK h w) fun d hd'=>by
   have:=mem_moreK.mp hd'
   rw[if_neg]
   unfold sideB
   rw[decide_eq_true_eq]
   omega,Nat.add_zero]
  refine sum_same fun d hd'=> ?_
  have:=(mem_lessK w2).mp hd'
  rw[if_pos]
  unfold sideB
  rw[decide_eq_true_eq]
  omega
theorem len_flat (F:FlatP h):lenN h=(h.length-1)+sumR (fun i=>costW h (i+1)) h.length:=by
 rw[←heads_total T]
 have e: ∀c,c<h.length→lenW h (c+1)=(if hd h (c+1)=0 then 0 else 1)+
   ((if hd h (c+1)=0 then 0 else if c+1<hd h (c+1) then((moreK h (c+1)).map (sizeW h)).sum else((lessK h (c+1)).map (sizeW h)).sum)+
    sumR (fun w=>sumR (fun d=>if(hd h (d+1)==w+1)=true then sizeW h (d+1)*ind (hd h (c+1)==w+1&&btwB (c+1) (w+1) (d+1)) else 0) h.length) h.length):=by
  intro c hc
  by_cases z:hd h (c+1)=0
  ·rw[if_pos z,if_pos z,(sumR_zero (f:=fun w=>sumR (fun d=>if(hd h (d+1)==w+1)=true then sizeW h (d+1)*ind (hd h (c+1)==w+1&&btwB (c+1) (w+1) (d+1)) else 0) h.length)).mpr fun w _=>sumR_zero.mpr fun d _=>by
    rw[z,show((0:Nat)==w+1)=false from beq_eq_false_iff_ne.mpr (by omega)]
    simp[ind]]
   unfold lenW
   rw[if_pos z]
  ·have l:=T.hd_le (show 1≤c+1 by omega) (show c+1≤h.length by omega)
   rw[len_word T F (show 1≤c+1 by omega) (show c+1≤h.length by omega) z,if_neg z,side_sum T (by omega) (by omega) z,if_neg z]
   congr 2
   rw[sumR_single (f:=fun w=>sumR (fun d=>if(hd h (d+1)==w+1)=true then sizeW h (d+1)*ind (hd h (c+1)==w+1&&btwB (c+1) (w+1) (d+1)) else 0) h.length) (k:=hd h (c+1)-1) (by omega) fun w _ ne=>sumR_zero.mpr fun d _=>by
    rw[show(hd h (c+1)==w+1)=false from beq_eq_false_iff_ne.mpr (by omega)]
    simp[ind]]
   refine sumR_congr fun d _=> ?_
   rw[show hd h (c+1)-1+1=hd h (c+1) by omega,beq_self_eq_true,Bool.true_and]
   by_cases q:(hd h (d+1)==hd h (c+1))=true
   ·rw[if_pos q,q,Bool.true_and]
    cases btwB (c+1) (hd h (c+1)) (d+1)<;>simp[ind]
   ·rw[if_neg q,Bool.eq_false_iff.mpr q,Bool.false_and]
    rfl
 unfold lenN
 rw[sumR_congr e,sumR_add,sumR_add]
 congr 1
 rw[sumR_swap (fun c w=>sumR (fun d=>if(hd h (d+1)==w+1)=true then sizeW h (d+1)*ind (hd h (c+1)==w+1&&btwB (c+1) (w+1) (d+1)) else 0) h.length),←sumR_add]
 refine sumR_congr fun w hw=> ?_
 rw[sumR_swap (fun c d=>if(hd h (d+1)==w+1)=true then sizeW h (d+1)*ind (hd h (c+1)==w+1&&btwB (c+1) (w+1) (d+1)) else 0)]
 unfold costW
 rw[←steps_sum T (show 1≤w+1 by omega) (show w+1≤h.length by omega),Nat.add_comm]
 congr 1
 refine sumR_congr fun d _=> ?_
 by_cases q:(hd h (d+1)==w+1)=true
 ·rw[if_pos q,←sumR_mul]
  exact sumR_congr fun c _=>by rw[if_pos q]
 ·rw[if_neg q]
  exact sumR_zero.mpr fun c _=>by rw[if_neg q]
end
def btwN (a b j:Nat):Bool:=(Nat.blt a j&&Nat.blt j b)||(Nat.blt b j&&Nat.blt j a)
def outN (a b j:Nat):Bool:=(Nat.blt j a&&Nat.blt j b)||(Nat.blt a j&&Nat.blt b j)
def crsN (a b c d:Nat):Bool:=(btwN a b c&&outN a b d)||(btwN a b d&&outN a b c)
def hdsN (h:List Int) (j:Nat):List Nat:=(List.range j).map fun i=>hd h (i+1)
theorem hdsN_succ (h:List Int) (j:Nat):hdsN h (j+1)=hdsN h j++ [hd h (j+1)]:=by
 simp[hdsN,List.range_succ]
theorem hdsN_all {h:List Int} (T:Tree h):(hdsN h h.length).map Int.ofNat=h:=by
 apply List.ext_getElem
 ·simp[hdsN]
 ·intro i h1 h2
  have:=T.get (w:=i+1) (by omega) (by omega)
  rw[show i+1-1=i by omega,List.getElem?_eq_getElem h2] at this
  injection this with this
  simp[hdsN,this]
theorem crsN_iff (a b c d:Nat):crsN a b c d=true↔(Betw a b c∧Outs a b d)∨(Betw a b d∧Outs a b c):=by
 have b (x y:Nat):Nat.blt x y=true↔x<y:=by rw[Nat.blt_eq]
 unfold crsN btwN outN Betw Outs
 simp only[Bool.or_eq_true,Bool.and_eq_true,b]
def pmin (l:List Nat):Nat:=pairsV (fun a b=>min a b) l
theorem pmin_perm {l l':List Nat} (p:l.Perm l'):pmin l=pmin l':=pairsV_perm (fun a b=>Nat.min_comm a b) p
theorem costL_pairs: ∀l:List Nat,costL l=pairsV (fun a _=>a) l
 |[]=>rfl
 |x::r=>by
  rw[costL,pairsV,costL_pairs r]
  congr 1
  induction r with
  |nil=>rfl
  |cons y r ih=>rw[List.length_cons,Nat.mul_succ,ih,List.map_cons,List.sum_cons,Nat.add_comm]
theorem pmin_le (l:List Nat):pmin l≤costL l:=by
 rw[costL_pairs]
 exact pairsV_le (R:=fun _ _=>True) (fun a b _=>Nat.min_le_left a b) (List.pairwise_of_forall (fun _ _=>trivial))
theorem pmin_sorted {l:List Nat} (s:l.Pairwise (· ≤ ·)):costL l=pmin l:=by
 rw[costL_pairs]
 exact pairsV_same (R:=(· ≤ ·)) (fun a b h=>(Nat.min_eq_left h).symm) s
def selL:List Nat→Nat→List Nat×List Nat
 |[],_=>([],[])
 |x::r,s=>if s%2=1 then(x::(selL r (s/2)).1,(selL r (s/2)).2) else((selL r (s/2)).1,x::(selL r (s/2)).2)
theorem selL_sub: ∀(l:List Nat) (s:Nat),(selL l s).1.Sublist l∧(selL l s).2.Sublist l
 |[],_=>⟨List.Sublist.refl _,List.Sublist.refl _⟩
 |x::r,s=>by
  have ih:=selL_sub r (s/2)
  unfold selL
  split
  ·exact⟨ih.1.cons_cons x,ih.2.cons x⟩
  ·exact⟨ih.1.cons x,ih.2.cons_cons x⟩
theorem selL_parts: ∀(l A B:List Nat),l.Perm (A++B)→ ∃s,s<2^l.length∧(selL l s).1.Perm A∧(selL l s).2.Perm B
 |[],A,B,p=>by
  have e:=p.length_eq
  simp only[List.length_nil,List.length_append] at e
  have a:A=[]:=List.eq_nil_of_length_eq_zero (by omega)
  have b:B=[]:=List.eq_nil_of_length_eq_zero (by omega)
  subst a b
  exact⟨0,by simp,List.Perm.refl _,List.Perm.refl _⟩
 |x::r,A,B,p=>by
  have hx:x∈A++B:=p.subset (List.mem_cons_self ..)
  rcases List.mem_append.mp hx with h|h
  ·have pa:=List.perm_cons_erase h
   have p2:r.Perm (A.erase x++B):=by
    have:=p.trans (pa.append_right B)
    exact this.cons_inv
   obtain⟨s,hs,h1,h2⟩:=selL_parts r _ _ p2
   refine⟨2*s+1,by rw[List.length_cons,Nat.pow_succ];omega,?_,?_⟩
   ·unfold selL
    rw[if_pos (by omega),show(2*s+1)/2=s by omega]
    exact(h1.cons x).trans pa.symm
   ·unfold selL
    rw[if_pos (by omega),show(2*s+1)/2=s by omega]
    exact h2
  ·have pb:=List.perm_cons_erase h
   have p2:r.Perm (A++B.erase x):=by
    have:=(p.trans (pb.append_left A)).trans List.perm_middle
    exact this.cons_inv
   obtain⟨s,hs,h1,h2⟩:=selL_parts r _ _ p2
   refine⟨2*s,by rw[List.length_cons,Nat.pow_succ];omega,?_,?_⟩
   ·unfold selL
    rw[if_neg (by omega),show 2*s/2=s by omega]
    exact h1
   ·unfold selL
    rw[if_neg (by omega),show 2*s/2=s by omega]
    exact(h2.cons x).trans pb.symm
def costS (l:List Nat) (root:Bool) (s:Nat):Nat:=costL (selL l s).2+costL (selL l s).1+if root=true then 0 else(selL l s).1.sum
def minN (f:Nat→Nat):Nat→Nat
 |0=>f 0
 |n+1=>min (minN f n) (f (n+1))
theorem minN_le {f:Nat→Nat}: ∀{n k:Nat},k≤n→minN f n≤f k
 |0,k,h=>by
  have:k=0:=by omega
  subst this
  exact Nat.le_refl _
 |n+1,k,h=>by
  unfold minN
  by_cases e:k=n+1
  ·subst e
   exact Nat.min_le_right _ _
  ·exact Nat.le_trans (Nat.min_le_left _ _) (minN_le (by omega))
theorem minN_at {f:Nat→Nat}: ∀n,∃k,k≤n∧minN f n=f k
 |0=>⟨0,Nat.le_refl _,rfl⟩
 |n+1=>by
  obtain⟨k,hk,e⟩:=minN_at (f:=f) n
  unfold minN
  by_cases q:minN f n≤f (n+1)
  ·exact⟨k,by omega,by rw[Nat.min_eq_left q,e]⟩
  ·exact⟨n+1,Nat.le_refl _,Nat.min_eq_right (by omega)⟩
def leastC (l:List Nat) (root:Bool):Nat:=minN (costS l root) (2^l.length-1)
theorem leastC_le {l:List Nat} {root:Bool} {s:Nat} (hs:s<2^l.length):leastC l root≤costS l root s:=minN_le (by omega)
theorem leastC_parts {l A B:List Nat} {root:Bool} (so:l.Pairwise (· ≤ ·)) (p:l.Perm (A++B)):leastC l root≤costL B+costL A+if root=true then 0 else A.sum:=by
 obtain⟨s,hs,h1,h2⟩:=selL_parts l A B p
 refine Nat.le_trans (leastC_le hs) ?_
 unfold costS
 have su:=selL_sub l s
 rw[pmin_sorted (so.sublist su.1),pmin_sorted (so.sublist su.2),pmin_perm h1,pmin_perm h2,sum_perm h1]
 have a:=pmin_le A
 have b:=pmin_le B
 omega
def insS (out:List Nat) (x:Nat):List Nat:=out.takeWhile (fun y=>decide (y<x))++x::out.dropWhile (fun y=>decide (y<x))
theorem insS_perm (out:List Nat) (x:Nat):(insS out x).Perm (x::out):=by
 have:=List.perm_middle (a:=x) (l₁:=out.takeWhile (fun y=>decide (y<x))) (l₂:=out.dropWhile (fun y=>decide (y<x)))
 rw[List.takeWhile_append_dropWhile] at this
 exact this
theorem insS_sorted {out:List Nat} (so:out.Pairwise (· ≤ ·)) (x:Nat):(insS out x).Pairwise (· ≤ ·):=by
 induction out with
 |nil=>simp[insS]
 |cons y r ih=>
  rw[List.pairwise_cons] at so
  unfold insS
  by_cases q:y<x
  ·rw[List.takeWhile_cons_of_pos (by simpa using q),List.dropWhile_cons_of_pos (by simpa using q),List.cons_append,List.pairwise_cons]
   refine⟨fun z hz=> ?_,ih so.2⟩
   have:=(insS_perm r x).subset hz
   rcases List.mem_cons.mp this with rfl|h
   ·omega
   ·exact so.1 z h
  ·rw[List.takeWhile_cons_of_neg (by simpa using q),List.dropWhile_cons_of_neg (by simpa using q),List.nil_append,List.pairwise_cons]
   refine⟨fun z hz=> ?_,List.pairwise_cons.mpr so⟩
   rcases List.mem_cons.mp hz with rfl|h
   ·omega
   ·have:=so.1 z h
    omega
def sortS (l:List Nat):List Nat:=l.foldl insS []
theorem fold_ins: ∀(l out:List Nat),out.Pairwise (· ≤ ·)→(l.foldl insS out).Pairwise (· ≤ ·)∧(l.foldl insS out).Perm (l++out)
 |[],out,so=>⟨so,List.Perm.refl _⟩
 |x::l,out,so=>by
  have ih:=fold_ins l (insS out x) (insS_sorted so x)
  rw[List.foldl_cons]
  refine⟨ih.1,ih.2.trans ?_⟩
  rw[List.cons_append]
  exact((insS_perm out x).append_left l).trans List.perm_middle
theorem sortS_sorted (l:List Nat):(sortS l).Pairwise (· ≤ ·):=(fold_ins l [] List.Pairwise.nil).1
theorem sortS_perm (l:List Nat):(sortS l).Perm l:=by
 have:=(fold_ins l [] List.Pairwise.nil).2
 rwa[List.append_nil] at this
theorem sorted_eq: ∀{l l':List Nat},l.Pairwise (· ≤ ·)→l'.Pairwise (· ≤ ·)→l.Perm l'→l=l'
 |[],l',_,_,p=>(List.nil_perm.mp p).symm
 |x::r,[],_,_,p=>absurd p.length_eq (by simp)
 |x::r,y::r',s,s',p=>by
  rw[List.pairwise_cons] at s s'
  have hx:=p.subset (List.mem_cons_self ..)
  have hy:=p.symm.subset (List.mem_cons_self ..)
  have e:x=y:=by
   rcases List.mem_cons.mp hx with h|h
   ·exact h
   ·rcases List.mem_cons.mp hy with h'|h'
    ·exact h'.symm
    ·have:=s.1 y h'
     have:=s'.1 x h
     omega
  subst e
  rw[sorted_eq s.2 s'.2 p.cons_inv]
theorem sortS_eq {l l':List Nat} (p:l.Perm l'):sortS l=sortS l':=sorted_eq (sortS_sorted l) (sortS_sorted l') ((sortS_perm l).trans (p.trans (sortS_perm l').symm))
def kidW (h:List Int) (w:Nat):List Nat:=((List.range h.length).map (· +1)).filter fun k=>hd h k==w
noncomputable def sizesW (h:List Int) (w:Nat):List Nat:=sortS ((kidW h w).map (sizeW h))
noncomputable def leastW (h:List Int) (w:Nat):Nat:=leastC (sizesW h w) (hd h w==0)
noncomputable def leastN (h:List Int):Nat:=(h.length-1)+sumR (fun i=>leastW h (i+1)) h.length
section
variable {h : List Int} (T : Tree h)
include T
theorem kidsL_parts {w:Nat} (w1:1≤w) (w2:w≤h.length):(kidW h w).Perm (lessK h w++moreK h w):=by
 have nd:(lessK h w++moreK h w).Nodup:=by
  rw[List.nodup_append]
  refine⟨(lessK_sorted h w).imp fun {a b} lt=>by omega,(moreK_sorted h w).imp fun {a b} lt=>by omega,?_⟩
  intro a ha b hb
  have:=(mem_lessK w2).mp ha
  have:=mem_moreK.mp hb
  omega
 have nd2:(kidW h w).Nodup:=((words_sorted h.length).filter _).imp fun {a b} lt=>by omega
 rw[List.perm_ext_iff_of_nodup nd2 nd]
 intro a
 unfold kidW
 rw[List.mem_filter,mem_words,beq_iff_eq,List.mem_append,mem_lessK w2,mem_moreK]
 constructor
 ·rintro⟨r,e⟩
  have:=hd_self T r.1 r.2
  rcases Nat.lt_or_gt_of_ne (show a≠w by rintro rfl;exact this e) with lt|lt
  ·exact .inl ⟨r,e,lt⟩
  ·exact .inr ⟨r,e,lt⟩
 ·rintro(⟨r,e,_⟩|⟨r,e,_⟩)
  ·exact⟨r,e⟩
  ·exact⟨r,e⟩
theorem least_cost {w:Nat} (w1:1≤w) (w2:w≤h.length):leastW h w≤costW h w:=by
 have p:=(kidsL_parts T w1 w2).map (sizeW h)
 rw[List.map_append] at p
 have rv:((lessK h w).reverse.map (sizeW h)).Perm ((lessK h w).map (sizeW h)):=(List.reverse_perm _).map _
 have ps:=(sortS_perm ((kidW h w).map (sizeW h))).trans p
 have so:=sortS_sorted ((kidW h w).map (sizeW h))
 unfold leastW costW sizesW
 by_cases z:hd h w=0
 ·rw[z,if_pos rfl]
  have:=leastC_parts (root:=true) so (ps.trans ((rv.symm).append_right _))
  simp only[if_true] at this
  simp only[beq_self_eq_true]
  omega
 ·rw[show(hd h w==0)=false from beq_eq_false_iff_ne.mpr z,if_neg z]
  by_cases lt:w<hd h w
  ·rw[if_pos lt]
   have:=leastC_parts (root:=false) so ((ps.trans ((rv.symm).append_right _)).trans List.perm_append_comm)
   simp only[Bool.false_eq_true,if_false] at this
   omega
  ·rw[if_neg lt]
   have:=leastC_parts (root:=false) so (ps.trans ((rv.symm).append_right _))
   rw[sum_perm rv] at this
   simp only[Bool.false_eq_true,if_false] at this
   omega
theorem flat_least (F:FlatP h):leastN h≤lenN h:=by
 rw[len_flat T F]
 unfold leastN
 have:=sumR_le (f:=fun i=>leastW h (i+1)) (g:=fun i=>costW h (i+1)) (n:=h.length) fun i hi=>least_cost T (by omega) (by omega)
 omega
end
section
variable {h o : List Int} (T : Tree h) (hl : o.length = h.length) (hP : OrderP o (o.length : Nat))
include T hl hP
theorem put_size {i:Nat} (i1:1≤i) (i2:i≤o.length):sizeW (putRow h o) i=sizeW h (atO o i):=by
 unfold sizeW
 rw[putRow_length,←hl,←sumR_order hP fun v=>ind (undB h v (atO o i))]
 refine sumR_congr fun k hk=> ?_
 congr 1
 rw[Bool.eq_iff_iff]
 simp only[undB,decide_eq_true_eq]
 constructor
 ·exact und_put T hl hP
 ·intro u
  have:=und_put_back T hl hP u
  rwa[(atO_get hP (show 1≤k+1 by omega) (by omega)).2.2.2,(atO_get hP i1 i2).2.2.2] at this
theorem put_kidsL {i:Nat} (i1:1≤i) (i2:i≤o.length):((kidW (putRow h o) i).map (atO o)).Perm (kidW h (atO o i)):=by
 have len:=putRow_length h o
 have nd2:(kidW h (atO o i)).Nodup:=((words_sorted h.length).filter _).imp fun {a b} lt=>by omega
 have nd1:(kidW (putRow h o) i).Nodup:=((words_sorted (putRow h o).length).filter _).imp fun {a b} lt=>by omega
 have nd:((kidW (putRow h o) i).map (atO o)).Nodup:=by
  refine List.Pairwise.map _ ?_ (nd1.imp_of_mem (R:=(· ≠ ·)) (S:=fun a b=>atO o a≠atO o b) fun {a b} ha hb ne e=>ne ?_)
  ·exact fun a b h=>h
  ·unfold kidW at ha hb
   rw[List.mem_filter,mem_words] at ha hb
   have p1:=(atO_get hP ha.1.1 (by omega)).2.2.2
   have p2:=(atO_get hP hb.1.1 (by omega)).2.2.2
   rw[←p1,e,p2]
 rw[List.perm_ext_iff_of_nodup nd nd2]
 intro a
 unfold kidW
 rw[List.mem_map,List.mem_filter,mem_words,beq_iff_eq]
 constructor
 ·rintro⟨k,hk,rfl⟩
  rw[List.mem_filter,mem_words,beq_iff_eq] at hk
  have g:=atO_get hP hk.1.1 (by omega)
  exact⟨⟨g.1,by omega⟩,(put_hd_iff T hl hP hk.1.1 (by omega) i1 i2).mp hk.2⟩
 ·rintro⟨⟨a1,a2⟩,e⟩
  have g:=pl_rng hP a1 (by omega)
  refine⟨pl o a,?_,atO_pl hP a1 (by omega)⟩
  rw[List.mem_filter,mem_words,beq_iff_eq]
  refine⟨⟨g.1,by omega⟩,(put_hd_iff T hl hP g.1 g.2.1 i1 i2).mpr ?_⟩
  rw[atO_pl hP a1 (by omega)]
  exact e
theorem put_leastW {i:Nat} (i1:1≤i) (i2:i≤o.length):leastW (putRow h o) i=leastW h (atO o i):=by
 have len:=putRow_length h o
 have e:sizesW (putRow h o) i=sizesW h (atO o i):=by
  unfold sizesW
  refine sortS_eq ?_
  have p:=(put_kidsL T hl hP i1 i2).map (sizeW h)
  rw[List.map_map] at p
  have q:(kidW (putRow h o) i).map (sizeW (putRow h o))=(kidW (putRow h o) i).map (sizeW h∘atO o):=by
   refine List.map_congr_left fun k hk=> ?_
   unfold kidW at hk
   rw[List.mem_filter,mem_words] at hk
   exact put_size T hl hP hk.1.1 (by omega)
  rw[q]
  exact p
 unfold leastW
 rw[e]
 congr 1
 rw[Bool.eq_iff_iff,beq_iff_eq,beq_iff_eq]
 exact put_hd_zero T hl hP i1 i2
theorem put_leastN:leastN (putRow h o)=leastN h:=by
 unfold leastN
 rw[putRow_length,←hl,←sumR_order hP fun v=>leastW h v]
 congr 1
 exact sumR_congr fun i hi=>put_leastW T hl hP (by omega) (by omega)
end
theorem least_ge (h:List Int):h.length-1≤leastN h:=by
 unfold leastN
 omega
def allH (P:List Int→Bool) (n:Nat):Nat→List Nat→Bool
 |0,pre=>P (pre.map Int.ofNat)
 |k+1,pre=>(List.range (n+1)).all fun v=>allH P n k (pre++ [v])
theorem allH_go {h:List Int} (T:Tree h) {P:List Int→Bool}: ∀(k j:Nat),j+k=h.length→allH P h.length k (hdsN h j)=true→P h=true
 |0,j,e,s=>by
  rw[show j=h.length by omega] at s
  unfold allH at s
  rwa[hdsN_all T] at s
 |k+1,j,e,s=>by
  unfold allH at s
  rw[List.all_eq_true] at s
  have hle:=T.hd_le (w:=j+1) (by omega) (by omega)
  have:=s (hd h (j+1)) (by simp only[List.mem_range];omega)
  rw[←hdsN_succ] at this
  exact allH_go T k (j+1) (by omega) this
theorem allH_ok {P:List Int→Bool} {n:Nat} (s:allH P n n []=true) {h:List Int} (T:Tree h) (e:h.length=n):P h=true:=by
 subst e
 exact allH_go T h.length 0 (by omega) s
def lenI (h:List Int):Int:=if treeB h then((lenN h:Nat):Int) else-1
theorem imaxN (y z:Nat):imax (y:Int) (z:Int)=((max y z:Nat):Int):=by unfold imax;split<;>omega
theorem iminN (y z:Nat):imin (y:Int) (z:Int)=((min y z:Nat):Int):=by unfold imin;split<;>omega
structure MInv (n i:Nat) (st:List Nat) (h:List Int):Prop where
 len:h.length=n
 lo:1≤i
 hi:i≤n+1
 ne:st=[]→i=1
 dec:st.Pairwise (· > ·)
 rng: ∀s∈st,1≤s∧s<i∧hd h s=0
 num: ∀x∈h,0≤x∧x≤(n:Int)
 rank: ∃(m:Nat) (ρ:Nat→Nat),m+st.length+1=i∧ ∀w,1≤w→w<i→w∉st→ρ w<m∧1≤hd h w∧hd h w<i∧(hd h w∈st∨ρ w<ρ (hd h w))
 near: ∀j,1≤j→j<i→ ∃s∈st,Und h j s∧ ∀t∈st,¬Betw j s t
 below: ∀w j,1≤w→w<i→hd h w≠0→Betw w (hd h w) j→Und h j (hd h w)
theorem MInv.get {n i:Nat} {st:List Nat} {h:List Int} (M:MInv n i st h) {w:Nat} (w1:1≤w) (w2:w≤n):h[w-1]? =some ((hd h w:Nat):Int):=by
 have hl:=M.len
 have lt:w-1<h.length:=by omega
 have:=M.num _ (List.getElem_mem lt)
 rw[List.getElem?_eq_getElem lt]
 unfold hd
 rw[List.getD_eq_getElem?_getD,List.getElem?_eq_getElem lt,Option.getD_some]
 congr 1
 omega
theorem nloop_ex {σ ω:Type} {body:σ→Option (σ⊕ω)} (I:σ→Prop) (μ:σ→Nat) (Q:ω→Prop)
  (h: ∀s,I s→(∃s',body s=some (.inl s')∧I s'∧μ s'<μ s)∨(∃o,body s=some (.inr o)∧Q o)): ∀(n:Nat) (s:σ),I s→μ s<n→ ∃o,nloop body n s=some o∧Q o
 |0,s,_,hn=>by omega
 |n+1,s,hi,hn=>by
  rcases h s hi with⟨s',hb,hi',hm⟩|⟨o,hb,hq⟩
  ·simp only[nloop,hb,Option.bind_some]
   exact nloop_ex I μ Q h n s' hi' (by omega)
  ·simp only[nloop,hb,Option.bind_some]
   exact⟨o,rfl,hq⟩
structure Bytes (b:List Int):Prop where
 rng: ∀x∈b,0≤x∧x≤255
 len:b.length≤2000
theorem rem_ok {a b:Int} (h:1≤b) (ha:0≤a): ∃v,rem a b=some v∧0≤v∧v<b:=by
 refine⟨a.tmod b,by simp[rem];omega,?_,?_⟩
 ·exact Int.tmod_nonneg _ ha
 ·exact Int.tmod_lt_of_pos _ (by omega)
theorem idx_ok {b:List Int} {i:Int} (h0:0≤i) (h1:i<b.length): ∃v,idx b i=some v∧v∈b:=by
 have:i.toNat<b.length:=by omega
 exact⟨b[i.toNat],by simp[idx,h0,this],List.getElem_mem _⟩
theorem quo_ok {a b:Int} (h:1≤b) (ha:0≤a) (hm:a≤9223372036854775807): ∃v,quo .i64 a b=some v∧0≤v∧v≤a:=by
 have h1:0≤a.tdiv b:=Int.tdiv_nonneg ha (by omega)
 have h2:a.tdiv b≤a:=Int.tdiv_le_self _ ha
 refine⟨a.tdiv b,?_,h1,h2⟩
 simp only[quo]
 rw[if_neg (by omega),wrap64 (by omega) (by omega)]
theorem ixor_ok {a b:Int} (ha:0≤a) (ha2:a<9223372036854775808) (hb:0≤b) (hb2:b<9223372036854775808):0≤ixor .i64 a b:=by
 have e:(BitVec.ofInt 64 a^^^BitVec.ofInt 64 b).toNat<9223372036854775808:=by
  rw[BitVec.toNat_xor]
  have h1:(BitVec.ofInt 64 a).toNat<2^63:=by
   rw[BitVec.toNat_ofInt];omega
  have h2:(BitVec.ofInt 64 b).toNat<2^63:=by
   rw[BitVec.toNat_ofInt];omega
  exact Nat.xor_lt_two_pow h1 h2
 unfold ixor
 have:IntKind.bits .i64=64:=rfl
 show 0≤IntKind.wrap .i64 ((BitVec.ofInt 64 a^^^BitVec.ofInt 64 b).toNat:Int)
 rw[wrap64 (by omega) (by omega)]
 omega
theorem mixw {x1 x2 p q:Int} (h1:0≤x1∧x1≤255) (h2:0≤x2∧x2≤255) (hp:0≤p) (hp2:p≤1000000000) (qa:0≤q) (qb:q≤p):
  IntKind.wrap .i64 (IntKind.wrap .i64 (IntKind.wrap .i64 (IntKind.wrap .i64 (IntKind.wrap .i64 x1*131)+IntKind.wrap .i64 (IntKind.wrap .i64 x2*1117))+IntKind.wrap .i64 (p*29))+IntKind.wrap .i64 (q*53))=x1*131+x2*1117+p*29+q*53:=by
 rw[wrap64 (x:=x1) (by omega) (by omega),wrap64 (x:=x1*131) (by omega) (by omega),wrap64 (x:=x2) (by omega) (by omega),wrap64 (x:=x2*1117) (by omega) (by omega),
   wrap64 (x:=x1*131+x2*1117) (by omega) (by omega),wrap64 (x:=p*29) (by omega) (by omega),wrap64 (x:=x1*131+x2*1117+p*29) (by omega) (by omega),wrap64 (x:=q*53) (by omega) (by omega),
   wrap64 (x:=x1*131+x2*1117+p*29+q*53) (by omega) (by omega)]
theorem mixb {x1 x2 p q:Int} (h1:0≤x1∧x1≤255) (h2:0≤x2∧x2≤255) (hp:0≤p) (hp2:p≤1000000000) (qa:0≤q) (qb:q≤p):
  0≤x1*131+x2*1117+p*29+q*53∧x1*131+x2*1117+p*29+q*53≤1000000000000:=by omega
theorem bindO {α β:Type} {o:Option α} {a:α} {f:α→Option β} {K:β→Prop} (h:o=some a) (hk: ∃r,f a=some r∧K r): ∃r,o.bind f=some r∧K r:=by
 subst h;exact hk
theorem pick_far {b:List Int} (hb:Bytes b) {n:Int} (hn:1≤n) {p:Int} (hp:0≤p) (hp2:p≤1000000000) (h3:((b.length:Nat):Int)≤p) (hl:1≤b.length) (K:Int×Int→Prop) (hK: ∀v,0≤v→v<n→K (v,p+1)):
  ∃r,((rem p ((b.length:Nat):Int)).bind fun(v171:Int)=>(idx b v171).bind fun(v172:Int)=>(rem (IntKind.wrap .i64 ((IntKind.wrap .i64 (p*7))+3)) ((b.length:Nat):Int)).bind fun(v178:Int)=>(idx b v178).bind fun(v179:Int)=>(quo .i64 p ((b.length:Nat):Int)).bind fun(v186:Int)=>(quo .i64 (IntKind.wrap .i64 ((IntKind.wrap .i64 ((IntKind.wrap .i64 ((IntKind.wrap .i64 ((IntKind.wrap .i64 v172)*131))+(IntKind.wrap .i64 ((IntKind.wrap .i64 v179)*1117))))+(IntKind.wrap .i64 (p*29))))+(IntKind.wrap .i64 (v186*53)))) 64).bind fun(v189:Int)=>
   (rem (ixor .i64 (IntKind.wrap .i64 ((IntKind.wrap .i64 ((IntKind.wrap .i64 ((IntKind.wrap .i64 ((IntKind.wrap .i64 v172)*131))+(IntKind.wrap .i64 ((IntKind.wrap .i64 v179)*1117))))+(IntKind.wrap .i64 (p*29))))+(IntKind.wrap .i64 (v186*53)))) v189) n).bind fun(v191:Int)=>some (v191,p+1))=some r∧K r:=by
 obtain⟨i1,e1,i1a,i1b⟩:=rem_ok (a:=p) (b:=b.length) (by omega) hp
 refine bindO e1 ?_
 obtain⟨x1,ex1,hm1⟩:=idx_ok i1a i1b
 have hr1:=hb.rng x1 hm1
 refine bindO ex1 ?_
 obtain⟨i2,e3,i2a,i2b⟩:=rem_ok (a:=p*7+3) (b:=b.length) (by omega) (by omega)
 have e3':rem (IntKind.wrap .i64 ((IntKind.wrap .i64 (p*7))+3)) ((b.length:Nat):Int)=some i2:=by
  rw[wrap64 (x:=p*7) (by omega) (by omega),wrap64 (x:=p*7+3) (by omega) (by omega)];exact e3
 refine bindO e3' ?_
 obtain⟨x2,ex2,hm2⟩:=idx_ok i2a i2b
 have hr2:=hb.rng x2 hm2
 refine bindO ex2 ?_
 obtain⟨q,eq,qa,qb⟩:=quo_ok (a:=p) (b:=b.length) (by omega) hp (by omega)
 refine bindO eq ?_
 rw[mixw hr1 hr2 hp hp2 qa qb]
 obtain⟨hX0,hX1⟩:=mixb hr1 hr2 hp hp2 qa qb
 generalize x1*131+x2*1117+p*29+q*53=X at hX0 hX1⊢
 obtain⟨y,ey,ya,yb⟩:=quo_ok (a:=X) (b:=64) (by omega) hX0 (by omega)
 refine bindO ey ?_
 obtain⟨v,hv,h4,h5⟩:=rem_ok (b:=n) (by omega) (ixor_ok hX0 (by omega) ya (by omega))
 refine bindO hv ?_
 exact⟨_,rfl,hK v h4 h5⟩
theorem pick_ok {b:List Int} (hb:Bytes b) (n:Int) (hn:n≤1000000) {p:Int} (hp:0≤p) (hp2:p≤1000000000):
  ∃v,N1 n b p=some (v,p+1)∧0≤v∧(1≤n→v<n)∧(n<1→v=0):=by
 suffices H: ∃r,N1 n b p=some r∧(r.2=p+1∧0≤r.1∧(1≤n→r.1<n)∧(n<1→r.1=0)) by
  obtain⟨⟨v,q⟩,h1,h2,h3⟩:=H
  simp only at h2
  subst h2
  exact⟨v,h1,h3⟩
 unfold N1 N8f
 have hlen:=hb.len
 rw[wrap64 (x:=p+1) (by omega) (by omega),show p+1-1=p by omega,wrap64 (x:=p) (by omega) (by omega)]
 by_cases h1:n<1
 ·rw[decide_eq_true h1]
  exact⟨_,rfl,rfl,Int.le_refl _,fun h=>by omega,fun _=>rfl⟩
 rw[decide_eq_false h1]
 by_cases h2:b.length=0
 ·have e0:((((b.length:Nat):Int))==0)=true:=by simp;exact List.eq_nil_of_length_eq_zero h2
  rw[e0]
  exact⟨_,rfl,rfl,Int.le_refl _,fun h=>by show(0:Int)<n;omega,fun _=>rfl⟩
 have e2:((((b.length:Nat):Int))==0)=false:=by simp;intro e;subst e;simp at h2
 rw[e2]
 by_cases h3:p<((b.length:Nat):Int)
 ·rw[decide_eq_true h3]
  obtain⟨x,hx,hm⟩:=idx_ok hp h3
  have hr:=hb.rng x hm
  simp only[cond_true,cond_false]
  refine bindO hx ?_
  obtain⟨v,hv,h4,h5⟩:=rem_ok (b:=n) (by omega) hr.1
  refine bindO (a:=v) (by rw[wrap64 (x:=x) (by omega) (by omega)];exact hv) ?_
  exact⟨_,rfl,rfl,h4,fun _=>h5,fun h=>by omega⟩
 ·rw[decide_eq_false h3]
  simp only[cond_false]
  exact pick_far hb (by omega) hp hp2 (by omega) (by omega) _ (fun v h4 h5=>⟨rfl,h4,fun _=>h5,fun h=>by omega⟩)
theorem odd_ok {b:List Int} (hb:Bytes b) (n:Int) (hn:n≤1000000) {p:Int} (hp:0≤p) (hp2:p≤1000000000):
  ∃(v:Bool) (q:Int),N46 n b p=some (v,q)∧p≤q∧q≤p+1:=by
 unfold N46 N8a
 by_cases h:n>0
 ·obtain⟨v,hv,_⟩:=pick_ok hb n hn hp hp2
  rw[decide_eq_true h,hv]
  exact⟨_,_,rfl,by show p≤p+1;omega,by show p+1≤p+1;omega⟩
 ·rw[decide_eq_false h]
  exact⟨_,_,rfl,by omega,by omega⟩
theorem open_ok (x:List Int) (w: ∀n∈x,(Lit.int .u8 n).wf=true) (l:x.length≤maxLen): ∃b,N2b x=some b∧Bytes b:=by
 have hr: ∀n∈x,0≤n∧n≤255:=fun n hn=>by
  have:=w n hn
  simp only[Lit.wf,Bool.and_eq_true,decide_eq_true_eq] at this
  have e1:IntKind.u8.min=0:=rfl
  have e2:IntKind.u8.max=255:=rfl
  omega
 unfold N2b N74
 by_cases h:((x.length:Nat):Int)>2000
 ·rw[decide_eq_true h]
  have:inc 2000 x.length=some 2000:=by simp only[inc];rw[if_pos (by omega)];rfl
  rw[this]
  exact⟨_,rfl,⟨fun n hn=>hr n (List.mem_of_mem_take (List.mem_of_mem_drop hn)),by simp;omega⟩⟩
 ·rw[decide_eq_false h]
  exact⟨x,rfl,⟨hr,by omega⟩⟩
theorem inc_ok {i:Int} {n:Nat} (h0:0≤i) (h1:i≤n):inc i n=some i.toNat:=by simp only[inc];rw[if_pos ⟨h0,h1⟩]
theorem inb_ok {i:Int} {n:Nat} (h0:0≤i) (h1:i<n):inb i n=some i.toNat:=by simp only[inb];rw[if_pos ⟨h0,h1⟩]
theorem ins_step {o:List Int} {i:Nat} {x:Int} (hi:i≤o.length) (hl:o.length≤1000):
  (room ((List.length ([]:List Int))+List.length ((o.drop 0).take (i-0))))=some ()∧room ((List.length (([]:List Int)++((o.drop 0).take (i-0))))+List.length ([x]))=some ()∧
  room ((List.length ((([]:List Int)++((o.drop 0).take (i-0)))++([x])))+List.length ((o.drop i).take ((List.length o)-i)))=some ()∧
  (((([]:List Int)++((o.drop 0).take (i-0)))++([x]))++((o.drop i).take ((List.length o)-i)))=o.take i++ [x]++o.drop i:=by
 refine⟨by rw[room_le];simp;omega,by rw[room_le];simp;omega,by rw[room_le];simp;omega,?_⟩
 simp only[List.nil_append,List.drop_zero,Nat.sub_zero]
 rw[List.take_of_length_le (l:=o.drop i) (by simp)]
theorem order_ok {b:List Int} (hb:Bytes b) (n:Nat) (hn:n≤20) {p:Int} (hp:0≤p) (hp2:p≤999999000):
  ∃(q:Int) (o:List Int),N2h n b p=some (q,o)∧p≤q∧q≤p+100∧o.length=n∧ ∀x∈o,1≤x∧x≤(n:Int):=by
 unfold N2h Ngt N78
 obtain⟨keep,hk,_⟩:=pick_ok hb 2 (by omega) hp (by omega)
 rw[hk]
 simp only[Option.bind_some]
 unfold Ngs Ng1 N8j Nel Ngg
 obtain⟨⟨q,o⟩,h1,h2,h3,h4,h5⟩:=nloop_ex (body:=fun(s:Int×Int×List Int)=>((N4b n keep s.1 b s.2.1 s.2.2).map (Sum.elim (fun(t:Int×Int×List Int)=>Sum.inl (t.1,t.2.1,t.2.2)) (fun(t:Int×List Int)=>Sum.inr t)):Option ((Int×Int×List Int)⊕((Int×List Int)))))
  (I:=fun s=> ∃(k:Nat) (q:Int) (o:List Int),s=(((k+1:Nat):Int),q,o)∧k≤n∧p≤q∧q≤p+1+2*k∧o.length=k∧ ∀x∈o,1≤x∧x≤(k:Int)) (μ:=fun s=>n+1-s.1.toNat)
  (Q:=fun t=>p≤t.1∧t.1≤p+100∧t.2.length=n∧ ∀x∈t.2,1≤x∧x≤(n:Int))
  (by
   rintro _ ⟨k,q,o,rfl,hk,hq1,hq2,ho,hx⟩
   simp only[N4b]
   by_cases hlt:k<n
   ·left
    rw[show decide (((k+1:Nat):Int)≤(n:Int))=true from decide_eq_true (by omega),wrap64 (x:=((k+1:Nat):Int)+1) (by omega) (by omega)]
    have fin: ∀(i:Nat) (q':Int),i≤o.length→p≤q'→q'≤q+2→(∃k_1 q_1 o_1,((((k+1:Nat):Int)+1,q',o.take i++ [((k+1:Nat):Int)]++o.drop i):Int×Int×List Int)=(((k_1+1:Nat):Int),q_1,o_1)∧k_1≤n∧p≤q_1∧q_1≤p+1+2*(k_1:Int)∧o_1.length=k_1∧ ∀x∈o_1,1≤x∧x≤(k_1:Int))∧
      n+1-(((k+1:Nat):Int)+1).toNat<n+1-(((k+1:Nat):Int)).toNat:=fun i q' hi hq3 hq4=>by
     refine⟨⟨k+1,q',_,by push_cast;rfl,by omega,hq3,by push_cast;omega,by simp;omega,fun x hxm=> ?_⟩,by omega⟩
     simp only[List.mem_append,List.mem_singleton] at hxm
     rcases hxm with(h|h)|h
     ·have:=hx x (List.mem_of_mem_take h);push_cast;omega
     ·subst h;push_cast;omega
     ·have:=hx x (List.mem_of_mem_drop h);push_cast;omega
    have one: ∀(v:Int),0≤v→v≤o.length→ ∀q':Int,(inc v (List.length o)).bind (fun(v426:Nat)=>(room ((List.length ([]:List Int))+List.length ((o.drop 0).take (v426-0)))).bind fun(v430:Unit)=>(room ((List.length (([]:List Int)++((o.drop 0).take (v426-0))))+List.length ([((k+1:Nat):Int)]))).bind fun(v434:Unit)=>(inc v (List.length o)).bind fun(v437:Nat)=>(room ((List.length ((([]:List Int)++((o.drop 0).take (v426-0)))++([((k+1:Nat):Int)])))+List.length ((o.drop v437).take ((List.length o)-v437)))).bind fun(v441:Unit)=>
      some (Sum.inl ((((k+1:Nat):Int)+1),q',(((([]:List Int)++((o.drop 0).take (v426-0)))++([((k+1:Nat):Int)]))++((o.drop v437).take ((List.length o)-v437))))))=(some (Sum.inl ((((k+1:Nat):Int)+1),q',o.take v.toNat++ [((k+1:Nat):Int)]++o.drop v.toNat)):Option ((Int×Int×List Int)⊕(Int×List Int))):=fun v hv0 hv1 q'=>by
     obtain⟨r1,r2,r3,r4⟩:=ins_step (o:=o) (i:=v.toNat) (x:=((k+1:Nat):Int)) (by omega) (by omega)
     simp only[inc_ok hv0 hv1,Option.bind_some,r1,r2,r3,r4]
    obtain⟨v1,hv1,a1,b1,_⟩:=pick_ok hb ((k+1:Nat):Int) (by omega) (p:=q) (by omega) (by omega)
    have b1':=b1 (by omega)
    obtain⟨v3,hv3,a3,b3,_⟩:=pick_ok hb 3 (by omega) (p:=q) (by omega) (by omega)
    obtain⟨v2,hv2,a2,b2,_⟩:=pick_ok hb ((k+1:Nat):Int) (by omega) (p:=q+1) (by omega) (by omega)
    have b2':=b2 (by omega)
    cases hkeep:(keep==0) with
    |true=>
     simp only[cond_true,hv1,Option.bind_some]
     rw[one v1 a1 (by omega) (q+1)]
     exact⟨_,rfl,fin v1.toNat (q+1) (by omega) (by omega) (by omega)⟩
    |false=>
     simp only[cond_true,cond_false,hv3,Option.bind_some]
     cases h3:(v3==0) with
     |true=>
      simp only[cond_true,hv2,Option.bind_some]
      rw[one v2 a2 (by omega) (q+1+1)]
      exact⟨_,rfl,fin v2.toNat (q+1+1) (by omega) (by omega) (by omega)⟩
     |false=>
      simp only[cond_false]
      rw[one ((o.length:Nat):Int) (by omega) (by omega) (q+1)]
      exact⟨_,rfl,fin (((o.length:Nat):Int)).toNat (q+1) (by omega) (by omega) (by omega)⟩
   ·right
    have e:k=n:=by omega
    subst e
    rw[show decide (((k+1:Nat):Int)≤(k:Int))=false from decide_eq_false (by omega)]
    exact⟨_,rfl,hq1,by show q≤p+100;omega,ho,hx⟩) LL (1,p+1,[]) ⟨0,p+1,[],rfl,by omega,by omega,by omega,rfl,by simp⟩ (by simp only[LL];omega)
 rw[h1]
 exact⟨q,o,rfl,h2,h3,h4,h5⟩
theorem room_ok {n:Nat} (h:n≤1099511627776):room n=some ():=by unfold room;rw[if_pos h]
theorem quoN {a:Nat} {b:Nat} (hb:0<b) (ha:a≤1000000000):quo .i64 (a:Int) (b:Int)=some ((a/b:Nat):Int):=by
 unfold quo
 rw[if_neg (by omega)]
 have e:(a:Int).tdiv (b:Int)=((a/b:Nat):Int):=rfl
 have h1:=Nat.div_le_self a b
 rw[e]
 generalize a/b=q at h1⊢
 rw[wrap64 (by omega) (by omega)]
theorem fact_le: ∀{n:Nat},n≤8→factN n≤40320:=by
 intro n hn
 have:n=0∨n=1∨n=2∨n=3∨n=4∨n=5∨n=6∨n=7∨n=8:=by omega
 rcases this with rfl|rfl|rfl|rfl|rfl|rfl|rfl|rfl|rfl<;>decide
def cstL (l:List Nat):List Int:=l.map fun(x:Nat)=>(x:Int)
theorem cstL_length (l:List Nat):(cstL l).length=l.length:=by simp[cstL]
theorem castL_get (l:List Nat) (k:Nat):(cstL l)[k]? =(l[k]?).map fun(x:Nat)=>(x:Int):=by simp[cstL]
theorem size_words {h:List Int} (T:Tree h) {w:Nat}:(wordsL (ymask h w)).length=sizeW h w:=by
 unfold ymask sizeW
 rw[wordsL_mask _ T.le,List.length_map,sumR_ind,List.countP_eq_length_filter]
theorem at_loop (x:Nat) (l:List Nat) (hl:l.length≤100):Ncl (x:Int) (cstL l)=some (((l.takeWhile (fun y=>decide (y<x))).length:Nat):Int):=by
 unfold Ncl
 have cl:=cstL_length l
 have tl:(l.takeWhile (fun y=>decide (y<x))).length≤l.length:=(List.takeWhile_sublist _).length_le
 have key: ∀k,k<(l.takeWhile (fun y=>decide (y<x))).length→ ∃y,l[k]? =some y∧y<x:=fun k hk=>by
  have hm:(l.takeWhile (fun y=>decide (y<x)))[k]∈l.takeWhile (fun y=>decide (y<x)):=List.getElem_mem hk
  have hp:((l.takeWhile (fun y=>decide (y<x))).all fun y=>decide (y<x))=true:=List.all_takeWhile
  have hp:=List.all_eq_true.mp hp _ hm
  refine⟨(l.takeWhile (fun y=>decide (y<x)))[k],?_,by simpa using hp⟩
  have pre:=List.takeWhile_prefix (fun y=>decide (y<x)) (l:=l)
  obtain⟨t,ht⟩:=pre
  have:l[k]? =(l.takeWhile (fun y=>decide (y<x))++t)[k]? :=by rw[ht]
  rw[this,List.getElem?_append_left hk,List.getElem?_eq_getElem hk]
 have stop:(l.takeWhile (fun y=>decide (y<x))).length<l.length→ ∃y,l[(l.takeWhile (fun y=>decide (y<x))).length]? =some y∧ ¬y<x:=fun hk=>by
  have e:=List.takeWhile_append_dropWhile (p:=fun y=>decide (y<x)) (l:=l)
  cases hd:l.dropWhile (fun y=>decide (y<x)) with
  |nil=>
   rw[hd,List.append_nil] at e
   rw[e] at hk
   omega
  |cons y r=>
   refine⟨y,?_,?_⟩
   ·have:l[(l.takeWhile (fun y=>decide (y<x))).length]? =(l.takeWhile (fun y=>decide (y<x))++(y::r))[(l.takeWhile (fun y=>decide (y<x))).length]? :=by rw[←hd,e]
    rw[this]
    simp
   ·have:=List.head?_dropWhile_not (fun y=>decide (y<x)) l
    rw[hd] at this
    simpa using this
 have lp:=nloop_to (body:=fun(s:Int)=>((N43 (x:Int) s (cstL l)).map (Sum.elim (fun(t:Int)=>Sum.inl t) (fun(t:Int)=>Sum.inr t)):Option ((Int)⊕(Int))))
  (fun k=>(k:Int)) (l.takeWhile (fun y=>decide (y<x))).length (((l.takeWhile (fun y=>decide (y<x))).length:Nat):Int)
  (by
   intro k hk
   obtain⟨y,hy,hyx⟩:=key k hk
   have w:IntKind.wrap .i64 ((k:Int)+1)=((k+1:Nat):Int):=by rw[wrap64 (by omega) (by omega)];omega
   simp only[N43]
   rw[cl,decide_eq_true (show(k:Int)<((l.length:Nat):Int) by omega),inb_nat (by omega),w]
   simp only[cond_true,Option.bind_some,castL_get,hy,Option.map_some]
   rw[decide_eq_true (show((y:Nat):Int)<(x:Int) by omega)]
   rfl)
  (by
   simp only[N43]
   by_cases lt:(l.takeWhile (fun y=>decide (y<x))).length<l.length
   ·obtain⟨y,hy,hyx⟩:=stop lt
    rw[cl,decide_eq_true (show(((l.takeWhile (fun y=>decide (y<x))).length:Nat):Int)<((l.length:Nat):Int) by omega),inb_nat lt]
    simp only[cond_true,Option.bind_some,castL_get,hy,Option.map_some]
    rw[decide_eq_false (show¬((y:Nat):Int)<(x:Int) by omega)]
    rfl
   ·rw[cl,decide_eq_false (show¬(((l.takeWhile (fun y=>decide (y<x))).length:Nat):Int)<((l.length:Nat):Int) by omega)]
    rfl) LL (by simp only[LL];omega)
 exact lp
theorem ins_native (x:Nat) (l:List Nat) (hl:l.length≤100):N9s (x:Int) (cstL l)=some (cstL (insS l x)):=by
 unfold N9s Nfi
 rw[at_loop x l hl]
 have cl:=cstL_length l
 have tl:(l.takeWhile (fun y=>decide (y<x))).length≤l.length:=(List.takeWhile_sublist _).length_le
 have i:inc (((l.takeWhile (fun y=>decide (y<x))).length:Nat):Int) (cstL l).length=some (l.takeWhile (fun y=>decide (y<x))).length:=by
  unfold inc
  rw[if_pos (by omega),Int.toNat_natCast]
 simp only[Option.map_some,Option.bind_some,N7r,i]
 rw[room_ok (by simp;omega),room_ok (by simp;omega),room_ok (by simp;omega)]
 simp only[Option.bind_some]
 congr 1
 have e:=List.takeWhile_append_dropWhile (p:=fun y=>decide (y<x)) (l:=l)
 have e1:(cstL l).take (l.takeWhile (fun y=>decide (y<x))).length=cstL (l.takeWhile (fun y=>decide (y<x))):=by
  unfold cstL
  rw[←List.map_take]
  congr 1
  have z:(l.takeWhile (fun y=>decide (y<x))++l.dropWhile (fun y=>decide (y<x))).take (l.takeWhile (fun y=>decide (y<x))).length=l.takeWhile (fun y=>decide (y<x)):=List.take_left' rfl
  rw[e] at z
  exact z
 have e2:(cstL l).drop (l.takeWhile (fun y=>decide (y<x))).length=cstL (l.dropWhile (fun y=>decide (y<x))):=by
  unfold cstL
  rw[←List.map_drop]
  congr 1
  have z:(l.takeWhile (fun y=>decide (y<x))++l.dropWhile (fun y=>decide (y<x))).drop (l.takeWhile (fun y=>decide (y<x))).length=l.dropWhile (fun y=>decide (y<x)):=List.drop_left' rfl
  rw[e] at z
  exact z
 rw[List.drop_zero,Nat.sub_zero,List.nil_append,e1,e2,List.take_of_length_le (by simp only[cstL_length];have:=congrArg List.length e;simp only[List.length_append] at this;omega)]
 unfold insS cstL
 simp
def kidsUp (h:List Int) (w k:Nat):List Nat:=((List.range k).map (· +1)).filter fun c=>hd h c==w
theorem kidsUp_succ (h:List Int) (w k:Nat):kidsUp h w (k+1)=kidsUp h w k++if(hd h (k+1)==w)=true then[k+1] else[]:=by
 unfold kidsUp
 rw[List.range_succ,List.map_append,List.filter_append]
 congr 1
 simp only[List.map_cons,List.map_nil,List.filter_cons,List.filter_nil]
theorem kidsUp_le (h:List Int) (w k:Nat):(kidsUp h w k).length≤k:=by
 unfold kidsUp
 exact Nat.le_trans (List.length_filter_le _ _) (by simp)
theorem sortS_snoc (l:List Nat) (x:Nat):sortS (l++ [x])=insS (sortS l) x:=by unfold sortS;rw[List.foldl_append];rfl
theorem specSizes_eq {h:List Int} (T:Tree h) {w:Nat} (w1:1≤w) (w2:w≤h.length):N2k h (w:Int)=some (cstL (sizesW h w)):=by
 have e:N2k h (w:Int)=Ncu h (w:Int):=by unfold N2k;rfl
 have l8:=T.le
 rw[e]
 unfold Ncu N6x Nev Nfj N5m Nek Ngh N80
 have lp:=nloop_to (body:=fun(s:Int×(List Int))=>((N6q h (w:Int) s.1 s.2).map (Sum.elim (fun(t:Int×(List Int))=>Sum.inl (t.1,t.2)) (fun(t:(List Int))=>Sum.inr t)):Option ((Int×(List Int))⊕(((List Int))))))
  (fun k=>((k:Int),cstL (sortS ((kidsUp h w k).map (sizeW h))))) h.length (cstL (sizesW h w))
  (by
   intro k hk
   have g:=T.get (w:=k+1) (by omega) (by omega)
   rw[Nat.add_sub_cancel] at g
   have wk:IntKind.wrap .i64 ((k:Int)+1)=((k+1:Nat):Int):=by rw[wrap64 (by omega) (by omega)];omega
   have kl:=kidsUp_le h w k
   have sl:(sortS ((kidsUp h w k).map (sizeW h))).length≤100:=by rw[(sortS_perm _).length_eq,List.length_map];omega
   simp only[N6q,N4o,Net,Ne5,Nhu,N6k,N5a]
   rw[decide_eq_true (show(k:Int)<((h.length:Nat):Int) by omega),idx_nat,g,wk]
   simp only[cond_true,Option.bind_some,Sum.elim_inl]
   rw[kidsUp_succ,List.map_append]
   by_cases q:hd h (k+1)=w
   ·rw[show(((hd h (k+1):Nat):Int) !=(w:Int))=false by rw[q];simp,if_pos (beq_iff_eq.mpr q),List.map_cons,List.map_nil,sortS_snoc]
    simp only[cond_false,l2Yield_eq T (show 1≤k+1 by omega) (show k+1≤h.length by omega),Option.bind_some,l2Words_eq (ymask_lt l8 (k+1)),size_words T,Sum.elim_inl,ins_native _ _ sl,Option.map_some]
   ·rw[show(((hd h (k+1):Nat):Int) !=(w:Int))=true by simpa using fun z=>q (by omega),if_neg (fun z=>q (beq_iff_eq.mp z)),List.map_nil,List.append_nil]
    simp only[cond_true,Option.bind_some,Sum.elim_inr,Option.map_some,Sum.elim_inl])
  (by
   simp only[N6q,N4o]
   rw[decide_eq_false (show¬((h.length:Nat):Int)<((h.length:Nat):Int) by omega)]
   rfl) LL (by simp only[LL];omega)
 have lp':=lp
 rw[show((0:Nat):Int)=0 from rfl,show cstL (sortS ((kidsUp h w 0).map (sizeW h)))=[] from rfl] at lp'
 simp only[Option.bind_some]
 rw[lp']
 rfl
def selP (side:Nat) (l:List Nat) (s:Nat):List Nat:=if side=1 then(selL l s).1 else(selL l s).2
theorem selP_cons {side:Nat} (hs:side≤1) (x:Nat) (r:List Nat) (s:Nat):selP side (x::r) s=if s%2=side then x::selP side r (s/2) else selP side r (s/2):=by
 unfold selP
 have hb:s%2=0∨s%2=1:=by omega
 have:side=0∨side=1:=by omega
 rcases this with rfl|rfl<;>rcases hb with e|e<;>simp[selL,e]
theorem selP_sub {side:Nat} (l:List Nat) (s:Nat):(selP side l s).Sublist l:=by
 unfold selP
 split
 ·exact(selL_sub l s).1
 ·exact(selL_sub l s).2
theorem costL_le {M:Nat}: ∀{l:List Nat},(∀x∈l,x≤M)→costL l≤M*l.length*l.length
 |[],_=>by simp[costL]
 |x::r,h=>by
  have ih:=costL_le (l:=r) fun y hy=>h y (List.mem_cons_of_mem _ hy)
  have hx:=h x (List.mem_cons_self ..)
  rw[costL,List.length_cons]
  have a:x*r.length≤M*r.length:=Nat.mul_le_mul_right _ hx
  have b:M*(r.length+1)*(r.length+1)=M*r.length*r.length+M*r.length+(M*r.length+M):=by
   rw[Nat.mul_succ M,Nat.mul_succ,Nat.add_mul]
  rw[b]
  generalize M*r.length*r.length=p at ih⊢
  generalize M*r.length=q at a⊢
  generalize x*r.length=t at a⊢
  omega
theorem sum_leM {M:Nat}: ∀{l:List Nat},(∀x∈l,x≤M)→l.sum≤M*l.length
 |[],_=>by simp
 |x::r,h=>by
  have ih:=sum_leM (l:=r) fun y hy=>h y (List.mem_cons_of_mem _ hy)
  have hx:=h x (List.mem_cons_self ..)
  rw[List.sum_cons,List.length_cons,Nat.mul_succ]
  omega
def sideC (root:Bool) (side:Nat) (l:List Nat):Nat:=costL l+if side=1∧root=false then l.sum else 0
theorem sideC_cons (root:Bool) (side x:Nat) (r:List Nat):sideC root side (x::r)=sideC root side r+x*r.length+if side=1∧root=false then x else 0:=by
 unfold sideC
 rw[costL,List.sum_cons]
 split<;>omega
theorem sideC_le {root:Bool} {side:Nat} {l:List Nat} (h: ∀x∈l,x≤8) (hl:l.length≤8):sideC root side l≤576:=by
 unfold sideC
 have a:=costL_le h
 have b:=sum_leM h
 have c:8*l.length*l.length≤8*8*8:=Nat.mul_le_mul (Nat.mul_le_mul_left _ hl) hl
 split<;>omega
theorem side_loop {L:List Nat} (h8: ∀x∈L,x≤8) (hl:L.length≤7) {s base side:Nat} (hs:s<2^L.length) (hb:base≤10000) (hside:side≤1) (root:Bool):
  Na1 (cstL L) root (s:Int) (base:Int) (side:Int) (((L.length:Nat):Int)-1)=some ((base+sideC root side (selP side L s):Nat):Int):=by
 unfold Na1
 have s128:s<128:=Nat.lt_of_lt_of_le hs (Nat.pow_le_pow_right (by omega) hl)
 have cl:=cstL_length L
 have mem: ∀j,∀x∈selP side (L.drop j) (s/2^j),x≤8:=fun j x hx=>h8 x (List.mem_of_mem_drop ((selP_sub _ _).subset hx))
 have len: ∀j,(selP side (L.drop j) (s/2^j)).length≤8:=fun j=>by
  have:=(selP_sub (side:=side) (L.drop j) (s/2^j)).length_le
  rw[List.length_drop] at this
  omega
 have sc: ∀j,sideC root side (selP side (L.drop j) (s/2^j))≤576:=fun j=>sideC_le (mem j) (len j)
 have lp:=nloop_to (body:=fun(t:Int×Int×Int)=>((N3c (cstL L) root (s:Int) t.1 (side:Int) t.2.1 t.2.2).map (Sum.elim (fun(t:Int×Int×Int)=>Sum.inl (t.1,t.2.1,t.2.2)) (fun(t:Int)=>Sum.inr t)):Option ((Int×Int×Int)⊕(Int))))
  (fun j=>(((base+sideC root side (selP side (L.drop (L.length-j)) (s/2^(L.length-j))):Nat):Int),(((selP side (L.drop (L.length-j)) (s/2^(L.length-j))).length:Nat):Int),((L.length:Nat):Int)-1-(j:Int)))
  L.length ((base+sideC root side (selP side L s):Nat):Int)
  (by
   intro j hj
   have hk:L.length-(j+1)<L.length:=by omega
   have ek:L.length-j=L.length-(j+1)+1:=by omega
   generalize hkk:L.length-(j+1)=k at hk ek
   have dk:L.drop k=L[k]::L.drop (k+1):=List.drop_eq_getElem_cons hk
   have hx:=h8 L[k] (List.getElem_mem hk)
   have pw:s/2^(k+1)=s/2^k/2:=by rw[Nat.pow_succ,Nat.div_div_eq_div_mul]
   have kk:((L.length:Nat):Int)-1-(j:Int)=(k:Int):=by omega
   have sh:shr .i64 (s:Int) (k:Int)=some ((s/2^k:Nat):Int):=by
    unfold shr
    rw[if_neg (by omega),Int.toNat_natCast,Nat.min_eq_left (show k≤IntKind.i64.bits by show k≤64;omega)]
    congr 1
    rw[show((2:Int)^k)=((2^k:Nat):Int) by rw[Int.natCast_pow];rfl,Int.fdiv_eq_ediv_of_nonneg _ (Int.natCast_nonneg _),←Int.natCast_ediv]
   have rm:rem ((s/2^k:Nat):Int) 2=some ((s/2^k%2:Nat):Int):=by
    unfold rem
    rw[if_neg (by omega)]
    rfl
   have ix:idx (cstL L) (k:Int)=some ((L[k]:Nat):Int):=by rw[idx_nat,castL_get,List.getElem?_eq_getElem hk];rfl
   have s1:=sc (k+1)
   have l1:=len (k+1)
   have w1:IntKind.wrap .i64 ((k:Int)-1)=((L.length:Nat):Int)-1-((j+1:Nat):Int):=by rw[wrap64 (by omega) (by omega)];omega
   simp only[N3c]
   rw[ek,kk,decide_eq_true (show(k:Int)≥0 by omega),sh,dk,selP_cons hside,←pw,w1]
   simp only[cond_true,Option.bind_some,rm,ix]
   generalize selP side (L.drop (k+1)) (s/2^(k+1))=r at s1 l1
   have mb:L[k]*r.length≤64:=Nat.le_trans (Nat.mul_le_mul hx l1) (by omega)
   have wm:IntKind.wrap .i64 (((r.length:Nat):Int)*((L[k]:Nat):Int))=((L[k]*r.length:Nat):Int):=by
    rw[←Int.natCast_mul,Nat.mul_comm r.length]
    generalize L[k]*r.length=m at mb
    rw[wrap64 (by omega) (by omega)]
   have wl:IntKind.wrap .i64 (((r.length:Nat):Int)+1)=((r.length+1:Nat):Int):=by rw[wrap64 (by omega) (by omega)];omega
   rw[wm,wl]
   by_cases q:s/2^k%2=side
   ·rw[show(((s/2^k%2:Nat):Int)==(side:Int))=true from beq_iff_eq.mpr (by omega),if_pos q,sideC_cons,List.length_cons]
    simp only[cond_true]
    generalize L[k]*r.length=m at mb
    have wc:IntKind.wrap .i64 (((base+sideC root side r:Nat):Int)+((m:Nat):Int))=((base+sideC root side r+m:Nat):Int):=by rw[wrap64 (by omega) (by omega)];omega
    rw[wc]
    by_cases sd:side=1
    ·rw[show((side:Int)==1)=true from beq_iff_eq.mpr (by omega)]
     cases root with
     |true=>
      rw[if_neg (fun z=>by cases z.2)]
      simp only[cond_true,Bool.not_true,cond_false,Option.map_some,Sum.elim_inl]
      congr 3
      omega
     |false=>
      have wc2:IntKind.wrap .i64 (((base+sideC false side r+m:Nat):Int)+((L[k]:Nat):Int))=((base+sideC false side r+m+L[k]:Nat):Int):=by rw[wrap64 (by omega) (by omega)];omega
      rw[if_pos ⟨sd,rfl⟩]
      simp only[cond_true,Bool.not_false,Option.bind_some,wc2,Option.map_some,Sum.elim_inl]
      congr 3
      omega
    ·rw[show((side:Int)==1)=false from beq_eq_false_iff_ne.mpr (by omega),if_neg (fun z=>sd z.1)]
     simp only[cond_false,Option.map_some,Sum.elim_inl]
     congr 3
     omega
   ·rw[show(((s/2^k%2:Nat):Int)==(side:Int))=false from beq_eq_false_iff_ne.mpr (by omega),if_neg q]
    rfl)
  (by
   simp only[N3c]
   rw[decide_eq_false (show¬(((L.length:Nat):Int)-1-((L.length:Nat):Int))≥0 by omega),Nat.sub_self]
   simp) LL (by simp only[LL];omega)
 have lp':=lp
 have z0:selP side (L.drop (L.length-0)) (s/2^(L.length-0))=[]:=by
  rw[Nat.sub_zero,List.drop_length]
  unfold selP selL
  split<;>rfl
 rw[z0,show sideC root side []=0 by unfold sideC costL;simp,Nat.add_zero,show(((([]:List Nat).length:Nat):Int))=0 from rfl,show((L.length:Nat):Int)-1-((0:Nat):Int)=((L.length:Nat):Int)-1 by omega] at lp'
 exact lp'
theorem sides_cost (l:List Nat) (root:Bool) (s:Nat):sideC root 0 (selP 0 l s)+sideC root 1 (selP 1 l s)=costS l root s:=by
 unfold sideC costS selP
 cases root<;>simp<;>omega
theorem costS_le {L:List Nat} (h8: ∀x∈L,x≤8) (hl:L.length≤7) (root:Bool) (s:Nat):costS L root s≤1152:=by
 rw[←sides_cost]
 have a:=sideC_le (root:=root) (side:=0) (l:=selP 0 L s) (fun x hx=>h8 x ((selP_sub _ _).subset hx)) (by have:=(selP_sub (side:=0) L s).length_le;omega)
 have b:=sideC_le (root:=root) (side:=1) (l:=selP 1 L s) (fun x hx=>h8 x ((selP_sub _ _).subset hx)) (by have:=(selP_sub (side:=1) L s).length_le;omega)
 omega
theorem sides_loop {L:List Nat} (h8: ∀x∈L,x≤8) (hl:L.length≤7) {s:Nat} (hs:s<2^L.length) (root:Bool):
  Nbd (cstL L) root (s:Int)=some ((costS L root s:Nat):Int):=by
 unfold Nbd
 have cb:=costS_le h8 hl root s
 rw[←sides_cost] at cb⊢
 have w7:IntKind.wrap .i64 ((((cstL L).length:Nat):Int)-1)=((L.length:Nat):Int)-1:=by rw[cstL_length,wrap64 (by omega) (by omega)]
 have lp:=nloop_to (body:=fun(t:Int×Int)=>((N7q (cstL L) root (s:Int) t.1 t.2).map (Sum.elim (fun(t:Int×Int)=>Sum.inl (t.1,t.2)) (fun(t:Int)=>Sum.inr t)):Option ((Int×Int)⊕(Int))))
  (fun k=>(((sumR (fun i=>sideC root i (selP i L s)) k:Nat):Int),(k:Int))) 2 ((sideC root 0 (selP 0 L s)+sideC root 1 (selP 1 L s):Nat):Int)
  (by
   intro k hk
   have b0:sumR (fun i=>sideC root i (selP i L s)) k≤1152:=by
    have:k=0∨k=1:=by omega
    rcases this with rfl|rfl
    ·simp[sumR]
    ·simp only[sumR];omega
   have wk:IntKind.wrap .i64 ((k:Int)+1)=((k+1:Nat):Int):=by rw[wrap64 (by omega) (by omega)];omega
   simp only[N7q,N58,Nh4,Ngy,Nff,N5g,Nfa,N5q]
   rw[decide_eq_true (show(k:Int)<2 by omega),w7,wk]
   simp only[cond_true,Option.bind_some,Sum.elim_inl]
   rw[side_loop h8 hl hs (by omega) (by omega) root]
   rfl)
  (by
   simp only[N7q,N58]
   rw[decide_eq_false (show¬((2:Nat):Int)<2 by omega)]
   simp only[cond_false,Option.bind_some,Sum.elim_inr,Option.map_some,sumR,Nat.zero_add]) LL (by simp only[LL];omega)
 exact lp
theorem shl_one {k:Nat} (hk:k≤7):shl .i64 1 (k:Int)=some ((2^k:Nat):Int):=by
 simpa using all_lt shl_tab (i:=k) (by omega)
theorem least_loop {L:List Nat} (h8: ∀x∈L,x≤8) (hl:L.length≤7) (root:Bool):N2f (cstL L) root=some ((leastC L root:Nat):Int):=by
 have e:N2f (cstL L) root=Nci (cstL L) root:=by unfold N2f;rfl
 rw[e]
 unfold Nci N5b Nf2 Neu N7v Ned Nes N5w
 have p1:1≤2^L.length:=Nat.one_le_two_pow
 have p128:2^L.length≤128:=Nat.pow_le_pow_right (j:=7) (by omega) hl
 have sh:=shl_one hl
 have lp:=nloop_to (body:=fun(s:Int×Int)=>((N76 (cstL L) root s.1 s.2).map (Sum.elim (fun(t:Int×Int)=>Sum.inl (t.1,t.2)) (fun(t:Int)=>Sum.inr t)):Option ((Int×Int)⊕(Int))))
  (fun k=>((if k=0 then(-1:Int) else((minN (costS L root) (k-1):Nat):Int)),(k:Int))) (2^L.length) ((leastC L root:Nat):Int)
  (by
   intro k hk
   have wk:IntKind.wrap .i64 ((k:Int)+1)=((k+1:Nat):Int):=by rw[wrap64 (by omega) (by omega)];omega
   simp only[N76,N4q,Nhc,Ndn,Ngf,N5j,Nfm,Nfl,N6j,Ni0,N5k]
   rw[cstL_length,sh,wk]
   simp only[Option.bind_some]
   rw[decide_eq_true (show(k:Int)<((2^L.length:Nat):Int) by omega)]
   simp only[cond_true,Option.bind_some,Sum.elim_inl]
   rw[sides_loop h8 hl hk root]
   simp only[Option.map_some,Option.bind_some,N71]
   by_cases z:k=0
   ·subst z
    rw[if_pos rfl,if_neg (by omega)]
    rfl
   ·obtain⟨j,rfl⟩: ∃j,k=j+1:=⟨k-1,by omega⟩
    rw[if_neg (by omega),if_neg (by omega),Nat.add_sub_cancel,Nat.add_sub_cancel,decide_eq_false (show¬((minN (costS L root) j:Nat):Int)<0 by omega)]
    simp only[cond_false]
    by_cases lt:costS L root (j+1)<minN (costS L root) j
    ·rw[decide_eq_true (show((costS L root (j+1):Nat):Int)<((minN (costS L root) j:Nat):Int) by omega),minN,Nat.min_eq_right (by omega)]
     rfl
    ·rw[decide_eq_false (show¬((costS L root (j+1):Nat):Int)<((minN (costS L root) j:Nat):Int) by omega),minN,Nat.min_eq_left (by omega)]
     rfl)
  (by
   simp only[N76,N4q]
   rw[cstL_length,sh]
   simp only[Option.bind_some]
   rw[decide_eq_false (show¬((2^L.length:Nat):Int)<((2^L.length:Nat):Int) by omega),if_neg (by omega)]
   rfl) LL (by simp only[LL];omega)
 have lp':=lp
 rw[if_pos rfl,show((0:Nat):Int)=0 from rfl] at lp'
 simp only[Option.bind_some]
 rw[lp']
 rfl
theorem kidW_le {h:List Int} (T:Tree h) {w:Nat} (w1:1≤w) (w2:w≤h.length):(kidW h w).length≤7:=by
 have l8:=T.le
 unfold kidW
 have:(((List.range h.length).map (· +1)).filter fun k=>hd h k==w).length<((List.range h.length).map (· +1)).length:=by
  rw[List.length_filter_lt_length_iff_exists]
  refine⟨w,List.mem_map.mpr ⟨w-1,List.mem_range.mpr (by omega),by omega⟩,?_⟩
  simpa using hd_self T w1 w2
 simp only[List.length_map,List.length_range] at this
 omega
theorem sizesW_mem {h:List Int} (T:Tree h) {w:Nat}: ∀x∈sizesW h w,x≤8:=fun x hx=>by
 unfold sizesW at hx
 obtain⟨k,hk,e⟩:=List.mem_map.mp ((sortS_perm _).mem_iff.mp hx)
 have:=size_le h k
 have:=T.le
 omega
theorem sizesW_len {h:List Int} (T:Tree h) {w:Nat} (w1:1≤w) (w2:w≤h.length):(sizesW h w).length≤7:=by
 unfold sizesW
 rw[(sortS_perm _).length_eq,List.length_map]
 exact kidW_le T w1 w2
theorem leastW_le {h:List Int} (T:Tree h) {w:Nat} (w1:1≤w) (w2:w≤h.length):leastW h w≤1152:=by
 unfold leastW leastC
 obtain⟨k,hk,e⟩:=minN_at (f:=costS (sizesW h w) (hd h w==0)) (2^(sizesW h w).length-1)
 rw[e]
 exact costS_le (sizesW_mem T) (sizesW_len T w1 w2) _ _
noncomputable def leastI (h:List Int):Int:=if treeB h then((leastN h:Nat):Int) else-1
theorem specLeast_eq (h:List Int):N1o h=some (leastI h):=by
 have e:N1o h=Nbw h:=by unfold N1o;rfl
 rw[e]
 unfold Nbw N60 leastI
 rw[specTree_eq h]
 cases t:treeB h with
 |false=>rfl
 |true=>
  have T:=(tree_iff h).mp t
  have l8:=T.le
  have l1:=T.pos
  have sb: ∀k,k≤h.length→sumR (fun i=>leastW h (i+1)) k≤1152*k:=by
   intro k
   induction k with
   |zero=>intro _;simp[sumR]
   |succ k ih=>
    intro hk
    have:=leastW_le T (w:=k+1) (by omega) (by omega)
    have:=ih (by omega)
    rw[sumR]
    omega
  have lp:=nloop_to (body:=fun(s:Int×Int)=>((N2u h s.1 s.2).map (Sum.elim (fun(t:Int×Int)=>Sum.inl (t.1,t.2)) (fun(t:Int)=>Sum.inr t)):Option ((Int×Int)⊕(Int))))
   (fun k=>(((h.length-1+sumR (fun i=>leastW h (i+1)) k:Nat):Int),((k+1:Nat):Int))) h.length ((leastN h:Nat):Int)
   (by
    intro k hk
    have g:=T.get (w:=k+1) (by omega) (by omega)
    rw[Nat.add_sub_cancel] at g
    have b:=sb k (by omega)
    have c:=leastW_le T (w:=k+1) (by omega) (by omega)
    have wk:IntKind.wrap .i64 (((k+1:Nat):Int)+1)=((k+1+1:Nat):Int):=by rw[wrap64 (by omega) (by omega)];omega
    have wk2:IntKind.wrap .i64 (((k+1:Nat):Int)-1)=(k:Int):=by rw[wrap64 (by omega) (by omega)];omega
    simp only[N2u]
    rw[decide_eq_true (show((k+1:Nat):Int)≤((h.length:Nat):Int) by omega),wk2,idx_nat,g,wk,specSizes_eq T (by omega) (by omega)]
    simp only[cond_true,Option.bind_some]
    have r:(((hd h (k+1):Nat):Int)==0)=(hd h (k+1)==0):=by
     rw[Bool.eq_iff_iff]
     simp only[beq_iff_eq]
     omega
    rw[r,least_loop (sizesW_mem T) (sizesW_len T (by omega) (by omega))]
    simp only[Option.bind_some,Option.map_some,Sum.elim_inl]
    rw[sumR,show leastC (sizesW h (k+1)) (hd h (k+1)==0)=leastW h (k+1) from rfl,wrap64 (by omega) (by omega)]
    congr 3
    omega)
   (by
    simp only[N2u]
    rw[decide_eq_false (show¬((h.length+1:Nat):Int)≤((h.length:Nat):Int) by omega)]
    rfl) LL (by simp only[LL];omega)
  have w0:IntKind.wrap .i64 (((h.length:Nat):Int)-1)=((h.length-1:Nat):Int):=by rw[wrap64 (by omega) (by omega)];omega
  simp only[Option.bind_some,Bool.not_true,cond_false,Sum.elim_inl,if_true]
  rw[w0]
  unfold Nd3 Ngi N6m Ndf Nhe
  have lp':=lp
  rw[show sumR (fun i=>leastW h (i+1)) 0=0 from rfl,Nat.add_zero,show((0+1:Nat):Int)=1 from rfl] at lp'
  simp only[Option.bind_some]
  rw[lp']
  rfl
theorem count_tab:((List.range 256).all fun m=>N2j (m:Int)==some (((wordsL m).length:Nat):Int))=true:=by decide+kernel
theorem count_eq {m:Nat} (h:m<256):N2j (m:Int)=some (((wordsL m).length:Nat):Int):=by simpa using all_lt count_tab h
theorem before_tab:((List.range 8).all fun i=>N2i ((i:Int)+1)==some ((2^i-1:Nat):Int))=true:=by decide+kernel
theorem before_eq {w:Nat} (h1:1≤w) (h2:w≤8):N2i (w:Int)=some ((2^(w-1)-1:Nat):Int):=by
 have h:=all_lt before_tab (i:=w-1) (by omega)
 rw[show((w-1:Nat):Int)+1=(w:Int) by omega] at h
 simpa using h
theorem iandnu {a b:Nat} (ha:a<2^62) (hb:b<2^62): ∃c:Nat,iandn .u64 (a:Int) (b:Int)=(c:Int)∧c≤a∧ ∀i,c.testBit i=(a.testBit i&& !b.testBit i):=by
 have h:a&&&(2^64-1-b)≤a:=Nat.and_le_left
 refine⟨a&&&(2^64-1-b),?_,h,fun i=> ?_⟩
 ·show IntKind.wrap .u64 ((BitVec.ofInt 64 (a:Int)&&& ~~~BitVec.ofInt 64 (b:Int)).toNat:Int)=_
  rw[BitVec.toNat_and,BitVec.toNat_not,ofInt_nat (by omega),ofInt_nat (by omega),wrapu64 (by omega) (by omega)]
 ·rw[Nat.testBit_and]
  by_cases hi:i<64
  ·have e:2^64-1-b=2^64-(b+1):=by omega
   rw[e,Nat.testBit_two_pow_sub_succ (by omega)]
   simp[hi]
  ·have:a.testBit i=false:=Nat.testBit_lt_two_pow (Nat.lt_of_lt_of_le ha (Nat.pow_le_pow_right (by omega) (by omega)))
   rw[this];simp
def leftB (h:List Int) (v:Int) (w i:Nat):Bool:=headB h v i&&decide (i<w-1)
def rightB (h:List Int) (v:Int) (w i:Nat):Bool:=headB h v i&& !decide (i<w-1)
theorem Tree.headB_iff {h:List Int} (T:Tree h) {w i:Nat} (hi:i<h.length):headB h (w:Int) i=true↔hd h (i+1)=w:=by
 have hg:=T.get (w:=i+1) (by omega) (by omega)
 rw[Nat.add_sub_cancel] at hg
 simp only[headB,List.getD_eq_getElem?_getD,hg,Option.getD_some,beq_iff_eq]
 omega
theorem Tree.hd_ne {h:List Int} (T:Tree h) {w:Nat} (h1:1≤w) (h2:w≤h.length):hd h w≠w:=by
 intro e
 have:=T.dep_step h1 h2 (by omega)
 rw[e] at this
 omega
theorem beside_eq {h:List Int} (T:Tree h) {w:Nat} (h1:1≤w) (h2:w≤h.length):
  N23 h (w:Int)=some (((maskN (leftB h (w:Int) w) h.length:Nat):Int),((maskN (rightB h (w:Int) w) h.length:Nat):Int)):=by
 have hle:=T.le
 have hp:=pow_lt256 (show w≤8 by omega) h1
 have l0:maskN (headB h (w:Int)) h.length<256:=lt256 hle (maskN_lt _ _)
 obtain⟨c,hc,hc1,hc2⟩:=iandnu (a:=maskN (headB h (w:Int)) h.length) (b:=2^(w-1)-1) (by omega) (by omega)
 have e:N23 h (w:Int)=N50 h (w:Int):=by unfold N23;rfl
 rw[e]
 unfold N50
 simp only[Option.bind_some,dependents_eq h _ hle,before_eq h1 (show w≤8 by omega),hc]
 rw[iandu (by omega) (by omega)]
 have e1:maskN (headB h (w:Int)) h.length&&&(2^(w-1)-1)=maskN (leftB h (w:Int) w) h.length:=by
  refine eq_maskN (Nat.lt_of_le_of_lt Nat.and_le_left (maskN_lt _ _)) fun i hi=> ?_
  rw[Nat.testBit_and,maskN_bit,Nat.testBit_two_pow_sub_one]
  simp[hi,leftB]
 have e2:c=maskN (rightB h (w:Int) w) h.length:=by
  refine eq_maskN (Nat.lt_of_le_of_lt hc1 (maskN_lt _ _)) fun i hi=> ?_
  rw[hc2,maskN_bit,Nat.testBit_two_pow_sub_one]
  simp[hi,rightB]
 rw[e1,e2]
end Go.Rv
