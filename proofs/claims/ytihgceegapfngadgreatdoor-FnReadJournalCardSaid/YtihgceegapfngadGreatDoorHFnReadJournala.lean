/-
  Plain mathematics of what the law reaches. Conditions: none.
-/
import Derived.Test.YtihgceegapfngadGreatDoorGFnReadJournal
set_option linter.unusedVariables false
set_option linter.unusedSimpArgs false
namespace Go.Rv
theorem nloop_run {σ ω:Type} {body:σ→Option (σ⊕ω)} (I:σ→Prop) (μ:σ→Nat) (f:σ→ω)
  (h: ∀s,I s→(∃s',body s=some (.inl s')∧I s'∧μ s'<μ s∧f s'=f s)∨body s=some (.inr (f s))): ∀(n:Nat) (s:σ),I s→μ s<n→nloop body n s=some (f s)
 |0,s,_,hn=>by omega
 |n+1,s,hi,hn=>by
  rcases h s hi with⟨s',hb,hi',hm,hf⟩|hb
  ·simp only[nloop,hb,Option.bind_some]
   rw[nloop_run I μ f h n s' hi' (by omega),hf]
  ·simp only[nloop,hb,Option.bind_some]
theorem wrap64 {x:Int} (h1: -9223372036854775808≤x) (h2:x≤9223372036854775807):IntKind.wrap .i64 x=x:=by
 simp only[IntKind.wrap,IntKind.bits,IntKind.signed]
 simp
 omega
theorem idx_nat {α:Type} (xs:List α) (k:Nat):idx xs (k:Int)=xs[k]? :=by simp[idx]
theorem idx_lt {α:Type} {xs:List α} {k:Nat} (h:k<xs.length):idx xs (k:Int)=some xs[k]:=by simp[idx,h]
theorem inb_nat {k n:Nat} (h:k<n):inb (k:Int) n=some k:=by
 simp only[inb]
 rw[if_pos (by omega)]
 simp
theorem mk_nat {n:Nat} (h:n≤1099511627776):mk (n:Int) (n:Int)=some n:=by
 simp only[mk]
 rw[if_pos (by omega)]
 simp
theorem room_le {n:Nat} (h:n≤1099511627776):room n=some ():=by simp[room,h]
theorem drop_cons {α:Type} {xs:List α} {k:Nat} (h:k<xs.length):xs.drop k=xs[k]::xs.drop (k+1):=List.drop_eq_getElem_cons h
theorem drop_beq {xs ys:List Int} {k:Nat} (h1:k<xs.length) (h2:k<ys.length):(xs.drop k==ys.drop k)=(xs[k]==ys[k]&&xs.drop (k+1)==ys.drop (k+1)):=by
 rw[drop_cons h1,drop_cons h2]
 rfl
def climb (h:List Int):Nat→Nat→Option (Nat×Nat)
 |0,_=>none
 |f+1,w=>match h[w-1]? with
  |none=>none
  |some x=>if x=0 then some (w,0) else(climb h f x.toNat).map fun p=>(p.1,p.2+1)
def okHead (n:Nat) (x:Int):Bool:=decide (0≤x)&&decide (x≤n)
def inRange (h:List Int):Bool:=h.all (okHead h.length)
def treeB (h:List Int):Bool:=
 decide (1≤h.length)&&decide (h.length≤8)&&inRange h&&(h.count 0==1)&&(List.range h.length).all fun k=>(climb h h.length (k+1)).isSome
theorem all_drop_cons {h:List Int} {p:Int→Bool} {k:Nat} (hk:k<h.length):(h.drop k).all p=(p h[k]&&(h.drop (k+1)).all p):=by
 rw[drop_cons hk];rfl
theorem count_drop_cons {h:List Int} {k:Nat} (hk:k<h.length):(h.drop k).count 0=(if h[k]=0 then 1 else 0)+(h.drop (k+1)).count 0:=by
 rw[drop_cons hk,List.count_cons]
 by_cases e:h[k]=0<;>simp[e]<;>omega
theorem oneRoot_eq (h:List Int) (hl:h.length≤1048576):N5w h=some (inRange h&&(h.count 0==1)):=by
 have hloop:=nloop_run (body:=fun(s:Int×Int)=>((N4k h s.1 h.length s.2).map (Sum.elim (fun(t:Int×Int)=>Sum.inl (t.1,t.2)) (Sum.elim (fun(t:Bool)=>Sum.inr (Sum.inl t)) (fun(t:Int)=>Sum.inr (Sum.inr t)))):Option ((Int×Int)⊕(Bool⊕Int))))
  (I:=fun s=> ∃k r:Nat,s=((r:Int),(k:Int))∧k≤h.length∧r≤k) (μ:=fun s=>h.length-s.2.toNat)
  (f:=fun s=>cond ((h.drop s.2.toNat).all (okHead h.length)) (.inr (s.1+((h.drop s.2.toNat).count 0:Nat))) (.inl false))
  (by
   rintro _ ⟨k,r,rfl,hk,hr⟩
   by_cases hlt:k<h.length
   ·simp only[N4k]
    rw[show decide ((k:Int)<((h.length:Nat):Int))=true from decide_eq_true (by omega)]
    simp only[cond_true,idx_lt hlt,Option.bind_some,Int.toNat_natCast]
    rw[wrap64 (x:=(k:Int)+1) (by omega) (by omega),wrap64 (x:=(r:Int)+1) (by omega) (by omega),all_drop_cons hlt,count_drop_cons hlt]
    by_cases h1:h[k]<0
    ·right
     have:okHead h.length h[k]=false:=by simp[okHead];omega
     simp[h1,this]
    ·by_cases h2:h[k]>(h.length:Int)
     ·right
      have:okHead h.length h[k]=false:=by simp[okHead];omega
      simp[h1,h2,this]
     ·left
      have hok:okHead h.length h[k]=true:=by simp[okHead];omega
      by_cases h3:h[k]=0
      ·refine⟨(((r+1:Nat):Int),((k+1:Nat):Int)),?_,⟨k+1,r+1,rfl,hlt,by omega⟩,by simp;omega,?_⟩
       ·have h4:decide ((h.length:Int)<0)=false:=decide_eq_false (by omega)
        simp[h3,h4]
       ·have e:((k+1:Nat):Int).toNat=k+1:=by simp
        rw[e,hok]
        simp only[h3,if_true,Bool.true_and]
        congr 2
        push_cast
        omega
      ·refine⟨((r:Int),((k+1:Nat):Int)),?_,⟨k+1,r,rfl,hlt,by omega⟩,by simp;omega,?_⟩
       ·have e1:(h[k]==0)=false:=by simpa using h3
        have e2:decide (h[k]<0)=false:=decide_eq_false h1
        have e3:decide (h[k]>(h.length:Int))=false:=decide_eq_false h2
        simp[e1,e2,e3]
       ·have e:((k+1:Nat):Int).toNat=k+1:=by simp
        rw[e,hok]
        simp[h3]
   ·right
    have e:k=h.length:=by omega
    subst e
    simp only[N4k]
    rw[show decide (((h.length:Nat):Int)<((h.length:Nat):Int))=false from decide_eq_false (by omega)]
    simp)
 unfold N5w Nmi Nba Non Nl1 N9t Npd Nma
 simp only[Option.bind_some]
 rw[hloop LL (0,0) ⟨0,0,rfl,by omega,by omega⟩ (by simp only[LL];simp;omega)]
 simp only[Int.toNat_zero,List.drop_zero]
 unfold inRange
 cases ha:h.all (okHead h.length) with
 |false=>simp
 |true=>
  simp only[cond_true,Option.map_some,Sum.elim_inr,Option.bind_some,Sum.elim_inl,N8r,Bool.true_and]
  congr 1
  by_cases e:h.count 0=1
  ·simp[e]
  ·have e1:((0:Int)+((h.count 0:Nat):Int)==1)=false:=by rw[beq_eq_false_iff_ne];omega
   have e2:(h.count 0==1)=false:=by rw[beq_eq_false_iff_ne];exact e
   rw[e2];exact e1
theorem inRange_get {h:List Int} (hr:inRange h=true) {k:Nat} (hk:k<h.length):0≤h[k]∧h[k]≤h.length:=by
 have:=List.all_eq_true.1 hr h[k] (List.getElem_mem hk)
 simpa[okHead] using this
theorem up_eq (h:List Int) (k:Nat) (s:Nat) (hk:k<h.length) (hl:h.length≤1048576) (hs:s≤h.length):
  N3r h ((k+1:Nat):Int) (s:Int)=some (if h[k]=0 then(false,((k+1:Nat):Int),(s:Int)) else(true,h[k],((s+1:Nat):Int))):=by
 unfold N3r Nay
 rw[wrap64 (by omega) (by omega),show((k+1:Nat):Int)-1=(k:Int) by omega,idx_lt hk]
 simp only[Option.bind_some]
 rw[wrap64 (by omega) (by omega)]
 by_cases e:h[k]=0
 ·simp[e]
 ·have e1:(h[k]==0)=false:=by simpa using e
  simp[e,e1]
theorem steps_eq (h:List Int) (hl:h.length≤1048576) (hr:inRange h=true) (k:Nat) (hk:k<h.length):
  N59 h ((k+1:Nat):Int)=some (match climb h h.length (k+1) with|some p=>((p.2:Int),true)|none=>(0,false)):=by
 have hloop:=nloop_run (body:=fun(s:Int×Int)=>((N6e h s.1 s.2).map (Sum.elim (fun(t:Int×Int)=>Sum.inl (t.1,t.2)) (Sum.elim (fun(t:Int×Bool)=>Sum.inr (Sum.inl t)) (fun(t:Int×Int)=>Sum.inr (Sum.inr t)))):Option ((Int×Int)⊕((Int×Bool)⊕(Int×Int)))))
  (I:=fun s=> ∃k i:Nat,s=(((k+1:Nat):Int),(i:Int))∧k<h.length∧i<h.length) (μ:=fun s=>h.length-s.2.toNat)
  (f:=fun s=>match climb h (h.length-s.2.toNat) s.1.toNat with|some p=> .inr ((p.1:Int),s.2+(p.2:Int))|none=> .inl (0,false))
  (by
   rintro _ ⟨k,i,rfl,hk,hi⟩
   simp only[N6e]
   rw[up_eq h k i hk hl (by omega)]
   obtain⟨hr1,hr2⟩:=inRange_get hr hk
   have hf:h.length-i=(h.length-i-1)+1:=by omega
   have hg:h[k+1-1]? =some h[k]:=by simp[hk]
   have hcl:climb h (h.length-i) (k+1)=if h[k]=0 then some (k+1,0) else(climb h (h.length-i-1) h[k].toNat).map fun p=>(p.1,p.2+1):=by
    rw[hf];simp only[climb,hg];simp
   simp only[Option.bind_some,Int.toNat_natCast]
   rw[hcl]
   by_cases e:h[k]=0
   ·right
    simp[e]
   ·simp only[e,if_false,cond_true]
    by_cases hlast:i+1≥h.length
    ·right
     have h0:h.length-i-1=0:=by omega
     have hd:decide (((i+1:Nat):Int)≥((h.length:Nat):Int))=true:=decide_eq_true (by omega)
     simp only[hd,h0,climb]
     simp
    ·left
     have hd:decide (((i+1:Nat):Int)≥((h.length:Nat):Int))=false:=decide_eq_false (by omega)
     refine⟨(h[k],((i+1:Nat):Int)),by simp only[hd];simp,⟨h[k].toNat-1,i+1,by
      have:((h[k].toNat-1+1:Nat):Int)=h[k]:=by omega
      rw[this],by omega,by omega⟩,by simp;omega,?_⟩
     have e2:h.length-((i+1:Nat):Int).toNat=h.length-i-1:=by simp;omega
     simp only[e2]
     cases climb h (h.length-i-1) h[k].toNat with
     |none=>rfl
     |some p=>simp;omega)
 unfold N59 Nla Nbe Nlb Np0 Nny
 simp only[Option.bind_some]
 rw[hloop LL (((k+1:Nat):Int),0) ⟨k,0,rfl,hk,by omega⟩ (by simp only[LL];simp;omega)]
 simp only[Int.toNat_natCast,Int.toNat_zero,Nat.sub_zero]
 cases climb h h.length (k+1) with
 |none=>simp
 |some p=>simp[Nch]
theorem implTree_eq (h:List Int):Nb h=some (treeB h):=by
 unfold Nb Nlm Na4 Nm6 Nnw N7y Nnt Nmt
 unfold treeB
 by_cases h1:h.length<1
 ·have e:decide (1≤h.length)=false:=decide_eq_false (by omega)
  have e2:decide ((((h.length:Nat):Int))<1)=true:=decide_eq_true (by omega)
  simp[e,e2]
 ·have e1:decide ((((h.length:Nat):Int))<1)=false:=decide_eq_false (by omega)
  have e1':decide (1≤h.length)=true:=decide_eq_true (by omega)
  by_cases h2:h.length>8
  ·have e:decide (h.length≤8)=false:=decide_eq_false (by omega)
   have e2:decide ((((h.length:Nat):Int))>8)=true:=decide_eq_true (by omega)
   simp only[e1,e2,e]
   simp
  ·have e2:decide ((((h.length:Nat):Int))>8)=false:=decide_eq_false (by omega)
   have e2':decide (h.length≤8)=true:=decide_eq_true (by omega)
   simp only[e1,e2,e1',e2',cond_false,oneRoot_eq h (by omega),Option.bind_some,Bool.true_and]
   cases hr:inRange h with
   |false=>simp
   |true=>
    cases hc:(h.count 0==1) with
    |false=>simp
    |true=>
     simp only[Bool.true_and,Bool.not_true,cond_false,Option.bind_some,Sum.elim_inl]
     have hloop:=nloop_run (body:=fun(s:Int)=>((N55 h h.length s).map (Sum.elim (fun(t:Int)=>Sum.inl t) (Sum.elim (fun(t:Bool)=>Sum.inr (Sum.inl t)) (fun(t:Unit)=>Sum.inr (Sum.inr t)))):Option ((Int)⊕(Bool⊕Unit))))
      (I:=fun s=> ∃k:Nat,s=(k:Int)∧k≤h.length) (μ:=fun s=>h.length-s.toNat)
      (f:=fun s=>cond (((List.range h.length).drop s.toNat).all fun k=>(climb h h.length (k+1)).isSome) (.inr ()) (.inl false))
      (by
       rintro _ ⟨k,rfl,hk⟩
       by_cases hlt:k<h.length
       ·simp only[N55]
        rw[show decide ((k:Int)<((h.length:Nat):Int))=true from decide_eq_true (by omega)]
        rw[wrap64 (x:=(k:Int)+1) (by omega) (by omega),show(k:Int)+1=((k+1:Nat):Int) by omega,steps_eq h (by omega) hr k hlt]
        simp only[cond_true,Option.bind_some,Int.toNat_natCast]
        have hd:(List.range h.length).drop k=k::(List.range h.length).drop (k+1):=by
         rw[List.drop_eq_getElem_cons (by simpa using hlt)]
         simp
        rw[hd]
        simp only[List.all_cons]
        cases hcl:climb h h.length (k+1) with
        |none=>right;simp
        |some p=>
         left
         refine⟨((k+1:Nat):Int),by simp,⟨k+1,rfl,hlt⟩,by simp;omega,by simp⟩
       ·right
        have e:k=h.length:=by omega
        subst e
        simp only[N55]
        rw[show decide (((h.length:Nat):Int)<((h.length:Nat):Int))=false from decide_eq_false (by omega)]
        simp[List.drop_of_length_le (show(List.range h.length).length≤h.length by simp)])
     rw[hloop LL 0 ⟨0,rfl,by omega⟩ (by simp only[LL];simp;omega)]
     simp only[Int.toNat_zero,List.drop_zero]
     cases ((List.range h.length).all fun k=>(climb h h.length (k+1)).isSome)<;>rfl
theorem l1In_eq (a b c:Int):N9 a b c=some (decide (b≤a)&&decide (a≤c)):=by
 unfold N9 N7q
 by_cases h:a≥b
 ·have e:decide (a≥b)=true:=decide_eq_true h
  rw[e];rfl
 ·have e:decide (a≥b)=false:=decide_eq_false h
  rw[e];rfl
def goUp (h:List Int):Nat→Int→Bool⊕Int
 |0,a=> .inr a
 |f+1,a=>if 0<a then(match h[a.toNat-1]? with
   |some x=>if okHead h.length x then goUp h f x else .inl false
   |none=> .inl false) else .inr a
theorem inner_eq (h:List Int) (hl:h.length≤8) (a:Int) (ha0:0≤a) (ha:a≤h.length):Nii h h.length a=some (goUp h h.length a):=by
 unfold Nii
 have hloop:=nloop_run (body:=fun(s:Int×Int)=>((N7e h h.length s.1 s.2).map (Sum.elim (fun(t:Int×Int)=>Sum.inl (t.1,t.2)) (Sum.elim (fun(t:Bool)=>Sum.inr (Sum.inl t)) (fun(t:Int)=>Sum.inr (Sum.inr t)))):Option ((Int×Int)⊕(Bool⊕Int))))
  (I:=fun s=> ∃k i:Nat,s=((k:Int),(i:Int))∧k≤h.length∧i≤h.length) (μ:=fun s=>h.length-s.2.toNat)
  (f:=fun s=>goUp h (h.length-s.2.toNat) s.1)
  (by
   rintro _ ⟨k,i,rfl,hk,hi⟩
   simp only[N7e,Int.toNat_natCast]
   by_cases h1:0<k
   ·have e1:decide ((k:Int)>0)=true:=decide_eq_true (by omega)
    by_cases h2:i<h.length
    ·have e2:decide ((i:Int)<((h.length:Nat):Int))=true:=decide_eq_true (by omega)
     have hk':k-1<h.length:=by omega
     rw[e1,e2,wrap64 (x:=(k:Int)-1) (by omega) (by omega),show(k:Int)-1=((k-1:Nat):Int) by omega,idx_lt hk',wrap64 (x:=(i:Int)+1) (by omega) (by omega)]
     simp only[cond_true,Option.bind_some,l1In_eq]
     have hf:h.length-i=(h.length-i-1)+1:=by omega
     have hg:goUp h (h.length-i) (k:Int)=if okHead h.length h[k-1] then goUp h (h.length-i-1) h[k-1] else .inl false:=by
      rw[hf]
      simp only[goUp]
      rw[if_pos (by omega)]
      simp[hk']
     rw[hg]
     by_cases h3:okHead h.length h[k-1]=true
     ·left
      have h3':=h3
      simp only[okHead,Bool.and_eq_true,decide_eq_true_eq] at h3'
      refine⟨(h[k-1],((i+1:Nat):Int)),?_,⟨h[k-1].toNat,i+1,by
       have:((h[k-1].toNat:Nat):Int)=h[k-1]:=by omega
       rw[this],by omega,by omega⟩,by simp;omega,?_⟩
      ·have e4:(decide ((0:Int)≤h[k-1])&&decide (h[k-1]≤((h.length:Nat):Int)))=true:=h3
       rw[e4];simp
      ·have e5:h.length-((i+1:Nat):Int).toNat=h.length-i-1:=by simp;omega
       simp only[e5,h3,if_true]
     ·right
      have h3':okHead h.length h[k-1]=false:=by simpa using h3
      have e4:(decide ((0:Int)≤h[k-1])&&decide (h[k-1]≤((h.length:Nat):Int)))=false:=h3'
      rw[e4]
      simp[h3']
    ·right
     have e2:decide ((i:Int)<((h.length:Nat):Int))=false:=decide_eq_false (by omega)
     have h0:h.length-i=0:=by omega
     rw[e1,e2,h0]
     simp[goUp]
   ·right
    have hk0:k=0:=by omega
    subst hk0
    have e1:decide (((0:Nat):Int)>0)=false:=by simp
    rw[e1]
    cases h.length-i<;>simp[goUp])
 exact hloop LL (a,0) ⟨a.toNat,0,by
  have:((a.toNat:Nat):Int)=a:=by omega
  rw[this];rfl,by omega,by omega⟩ (by simp only[LL];simp;omega)
theorem goUp_climb {h:List Int} (hr:inRange h=true): ∀(f k:Nat),k<h.length→goUp h f ((k+1:Nat):Int)=(if(climb h f (k+1)).isSome then .inr 0 else goUp h f ((k+1:Nat):Int))∧
  ((climb h f (k+1)).isSome=false→ ∃a:Int,0<a∧goUp h f ((k+1:Nat):Int)= .inr a)
 |0,k,hk=>by
  refine⟨by simp[climb],fun _=>⟨((k+1:Nat):Int),by omega,rfl⟩⟩
 |f+1,k,hk=>by
  obtain⟨h1,h2⟩:=inRange_get hr hk
  have hok:okHead h.length h[k]=true:=by simp[okHead];omega
  have hg:goUp h (f+1) ((k+1:Nat):Int)=goUp h f h[k]:=by
   simp only[goUp]
   rw[if_pos (by omega)]
   simp[hk,hok]
  have hc:climb h (f+1) (k+1)=if h[k]=0 then some (k+1,0) else(climb h f h[k].toNat).map fun p=>(p.1,p.2+1):=by
   simp[climb,hk]
  rw[hg,hc]
  by_cases e:h[k]=0
  ·have:goUp h f 0= .inr 0:=by cases f<;>simp[goUp]
   simp[e,this]
  ·obtain⟨j,hj⟩: ∃j:Nat,h[k]=((j+1:Nat):Int):=⟨h[k].toNat-1,by omega⟩
   have ih:=goUp_climb hr f j (by omega)
   rw[hj]
   have ne: ¬((j+1:Nat):Int)=0:=by omega
   simp only[ne,if_false,Int.toNat_natCast,Option.isSome_map]
   exact ih
def wordOk1 (h:List Int) (k:Nat):Bool:=match h[k]? with
 |some x=>okHead h.length x&& !(x==((k+1:Nat):Int))&&(match goUp h h.length ((k+1:Nat):Int) with| .inr a=> !decide (a>0)| .inl _=>false)
 |none=>false
theorem specTree_eq0 (h:List Int):N7 h=some (decide (1≤h.length)&&decide (h.length≤8)&&(List.range h.length).all (wordOk1 h)&&(h.count 0==1)):=by
 unfold N7 Noc Nan
 rw[l1In_eq]
 by_cases h1:(decide ((1:Int)≤((h.length:Nat):Int))&&decide (((h.length:Nat):Int)≤8))=true
 ·have h1':=h1
  simp only[Bool.and_eq_true,decide_eq_true_eq] at h1'
  have e1:decide (1≤h.length)=true:=decide_eq_true (by omega)
  have e2:decide (h.length≤8)=true:=decide_eq_true (by omega)
  simp only[h1,e1,e2,Option.bind_some,Bool.not_true,cond_false,Sum.elim_inl,Bool.true_and]
  unfold Nm7 Nkl N9z Njy Nn1
  have hloop:=nloop_run (body:=fun(s:Int×Int)=>((Nb9 h h.length s.1 s.2).map (Sum.elim (fun(t:Int×Int)=>Sum.inl (t.1,t.2)) (Sum.elim (fun(t:Bool)=>Sum.inr (Sum.inl t)) (fun(t:Int)=>Sum.inr (Sum.inr t)))):Option ((Int×Int)⊕(Bool⊕Int))))
   (I:=fun s=> ∃k r:Nat,s=((r:Int),(k:Int))∧k≤h.length∧r≤k) (μ:=fun s=>h.length-s.2.toNat)
   (f:=fun s=>cond (((List.range h.length).drop s.2.toNat).all (wordOk1 h)) (.inr (s.1+((h.drop s.2.toNat).count 0:Nat))) (.inl false))
   (by
    rintro _ ⟨k,r,rfl,hk,hr⟩
    by_cases hlt:k<h.length
    ·have hd:(List.range h.length).drop k=k::(List.range h.length).drop (k+1):=by
      rw[List.drop_eq_getElem_cons (by simpa using hlt)]
      simp
     simp only[Nb9,N7j,Int.toNat_natCast]
     rw[show decide ((k:Int)<((h.length:Nat):Int))=true from decide_eq_true (by omega)]
     simp only[cond_true,Option.bind_some,Sum.elim_inl]
     unfold Nkq Np1 Nk2 N8n Nad Nnj Nop Nbo Nmx N81
     have hw:IntKind.wrap .i64 ((k:Int)+1)=((k+1:Nat):Int):=by rw[wrap64 (by omega) (by omega)];omega
     have hw2:IntKind.wrap .i64 ((r:Int)+1)=((r+1:Nat):Int):=by rw[wrap64 (by omega) (by omega)];omega
     simp only[idx_lt hlt,Option.bind_some,l1In_eq,hw,hw2]
     rw[hd,List.all_cons,count_drop_cons hlt]
     have hwk:wordOk1 h k=(okHead h.length h[k]&& !(h[k]==((k+1:Nat):Int))&&(match goUp h h.length ((k+1:Nat):Int) with| .inr a=> !decide (a>0)| .inl _=>false)):=by
      simp[wordOk1,hlt]
     have hin:=inner_eq h (by omega) ((k+1:Nat):Int) (by omega) (by omega)
     rw[hwk]
     cases h3:okHead h.length h[k] with
     |false=>
      right
      have e4:(decide ((0:Int)≤h[k])&&decide (h[k]≤((h.length:Nat):Int)))=false:=h3
      rw[e4];simp
     |true=>
      have e4:(decide ((0:Int)≤h[k])&&decide (h[k]≤((h.length:Nat):Int)))=true:=h3
      rw[e4]
      simp only[Bool.not_true,cond_false,Bool.true_and]
      cases h5:(h[k]==((k+1:Nat):Int)) with
      |true=>right;simp
      |false=>
       simp only[cond_false,Bool.not_false,Bool.true_and]
       by_cases h6:h[k]=0
       ·simp only[h6,beq_self_eq_true,cond_true,Option.bind_some,Sum.elim_inl,Option.map_some,hin,if_true]
        cases h7:goUp h h.length ((k+1:Nat):Int) with
        |inl b=>
         right
         have:b=false:=by
          have key: ∀f a b,goUp h f a= .inl b→b=false:=by
           intro f
           induction f with
           |zero=>intro a b hh;simp[goUp] at hh
           |succ f ih=>
            intro a b hh
            simp only[goUp] at hh
            split at hh
            ·split at hh
             ·split at hh
              ·exact ih _ _ hh
              ·simpa using hh.symm
             ·simpa using hh.symm
            ·cases hh
          exact key _ _ _ h7
         subst this
         simp
        |inr a=>
         by_cases h8:a>0
         ·right
          simp[h8]
         ·left
          refine⟨(((r+1:Nat):Int),((k+1:Nat):Int)),by simp[h8],⟨k+1,r+1,rfl,hlt,by omega⟩,by simp;omega,?_⟩
          have e:((k+1:Nat):Int).toNat=k+1:=by simp
          simp only[e,h8,decide_false,Bool.not_false,Bool.true_and]
          congr 2
          push_cast
          omega
       ·have e9:(h[k]==0)=false:=by simpa using h6
        simp only[e9,cond_false,Option.bind_some,Sum.elim_inl,Option.map_some,hin,h6,if_false]
        cases h7:goUp h h.length ((k+1:Nat):Int) with
        |inl b=>
         right
         have:b=false:=by
          have key: ∀f a b,goUp h f a= .inl b→b=false:=by
           intro f
           induction f with
           |zero=>intro a b hh;simp[goUp] at hh
           |succ f ih=>
            intro a b hh
            simp only[goUp] at hh
            split at hh
            ·split at hh
             ·split at hh
              ·exact ih _ _ hh
              ·simpa using hh.symm
             ·simpa using hh.symm
            ·cases hh
          exact key _ _ _ h7
         subst this
         simp
        |inr a=>
         by_cases h8:a>0
         ·right
          simp[h8]
         ·left
          refine⟨((r:Int),((k+1:Nat):Int)),by simp[h8],⟨k+1,r,rfl,hlt,by omega⟩,by simp;omega,?_⟩
          have e:((k+1:Nat):Int).toNat=k+1:=by simp
          simp only[e,h8,decide_false,Bool.not_false,Bool.true_and]
          congr 2
          omega
    ·right
     have e:k=h.length:=by omega
     subst e
     simp only[Nb9,N7j]
     rw[show decide (((h.length:Nat):Int)<((h.length:Nat):Int))=false from decide_eq_false (by omega)]
     simp[List.drop_of_length_le (show(List.range h.length).length≤h.length by simp)])
  simp only[Option.bind_some]
  rw[hloop LL (0,0) ⟨0,0,rfl,by omega,by omega⟩ (by simp only[LL];simp;omega)]
  simp only[Int.toNat_zero,List.drop_zero,Option.bind_some]
  cases (List.range h.length).all (wordOk1 h) with
  |false=>simp
  |true=>
   simp only[cond_true,Option.map_some,Sum.elim_inr,Option.bind_some,Sum.elim_inl,Nbu,Bool.true_and]
   congr 1
   by_cases e:h.count 0=1
   ·simp[e]
   ·have e1:((0:Int)+((h.count 0:Nat):Int)==1)=false:=by rw[beq_eq_false_iff_ne];omega
    have e2:(h.count 0==1)=false:=by rw[beq_eq_false_iff_ne];exact e
    rw[e2];exact e1
 ·have h1':(decide ((1:Int)≤((h.length:Nat):Int))&&decide (((h.length:Nat):Int)≤8))=false:=by simpa using h1
  have e:(decide (1≤h.length)&&decide (h.length≤8))=false:=by
   simp only[Bool.and_eq_true,decide_eq_true_eq] at h1
   simp only[Bool.and_eq_false_iff,decide_eq_false_iff_not]
   omega
  rw[h1']
  simp[e]
theorem specTree_eq (h:List Int):N7 h=some (treeB h):=by
 rw[specTree_eq0]
 congr 1
 unfold treeB
 have key:(List.range h.length).all (wordOk1 h)=(inRange h&&(List.range h.length).all fun k=>(climb h h.length (k+1)).isSome):=by
  cases hr:inRange h with
  |false=>
   rw[Bool.false_and,List.all_eq_false]
   have: ¬ ∀x∈h,okHead h.length x=true:=fun hh=>by
    have:inRange h=true:=List.all_eq_true.2 hh
    rw[hr] at this;cases this
   have⟨x,hx⟩:=Classical.not_forall.1 this
   have⟨hm,hb⟩:=Classical.not_imp.1 hx
   obtain⟨k,hk,rfl⟩:=List.getElem_of_mem hm
   refine⟨k,by simpa using hk,?_⟩
   simp[wordOk1,hk,hb]
  |true=>
   rw[Bool.true_and,Bool.eq_iff_iff,List.all_eq_true,List.all_eq_true]
   constructor
   ·intro hh k hk
    have hk':k<h.length:=by simpa using hk
    have h1:=hh k hk
    cases hc:(climb h h.length (k+1)).isSome with
    |true=>rfl
    |false=>
     obtain⟨a,ha,hg⟩:=(goUp_climb hr h.length k hk').2 hc
     have hg':goUp h h.length ((k:Int)+1)= .inr a:=hg
     simp[wordOk1,hk',hg',ha] at h1
   ·intro hh k hk
    have hk':k<h.length:=by simpa using hk
    have h1:=hh k hk
    have h2:=(goUp_climb hr h.length k hk').1
    rw[if_pos h1] at h2
    obtain⟨h3,h4⟩:=inRange_get hr hk'
    have hok:okHead h.length h[k]=true:=by simp[okHead];omega
    have hself: ¬h[k]=((k+1:Nat):Int):=fun e=>by
     have none: ∀f,climb h f (k+1)=none:=by
      intro f
      induction f with
      |zero=>rfl
      |succ f ih=>
       simp only[climb]
       have:h[k+1-1]? =some h[k]:=by simp[hk']
       rw[this]
       simp only
       rw[if_neg (by omega),e]
       simp[ih]
     rw[none] at h1
     cases h1
    have h2':goUp h h.length ((k:Int)+1)= .inr 0:=h2
    have hself': ¬h[k]=(k:Int)+1:=hself
    simp[wordOk1,hk',hok,h2',hself']
 rw[key]
 cases inRange h<;>simp[Bool.and_comm,Bool.and_assoc,Bool.and_left_comm]
theorem climb_mono {h:List Int}: ∀{f w:Nat} {p:Nat×Nat},climb h f w=some p→climb h (f+1) w=some p
 |0,w,p,e=>by simp[climb] at e
 |f+1,w,p,e=>by
  simp only[climb] at e
  rw[climb]
  split at e
  ·cases e
  ·rename_i x hx
   split at e
   ·rename_i h0
    simp only[h0,if_true];exact e
   ·rename_i h0
    simp only[h0,if_false]
    obtain⟨q,hq,rfl⟩:=Option.map_eq_some_iff.1 e
    rw[climb_mono hq];rfl
theorem climb_le {h:List Int} {f g w:Nat} {p:Nat×Nat} (hfg:f≤g) (e:climb h f w=some p):climb h g w=some p:=by
 induction hfg with
 |refl=>exact e
 |step _ ih=>exact climb_mono ih
theorem climb_lt {h:List Int}: ∀{f w:Nat} {p:Nat×Nat},climb h f w=some p→p.2<f
 |0,w,p,e=>by simp[climb] at e
 |f+1,w,p,e=>by
  simp only[climb] at e
  split at e
  ·cases e
  ·split at e
   ·cases e;simp
   ·obtain⟨q,hq,rfl⟩:=Option.map_eq_some_iff.1 e
    have:=climb_lt hq
    simp;omega
theorem climb_root {h:List Int}: ∀{f w:Nat} {p:Nat×Nat},climb h f w=some p→h[p.1-1]? =some 0
 |0,w,p,e=>by simp[climb] at e
 |f+1,w,p,e=>by
  simp only[climb] at e
  split at e
  ·cases e
  ·rename_i x hx
   split at e
   ·rename_i h0
    cases e
    rw[hx,h0]
   ·obtain⟨q,hq,rfl⟩:=Option.map_eq_some_iff.1 e
    show h[q.1-1]? =some 0
    exact climb_root hq
theorem climb_pos {h:List Int} (hr:inRange h=true): ∀{f w:Nat} {p:Nat×Nat},1≤w→climb h f w=some p→1≤p.1
 |0,w,p,_,e=>by simp[climb] at e
 |f+1,w,p,hw,e=>by
  simp only[climb] at e
  split at e
  ·cases e
  ·rename_i x hx
   split at e
   ·cases e;exact hw
   ·rename_i h0
    obtain⟨q,hq,rfl⟩:=Option.map_eq_some_iff.1 e
    obtain⟨hlt,hx'⟩:=List.getElem?_eq_some_iff.1 hx
    have:=inRange_get hr hlt
    show 1≤q.1
    exact climb_pos hr (by rw[hx'] at this;omega) hq
structure Tree (h:List Int):Prop where
 pos:1≤h.length
 le:h.length≤8
 rng:inRange h=true
 one:h.count 0=1
 way: ∀k,k<h.length→(climb h h.length (k+1)).isSome=true
theorem tree_iff (h:List Int):treeB h=true↔Tree h:=by
 unfold treeB
 simp only[Bool.and_eq_true,decide_eq_true_eq,beq_iff_eq,List.all_eq_true]
 constructor
 ·rintro⟨⟨⟨⟨h1,h2⟩,h3⟩,h4⟩,h5⟩
  exact⟨h1,h2,h3,h4,fun k hk=>h5 k (by simpa using hk)⟩
 ·rintro⟨h1,h2,h3,h4,h5⟩
  exact⟨⟨⟨⟨h1,h2⟩,h3⟩,h4⟩,fun k hk=>h5 k (by simpa using hk)⟩
def hd (h:List Int) (w:Nat):Nat:=(h.getD (w-1) 0).toNat
def dep (h:List Int) (w:Nat):Nat:=((climb h h.length w).getD (0,0)).2
def top (h:List Int):Nat:=h.idxOf 0+1
theorem top_pos (h:List Int):1≤top h:=by simp[top]
section
variable {h : List Int} (T : Tree h)
include T
theorem Tree.get {w:Nat} (h1:1≤w) (h2:w≤h.length):h[w-1]? =some ((hd h w:Nat):Int):=by
 have hk:w-1<h.length:=by omega
 have:=inRange_get T.rng hk
 rw[List.getElem?_eq_getElem hk,hd,List.getD_eq_getElem?_getD,List.getElem?_eq_getElem hk]
 simp only[Option.getD_some,Option.some.injEq]
 omega
theorem Tree.hd_le {w:Nat} (h1:1≤w) (h2:w≤h.length):hd h w≤h.length:=by
 have hk:w-1<h.length:=by omega
 have:=inRange_get T.rng hk
 rw[hd,List.getD_eq_getElem?_getD,List.getElem?_eq_getElem hk]
 simp only[Option.getD_some]
 omega
theorem Tree.top_lt:h.idxOf 0<h.length:=by
 rw[List.idxOf_lt_length_iff]
 exact List.count_pos_iff.1 (by rw[T.one];omega)
theorem Tree.top_le:top h≤h.length:=T.top_lt
theorem Tree.root_unique {i:Nat} (hi:h[i]? =some 0):i=h.idxOf 0:=by
 have hlt:=T.top_lt
 have h0:h[h.idxOf 0]? =some 0:=by rw[List.getElem?_eq_getElem hlt];simp
 have two: ∀(l:List Int) (i j:Nat),i<j→l[i]? =some 0→l[j]? =some 0→2≤l.count 0:=by
  intro l
  induction l with
  |nil=>intro i j _ h1;simp at h1
  |cons a r ih=>
   intro i j hij h1 h2
   cases j with
   |zero=>omega
   |succ j=>
    rw[List.count_cons]
    cases i with
    |zero=>
     simp at h1 h2
     have:0<r.count 0:=List.count_pos_iff.2 (List.mem_of_getElem? h2)
     rw[h1]
     simp only[beq_self_eq_true,if_true]
     omega
    |succ i=>
     simp at h1 h2
     have:=ih i j (by omega) h1 h2
     omega
 rcases Nat.lt_trichotomy i (h.idxOf 0) with hl|he|hg
 ·have:=two h i _ hl hi h0;have:=T.one;omega
 ·exact he
 ·have:=two h _ i hg h0 hi;have:=T.one;omega
theorem Tree.hd_zero {w:Nat} (h1:1≤w) (h2:w≤h.length):hd h w=0↔w=top h:=by
 have hg:=T.get h1 h2
 constructor
 ·intro e
  rw[e] at hg
  have:=T.root_unique hg
  unfold top;omega
 ·intro e
  have hlt:=T.top_lt
  have h0:h[h.idxOf 0]? =some 0:=by rw[List.getElem?_eq_getElem hlt];simp
  have:w-1=h.idxOf 0:=by unfold top at e;omega
  rw[this,h0] at hg
  simp at hg
  omega
theorem Tree.climb_some {w:Nat} (h1:1≤w) (h2:w≤h.length):climb h h.length w=some (top h,dep h w):=by
 have hs:=T.way (w-1) (by omega)
 rw[show w-1+1=w by omega] at hs
 obtain⟨p,hp⟩:=Option.isSome_iff_exists.1 hs
 have hr:=climb_root hp
 have h3:=T.root_unique hr
 have h4:=climb_pos T.rng h1 hp
 have e1:p.1=top h:=by unfold top;omega
 have e2:dep h w=p.2:=by simp[dep,hp]
 rw[hp,e2,←e1]
theorem Tree.dep_lt {w:Nat} (h1:1≤w) (h2:w≤h.length):dep h w<h.length:=by
 have:=climb_lt (T.climb_some h1 h2)
 exact this
theorem Tree.dep_top:dep h (top h)=0:=by
 have h1:=T.climb_some (top_pos h) T.top_le
 have hg:=T.get (top_pos h) T.top_le
 rw[(T.hd_zero (top_pos h) T.top_le).2 rfl] at hg
 obtain⟨n,hn⟩: ∃n,h.length=n+1:=⟨h.length-1,by have:=T.pos;omega⟩
 rw[hn] at h1
 simp only[climb,hg] at h1
 simp at h1
 exact h1.symm
theorem Tree.dep_step {w:Nat} (h1:1≤w) (h2:w≤h.length) (h3:hd h w≠0):dep h w=dep h (hd h w)+1:=by
 have hc:=T.climb_some h1 h2
 have hg:=T.get h1 h2
 have hc2:=T.climb_some (w:=hd h w) (by omega) (T.hd_le h1 h2)
 obtain⟨n,hn⟩: ∃n,h.length=n+1:=⟨h.length-1,by have:=T.pos;omega⟩
 rw[hn] at hc
 simp only[climb,hg] at hc
 rw[if_neg (by omega)] at hc
 simp only[Int.toNat_natCast] at hc
 obtain⟨q,hq,e⟩:=Option.map_eq_some_iff.1 hc
 have hq2:=climb_le (show n≤h.length by omega) hq
 rw[hc2] at hq2
 cases hq2
 simp at e
 exact e.symm
theorem Tree.dep_zero {w:Nat} (h1:1≤w) (h2:w≤h.length):dep h w=0↔w=top h:=by
 constructor
 ·intro e
  by_cases h3:hd h w=0
  ·exact(T.hd_zero h1 h2).1 h3
  ·have:=T.dep_step h1 h2 h3;omega
 ·intro e;rw[e];exact T.dep_top
end
theorem set_take {l:List Int} {k:Nat} {v:Int} (hk:k<l.length):(l.set k v).take (k+1)=l.take k++ [v]:=by
 rw[List.take_set,List.take_add_one,List.getElem?_eq_getElem hk]
 have hl:(l.take k).length=k:=by simp;omega
 rw[List.set_append_right _ _ (by omega),hl]
 simp
theorem nloop_to {σ ω:Type} {body:σ→Option (σ⊕ω)} (S:Nat→σ) (n:Nat) (w:ω) (hs: ∀k,k<n→body (S k)=some (.inl (S (k+1)))) (he:body (S n)=some (.inr w)):
  ∀(N:Nat),n<N→nloop body N (S 0)=some w:=by
 have key: ∀(m k N:Nat),k+m=n→m<N→nloop body N (S k)=some w:=by
  intro m
  induction m with
  |zero=>
   intro k N hk hN
   obtain⟨N',rfl⟩: ∃N',N=N'+1:=⟨N-1,by omega⟩
   have:k=n:=by omega
   subst this
   simp only[nloop,he,Option.bind_some]
  |succ m ih=>
   intro k N hk hN
   obtain⟨N',rfl⟩: ∃N',N=N'+1:=⟨N-1,by omega⟩
   simp only[nloop,hs k (by omega),Option.bind_some]
   exact ih (k+1) N' (by omega) (by omega)
 intro N hN
 exact key n 0 N (by omega) hN
theorem nloop_while {σ ω:Type} {body:σ→Option (σ⊕ω)} (S:Nat→σ) (n:Nat) (p:Nat→Bool) (w:Bool→ω) (hs: ∀k,k<n→p k=true→body (S k)=some (.inl (S (k+1))))
  (hb: ∀k,k<n→p k=false→body (S k)=some (.inr (w false))) (he:body (S n)=some (.inr (w true))) (N:Nat) (hN:n<N):
  nloop body N (S 0)=some (w ((List.range n).all p)):=by
 have key: ∀(m k N:Nat),k+m=n→m<N→nloop body N (S k)=some (w ((List.range' k m).all p)):=by
  intro m
  induction m with
  |zero=>
   intro k N hk hN
   obtain⟨N',rfl⟩: ∃N',N=N'+1:=⟨N-1,by omega⟩
   have:k=n:=by omega
   subst this
   simp only[nloop,he,Option.bind_some]
   rfl
  |succ m ih=>
   intro k N hk hN
   obtain⟨N',rfl⟩: ∃N',N=N'+1:=⟨N-1,by omega⟩
   rw[List.range'_succ,List.all_cons]
   cases hp:p k with
   |false=>simp only[nloop,hb k (by omega) hp,Option.bind_some,Bool.false_and]
   |true=>
    simp only[nloop,hs k (by omega) hp,Option.bind_some,Bool.true_and]
    exact ih (k+1) N' (by omega) (by omega)
 rw[List.range_eq_range']
 exact key n 0 N (by omega) hN
def maskN (p:Nat→Bool):Nat→Nat
 |0=>0
 |n+1=>maskN p n|||(if p n then 2^n else 0)
theorem maskN_lt (p:Nat→Bool): ∀n,maskN p n<2^n
 |0=>by simp[maskN]
 |n+1=>by
  have h1:=maskN_lt p n
  have h2:2^n<2^(n+1):=by rw[Nat.pow_succ];have:=Nat.two_pow_pos n;omega
  simp only[maskN]
  refine Nat.or_lt_two_pow (by omega) ?_
  split
  ·exact h2
  ·exact Nat.two_pow_pos _
theorem maskN_bit (p:Nat→Bool) (n i:Nat):(maskN p n).testBit i=(decide (i<n)&&p i):=by
 induction n with
 |zero=>simp[maskN]
 |succ n ih=>
  simp only[maskN,Nat.testBit_or,ih]
  by_cases e:i=n
  ·subst e
   cases hp:p i<;>simp
  ·have h1:decide (i<n+1)=decide (i<n):=by
    rw[Bool.eq_iff_iff];simp only[decide_eq_true_eq];omega
   rw[h1]
   have:(if p n=true then 2^n else 0).testBit i=false:=by
    split
    ·rw[Nat.testBit_two_pow];simp;omega
    ·simp
   rw[this,Bool.or_false]
theorem eq_maskN {m n:Nat} {p:Nat→Bool} (hm:m<2^n) (h: ∀i,i<n→m.testBit i=p i):m=maskN p n:=by
 apply Nat.eq_of_testBit_eq
 intro i
 rw[maskN_bit]
 by_cases hi:i<n
 ·rw[h i hi];simp[hi]
 ·rw[Nat.testBit_lt_two_pow (Nat.lt_of_lt_of_le hm (Nat.pow_le_pow_right (by omega) (by omega)))]
  simp[hi]
theorem lt256 {m n:Nat} (h:n≤8) (hm:m<2^n):m<256:=
 Nat.lt_of_lt_of_le hm (Nat.pow_le_pow_right (n:=2) (by omega) h)
theorem Tree.hd_other {h:List Int} (T:Tree h) {w:Nat} (h1:1≤w) (h2:w≤h.length):hd h w≠w:=by
 intro e
 have:=T.dep_step h1 h2 (by omega)
 rw[e] at this
 omega
def wordB (h:List Int) (v:Int):Bool:=treeB h&&(decide (1≤v)&&decide (v≤(h.length:Nat)))
theorem wordOk_eq (h:List Int) (v:Int):N3g h v=some (wordB h v):=by
 have e:N3g h v=N7n h v:=by unfold N3g;rfl
 rw[e]
 unfold N7n wordB
 rw[implTree_eq]
 simp only[Option.bind_some]
 cases treeB h with
 |false=>rfl
 |true=>
  by_cases h1:1≤v
  ·simp[h1,show v≥1 from h1]
  ·simp[h1,show¬v≥1 from h1]
theorem wrapu64 {x:Int} (h1:0≤x) (h2:x<18446744073709551616):IntKind.wrap .u64 x=x:=by
 simp only[IntKind.wrap,IntKind.bits,IntKind.signed]
 simp
 omega
theorem ofInt_nat {a:Nat} (h:a<18446744073709551616):(BitVec.ofInt 64 (a:Int)).toNat=a:=by
 rw[BitVec.toNat_ofInt];omega
theorem ioru {a b:Nat} (ha:a<2^62) (hb:b<2^62):ior .u64 (a:Int) (b:Int)=((a|||b:Nat):Int):=by
 have h:=Nat.or_lt_two_pow ha hb
 show IntKind.wrap .u64 ((BitVec.ofInt 64 (a:Int)|||BitVec.ofInt 64 (b:Int)).toNat:Int)=_
 rw[BitVec.toNat_or,ofInt_nat (by omega),ofInt_nat (by omega),wrapu64 (by omega) (by omega)]
theorem iandu {a b:Nat} (ha:a<2^62) (hb:b<2^62):iand .u64 (a:Int) (b:Int)=((a&&&b:Nat):Int):=by
 have h:a&&&b<2^62:=Nat.and_lt_two_pow a hb
 show IntKind.wrap .u64 ((BitVec.ofInt 64 (a:Int)&&&BitVec.ofInt 64 (b:Int)).toNat:Int)=_
 rw[BitVec.toNat_and,ofInt_nat (by omega),ofInt_nat (by omega),wrapu64 (by omega) (by omega)]
theorem all_lt {n:Nat} {p:Nat→Bool} (h:(List.range n).all p=true) {i:Nat} (hi:i<n):p i=true:=
 List.all_eq_true.1 h i (List.mem_range.2 hi)
theorem only_tab:((List.range 8).all fun i=>N35 ((i:Int)+1)==some ((2^i:Nat):Int))=true:=by decide+kernel
theorem only_eq {w:Nat} (h1:1≤w) (h2:w≤8):N35 (w:Int)=some ((2^(w-1):Nat):Int):=by
 have h:=all_lt only_tab (i:=w-1) (by omega)
 rw[show((w-1:Nat):Int)+1=(w:Int) by omega] at h
 simpa using h
theorem pow_lt256 {w:Nat} (h:w≤8) (h1:1≤w):2^(w-1)<256:=by
 have:2^(w-1)<2^8:=Nat.pow_lt_pow_right (by omega) (by omega)
 simpa using this
def wordsL (m:Nat):List Int:=((List.range 8).filter fun i=>m.testBit i).map fun i=>((i+1:Nat):Int)
theorem filter_upto (p:Nat→Bool) (n:Nat): ∀N,n≤N→(List.range N).filter (fun i=>decide (i<n)&&p i)=(List.range n).filter p
 |0,h=>by
  have:n=0:=by omega
  subst this;rfl
 |N+1,h=>by
  by_cases e:n=N+1
  ·subst e
   apply List.filter_congr
   intro i hi
   rw[List.mem_range] at hi
   simp[hi]
  ·rw[List.range_succ,List.filter_append,filter_upto p n N (by omega)]
   have: ¬N<n:=by omega
   simp[this]
theorem wordsL_mask (p:Nat→Bool) {n:Nat} (h:n≤8):wordsL (maskN p n)=((List.range n).filter p).map fun i=>((i+1:Nat):Int):=by
 unfold wordsL
 rw[←filter_upto p n 8 h]
 congr 1
 apply List.filter_congr
 intro i _
 rw[maskN_bit]
theorem mem_wordsL {p:Nat→Bool} {n:Nat} (h:n≤8) {x:Int}:x∈wordsL (maskN p n)↔ ∃i,i<n∧p i=true∧x=((i+1:Nat):Int):=by
 rw[wordsL_mask p h,List.mem_map]
 constructor
 ·rintro⟨i,hi,e⟩
  rw[List.mem_filter,List.mem_range] at hi
  exact⟨i,hi.1,hi.2,e.symm⟩
 ·rintro⟨i,h1,h2,e⟩
  exact⟨i,by rw[List.mem_filter,List.mem_range];exact⟨h1,h2⟩,e.symm⟩
theorem wordsL_length_le (m:Nat):(wordsL m).length≤8:=by
 unfold wordsL
 rw[List.length_map]
 exact Nat.le_trans (List.length_filter_le _ _) (by simp)
def headB (h:List Int) (v:Int) (i:Nat):Bool:=h.getD i 0==v
theorem dependents_eq (h:List Int) (v:Int) (hl:h.length≤8):N45 h v=some ((maskN (headB h v) h.length:Nat):Int):=by
 have e:N45 h v=Nim h v:=by unfold N45;rfl
 rw[e]
 unfold Nim Nky Nox N8m Npb Nn4 Nah
 have hloop:=nloop_to (body:=fun(s:Int×Int)=>((N4o h v s.1 h.length s.2).map (Sum.elim (fun(t:Int×Int)=>Sum.inl (t.1,t.2)) (fun(t:Int)=>Sum.inr t)):Option ((Int×Int)⊕(Int))))
  (fun k=>(((maskN (headB h v) k:Nat):Int),(k:Int))) h.length ((maskN (headB h v) h.length:Nat):Int)
  (by
   intro k hk
   have hb:headB h v k=(h[k]==v):=by simp[headB,List.getD,hk]
   have h1:=maskN_lt (headB h v) k
   have h2:(2:Nat)^k<2^62:=Nat.pow_lt_pow_right (by omega) (by omega)
   simp only[N4o]
   rw[show decide ((k:Int)<((h.length:Nat):Int))=true from decide_eq_true (by omega),idx_lt hk,wrap64 (by omega) (by omega),show(k:Int)+1=((k+1:Nat):Int) by omega,
    only_eq (by omega) (by omega),Nat.add_sub_cancel]
   simp only[cond_true,Option.bind_some,←hb,maskN]
   rw[ioru (by omega) h2]
   cases headB h v k with
   |true=>rfl
   |false=>simp)
  (by
   simp only[N4o]
   rw[show decide (((h.length:Nat):Int)<((h.length:Nat):Int))=false from decide_eq_false (by omega)]
   rfl)
 simp only[Option.bind_some]
 have:=hloop LL (by simp only[LL];omega)
 simp only[maskN] at this
 rw[show(((0:Nat):Int),((0:Nat):Int))=((0:Int),(0:Int)) from rfl] at this
 rw[this]
 rfl
theorem list_tab:((List.range 256).all fun m=>N4t (m:Int)==some (wordsL m))=true:=by decide+kernel
theorem list_eq {m:Nat} (h:m<256):N4t (m:Int)=some (wordsL m):=by simpa using all_lt list_tab h
def rootI (h:List Int):Int:=if treeB h then(top h:Int) else-1
theorem implRoot_eq (h:List Int):N62 h=some (rootI h):=by
 unfold N62 Nl2 N8w Nmk Njn Nls rootI
 rw[implTree_eq]
 cases hT:treeB h with
 |false=>simp
 |true=>
  have T:=(tree_iff h).1 hT
  simp only[Option.bind_some,Bool.not_true,cond_false,Sum.elim_inl,if_true]
  have hloop:=nloop_run (body:=fun(s:Int×Int)=>((N6f h s.1 s.2).map (Sum.elim (fun(t:Int×Int)=>Sum.inl (t.1,t.2)) (fun(t:Int×Int)=>Sum.inr t)):Option ((Int×Int)⊕((Int×Int)))))
   (I:=fun s=> ∃k i:Nat,s=(((k+1:Nat):Int),(i:Int))∧k<h.length∧i+dep h (k+1)<h.length) (μ:=fun s=>dep h s.1.toNat)
   (f:=fun s=>((top h:Int),s.2+(dep h s.1.toNat:Int)))
   (by
    rintro _ ⟨k,i,rfl,hk,hi⟩
    have hle:=T.le
    simp only[N6f]
    rw[up_eq h k i hk (by omega) (by omega)]
    have hg:=T.get (w:=k+1) (by omega) (by omega)
    rw[show k+1-1=k by omega,List.getElem?_eq_getElem hk] at hg
    have hg':h[k]=((hd h (k+1):Nat):Int):=by simpa using hg
    by_cases e:hd h (k+1)=0
    ·right
     have ht:=(T.hd_zero (w:=k+1) (by omega) (by omega)).1 e
     have hd0:dep h (k+1)=0:=by rw[ht];exact T.dep_top
     have hd0':dep h (((k+1:Nat):Int)).toNat=0:=hd0
     rw[if_pos (by omega)]
     simp only[Option.bind_some,cond_false,Option.map_some,Sum.elim_inr,hd0']
     rw[←ht]
     simp
    ·left
     have hs:=T.dep_step (w:=k+1) (by omega) (by omega) e
     have hle2:=T.hd_le (w:=k+1) (by omega) (by omega)
     rw[if_neg (by omega)]
     refine⟨(h[k],((i+1:Nat):Int)),by simp,⟨hd h (k+1)-1,i+1,?_,by omega,?_⟩,?_,?_⟩
     ·rw[hg',show hd h (k+1)-1+1=hd h (k+1) by omega]
     ·rw[show hd h (k+1)-1+1=hd h (k+1) by omega];omega
     ·simp only[hg',Int.toNat_natCast];omega
     ·simp only[hg',Int.toNat_natCast]
      rw[hs]
      simp;omega)
  rw[hloop LL (1,0) ⟨0,0,rfl,by have:=T.pos;omega,by have:=T.dep_lt (w:=0+1) (by omega) (by have:=T.pos;omega);omega⟩ (by
   have:=T.dep_lt (w:=1) (by omega) T.pos;have:=T.le;simp only[LL];simp;omega)]
  simp[Nbr]
inductive Und (h:List Int):Nat→Nat→Prop
 |refl {a:Nat} (h1:1≤a) (h2:a≤h.length):Und h a a
 |step {a b:Nat} (h1:1≤a) (h2:a≤h.length) (h3:hd h a≠0) (u:Und h (hd h a) b):Und h a b
theorem Tree.climbInd {h:List Int} (T:Tree h) {P:Nat→Prop} (h0:P (top h)) (hs: ∀w,1≤w→w≤h.length→hd h w≠0→P (hd h w)→P w): ∀w,1≤w→w≤h.length→P w:=by
 have key: ∀(d w:Nat),dep h w=d→1≤w→w≤h.length→P w:=by
  intro d
  induction d with
  |zero=>
   intro w e h1 h2
   rw[(T.dep_zero h1 h2).1 e];exact h0
  |succ d ih=>
   intro w e h1 h2
   have hne:hd h w≠0:=fun e0=>by
    have:=(T.dep_zero h1 h2).2 ((T.hd_zero h1 h2).1 e0)
    omega
   have:=T.dep_step h1 h2 hne
   exact hs w h1 h2 hne (ih _ (by omega) (by omega) (T.hd_le h1 h2))
 intro w
 exact key _ w rfl
theorem Tree.und_rng {h:List Int} (T:Tree h) {a b:Nat} (u:Und h a b):(1≤a∧a≤h.length)∧(1≤b∧b≤h.length):=by
 induction u with
 |refl h1 h2=>exact⟨⟨h1,h2⟩,h1,h2⟩
 |step h1 h2 h3 u ih=>exact⟨⟨h1,h2⟩,ih.2⟩
theorem Tree.und_hd {h:List Int} (T:Tree h) {a:Nat} (h1:1≤a) (h2:a≤h.length) (h3:hd h a≠0):Und h a (hd h a):=
 .step h1 h2 h3 (.refl (by omega) (T.hd_le h1 h2))
theorem Tree.und_top {h:List Int} (T:Tree h) {a:Nat} (h1:1≤a) (h2:a≤h.length):Und h a (top h):=
 T.climbInd (P:=fun w=>Und h w (top h)) (.refl (top_pos h) T.top_le) (fun w a b c d=> .step a b c d) a h1 h2
theorem Tree.und_trans {h:List Int} (T:Tree h) {a b c:Nat} (u:Und h a b) (v:Und h b c):Und h a c:=by
 induction u with
 |refl=>exact v
 |step h1 h2 h3 u ih=>exact .step h1 h2 h3 (ih v)
theorem Tree.und_dep {h:List Int} (T:Tree h) {a b:Nat} (u:Und h a b):dep h b≤dep h a∧(dep h b=dep h a→a=b):=by
 induction u with
 |refl=>exact⟨Nat.le_refl _,fun _=>rfl⟩
 |step h1 h2 h3 u ih=>
  have:=T.dep_step h1 h2 h3
  exact⟨by omega,fun e=>by omega⟩
theorem Tree.und_anti {h:List Int} (T:Tree h) {a b:Nat} (u:Und h a b) (v:Und h b a):a=b:=by
 have h1:=T.und_dep u
 have h2:=T.und_dep v
 exact h1.2 (by omega)
theorem Tree.und_iff {h:List Int} (T:Tree h) {a b:Nat} (h1:1≤a) (h2:a≤h.length):Und h a b↔a=b∨(hd h a≠0∧Und h (hd h a) b):=by
 constructor
 ·intro u
  cases u with
  |refl=>exact .inl rfl
  |step _ _ h3 u=>exact .inr ⟨h3,u⟩
 ·rintro(rfl|⟨h3,u⟩)
  ·exact .refl h1 h2
  ·exact .step h1 h2 h3 u
theorem Tree.und_lin {h:List Int} (T:Tree h) {a b c:Nat} (u:Und h a b) (v:Und h a c):Und h b c∨Und h c b:=by
 induction u with
 |refl=>exact .inl v
 |step h1 h2 h3 u ih=>
  rcases(T.und_iff h1 h2).1 v with rfl|⟨_,v'⟩
  ·exact .inr (.step h1 h2 h3 u)
  ·exact ih v'
theorem Tree.und_child {h:List Int} (T:Tree h) {a b:Nat}:Und h a b↔(a=b∧1≤a∧a≤h.length)∨(b≠0∧ ∃c,1≤c∧c≤h.length∧hd h c=b∧Und h a c):=by
 constructor
 ·intro u
  induction u with
  |refl h1 h2=>exact .inl ⟨rfl,h1,h2⟩
  |step h1 h2 h3 u ih=>
   rcases ih with⟨e,e2,_⟩|⟨hb,c,c1,c2,c3,c4⟩
   ·exact .inr ⟨by omega,_,h1,h2,e,.refl h1 h2⟩
   ·exact .inr ⟨hb,c,c1,c2,c3,.step h1 h2 h3 c4⟩
 ·rintro(⟨rfl,h1,h2⟩|⟨hb,c,c1,c2,rfl,c4⟩)
  ·exact .refl h1 h2
  ·exact T.und_trans c4 (T.und_hd c1 c2 hb)
theorem Tree.und_child_unique {h:List Int} (T:Tree h) {a b c d:Nat} (hb:b≠0) (hc:hd h c=b) (hd':hd h d=b) (u:Und h a c) (v:Und h a d):c=d:=by
 have one: ∀c d,hd h c=b→hd h d=b→Und h c d→c=d:=by
  intro c d hc hd' u
  have hr:=T.und_rng u
  rcases(T.und_iff hr.1.1 hr.1.2).1 u with e|⟨_,u'⟩
  ·exact e
  ·have h1:=T.und_dep u'
   have h2:=T.dep_step hr.2.1 hr.2.2 (by omega)
   rw[hd'] at h2
   rw[hc] at h1
   omega
 rcases T.und_lin u v with h1|h1
 ·exact one c d hc hd' h1
 ·exact(one d c hd' hc h1).symm
def dupB (o:List Int):Bool:=(List.range o.length).any fun j=>(List.range j).any fun i=>o.getD i 0==o.getD j 0
def orderAll (o:List Int) (m:Int):Bool:=o.all (fun x=>decide (1≤x)&&decide (x≤m))&& !dupB o
def orderB (o:List Int) (m:Int):Bool:=decide (1≤m)&&decide (m≤8)&&(((o.length:Nat):Int)==m)&&orderAll o m
def OrderP (o:List Int) (m:Int):Prop:=(∀(k:Nat) (hk:k<o.length),1≤o[k]∧o[k]≤m)∧ ∀(i j:Nat) (hij:i<j) (hj:j<o.length),o[i]≠o[j]
theorem orderAll_iff (o:List Int) (m:Int):orderAll o m=true↔OrderP o m:=by
 unfold orderAll dupB OrderP
 simp only[Bool.and_eq_true,List.all_eq_true,decide_eq_true_eq,Bool.not_eq_true',List.any_eq_false,List.mem_range]
 constructor
 ·rintro⟨h1,h2⟩
  refine⟨fun k hk=>h1 _ (List.getElem_mem hk),fun i j hij hj e=> ?_⟩
  have:=h2 j hj
  rw[List.any_eq_true] at this
  refine this ⟨i,by simpa using hij,?_⟩
  simp[List.getD,hj,show i<o.length by omega,e]
 ·rintro⟨h1,h2⟩
  refine⟨fun x hx=> ?_,fun j hj=> ?_⟩
  ·obtain⟨k,hk,rfl⟩:=List.getElem_of_mem hx
   exact h1 k hk
  ·rw[List.any_eq_true]
   rintro⟨i,hi,e⟩
   have hi':i<j:=by simpa using hi
   simp only[List.getD,List.getElem?_eq_getElem hj,List.getElem?_eq_getElem (show i<o.length by omega),Option.getD_some,beq_iff_eq] at e
   exact h2 i j hi' hj e
theorem orderAll_false {o:List Int} {m:Int} (h: ¬OrderP o m):orderAll o m=false:=by
 cases e:orderAll o m with
 |false=>rfl
 |true=>exact absurd ((orderAll_iff o m).1 e) h
theorem mem_take {o:List Int} {k:Nat} {x:Int} (hk:k≤o.length):x∈o.take k↔ ∃(i:Nat) (hi:i<k),o[i]'(by omega)=x:=by
 constructor
 ·intro h
  obtain⟨i,hi,e⟩:=List.getElem_of_mem h
  have hi':i<k:=by simp at hi;omega
  exact⟨i,hi',by simpa using e⟩
 ·rintro⟨i,hi,e⟩
  have:(o.take k)[i]'(by simp;omega)=x:=by simpa using e
  rw[←this];exact List.getElem_mem _
theorem implOrder_eq (o:List Int) (m:Int):N5v o m=some (orderB o m):=by
 unfold N5v Np4 N7s Nnp Nml N8y Nn2 Nn0 Nby orderB
 by_cases h1:m<1
 ·rw[decide_eq_true h1,show decide (1≤m)=false from decide_eq_false (by omega)];rfl
 rw[decide_eq_false h1,show decide (1≤m)=true from decide_eq_true (by omega)]
 by_cases h2:m>8
 ·rw[decide_eq_true h2,show decide (m≤8)=false from decide_eq_false (by omega)];rfl
 rw[decide_eq_false h2,show decide (m≤8)=true from decide_eq_true (by omega)]
 by_cases h3:((o.length:Nat):Int)=m
 ·rw[show(((o.length:Nat):Int) !=m)=false by simp[h3],show(((o.length:Nat):Int)==m)=true by simp[h3]]
  simp only[cond_false,Option.bind_some,Sum.elim_inl,Bool.true_and]
  have hloop:=nloop_run (body:=fun(s:Int×(List Bool))=>((N6m m o o.length s.1 s.2).map (Sum.elim (fun(t:Int×(List Bool))=>Sum.inl (t.1,t.2)) (Sum.elim (fun(t:Bool)=>Sum.inr (Sum.inl t)) (fun(t:Unit)=>Sum.inr (Sum.inr t)))):Option ((Int×(List Bool))⊕(Bool⊕Unit))))
   (I:=fun s=> ∃k:Nat,s.1=(k:Int)∧k≤o.length∧s.2.length=9∧(∀v:Nat,v<9→s.2[v]? =some (decide ((v:Int)∈o.take k)))∧OrderP (o.take k) m) (μ:=fun s=>o.length-s.1.toNat)
   (f:=fun _=>cond (orderAll o m) (.inr ()) (.inl false))
   (by
    rintro⟨_,seen⟩ ⟨k,rfl,hk,hs,hseen,hP⟩
    simp only at hs hseen
    simp only[N6m]
    by_cases hlt:k<o.length
    ·rw[show decide ((k:Int)<((o.length:Nat):Int))=true from decide_eq_true (by omega),idx_lt hlt,wrap64 (by omega) (by omega)]
     simp only[cond_true,Option.bind_some]
     by_cases c1:o[k]<1
     ·right
      rw[decide_eq_true c1,orderAll_false (fun hh=>by have:=(hh.1 k hlt).1;omega)]
      rfl
     rw[decide_eq_false c1]
     by_cases c2:o[k]>m
     ·right
      rw[decide_eq_true c2,orderAll_false (fun hh=>by have:=(hh.1 k hlt).2;omega)]
      rfl
     rw[decide_eq_false c2]
     obtain⟨v,hv⟩: ∃v:Nat,o[k]=(v:Int):=⟨o[k].toNat,by omega⟩
     have hv9:v<9:=by omega
     have hin:inb o[k] 9=some v:=by rw[hv];exact inb_nat hv9
     have hsame:same seen.length 9=some ():=by simp[same,hs]
     simp only[cond_false,hsame,hin,Option.bind_some,hseen v hv9]
     by_cases c3:(v:Int)∈o.take k
     ·right
      rw[decide_eq_true c3]
      obtain⟨i,hi,e⟩:=(mem_take hk).1 c3
      rw[orderAll_false (fun hh=>hh.2 i k hi hlt (by rw[e,hv]))]
      rfl
     ·left
      rw[decide_eq_false c3]
      refine⟨(((k+1:Nat):Int),seen.set v true),by simp,⟨k+1,rfl,hlt,by simpa using hs,fun u hu=> ?_,?_⟩,by simp;omega,trivial⟩
      ·rw[List.take_add_one,List.getElem?_eq_getElem hlt,hv]
       simp only[Option.toList_some,List.mem_append,List.mem_singleton]
       by_cases e:v=u
       ·subst e
        simp[hs,hv9]
       ·rw[List.getElem?_set_ne e,hseen u hu]
        have: ¬(u:Int)=(v:Int):=by omega
        simp[this]
      ·have hl:(o.take (k+1)).length=k+1:=by simp;omega
       refine⟨fun i hi=> ?_,fun i j hij hj=> ?_⟩
       ·rw[hl] at hi
        rw[List.getElem_take]
        by_cases e:i=k
        ·subst e;omega
        ·have:=hP.1 i (by simp;omega)
         rwa[List.getElem_take] at this
       ·rw[hl] at hj
        rw[List.getElem_take,List.getElem_take]
        by_cases e:j=k
        ·subst e
         intro hh
         exact c3 ((mem_take hk).2 ⟨i,hij,by rw[hh,hv]⟩)
        ·have:=hP.2 i j hij (by simp;omega)
         rwa[List.getElem_take,List.getElem_take] at this
    ·right
     have e:k=o.length:=by omega
     subst e
     rw[List.take_length] at hP
     rw[show decide (((o.length:Nat):Int)<((o.length:Nat):Int))=false from decide_eq_false (by omega),(orderAll_iff o m).2 hP]
     rfl)
  rw[hloop LL (0,List.replicate 9 false) ⟨0,by simp,by omega,by simp,fun v hv=>by rw[List.getElem?_replicate,if_pos hv];simp,⟨fun k hk=>by simp at hk,fun i j hij hj=>by simp at hj⟩⟩ (by simp only[LL];simp;omega)]
  cases orderAll o m<;>rfl
 ·rw[show(((o.length:Nat):Int) !=m)=true by simp[h3],show(((o.length:Nat):Int)==m)=false by simp[h3]]
  rfl
def placesK (o:List Int) (k:Nat):List Int:=(List.range (o.length+1)).map fun(v:Nat)=>if(v:Int)∈o.take k then(o.idxOf (v:Int):Int)+1 else 0
def placesL (o:List Int):List Int:=placesK o o.length
theorem placesK_length (o:List Int) (k:Nat):(placesK o k).length=o.length+1:=by simp[placesK]
theorem placesK_get (o:List Int) (k v:Nat) (hv:v<o.length+1):(placesK o k)[v]? =some (if(v:Int)∈o.take k then(o.idxOf (v:Int):Int)+1 else 0):=by
 simp[placesK,hv]
theorem idxOf_get {o:List Int} {m:Int} (hP:OrderP o m) {k:Nat} (hk:k<o.length):o.idxOf o[k]=k:=by
 have hm:o[k]∈o:=List.getElem_mem hk
 have hlt:o.idxOf o[k]<o.length:=List.idxOf_lt_length_iff.2 hm
 have he:o[o.idxOf o[k]]=o[k]:=by simp
 rcases Nat.lt_trichotomy (o.idxOf o[k]) k with h|h|h
 ·exact absurd he (hP.2 _ _ h hk)
 ·exact h
 ·exact absurd he.symm (hP.2 _ _ h hlt)
theorem placesK_step {o:List Int} (hP:OrderP o (o.length:Nat)) {k v:Nat} (hk:k<o.length) (hv:o[k]=(v:Int)):(placesK o k).set v ((k+1:Nat):Int)=placesK o (k+1):=by
 have hr:=hP.1 k hk
 apply List.ext_getElem?
 intro u
 by_cases hu:u<o.length+1
 ·rw[placesK_get o (k+1) u hu]
  rw[List.take_add_one,List.getElem?_eq_getElem hk,hv]
  simp only[Option.toList_some,List.mem_append,List.mem_singleton]
  by_cases e:v=u
  ·subst e
   rw[List.getElem?_set_self (by rw[placesK_length];omega)]
   have hidx:o.idxOf (v:Int)=k:=by rw[←hv];exact idxOf_get hP hk
   simp[hidx]
  ·rw[List.getElem?_set_ne e,placesK_get o k u hu]
   have: ¬(u:Int)=(v:Int):=by omega
   simp[this]
 ·rw[List.getElem?_eq_none (by rw[List.length_set,placesK_length];omega),List.getElem?_eq_none (by rw[placesK_length];omega)]
theorem placesK_zero (o:List Int):placesK o 0=List.replicate (o.length+1) 0:=by
 apply List.ext_getElem?
 intro u
 by_cases hu:u<o.length+1
 ·rw[placesK_get o 0 u hu,List.getElem?_replicate,if_pos hu];simp
 ·rw[List.getElem?_eq_none (by rw[placesK_length];omega),List.getElem?_eq_none (by simp;omega)]
theorem places_loop (o:List Int) (hl:o.length≤8) (hP:OrderP o (o.length:Nat)):
  nloop (fun(s:Int×(List Int))=>((N68 o o.length s.1 s.2).map (Sum.elim (fun(t:Int×(List Int))=>Sum.inl (t.1,t.2)) (fun(t:(List Int))=>Sum.inr t)):Option ((Int×(List Int))⊕(((List Int)))))) LL (0,List.replicate (o.length+1) 0)=some (placesL o):=by
 have hloop:=nloop_run (body:=fun(s:Int×(List Int))=>((N68 o o.length s.1 s.2).map (Sum.elim (fun(t:Int×(List Int))=>Sum.inl (t.1,t.2)) (fun(t:(List Int))=>Sum.inr t)):Option ((Int×(List Int))⊕(((List Int))))))
  (I:=fun s=> ∃k:Nat,s=((k:Int),placesK o k)∧k≤o.length) (μ:=fun s=>o.length-s.1.toNat) (f:=fun _=>placesL o)
  (by
   rintro _ ⟨k,rfl,hk⟩
   simp only[N68]
   by_cases hlt:k<o.length
   ·left
    have hr:=hP.1 k hlt
    obtain⟨v,hv⟩: ∃v:Nat,o[k]=(v:Int):=⟨o[k].toNat,by omega⟩
    refine⟨(((k+1:Nat):Int),placesK o (k+1)),?_,⟨k+1,rfl,hlt⟩,by simp;omega,trivial⟩
    rw[show decide ((k:Int)<((o.length:Nat):Int))=true from decide_eq_true (by omega),idx_lt hlt,wrap64 (by omega) (by omega)]
    have hin:inb o[k] (placesK o k).length=some v:=by rw[hv,placesK_length];exact inb_nat (by omega)
    simp only[cond_true,Option.bind_some,hin]
    rw[show(k:Int)+1=((k+1:Nat):Int) by omega,placesK_step hP hlt hv]
    rfl
   ·right
    have e:k=o.length:=by omega
    subst e
    rw[show decide (((o.length:Nat):Int)<((o.length:Nat):Int))=false from decide_eq_false (by omega)]
    rfl)
 have:=hloop LL (0,placesK o 0) ⟨0,rfl,by omega⟩ (by simp only[LL];simp;omega)
 rw[placesK_zero] at this
 exact this
theorem implPlaces_eq (o:List Int) (hl:o.length≤8) (hP:OrderP o (o.length:Nat)):N5c o=some (placesL o):=by
 unfold N5c Nns Nci Nnq Np5 Ncl Nkf Nkp N8b
 rw[wrap64 (by omega) (by omega),show((o.length:Nat):Int)+1=((o.length+1:Nat):Int) by omega,mk_nat (by omega)]
 simp only[Option.bind_some]
 rw[places_loop o hl hP]
 rfl
def newHd (h o:List Int) (k:Nat):Int:=(placesL o).getD (h.getD (o.getD k 0-1).toNat 0).toNat 0
def putRow (h o:List Int):List Int:=(List.range o.length).map (newHd h o)
theorem putRow_length (h o:List Int):(putRow h o).length=o.length:=by simp[putRow]
theorem putRow_drop (h o:List Int) {k:Nat} (hk:k<o.length):(putRow h o).drop k=newHd h o k::(putRow h o).drop (k+1):=by
 rw[List.drop_eq_getElem_cons (by rw[putRow_length];exact hk)]
 simp[putRow]
theorem put_reads {h o:List Int} (T:Tree h) (hl:o.length=h.length) (hP:OrderP o (o.length:Nat)) {k:Nat} (hk:k<o.length):
  ∃w x:Nat,o[k]=((w+1:Nat):Int)∧w<h.length∧h[w]? =some (x:Int)∧x<o.length+1∧(placesL o)[x]? =some (newHd h o k):=by
 have hr:=hP.1 k hk
 refine⟨o[k].toNat-1,(h[o[k].toNat-1]'(by omega)).toNat,by omega,by omega,?_,?_,?_⟩
 ·have:=inRange_get T.rng (k:=o[k].toNat-1) (by omega)
  rw[List.getElem?_eq_getElem (by omega)]
  simp only[Option.some.injEq]
  omega
 ·have:=inRange_get T.rng (k:=o[k].toNat-1) (by omega);omega
 ·have h1:=inRange_get T.rng (k:=o[k].toNat-1) (by omega)
  have hx:(h[o[k].toNat-1]'(by omega)).toNat<(placesL o).length:=by rw[placesL,placesK_length];omega
  rw[List.getElem?_eq_getElem hx]
  have e1:o.getD k 0=o[k]:=by simp[List.getD,hk]
  have e2:h.getD (o[k]-1).toNat 0=h[o[k].toNat-1]'(by omega):=by
   rw[show(o[k]-1).toNat=o[k].toNat-1 by omega]
   simp[List.getD,show o[k].toNat-1<h.length by omega]
  simp only[newHd,e1,e2]
  simp[List.getD,hx]
theorem implPut_eq (h o:List Int):N3d h o=some (if treeB h&&orderB o h.length then(true,putRow h o) else(false,[])):=by
 unfold N3d Nbs
 rw[implTree_eq,implOrder_eq]
 cases hT:treeB h with
 |false=>simp
 |true=>
  cases hO:orderB o h.length with
  |false=>simp
  |true=>
   have T:=(tree_iff h).1 hT
   unfold orderB at hO
   simp only[Bool.and_eq_true,decide_eq_true_eq,beq_iff_eq] at hO
   obtain⟨⟨_,hlen⟩,hA⟩:=hO
   have hl:o.length=h.length:=by omega
   have hle:=T.le
   have hP:OrderP o (o.length:Nat):=by rw[hl];exact(orderAll_iff o _).1 hA
   simp only[Option.bind_some,Bool.not_true,cond_false,implPlaces_eq o (by omega) hP,Bool.and_self,if_true]
   unfold N79 Nk8 N8s No0 Nnr N9o Not Nk6 N9d
   rw[mk_nat (by omega)]
   simp only[Option.bind_some]
   have hloop:=nloop_run (body:=fun(s:Int×(List Int))=>((N7m h o o.length s.1 (placesL o) s.2).map (Sum.elim (fun(t:Int×(List Int))=>Sum.inl (t.1,t.2)) (fun(t:(List Int))=>Sum.inr t)):Option ((Int×(List Int))⊕(((List Int))))))
    (I:=fun s=> ∃k:Nat,s.1=(k:Int)∧k≤o.length∧s.2.length=o.length) (μ:=fun s=>o.length-s.1.toNat) (f:=fun s=>s.2.take s.1.toNat++(putRow h o).drop s.1.toNat)
    (by
     rintro⟨_,out⟩ ⟨k,rfl,hk,ho⟩
     simp only at ho
     simp only[N7m]
     by_cases hlt:k<o.length
     ·left
      obtain⟨w,x,h1,hw,h2,h3,h4⟩:=put_reads T hl hP hlt
      refine⟨(((k+1:Nat):Int),out.set k (newHd h o k)),?_,⟨k+1,rfl,hlt,by simpa using ho⟩,by simp;omega,?_⟩
      ·rw[show decide ((k:Int)<((o.length:Nat):Int))=true from decide_eq_true (by omega),idx_lt hlt]
       simp only[cond_true,Option.bind_some]
       rw[h1,wrap64 (x:=((w+1:Nat):Int)-1) (by omega) (by omega),show((w+1:Nat):Int)-1=(w:Int) by omega,idx_nat,h2,wrap64 (by omega) (by omega)]
       have hin:N4a (x:Int) (placesL o)=some (newHd h o k):=by
        unfold N4a N9e
        rw[inb_nat (by rw[placesL,placesK_length];exact h3)]
        simp only[Option.bind_some,h4]
       simp only[Option.bind_some,hin,inb_nat (show k<out.length by omega)]
       simp
      ·simp only[Int.toNat_natCast]
       rw[set_take (by omega),putRow_drop h o hlt]
       simp
     ·right
      have e:k=o.length:=by omega
      subst e
      rw[show decide (((o.length:Nat):Int)<((o.length:Nat):Int))=false from decide_eq_false (by omega)]
      simp[List.take_of_length_le (Nat.le_of_eq ho),List.drop_of_length_le (Nat.le_of_eq (putRow_length h o))])
   rw[hloop LL (0,List.replicate o.length 0) ⟨0,by simp,by omega,by simp⟩ (by simp only[LL];simp;omega)]
   simp
theorem orderP_iff (o:List Int) (m:Int):OrderP o m↔(∀x∈o,1≤x∧x≤m)∧o.Nodup:=by
 unfold OrderP List.Nodup
 rw[List.pairwise_iff_getElem]
 constructor
 ·rintro⟨h1,h2⟩
  refine⟨fun x hx=> ?_,fun i j hi hj hij=>h2 i j hij hj⟩
  obtain⟨k,hk,rfl⟩:=List.getElem_of_mem hx
  exact h1 k hk
 ·rintro⟨h1,h2⟩
  exact⟨fun k hk=>h1 _ (List.getElem_mem hk),fun i j hij hj=>h2 i j (by omega) hj hij⟩
theorem orderB_iff (o:List Int) (m:Int):orderB o m=true↔1≤m∧m≤8∧(o.length:Int)=m∧OrderP o m:=by
 unfold orderB
 simp only[Bool.and_eq_true,decide_eq_true_eq,beq_iff_eq,orderAll_iff]
 constructor
 ·rintro⟨⟨⟨a,b⟩,c⟩,d⟩;exact⟨a,b,c,d⟩
 ·rintro⟨a,b,c,d⟩;exact⟨⟨⟨a,b⟩,c⟩,d⟩
def pl (o:List Int) (v:Nat):Nat:=((placesL o).getD v 0).toNat
theorem pl_val {o:List Int} {v:Nat} (hv:v≤o.length):pl o v=if(v:Int)∈o then o.idxOf (v:Int)+1 else 0:=by
 unfold pl
 rw[List.getD_eq_getElem?_getD,placesL,placesK_get _ _ _ (by omega)]
 simp only[Option.getD_some,List.take_length]
 split<;>omega
theorem places_get {o:List Int} {v:Nat} (hv:v≤o.length):(placesL o)[v]? =some ((pl o v:Nat):Int):=by
 rw[pl_val hv,placesL,placesK_get _ _ _ (by omega)]
 simp only[List.take_length]
 split<;>simp
section
variable {o : List Int} (hP : OrderP o (o.length : Nat))
include hP
theorem pl_zero:pl o 0=0:=by
 rw[pl_val (by omega),if_neg]
 intro hm
 obtain⟨k,hk,e⟩:=List.getElem_of_mem hm
 have:=hP.1 k hk
 omega
theorem pl_get {k:Nat} (hk:k<o.length):pl o o[k].toNat=k+1:=by
 have:=hP.1 k hk
 rw[pl_val (by omega),show((o[k].toNat:Nat):Int)=o[k] by omega,if_pos (List.getElem_mem hk),idxOf_get hP hk]
end
section
variable {h o : List Int} (T : Tree h) (hl : o.length = h.length) (hP : OrderP o (o.length : Nat))
include T hl hP
theorem put_get {k:Nat} (hk:k<o.length):(putRow h o)[k]? =some ((pl o (hd h o[k].toNat):Nat):Int):=by
 obtain⟨w,x,e1,hw,e2,hx,e3⟩:=put_reads T hl hP hk
 have hg:=T.get (w:=w+1) (by omega) (by omega)
 rw[Nat.add_sub_cancel,e2] at hg
 have hg':(x:Int)=((hd h (w+1):Nat):Int):=Option.some.inj hg
 have hx':x=hd h (w+1):=by omega
 rw[places_get (by omega)] at e3
 have:(putRow h o)[k]? =some (newHd h o k):=by simp[putRow,hk]
 rw[this,←e3,hx',e1,Int.toNat_natCast]
end
def lastL (n:Nat):List Int:=(List.range n).map fun(k:Nat)=>(n:Int)-(k:Int)
theorem lastL_length (n:Nat):(lastL n).length=n:=by simp[lastL]
theorem lastL_get (n:Nat) {k:Nat} (hk:k<n):(lastL n)[k]'(by rw[lastL_length];exact hk)=((n-k:Nat):Int):=by simp[lastL];omega
theorem lastL_get? (n:Nat) {k:Nat} (hk:k<n):(lastL n)[k]? =some ((n-k:Nat):Int):=by
 rw[List.getElem?_eq_getElem (by rw[lastL_length];exact hk),lastL_get n hk]
theorem lastL_order (n:Nat):OrderP (lastL n) ((lastL n).length:Nat):=by
 refine⟨fun k hk=> ?_,fun i j hij hj e=> ?_⟩
 ·rw[lastL_length] at hk
  rw[lastL_get n hk,lastL_length];omega
 ·rw[lastL_length] at hj
  rw[lastL_get n hj,lastL_get n (by omega)] at e
  omega
theorem lastL_orderB {n:Nat} (h1:1≤n) (h8:n≤8):orderB (lastL n) (n:Int)=true:=by
 rw[orderB_iff]
 have:=lastL_order n
 rw[lastL_length] at this
 exact⟨by omega,by omega,by rw[lastL_length],this⟩
theorem lastL_pl {n v:Nat} (h1:1≤v) (h2:v≤n):pl (lastL n) v=n+1-v:=by
 have:=pl_get (lastL_order n) (k:=n-v) (by rw[lastL_length];omega)
 rw[lastL_get n (by omega),Int.toNat_natCast,show n-(n-v)=v by omega] at this
 omega
def backL (h:List Int):List Int:=putRow h (lastL h.length)
theorem backL_length (h:List Int):(backL h).length=h.length:=by rw[backL,putRow_length,lastL_length]
def backI (h:List Int):List Int:=if treeB h then backL h else[]
theorem implLast_eq (n:Nat) (hn:n≤8):N3e (n:Int)=some (lastL n):=by
 have e:N3e (n:Int)=Ngu (n:Int):=by unfold N3e;rfl
 rw[e]
 unfold Ngu Naf Njs Noi Na6 Nl7 Nmm Na9
 rw[mk_nat (by omega)]
 have hloop:=nloop_to (body:=fun(s:Int×(List Int))=>((N4g n n s.1 s.2).map (Sum.elim (fun(t:Int×(List Int))=>Sum.inl (t.1,t.2)) (fun(t:(List Int))=>Sum.inr t)):Option ((Int×(List Int))⊕(((List Int))))))
  (fun k=>((k:Int),(lastL n).take k++List.replicate (n-k) 0)) n (lastL n)
  (by
   intro k hk
   simp only[N4g]
   have hl:((lastL n).take k++List.replicate (n-k) (0:Int)).length=n:=by simp[lastL_length];omega
   rw[show decide ((k:Int)<(n:Int))=true from decide_eq_true (by omega),inb_nat (by rw[hl];exact hk),wrap64 (x:=(k:Int)+1) (by omega) (by omega),wrap64 (x:=(n:Int)-(k:Int)) (by omega) (by omega)]
   simp only[cond_true,Option.bind_some,Option.map_some,Sum.elim_inl,Option.some.injEq,Sum.inl.injEq,Prod.mk.injEq]
   refine⟨by omega,?_⟩
   have hk':k<(lastL n).length:=by rw[lastL_length];exact hk
   rw[List.take_add_one,List.getElem?_eq_getElem hk',lastL_get n hk,List.set_append_right _ _ (by simp[lastL_length];omega)]
   have e1:k-((lastL n).take k).length=0:=by simp[lastL_length];omega
   rw[e1,show n-k=(n-(k+1))+1 by omega,List.replicate_succ,List.set_cons_zero,List.append_assoc]
   congr 1
   show _=[_]++_
   rw[List.singleton_append]
   congr 1
   omega)
  (by
   simp only[N4g]
   rw[show decide ((n:Int)<(n:Int))=false from decide_eq_false (by omega),Nat.sub_self,List.take_of_length_le (Nat.le_of_eq (lastL_length n))]
   simp)
 have hl:=hloop LL (by simp only[LL];omega)
 simp only[List.take_zero,Nat.sub_zero,List.nil_append] at hl
 simp only[Option.bind_some,List.length_replicate]
 rw[show((0:Int),List.replicate n (0:Int))=(((0:Nat):Int),List.replicate n (0:Int)) from rfl,hl]
 rfl
theorem implBack_eq (h:List Int):N37 h=some (backI h):=by
 have e:N37 h=N73 h:=by unfold N37;rfl
 rw[e]
 unfold N73 backI
 rw[implTree_eq]
 cases hT:treeB h with
 |false=>rfl
 |true=>
  have T:=(tree_iff h).1 hT
  simp only[Option.bind_some,Bool.not_true,cond_false,implLast_eq h.length T.le,implPut_eq,hT,lastL_orderB T.pos T.le,Bool.and_self,if_true]
  rfl
theorem back_get {h:List Int} (T:Tree h) {k:Nat} (hk:k<h.length):(backL h)[k]? =some (if hd h (h.length-k)=0 then 0 else((h.length+1-hd h (h.length-k):Nat):Int)):=by
 have hg:=put_get T (lastL_length h.length) (lastL_order h.length) (k:=k) (by rw[lastL_length];exact hk)
 unfold backL
 rw[hg,lastL_get _ hk,Int.toNat_natCast]
 by_cases e:hd h (h.length-k)=0
 ·rw[if_pos e,e,pl_zero (lastL_order _)];rfl
 ·have:=T.hd_le (w:=h.length-k) (by omega) (by omega)
  rw[if_neg e,lastL_pl (by omega) this]
theorem specBack_eq (h:List Int):N1z h=some (backI h):=by
 have e:N1z h=Ngx h:=by unfold N1z;rfl
 rw[e]
 unfold Ngx Nco Nl9 Np9 Nbb Nlu Nm4 Ncr backI
 cases hT:treeB h with
 |false=>
  have hone: ∀s:Int,nloop (fun(s:Int×(List Int))=>((N2o h h.length s.1 s.2).map (Sum.elim (fun(t:Int×(List Int))=>Sum.inl (t.1,t.2)) (fun(t:(List Int))=>Sum.inr t)):Option ((Int×(List Int))⊕(((List Int)))))) LL (s,[])=some []:=fun s=>by
   refine nloop_to (fun _=>(s,([]:List Int))) 0 [] (fun k hk=>by omega) ?_ LL (by simp only[LL];omega)
   simp only[N2o,specTree_eq,hT]
   cases decide (s≥0)<;>rfl
  simp only[Option.bind_some]
  rw[hone]
  rfl
 |true=>
  have T:=(tree_iff h).1 hT
  have hle:=T.le
  have hlen:=backL_length h
  have hloop:=nloop_to (body:=fun(s:Int×(List Int))=>((N2o h h.length s.1 s.2).map (Sum.elim (fun(t:Int×(List Int))=>Sum.inl (t.1,t.2)) (fun(t:(List Int))=>Sum.inr t)):Option ((Int×(List Int))⊕(((List Int))))))
   (fun k=>((h.length:Int)-1-(k:Int),(backL h).take k)) h.length (backL h)
   (by
    intro k hk
    have hb:=back_get T hk
    have hg:=T.get (w:=h.length-k) (by omega) (by omega)
    have hh:=T.hd_le (w:=h.length-k) (by omega) (by omega)
    have hi:idx h ((h.length:Int)-1-(k:Int))=some ((hd h (h.length-k):Nat):Int):=by
     rw[show(h.length:Int)-1-(k:Int)=((h.length-k-1:Nat):Int) by omega,idx_nat,hg]
    simp only[N2o,specTree_eq,hT,hi]
    rw[show decide ((h.length:Int)-1-(k:Int)≥0)=true from decide_eq_true (by omega)]
    simp only[cond_true,Option.bind_some]
    rw[List.take_add_one,hb,wrap64 (x:=(h.length:Int)-1-(k:Int)-1) (by omega) (by omega),wrap64 (x:=(h.length:Int)+1) (by omega) (by omega),wrap64 (by omega) (by omega)]
    have hr:((backL h).take k).length≤8:=by simp;omega
    by_cases e:hd h (h.length-k)=0
    ·rw[if_pos e,e,room_le (by simp;omega)]
     simp only[show(((0:Nat):Int)==0)=true from rfl,cond_true,Option.bind_some,Option.map_some,Sum.elim_inl,Option.toList_some,Option.some.injEq,Sum.inl.injEq,Prod.mk.injEq]
     exact⟨by omega,trivial⟩
    ·rw[if_neg e,show(((hd h (h.length-k):Nat):Int)==0)=false from beq_eq_false_iff_ne.2 (by omega)]
     simp only[cond_false]
     rw[room_le (by simp;omega)]
     simp only[Option.bind_some,Option.map_some,Sum.elim_inl,Option.toList_some,Option.some.injEq,Sum.inl.injEq,Prod.mk.injEq]
     refine⟨by omega,?_⟩
     congr 2
     omega)
   (by
    simp only[N2o]
    rw[show decide ((h.length:Int)-1-(h.length:Int)≥0)=false from decide_eq_false (by omega),List.take_of_length_le (Nat.le_of_eq hlen)]
    rfl)
  have hl:=hloop LL (by simp only[LL];omega)
  simp only[List.take_zero] at hl
  simp only[Option.bind_some]
  rw[wrap64 (x:=(h.length:Int)-1) (by omega) (by omega),show(((h.length:Nat):Int)-1,([]:List Int))=((h.length:Int)-1-((0:Nat):Int),([]:List Int)) by simp,hl]
  rfl
def Betw (a b j:Nat):Prop:=(a<j∧j<b)∨(b<j∧j<a)
structure MInv (n i:Nat) (st:List Nat) (h:List Int):Prop where
 len:h.length=n
 lo:1≤i
 hi:i≤n+1
 ne:st=[]→i=1
 dec:st.Pairwise (· > ·)
 rng: ∀s∈st,1≤s∧s<i∧hd h s=0
 num: ∀x∈h,0≤x∧x≤(n:Int)
 rank: ∃(m:Nat) (ρ:Nat→Nat),m+st.length+1=i∧ ∀w,1≤w→w<i→w∉st→ρ w<m∧1≤hd h w∧hd h w<i∧(hd h w∈st∨ρ w<ρ (hd h w))
 near: ∀j,1≤j→j<i→ ∃s∈st,Und h j s∧ ∀t∈st,¬Betw j s t
 below: ∀w j,1≤w→w<i→hd h w≠0→Betw w (hd h w) j→Und h j (hd h w)
theorem MInv.get {n i:Nat} {st:List Nat} {h:List Int} (M:MInv n i st h) {w:Nat} (w1:1≤w) (w2:w≤n):h[w-1]? =some ((hd h w:Nat):Int):=by
 have hl:=M.len
 have lt:w-1<h.length:=by omega
 have:=M.num _ (List.getElem_mem lt)
 rw[List.getElem?_eq_getElem lt]
 unfold hd
 rw[List.getD_eq_getElem?_getD,List.getElem?_eq_getElem lt,Option.getD_some]
 congr 1
 omega
theorem nloop_ex {σ ω:Type} {body:σ→Option (σ⊕ω)} (I:σ→Prop) (μ:σ→Nat) (Q:ω→Prop)
  (h: ∀s,I s→(∃s',body s=some (.inl s')∧I s'∧μ s'<μ s)∨(∃o,body s=some (.inr o)∧Q o)): ∀(n:Nat) (s:σ),I s→μ s<n→ ∃o,nloop body n s=some o∧Q o
 |0,s,_,hn=>by omega
 |n+1,s,hi,hn=>by
  rcases h s hi with⟨s',hb,hi',hm⟩|⟨o,hb,hq⟩
  ·simp only[nloop,hb,Option.bind_some]
   exact nloop_ex I μ Q h n s' hi' (by omega)
  ·simp only[nloop,hb,Option.bind_some]
   exact⟨o,rfl,hq⟩
structure Bytes (b:List Int):Prop where
 rng: ∀x∈b,0≤x∧x≤255
 len:b.length≤2000
theorem rem_ok {a b:Int} (h:1≤b) (ha:0≤a): ∃v,rem a b=some v∧0≤v∧v<b:=by
 refine⟨a.tmod b,by simp[rem];omega,?_,?_⟩
 ·exact Int.tmod_nonneg _ ha
 ·exact Int.tmod_lt_of_pos _ (by omega)
theorem idx_ok {b:List Int} {i:Int} (h0:0≤i) (h1:i<b.length): ∃v,idx b i=some v∧v∈b:=by
 have:i.toNat<b.length:=by omega
 exact⟨b[i.toNat],by simp[idx,h0,this],List.getElem_mem _⟩
theorem quo_ok {a b:Int} (h:1≤b) (ha:0≤a) (hm:a≤9223372036854775807): ∃v,quo .i64 a b=some v∧0≤v∧v≤a:=by
 have h1:0≤a.tdiv b:=Int.tdiv_nonneg ha (by omega)
 have h2:a.tdiv b≤a:=Int.tdiv_le_self _ ha
 refine⟨a.tdiv b,?_,h1,h2⟩
 simp only[quo]
 rw[if_neg (by omega),wrap64 (by omega) (by omega)]
theorem ixor_ok {a b:Int} (ha:0≤a) (ha2:a<9223372036854775808) (hb:0≤b) (hb2:b<9223372036854775808):0≤ixor .i64 a b:=by
 have e:(BitVec.ofInt 64 a^^^BitVec.ofInt 64 b).toNat<9223372036854775808:=by
  rw[BitVec.toNat_xor]
  have h1:(BitVec.ofInt 64 a).toNat<2^63:=by
   rw[BitVec.toNat_ofInt];omega
  have h2:(BitVec.ofInt 64 b).toNat<2^63:=by
   rw[BitVec.toNat_ofInt];omega
  exact Nat.xor_lt_two_pow h1 h2
 unfold ixor
 have:IntKind.bits .i64=64:=rfl
 show 0≤IntKind.wrap .i64 ((BitVec.ofInt 64 a^^^BitVec.ofInt 64 b).toNat:Int)
 rw[wrap64 (by omega) (by omega)]
 omega
theorem mixw {x1 x2 p q:Int} (h1:0≤x1∧x1≤255) (h2:0≤x2∧x2≤255) (hp:0≤p) (hp2:p≤1000000000) (qa:0≤q) (qb:q≤p):
  IntKind.wrap .i64 (IntKind.wrap .i64 (IntKind.wrap .i64 (IntKind.wrap .i64 (IntKind.wrap .i64 x1*131)+IntKind.wrap .i64 (IntKind.wrap .i64 x2*1117))+IntKind.wrap .i64 (p*29))+IntKind.wrap .i64 (q*53))=x1*131+x2*1117+p*29+q*53:=by
 rw[wrap64 (x:=x1) (by omega) (by omega),wrap64 (x:=x1*131) (by omega) (by omega),wrap64 (x:=x2) (by omega) (by omega),wrap64 (x:=x2*1117) (by omega) (by omega),
   wrap64 (x:=x1*131+x2*1117) (by omega) (by omega),wrap64 (x:=p*29) (by omega) (by omega),wrap64 (x:=x1*131+x2*1117+p*29) (by omega) (by omega),wrap64 (x:=q*53) (by omega) (by omega),
   wrap64 (x:=x1*131+x2*1117+p*29+q*53) (by omega) (by omega)]
theorem mixb {x1 x2 p q:Int} (h1:0≤x1∧x1≤255) (h2:0≤x2∧x2≤255) (hp:0≤p) (hp2:p≤1000000000) (qa:0≤q) (qb:q≤p):
  0≤x1*131+x2*1117+p*29+q*53∧x1*131+x2*1117+p*29+q*53≤1000000000000:=by omega
theorem bindO {α β:Type} {o:Option α} {a:α} {f:α→Option β} {K:β→Prop} (h:o=some a) (hk: ∃r,f a=some r∧K r): ∃r,o.bind f=some r∧K r:=by
 subst h;exact hk
theorem pick_far {b:List Int} (hb:Bytes b) {n:Int} (hn:1≤n) {p:Int} (hp:0≤p) (hp2:p≤1000000000) (h3:((b.length:Nat):Int)≤p) (hl:1≤b.length) (K:Int×Int→Prop) (hK: ∀v,0≤v→v<n→K (v,p+1)):
  ∃r,((rem p ((b.length:Nat):Int)).bind fun(v171:Int)=>(idx b v171).bind fun(v172:Int)=>(rem (IntKind.wrap .i64 ((IntKind.wrap .i64 (p*7))+3)) ((b.length:Nat):Int)).bind fun(v178:Int)=>(idx b v178).bind fun(v179:Int)=>(quo .i64 p ((b.length:Nat):Int)).bind fun(v186:Int)=>(quo .i64 (IntKind.wrap .i64 ((IntKind.wrap .i64 ((IntKind.wrap .i64 ((IntKind.wrap .i64 ((IntKind.wrap .i64 v172)*131))+(IntKind.wrap .i64 ((IntKind.wrap .i64 v179)*1117))))+(IntKind.wrap .i64 (p*29))))+(IntKind.wrap .i64 (v186*53)))) 64).bind fun(v189:Int)=>
   (rem (ixor .i64 (IntKind.wrap .i64 ((IntKind.wrap .i64 ((IntKind.wrap .i64 ((IntKind.wrap .i64 ((IntKind.wrap .i64 v172)*131))+(IntKind.wrap .i64 ((IntKind.wrap .i64 v179)*1117))))+(IntKind.wrap .i64 (p*29))))+(IntKind.wrap .i64 (v186*53)))) v189) n).bind fun(v191:Int)=>some (v191,p+1))=some r∧K r:=by
 obtain⟨i1,e1,i1a,i1b⟩:=rem_ok (a:=p) (b:=b.length) (by omega) hp
 refine bindO e1 ?_
 obtain⟨x1,ex1,hm1⟩:=idx_ok i1a i1b
 have hr1:=hb.rng x1 hm1
 refine bindO ex1 ?_
 obtain⟨i2,e3,i2a,i2b⟩:=rem_ok (a:=p*7+3) (b:=b.length) (by omega) (by omega)
 have e3':rem (IntKind.wrap .i64 ((IntKind.wrap .i64 (p*7))+3)) ((b.length:Nat):Int)=some i2:=by
  rw[wrap64 (x:=p*7) (by omega) (by omega),wrap64 (x:=p*7+3) (by omega) (by omega)];exact e3
 refine bindO e3' ?_
 obtain⟨x2,ex2,hm2⟩:=idx_ok i2a i2b
 have hr2:=hb.rng x2 hm2
 refine bindO ex2 ?_
 obtain⟨q,eq,qa,qb⟩:=quo_ok (a:=p) (b:=b.length) (by omega) hp (by omega)
 refine bindO eq ?_
 rw[mixw hr1 hr2 hp hp2 qa qb]
 obtain⟨hX0,hX1⟩:=mixb hr1 hr2 hp hp2 qa qb
 generalize x1*131+x2*1117+p*29+q*53=X at hX0 hX1⊢
 obtain⟨y,ey,ya,yb⟩:=quo_ok (a:=X) (b:=64) (by omega) hX0 (by omega)
 refine bindO ey ?_
 obtain⟨v,hv,h4,h5⟩:=rem_ok (b:=n) (by omega) (ixor_ok hX0 (by omega) ya (by omega))
 refine bindO hv ?_
 exact⟨_,rfl,hK v h4 h5⟩
theorem pick_ok {b:List Int} (hb:Bytes b) (n:Int) (hn:n≤1000000) {p:Int} (hp:0≤p) (hp2:p≤1000000000):
  ∃v,N0 n b p=some (v,p+1)∧0≤v∧(1≤n→v<n)∧(n<1→v=0):=by
 suffices H: ∃r,N0 n b p=some r∧(r.2=p+1∧0≤r.1∧(1≤n→r.1<n)∧(n<1→r.1=0)) by
  obtain⟨⟨v,q⟩,h1,h2,h3⟩:=H
  simp only at h2
  subst h2
  exact⟨v,h1,h3⟩
 unfold N0 N95
 have hlen:=hb.len
 rw[wrap64 (x:=p+1) (by omega) (by omega),show p+1-1=p by omega,wrap64 (x:=p) (by omega) (by omega)]
 by_cases h1:n<1
 ·rw[decide_eq_true h1]
  exact⟨_,rfl,rfl,Int.le_refl _,fun h=>by omega,fun _=>rfl⟩
 rw[decide_eq_false h1]
 by_cases h2:b.length=0
 ·have e0:((((b.length:Nat):Int))==0)=true:=by simp;exact List.eq_nil_of_length_eq_zero h2
  rw[e0]
  exact⟨_,rfl,rfl,Int.le_refl _,fun h=>by show(0:Int)<n;omega,fun _=>rfl⟩
 have e2:((((b.length:Nat):Int))==0)=false:=by simp;intro e;subst e;simp at h2
 rw[e2]
 by_cases h3:p<((b.length:Nat):Int)
 ·rw[decide_eq_true h3]
  obtain⟨x,hx,hm⟩:=idx_ok hp h3
  have hr:=hb.rng x hm
  simp only[cond_true,cond_false]
  refine bindO hx ?_
  obtain⟨v,hv,h4,h5⟩:=rem_ok (b:=n) (by omega) hr.1
  refine bindO (a:=v) (by rw[wrap64 (x:=x) (by omega) (by omega)];exact hv) ?_
  exact⟨_,rfl,rfl,h4,fun _=>h5,fun h=>by omega⟩
 ·rw[decide_eq_false h3]
  simp only[cond_false]
  exact pick_far hb (by omega) hp hp2 (by omega) (by omega) _ (fun v h4 h5=>⟨rfl,h4,fun _=>h5,fun h=>by omega⟩)
theorem odd_ok {b:List Int} (hb:Bytes b) (n:Int) (hn:n≤1000000) {p:Int} (hp:0≤p) (hp2:p≤1000000000):
  ∃(v:Bool) (q:Int),Np n b p=some (v,q)∧p≤q∧q≤p+1:=by
 unfold Np N7w
 by_cases h:n>0
 ·obtain⟨v,hv,_⟩:=pick_ok hb n hn hp hp2
  rw[decide_eq_true h,hv]
  exact⟨_,_,rfl,by show p≤p+1;omega,by show p+1≤p+1;omega⟩
 ·rw[decide_eq_false h]
  exact⟨_,_,rfl,by omega,by omega⟩
theorem open_ok (x:List Int) (w: ∀n∈x,(Lit.int .u8 n).wf=true) (l:x.length≤maxLen): ∃b,N3x x=some b∧Bytes b:=by
 have hr: ∀n∈x,0≤n∧n≤255:=fun n hn=>by
  have:=w n hn
  simp only[Lit.wf,Bool.and_eq_true,decide_eq_true_eq] at this
  have e1:IntKind.u8.min=0:=rfl
  have e2:IntKind.u8.max=255:=rfl
  omega
 unfold N3x Naq
 by_cases h:((x.length:Nat):Int)>2000
 ·rw[decide_eq_true h]
  have:inc 2000 x.length=some 2000:=by simp only[inc];rw[if_pos (by omega)];rfl
  rw[this]
  exact⟨_,rfl,⟨fun n hn=>hr n (List.mem_of_mem_take (List.mem_of_mem_drop hn)),by simp;omega⟩⟩
 ·rw[decide_eq_false h]
  exact⟨x,rfl,⟨hr,by omega⟩⟩
theorem inc_ok {i:Int} {n:Nat} (h0:0≤i) (h1:i≤n):inc i n=some i.toNat:=by simp only[inc];rw[if_pos ⟨h0,h1⟩]
theorem inb_ok {i:Int} {n:Nat} (h0:0≤i) (h1:i<n):inb i n=some i.toNat:=by simp only[inb];rw[if_pos ⟨h0,h1⟩]
theorem ins_step {o:List Int} {i:Nat} {x:Int} (hi:i≤o.length) (hl:o.length≤1000):
  (room ((List.length ([]:List Int))+List.length ((o.drop 0).take (i-0))))=some ()∧room ((List.length (([]:List Int)++((o.drop 0).take (i-0))))+List.length ([x]))=some ()∧
  room ((List.length ((([]:List Int)++((o.drop 0).take (i-0)))++([x])))+List.length ((o.drop i).take ((List.length o)-i)))=some ()∧
  (((([]:List Int)++((o.drop 0).take (i-0)))++([x]))++((o.drop i).take ((List.length o)-i)))=o.take i++ [x]++o.drop i:=by
 refine⟨by rw[room_le];simp;omega,by rw[room_le];simp;omega,by rw[room_le];simp;omega,?_⟩
 simp only[List.nil_append,List.drop_zero,Nat.sub_zero]
 rw[List.take_of_length_le (l:=o.drop i) (by simp)]
theorem order_ok {b:List Int} (hb:Bytes b) (n:Nat) (hn:n≤20) {p:Int} (hp:0≤p) (hp2:p≤999999000):
  ∃(q:Int) (o:List Int),N3h n b p=some (q,o)∧p≤q∧q≤p+100∧o.length=n∧ ∀x∈o,1≤x∧x≤(n:Int):=by
 unfold N3h Nkw N9i
 obtain⟨keep,hk,_⟩:=pick_ok hb 2 (by omega) hp (by omega)
 rw[hk]
 simp only[Option.bind_some]
 unfold No1 Nji Nbv No4 Np7
 obtain⟨⟨q,o⟩,h1,h2,h3,h4,h5⟩:=nloop_ex (body:=fun(s:Int×Int×List Int)=>((N6t n keep s.1 b s.2.1 s.2.2).map (Sum.elim (fun(t:Int×Int×List Int)=>Sum.inl (t.1,t.2.1,t.2.2)) (fun(t:Int×List Int)=>Sum.inr t)):Option ((Int×Int×List Int)⊕((Int×List Int)))))
  (I:=fun s=> ∃(k:Nat) (q:Int) (o:List Int),s=(((k+1:Nat):Int),q,o)∧k≤n∧p≤q∧q≤p+1+2*k∧o.length=k∧ ∀x∈o,1≤x∧x≤(k:Int)) (μ:=fun s=>n+1-s.1.toNat)
  (Q:=fun t=>p≤t.1∧t.1≤p+100∧t.2.length=n∧ ∀x∈t.2,1≤x∧x≤(n:Int))
  (by
   rintro _ ⟨k,q,o,rfl,hk,hq1,hq2,ho,hx⟩
   simp only[N6t]
   by_cases hlt:k<n
   ·left
    rw[show decide (((k+1:Nat):Int)≤(n:Int))=true from decide_eq_true (by omega),wrap64 (x:=((k+1:Nat):Int)+1) (by omega) (by omega)]
    have fin: ∀(i:Nat) (q':Int),i≤o.length→p≤q'→q'≤q+2→(∃k_1 q_1 o_1,((((k+1:Nat):Int)+1,q',o.take i++ [((k+1:Nat):Int)]++o.drop i):Int×Int×List Int)=(((k_1+1:Nat):Int),q_1,o_1)∧k_1≤n∧p≤q_1∧q_1≤p+1+2*(k_1:Int)∧o_1.length=k_1∧ ∀x∈o_1,1≤x∧x≤(k_1:Int))∧
      n+1-(((k+1:Nat):Int)+1).toNat<n+1-(((k+1:Nat):Int)).toNat:=fun i q' hi hq3 hq4=>by
     refine⟨⟨k+1,q',_,by push_cast;rfl,by omega,hq3,by push_cast;omega,by simp;omega,fun x hxm=> ?_⟩,by omega⟩
     simp only[List.mem_append,List.mem_singleton] at hxm
     rcases hxm with(h|h)|h
     ·have:=hx x (List.mem_of_mem_take h);push_cast;omega
     ·subst h;push_cast;omega
     ·have:=hx x (List.mem_of_mem_drop h);push_cast;omega
    have one: ∀(v:Int),0≤v→v≤o.length→ ∀q':Int,(inc v (List.length o)).bind (fun(v426:Nat)=>(room ((List.length ([]:List Int))+List.length ((o.drop 0).take (v426-0)))).bind fun(v430:Unit)=>(room ((List.length (([]:List Int)++((o.drop 0).take (v426-0))))+List.length ([((k+1:Nat):Int)]))).bind fun(v434:Unit)=>(inc v (List.length o)).bind fun(v437:Nat)=>(room ((List.length ((([]:List Int)++((o.drop 0).take (v426-0)))++([((k+1:Nat):Int)])))+List.length ((o.drop v437).take ((List.length o)-v437)))).bind fun(v441:Unit)=>
      some (Sum.inl ((((k+1:Nat):Int)+1),q',(((([]:List Int)++((o.drop 0).take (v426-0)))++([((k+1:Nat):Int)]))++((o.drop v437).take ((List.length o)-v437))))))=(some (Sum.inl ((((k+1:Nat):Int)+1),q',o.take v.toNat++ [((k+1:Nat):Int)]++o.drop v.toNat)):Option ((Int×Int×List Int)⊕(Int×List Int))):=fun v hv0 hv1 q'=>by
     obtain⟨r1,r2,r3,r4⟩:=ins_step (o:=o) (i:=v.toNat) (x:=((k+1:Nat):Int)) (by omega) (by omega)
     simp only[inc_ok hv0 hv1,Option.bind_some,r1,r2,r3,r4]
    obtain⟨v1,hv1,a1,b1,_⟩:=pick_ok hb ((k+1:Nat):Int) (by omega) (p:=q) (by omega) (by omega)
    have b1':=b1 (by omega)
    obtain⟨v3,hv3,a3,b3,_⟩:=pick_ok hb 3 (by omega) (p:=q) (by omega) (by omega)
    obtain⟨v2,hv2,a2,b2,_⟩:=pick_ok hb ((k+1:Nat):Int) (by omega) (p:=q+1) (by omega) (by omega)
    have b2':=b2 (by omega)
    cases hkeep:(keep==0) with
    |true=>
     simp only[cond_true,hv1,Option.bind_some]
     rw[one v1 a1 (by omega) (q+1)]
     exact⟨_,rfl,fin v1.toNat (q+1) (by omega) (by omega) (by omega)⟩
    |false=>
     simp only[cond_true,cond_false,hv3,Option.bind_some]
     cases h3:(v3==0) with
     |true=>
      simp only[cond_true,hv2,Option.bind_some]
      rw[one v2 a2 (by omega) (q+1+1)]
      exact⟨_,rfl,fin v2.toNat (q+1+1) (by omega) (by omega) (by omega)⟩
     |false=>
      simp only[cond_false]
      rw[one ((o.length:Nat):Int) (by omega) (by omega) (q+1)]
      exact⟨_,rfl,fin (((o.length:Nat):Int)).toNat (q+1) (by omega) (by omega) (by omega)⟩
   ·right
    have e:k=n:=by omega
    subst e
    rw[show decide (((k+1:Nat):Int)≤(k:Int))=false from decide_eq_false (by omega)]
    exact⟨_,rfl,hq1,by show q≤p+100;omega,ho,hx⟩) LL (1,p+1,[]) ⟨0,p+1,[],rfl,by omega,by omega,by omega,rfl,by simp⟩ (by simp only[LL];omega)
 rw[h1]
 exact⟨q,o,rfl,h2,h3,h4,h5⟩
def bytesN (mv:ByteArray):List Nat:=mv.data.toList.map fun b=>b.toNat
theorem bytesN_length (mv:ByteArray):(bytesN mv).length=mv.size:=by rw[bytesN,List.length_map,Array.length_toList];rfl
theorem bidx_ok {mv:ByteArray} {k:Nat} (hk:k<mv.size):bidx mv (k:Int)=some ((((bytesN mv)[k]'(by rw[bytesN_length];exact hk):Nat)):Int):=by
 unfold bidx
 rw[if_pos (by omega)]
 simp only[Int.toNat_natCast]
 rw[getElem?_pos mv k hk]
 simp only[Option.map_some,bytesN,List.getElem_map]
 rfl
theorem toList_loop (b:ByteArray): ∀(n i:Nat) (r:List UInt8),i+n=b.size→ByteArray.toList.loop b i r=r.reverse++b.data.toList.drop i
 |0,i,r,h=>by
  have hs:b.size=b.data.toList.length:=by rw[Array.length_toList];rfl
  rw[ByteArray.toList.loop,if_neg (by omega),List.drop_eq_nil_of_le (by omega),List.append_nil]
 |n+1,i,r,h=>by
  have hs:b.size=b.data.toList.length:=by rw[Array.length_toList];rfl
  rw[ByteArray.toList.loop,if_pos (by omega),toList_loop b n (i+1) _ (by omega),List.reverse_cons,List.append_assoc]
  have e:b.get! i=b.data.toList[i]'(by omega):=by
   have hi:i<b.data.size:=by have:b.data.size=b.size:=rfl;omega
   show b.data[i]! =_
   rw[getElem!_pos b.data i hi]
   rfl
  rw[e,List.drop_eq_getElem_cons (show i<b.data.toList.length by omega)]
  rfl
theorem toList_data (b:ByteArray):b.toList=b.data.toList:=by
 have:=toList_loop b b.size 0 [] (by omega)
 unfold ByteArray.toList
 rw[this]
 rfl
theorem bytesN_inj {a b:ByteArray} (h:bytesN a=bytesN b):a=b:=by
 have h1:a.data.toList=b.data.toList:=by
  unfold bytesN at h
  refine List.map_inj_right (f:=fun b:UInt8=>b.toNat) (fun x y e=>UInt8.toNat_inj.mp e)|>.mp h
 exact ByteArray.ext (Array.toList_inj.mp h1)
theorem seqs_iff {a b:ByteArray}:seqs a b=true↔a=b:=by
 unfold seqs
 rw[beq_iff_eq,toList_data,toList_data]
 exact⟨fun h=>ByteArray.ext (Array.toList_inj.mp h),fun h=>by rw[h]⟩
theorem seqs_self (a:ByteArray):seqs a a=true:=seqs_iff.mpr rfl
theorem seqs_ne {a b:ByteArray} (h:a≠b):seqs a b=false:=by
 rw[Bool.eq_false_iff]
 exact fun x=>h (seqs_iff.mp x)
theorem bytesN_app (a b:ByteArray):bytesN (a++b)=bytesN a++bytesN b:=by
 simp[bytesN,ByteArray.data_append]
theorem bytesN_extract (a:ByteArray) (i j:Nat):bytesN (a.extract i j)=((bytesN a).take j).drop i:=by
 unfold bytesN
 rw[ByteArray.data_extract,Array.toList_extract,List.extract_eq_take_drop,List.map_take,List.map_drop,List.drop_take]
theorem bytesN_empty:bytesN ByteArray.empty=[]:=rfl
theorem bytesN_lt {a:ByteArray}: ∀x∈bytesN a,x<256:=by
 intro x hx
 unfold bytesN at hx
 obtain⟨b,_,rfl⟩:=List.mem_map.mp hx
 exact b.toNat_lt
theorem catT {a b:ByteArray} (h:a.size+b.size≤1000000000):cat a b=some (a++b):=by
 unfold cat
 rw[if_pos (by simp only[maxLen];omega)]
def cutL (sep:Nat):List Nat→List Nat→List (List Nat)
 |acc,[]=> [acc]
 |acc,x::r=>if x=sep then acc::cutL sep [] r else cutL sep (acc++ [x]) r
theorem cutL_plain {sep:Nat}: ∀{l acc:List Nat},sep∉l→cutL sep acc l=[acc++l]
 |[],acc,_=>by simp[cutL]
 |x::l,acc,h=>by
  have hx:x≠sep:=fun e=>h (by rw[e];exact List.mem_cons_self ..)
  rw[cutL,if_neg hx,cutL_plain (fun m=>h (List.mem_cons_of_mem _ m))]
  simp
theorem cutL_cut {sep:Nat} {r:List Nat}: ∀{l acc:List Nat},sep∉l→cutL sep acc (l++sep::r)=(acc++l)::cutL sep [] r
 |[],acc,_=>by simp[cutL]
 |x::l,acc,h=>by
  have hx:x≠sep:=fun e=>h (by rw[e];exact List.mem_cons_self ..)
  rw[List.cons_append,cutL,if_neg hx,cutL_cut (fun m=>h (List.mem_cons_of_mem _ m))]
  simp
abbrev cutBody (s:ByteArray) (sep:Int):Int×Int×List ByteArray→Option ((Int×Int×List ByteArray)⊕(Int×List ByteArray)):=
 fun(t:Int×Int×(List ByteArray))=>((N3y s sep t.1 t.2.1 t.2.2).map (Sum.elim (fun(t:Int×Int×(List ByteArray))=>Sum.inl (t.1,t.2.1,t.2.2)) (fun(t:Int×(List ByteArray))=>Sum.inr t)):Option ((Int×Int×(List ByteArray))⊕((Int×(List ByteArray)))))
theorem cut_loop (s:ByteArray) (sep:Nat) (hs:s.size≤1000000000): ∀(r k f:Nat) (out:List ByteArray) (N:Nat),k+r=s.size→r<N→f≤k→out.length≤k→
  ∃(f':Nat) (out':List ByteArray),nloop (cutBody s (sep:Int)) N ((f:Int),(k:Int),out)=some ((f':Int),out')∧f'≤s.size∧out'.length≤s.size∧
   out'.map bytesN++ [((bytesN s).take s.size).drop f']=out.map bytesN++cutL sep (((bytesN s).take k).drop f) ((bytesN s).drop k)
 |r,k,f,out,0,_,h,_,_=>by omega
 |0,k,f,out,N+1,hk,_,hf,ho=>by
  have e:k=s.size:=by omega
  subst e
  refine⟨f,out,?_,hf,ho,?_⟩
  ·rw[nloop]
   simp only[cutBody,N3y]
   rw[decide_eq_false (show¬((s.size:Nat):Int)<((s.size:Nat):Int) by omega)]
   rfl
  ·rw[show(bytesN s).drop s.size=[] from List.drop_eq_nil_of_le (by rw[bytesN_length];omega),cutL]
 |r+1,k,f,out,N+1,hk,hN,hf,ho=>by
  have hks:k<s.size:=by omega
  have hl:k<(bytesN s).length:=by rw[bytesN_length];exact hks
  have dr:(bytesN s).drop k=(bytesN s)[k]::(bytesN s).drop (k+1):=List.drop_eq_getElem_cons hl
  rw[nloop]
  by_cases c:(bytesN s)[k]=sep
  ·have i1:inc (k:Int) s.size=some k:=by unfold inc;rw[if_pos (by omega)];simp
   have i2:inc (f:Int) k=some f:=by unfold inc;rw[if_pos (by omega)];simp
   have st:cutBody s (sep:Int) ((f:Int),(k:Int),out)=some (.inl (((k+1:Nat):Int),((k+1:Nat):Int),out++ [s.extract f k])):=by
    simp only[cutBody,N3y]
    rw[decide_eq_true (show(k:Int)<((s.size:Nat):Int) by omega),bidx_ok hks,c]
    simp only[cond_true,Option.bind_some,beq_self_eq_true,i1,i2]
    rw[show room (out.length+ [s.extract f k].length)=some () by unfold room;rw[if_pos (by simp only[List.length_cons,List.length_nil];omega)],wrap64 (by omega) (by omega)]
    rfl
   obtain⟨f',out',h1,h2,h3,h4⟩:=cut_loop s sep hs r (k+1) (k+1) (out++ [s.extract f k]) N (by omega) (by omega) (Nat.le_refl _) (by simp;omega)
   refine⟨f',out',?_,h2,h3,?_⟩
   ·rw[st]
    exact h1
   ·rw[h4,dr,cutL,if_pos c,List.map_append,List.map_cons,List.map_nil,bytesN_extract,List.append_assoc]
    congr 2
    rw[List.singleton_append]
    congr 1
    rw[List.drop_eq_nil_of_le (by rw[List.length_take];omega)]
  ·have st:cutBody s (sep:Int) ((f:Int),(k:Int),out)=some (.inl ((f:Int),((k+1:Nat):Int),out)):=by
    simp only[cutBody,N3y]
    rw[decide_eq_true (show(k:Int)<((s.size:Nat):Int) by omega),bidx_ok hks]
    simp only[cond_true,Option.bind_some]
    rw[beq_eq_false_iff_ne.mpr (by omega),wrap64 (by omega) (by omega)]
    rfl
   obtain⟨f',out',h1,h2,h3,h4⟩:=cut_loop s sep hs r (k+1) f out N (by omega) (by omega) (by omega) (by omega)
   refine⟨f',out',?_,h2,h3,?_⟩
   ·rw[st]
    exact h1
   ·rw[h4,dr,cutL,if_neg c]
    congr 2
    rw[List.take_succ_eq_append_getElem hl,List.drop_append_of_le_length (by rw[List.length_take];omega)]
theorem specCut_eq (s:ByteArray) (sep:Nat) (hs:s.size≤1000000000): ∃out,N3t s (sep:Int)=some out∧out.map bytesN=cutL sep [] (bytesN s):=by
 have e:N3t s (sep:Int)=Ng9 s (sep:Int):=by unfold N3t;rfl
 obtain⟨f',out',h1,h2,h3,h4⟩:=cut_loop s sep hs s.size 0 0 [] LL (by omega) (by simp only[LL];omega) (Nat.le_refl _) (by simp)
 have i1:inc (f':Int) s.size=some f':=by unfold inc;rw[if_pos (by omega)];simp
 refine⟨out'++ [s.extract f' s.size],?_,?_⟩
 ·rw[e]
  unfold Ng9 N80 Nj3 Nk5 Nck Nk3 Nmg
  have h1':nloop (cutBody s (sep:Int)) LL (0,0,[])=_:=h1
  simp only[Option.bind_some]
  rw[show(nloop _ LL ((0:Int),(0:Int),([]:List ByteArray)):Option (Int×List ByteArray))=some ((f':Int),out') from h1']
  simp only[Option.map_some,Option.bind_some]
  unfold Nbz
  rw[i1]
  simp only[Option.bind_some]
  rw[show room (out'.length+ [s.extract f' s.size].length)=some () by unfold room;rw[if_pos (by simp only[List.length_cons,List.length_nil];omega)]]
  rfl
 ·rw[List.map_append,List.map_cons,List.map_nil,bytesN_extract,h4]
  simp
noncomputable def numT (n:Nat):ByteArray:=(Nx (n:Int)).getD ByteArray.empty
def decB (l:List Nat):Nat:=l.foldl (fun a x=>10*a+(x-48)) 0
def numChk (n:Nat):Bool:=match Nx (n:Int) with
 |some t=>decide (1≤t.size)&&decide (t.size≤2)&&(bytesN t).all (fun x=>decide (48≤x)&&decide (x≤57))&&(decB (bytesN t)==n)
 |none=>false
theorem num_tab:((List.range 100).all numChk)=true:=by decide+kernel
theorem num_ok {n:Nat} (h:n<100):Nx (n:Int)=some (numT n)∧1≤(numT n).size∧(numT n).size≤2∧(∀x∈bytesN (numT n),48≤x∧x≤57)∧decB (bytesN (numT n))=n:=by
 have h1:=List.all_eq_true.mp num_tab n (List.mem_range.mpr h)
 unfold numChk at h1
 split at h1
 ·rename_i t ht
  have e:numT n=t:=by unfold numT;rw[ht];rfl
  simp only[Bool.and_eq_true,decide_eq_true_eq,beq_iff_eq] at h1
  rw[e]
  refine⟨ht,h1.1.1.1,h1.1.1.2,fun x hx=> ?_,h1.2⟩
  have:=List.all_eq_true.mp h1.1.2 x hx
  simpa using this
 ·cases h1
def numDig (n:Nat):Bool:=match Nx (n:Int) with
 |some t=>N14 t==some (n:Int)
 |none=>false
theorem dig_tab:((List.range 100).all numDig)=true:=by decide+kernel
theorem num_dig {n:Nat} (h:n<100):N14 (numT n)=some (n:Int):=by
 have h1:=List.all_eq_true.mp dig_tab n (List.mem_range.mpr h)
 unfold numDig at h1
 rw[(num_ok h).1] at h1
 simpa using h1
def deedB (k a b:Int):Bool:=
 (k==0&&decide (0≤a)&&decide (a≤99)&&decide (0≤b)&&decide (b≤99))||(k==1&&decide (0≤a)&&decide (a≤99)&&b==0)||(decide (2≤k)&&decide (k≤5)&&a==0&&b==0)
noncomputable def deedT (k a b:Int):ByteArray:=(Nh k a b).getD ByteArray.empty
def headW:ByteArray:=ByteArray.mk #[104,101,97,100,32]
def addW:ByteArray:=ByteArray.mk #[97,100,100,32]
def spaceW:ByteArray:=ByteArray.mk #[32]
def wordW (k:Int):ByteArray:=if k=2 then ByteArray.mk #[100,114,111,112] else if k=3 then ByteArray.mk #[116,117,114,110] else if k=4 then ByteArray.mk #[102,108,97,116] else ByteArray.mk #[98,97,99,107]
theorem deed_some (k a b:Int): ∃t,Nh k a b=some t∧(deedB k a b=false→t=ByteArray.empty)∧
  (∀n m:Nat,n<100→m<100→k=0→a=(n:Int)→b=(m:Int)→t=headW++numT n++spaceW++numT m)∧
  (∀n:Nat,n<100→k=1→a=(n:Int)→b=0→t=addW++numT n)∧(2≤k→k≤5→a=0→b=0→t=wordW k):=by
 have e:Nh k a b=Nhq k a b:=by unfold Nh;rfl
 rw[e]
 unfold Nhq N86 Nnx Nj9 Nl8 Nb3
 simp only[Option.bind_some]
 by_cases k0:k=0
 ·subst k0
  rw[l1In_eq,l1In_eq]
  by_cases r:(0≤a∧a≤99)∧(0≤b∧b≤99)
  ·obtain⟨n,rfl⟩: ∃n:Nat,a=(n:Int):=⟨a.toNat,by omega⟩
   obtain⟨m,rfl⟩: ∃m:Nat,b=(m:Int):=⟨b.toNat,by omega⟩
   obtain⟨n1,n2,n3,_⟩:=num_ok (n:=n) (by omega)
   obtain⟨m1,m2,m3,_⟩:=num_ok (n:=m) (by omega)
   refine⟨headW++numT n++spaceW++numT m,?_,fun f=> ?_,fun n' m' _ _ _ ea eb=> ?_,fun _ _ h=>by omega,fun h=>by omega⟩
   ·simp only[beq_self_eq_true,cond_true,Option.bind_some]
    rw[decide_eq_true r.1.1,decide_eq_true r.1.2,decide_eq_true r.2.1,decide_eq_true r.2.2]
    simp only[Bool.and_self,cond_true,Option.bind_some]
    unfold Nhi Nc0
    have s1:(headW++numT n).size≤7:=by rw[ByteArray.size_append];show 5+_≤7;omega
    have s2:(headW++numT n++spaceW).size≤8:=by rw[ByteArray.size_append];show _+1≤8;omega
    rw[n1,m1]
    simp only[Option.bind_some]
    rw[show cat (ByteArray.mk #[104,101,97,100,32]) (numT n)=some (headW++numT n) from catT (by show 5+_≤_;omega)]
    simp only[Option.bind_some]
    rw[show cat (headW++numT n) (ByteArray.mk #[32])=some (headW++numT n++spaceW) from catT (by show _+1≤_;omega)]
    simp only[Option.bind_some]
    rw[catT (by omega)]
    rfl
   ·simp[deedB,r] at f
   ·have h1:n'=n:=by omega
    have h2:m'=m:=by omega
    rw[h1,h2]
  ·refine⟨ByteArray.empty,?_,fun _=>rfl,fun n' m' _ _ _ ea eb=>absurd ⟨⟨by omega,by omega⟩,by omega,by omega⟩ r,fun _ _ h=>by omega,fun h=>by omega⟩
   simp only[beq_self_eq_true,cond_true,Option.bind_some]
   have f:(cond (decide (0≤a)&&decide (a≤99)) (some (decide (0≤b)&&decide (b≤99))) (some false))=some false:=by
    by_cases q:0≤a∧a≤99
    ·rw[decide_eq_true q.1,decide_eq_true q.2]
     simp only[Bool.and_self,cond_true]
     congr 1
     rw[Bool.eq_false_iff]
     intro x
     simp only[Bool.and_eq_true,decide_eq_true_eq] at x
     exact r ⟨q,x⟩
    ·have:(decide (0≤a)&&decide (a≤99))=false:=by
      rw[Bool.eq_false_iff]
      intro x
      simp only[Bool.and_eq_true,decide_eq_true_eq] at x
      exact q x
     rw[this]
     rfl
   rw[f]
   rfl
 ·rw[beq_eq_false_iff_ne.mpr k0]
  simp only[cond_false,Option.bind_some]
  unfold Nhi Nja Nc7
  simp only[cond_false]
  by_cases k1:k=1
  ·subst k1
   rw[l1In_eq]
   by_cases r:(0≤a∧a≤99)∧b=0
   ·obtain⟨n,rfl⟩: ∃n:Nat,a=(n:Int):=⟨a.toNat,by omega⟩
    obtain⟨n1,n2,n3,_⟩:=num_ok (n:=n) (by omega)
    refine⟨addW++numT n,?_,fun f=> ?_,fun _ _ _ _ h=>by omega,fun n' _ _ ea _=> ?_,fun h=>by omega⟩
    ·simp only[beq_self_eq_true,cond_true,Option.bind_some]
     rw[decide_eq_true r.1.1,decide_eq_true r.1.2,r.2]
     simp only[Bool.and_self,cond_true,beq_self_eq_true,Option.bind_some]
     unfold N77
     simp only[cond_true]
     rw[n1]
     simp only[Option.bind_some]
     rw[show cat (ByteArray.mk #[97,100,100,32]) (numT n)=some (addW++numT n) from catT (by show 4+_≤_;omega)]
     rfl
    ·simp[deedB,r] at f
    ·have h1:n'=n:=by omega
     rw[h1]
   ·refine⟨ByteArray.empty,?_,fun _=>rfl,fun _ _ _ _ h=>by omega,fun n' _ _ ea eb=>absurd ⟨⟨by omega,by omega⟩,eb⟩ r,fun h=>by omega⟩
    simp only[beq_self_eq_true,cond_true,Option.bind_some]
    have f:(cond (decide (0≤a)&&decide (a≤99)) (some (b==0)) (some false))=some false:=by
     by_cases q:0≤a∧a≤99
     ·rw[decide_eq_true q.1,decide_eq_true q.2]
      simp only[Bool.and_self,cond_true]
      congr 1
      rw[beq_eq_false_iff_ne]
      exact fun x=>r ⟨q,x⟩
     ·have:(decide (0≤a)&&decide (a≤99))=false:=by
       rw[Bool.eq_false_iff]
       intro x
       simp only[Bool.and_eq_true,decide_eq_true_eq] at x
       exact q x
      rw[this]
      rfl
    rw[f]
    rfl
  ·rw[beq_eq_false_iff_ne.mpr k1]
   simp only[cond_false,Option.bind_some]
   unfold N77
   simp only[cond_false,Bool.and_true]
   by_cases z:a=0∧b=0
   ·obtain⟨rfl,rfl⟩:=z
    simp only[beq_self_eq_true,Bool.and_true]
    by_cases k2:k=2
    ·subst k2
     exact⟨_,rfl,fun f=>by simp[deedB] at f,fun _ _ _ _ h=>by omega,fun _ _ h=>by omega,fun _ _ _ _=>rfl⟩
    ·rw[beq_eq_false_iff_ne.mpr k2]
     by_cases k3:k=3
     ·subst k3
      exact⟨_,rfl,fun f=>by simp[deedB] at f,fun _ _ _ _ h=>by omega,fun _ _ h=>by omega,fun _ _ _ _=>rfl⟩
     ·rw[beq_eq_false_iff_ne.mpr k3]
      by_cases k4:k=4
      ·subst k4
       exact⟨_,rfl,fun f=>by simp[deedB] at f,fun _ _ _ _ h=>by omega,fun _ _ h=>by omega,fun _ _ _ _=>rfl⟩
      ·rw[beq_eq_false_iff_ne.mpr k4]
       by_cases k5:k=5
       ·subst k5
        exact⟨_,rfl,fun f=>by simp[deedB] at f,fun _ _ _ _ h=>by omega,fun _ _ h=>by omega,fun _ _ _ _=>rfl⟩
       ·rw[beq_eq_false_iff_ne.mpr k5]
        exact⟨_,rfl,fun _=>rfl,fun _ _ _ _ h=>by omega,fun _ _ h=>by omega,fun _ _ _ _=>by omega⟩
   ·have f:((a==0)&&(b==0))=false:=by
     rw[Bool.eq_false_iff]
     intro x
     simp only[Bool.and_eq_true,beq_iff_eq] at x
     exact z x
    rw[f]
    simp only[Bool.and_false]
    exact⟨_,rfl,fun _=>rfl,fun _ _ _ _ h=>by omega,fun _ _ h=>by omega,fun _ _ ea eb=>absurd ⟨ea,eb⟩ z⟩
theorem specDeed_eq (k a b:Int):Nh k a b=some (deedT k a b):=by
 obtain⟨t,h,_⟩:=deed_some k a b
 unfold deedT
 rw[h]
 rfl
theorem deedT_is {k a b:Int} {t:ByteArray} (h:Nh k a b=some t):deedT k a b=t:=by unfold deedT;rw[h];rfl
theorem deed_none {k a b:Int} (h:deedB k a b=false):deedT k a b=ByteArray.empty:=by
 obtain⟨t,h1,h2,_⟩:=deed_some k a b
 rw[deedT_is h1,h2 h]
theorem deed_head {n m:Nat} (hn:n<100) (hm:m<100):deedT 0 (n:Int) (m:Int)=headW++numT n++spaceW++numT m:=by
 obtain⟨t,h1,_,h2,_⟩:=deed_some 0 (n:Int) (m:Int)
 rw[deedT_is h1,h2 n m hn hm rfl rfl rfl]
theorem deed_add {n:Nat} (hn:n<100):deedT 1 (n:Int) 0=addW++numT n:=by
 obtain⟨t,h1,_,_,h2,_⟩:=deed_some 1 (n:Int) 0
 rw[deedT_is h1,h2 n hn rfl rfl rfl]
theorem deed_word {k:Int} (h2:2≤k) (h5:k≤5):deedT k 0 0=wordW k:=by
 obtain⟨t,h1,_,_,_,h⟩:=deed_some k 0 0
 rw[deedT_is h1,h h2 h5 rfl rfl]
theorem deedB_cases {k a b:Int} (h:deedB k a b=true):(∃n m:Nat,n<100∧m<100∧k=0∧a=(n:Int)∧b=(m:Int))∨(∃n:Nat,n<100∧k=1∧a=(n:Int)∧b=0)∨(2≤k∧k≤5∧a=0∧b=0):=by
 unfold deedB at h
 simp only[Bool.or_eq_true,Bool.and_eq_true,beq_iff_eq,decide_eq_true_eq] at h
 rcases h with(h|h)|h
 ·exact .inl ⟨a.toNat,b.toNat,by omega,by omega,by omega,by omega,by omega⟩
 ·exact .inr (.inl ⟨a.toNat,by omega,by omega,by omega,by omega⟩)
 ·exact .inr (.inr ⟨h.1.1.1,h.1.1.2,h.1.2,h.2⟩)
theorem wordW_eq {k:Int} (h2:2≤k) (h5:k≤5):k=2∨k=3∨k=4∨k=5:=by omega
theorem no_space {n:Nat} (h:n<100):32∉bytesN (numT n):=fun m=>by
 have:=(num_ok h).2.2.2.1 32 m
 omega
theorem pieces_head {n m:Nat} (hn:n<100) (hm:m<100):cutL 32 [] (bytesN (deedT 0 (n:Int) (m:Int)))=[[104,101,97,100],bytesN (numT n),bytesN (numT m)]:=by
 rw[deed_head hn hm,bytesN_app,bytesN_app,bytesN_app]
 have e:bytesN headW++bytesN (numT n)++bytesN spaceW++bytesN (numT m)=[104,101,97,100]++32::(bytesN (numT n)++32::bytesN (numT m)):=by
  rw[show bytesN headW=[104,101,97,100,32] from rfl,show bytesN spaceW=[32] from rfl]
  simp
 rw[e,cutL_cut (by decide),cutL_cut (no_space hn),cutL_plain (no_space hm)]
 rfl
theorem pieces_add {n:Nat} (hn:n<100):cutL 32 [] (bytesN (deedT 1 (n:Int) 0))=[[97,100,100],bytesN (numT n)]:=by
 rw[deed_add hn,bytesN_app]
 have e:bytesN addW++bytesN (numT n)=[97,100,100]++32::bytesN (numT n):=by
  rw[show bytesN addW=[97,100,100,32] from rfl]
  simp
 rw[e,cutL_cut (by decide),cutL_plain (no_space hn)]
 rfl
theorem pieces_word {k:Int} (h2:2≤k) (h5:k≤5):cutL 32 [] (bytesN (deedT k 0 0))=[bytesN (wordW k)]:=by
 rw[deed_word h2 h5]
 rcases wordW_eq h2 h5 with rfl|rfl|rfl|rfl<;>exact cutL_plain (by decide)
theorem numT_inj {n m:Nat} (hn:n<100) (hm:m<100) (h:bytesN (numT n)=bytesN (numT m)):n=m:=by
 have a:=(num_ok hn).2.2.2.2
 rw[h,(num_ok hm).2.2.2.2] at a
 exact a.symm
theorem deed_inj {k a b k' a' b':Int} (h:deedB k a b=true) (h':deedB k' a' b'=true) (e:deedT k a b=deedT k' a' b'):k=k'∧a=a'∧b=b':=by
 rcases deedB_cases h with⟨n,m,hn,hm,rfl,rfl,rfl⟩|⟨n,hn,rfl,rfl,rfl⟩|⟨h2,h5,rfl,rfl⟩<;>
  rcases deedB_cases h' with⟨n',m',hn',hm',rfl,rfl,rfl⟩|⟨n',hn',rfl,rfl,rfl⟩|⟨h2',h5',rfl,rfl⟩
 ·have c:=congrArg (fun t=>cutL 32 [] (bytesN t)) e
  simp only[pieces_head hn hm,pieces_head hn' hm',List.cons.injEq] at c
  have x:=numT_inj hn hn' c.2.1
  have y:=numT_inj hm hm' c.2.2.1
  exact⟨rfl,by omega,by omega⟩
 ·have c:=congrArg (fun t=>(cutL 32 [] (bytesN t)).length) e
  simp only[pieces_head hn hm,pieces_add hn'] at c
  simp at c
 ·have c:=congrArg (fun t=>(cutL 32 [] (bytesN t)).length) e
  simp only[pieces_head hn hm,pieces_word h2' h5'] at c
  simp at c
 ·have c:=congrArg (fun t=>(cutL 32 [] (bytesN t)).length) e
  simp only[pieces_head hn' hm',pieces_add hn] at c
  simp at c
 ·have c:=congrArg (fun t=>cutL 32 [] (bytesN t)) e
  simp only[pieces_add hn,pieces_add hn',List.cons.injEq] at c
  have x:=numT_inj hn hn' c.2.1
  exact⟨rfl,by omega,rfl⟩
 ·have c:=congrArg (fun t=>(cutL 32 [] (bytesN t)).length) e
  simp only[pieces_add hn,pieces_word h2' h5'] at c
  simp at c
 ·have c:=congrArg (fun t=>(cutL 32 [] (bytesN t)).length) e
  simp only[pieces_head hn' hm',pieces_word h2 h5] at c
  simp at c
 ·have c:=congrArg (fun t=>(cutL 32 [] (bytesN t)).length) e
  simp only[pieces_add hn',pieces_word h2 h5] at c
  simp at c
 ·rw[deed_word h2 h5,deed_word h2' h5'] at e
  have c:=congrArg bytesN e
  rcases wordW_eq h2 h5 with rfl|rfl|rfl|rfl<;>rcases wordW_eq h2' h5' with rfl|rfl|rfl|rfl<;>first|exact⟨rfl,rfl,rfl⟩|exact absurd c (by decide)
theorem deed_size {k a b:Int} (h:deedB k a b=true):1≤(deedT k a b).size∧(deedT k a b).size≤10:=by
 rcases deedB_cases h with⟨n,m,hn,hm,rfl,rfl,rfl⟩|⟨n,hn,rfl,rfl,rfl⟩|⟨h2,h5,rfl,rfl⟩
 ·have x:=num_ok hn
  have y:=num_ok hm
  rw[deed_head hn hm,ByteArray.size_append,ByteArray.size_append,ByteArray.size_append,show headW.size=5 from rfl,show spaceW.size=1 from rfl]
  omega
 ·have x:=num_ok hn
  rw[deed_add hn,ByteArray.size_append,show addW.size=4 from rfl]
  omega
 ·rw[deed_word h2 h5]
  rcases wordW_eq h2 h5 with rfl|rfl|rfl|rfl<;>exact⟨by decide,by decide⟩
theorem deed_ne {k a b:Int} (h:deedB k a b=true):deedT k a b≠ByteArray.empty:=fun e=>by
 have:=(deed_size h).1
 rw[e] at this
 exact absurd this (by decide)
theorem deed_iff {k a b:Int}:deedT k a b≠ByteArray.empty↔deedB k a b=true:=by
 constructor
 ·intro h
  cases c:deedB k a b with
  |true=>rfl
  |false=>exact absurd (deed_none c) h
 ·exact deed_ne
abbrev DeedL:=Int×Int×Int×Unit
theorem roomT {n:Nat} (h:n≤1000000000):room n=some ():=by unfold room;rw[if_pos (by omega)]
abbrev digBody (t:ByteArray):Int×Int→Option ((Int×Int)⊕(Int⊕Int)):=
 fun(s:Int×Int)=>((N5q t s.1 s.2).map (Sum.elim (fun(t:Int×Int)=>Sum.inl (t.1,t.2)) (Sum.elim (fun(t:Int)=>Sum.inr (Sum.inl t)) (fun(t:Int)=>Sum.inr (Sum.inr t)))):Option ((Int×Int)⊕(Int⊕Int)))
theorem dig_loop (t:ByteArray) (h:t.size≤100000000): ∀(r k N:Nat) (n:Int),k+r=t.size→r<N→ ∃v,nloop (digBody t) N (n,(k:Int))=some v
 |r,k,0,n,_,h=>by omega
 |0,k,N+1,n,hk,_=>by
  have e:k=t.size:=by omega
  subst e
  rw[nloop]
  simp only[digBody,N5q]
  rw[decide_eq_false (show¬((t.size:Nat):Int)<((t.size:Nat):Int) by omega)]
  exact⟨_,rfl⟩
 |r+1,k,N+1,n,hk,hN=>by
  have hks:k<t.size:=by omega
  rw[nloop]
  have st:(∃v,digBody t (n,(k:Int))=some (.inr v))∨ ∃m,digBody t (n,(k:Int))=some (.inl (m,((k+1:Nat):Int))):=by
   simp only[digBody,N5q]
   rw[decide_eq_true (show(k:Int)<((t.size:Nat):Int) by omega),bidx_ok hks,wrap64 (x:=(k:Int)+1) (by omega) (by omega)]
   simp only[cond_true,Option.bind_some]
   cases decide ((((bytesN t)[k]'(by rw[bytesN_length];exact hks):Nat):Int)<48) with
   |true=>exact .inl ⟨_,rfl⟩
   |false=>
    cases decide ((((bytesN t)[k]'(by rw[bytesN_length];exact hks):Nat):Int)>57) with
    |true=>exact .inl ⟨_,rfl⟩
    |false=>exact .inr ⟨_,rfl⟩
  rcases st with⟨v,e⟩|⟨m,e⟩
  ·rw[e]
   exact⟨_,rfl⟩
  ·rw[e]
   exact dig_loop t h r (k+1) N m (by omega) (by omega)
theorem digits_some (t:ByteArray) (h:t.size≤100000000): ∃v,N14 t=some v:=by
 have e:N14 t=Ng8 t:=by unfold N14;rfl
 rw[e]
 unfold Ng8 N8o
 rw[l1In_eq]
 simp only[Option.bind_some]
 cases c:(decide ((1:Int)≤((t.size:Nat):Int))&&decide (((t.size:Nat):Int)≤6)) with
 |false=>exact⟨_,rfl⟩
 |true=>
  simp only[Bool.and_eq_true,decide_eq_true_eq] at c
  have go: ∃v,Nhk t=some v:=by
   unfold Nhk Npe Nb4 Nlw No8 N97
   obtain⟨v,q⟩:=dig_loop t h t.size 0 LL 0 (by omega) (by simp only[LL];omega)
   have q':nloop (digBody t) LL (0,0)=some v:=q
   simp only[Option.bind_some]
   rw[show(nloop _ LL ((0:Int),(0:Int)):Option (Int⊕Int))=some v from q']
   cases v<;>exact⟨_,rfl⟩
  obtain⟨v,q⟩:=go
  simp only[Bool.not_true,cond_false]
  cases decide (((t.size:Nat):Int)>1) with
  |false=>
   simp only[cond_false,Option.bind_some,Sum.elim_inl]
   exact⟨v,q⟩
  |true=>
   rw[show bidx t (0:Int)=some _ from bidx_ok (mv:=t) (k:=0) (by omega)]
   simp only[cond_true,Option.bind_some]
   cases ((((bytesN t)[0]'(by rw[bytesN_length];omega):Nat):Int)==48) with
   |true=>exact⟨_,rfl⟩
   |false=>
    simp only[cond_false,Option.bind_some,Sum.elim_inl]
    exact⟨v,q⟩
noncomputable def findI (s:ByteArray) (L:List DeedL):Option DeedL:=L.find? fun c=> !(seqs s ByteArray.empty)&&seqs (deedT c.1 c.2.1 c.2.2.1) s
abbrev findBody (s:ByteArray) (L:List DeedL):Int→Option (Int⊕((Bool×Int×Int×Int)⊕Unit)):=
 fun(k:Int)=>((N5i s k L).map (Sum.elim (fun(t:Int)=>Sum.inl t) (Sum.elim (fun(t:Bool×Int×Int×Int)=>Sum.inr (Sum.inl t)) (fun(t:Unit)=>Sum.inr (Sum.inr t)))):Option ((Int)⊕((Bool×Int×Int×Int)⊕Unit)))
theorem find_loop (s:ByteArray) (L:List DeedL) (hL:L.length≤1000): ∀(r k N:Nat),k+r=L.length→r<N→
  nloop (findBody s L) N (k:Int)=some (match findI s (L.drop k) with|some c=> .inl (true,c.1,c.2.1,c.2.2.1)|none=> .inr ())
 |r,k,0,_,h=>by omega
 |0,k,N+1,hk,_=>by
  have e:k=L.length:=by omega
  subst e
  rw[nloop]
  simp only[findBody,N5i]
  rw[decide_eq_false (show¬((L.length:Nat):Int)<((L.length:Nat):Int) by omega),List.drop_length]
  rfl
 |r+1,k,N+1,hk,hN=>by
  have hkl:k<L.length:=by omega
  have ih:=find_loop s L hL r (k+1) N (by omega) (by omega)
  have i1:inb (k:Int) L.length=some k:=by unfold inb;rw[if_pos (by omega)];simp
  have g:L[k]? =some L[k]:=List.getElem?_eq_getElem hkl
  have w:IntKind.wrap .i64 ((k:Int)+1)=((k+1:Nat):Int):=by rw[wrap64 (by omega) (by omega)];omega
  rw[nloop]
  have dr:L.drop k=L[k]::L.drop (k+1):=List.drop_eq_getElem_cons hkl
  unfold findI at ih⊢
  rw[dr,List.find?_cons]
  have st:findBody s L (k:Int)=some (if !(seqs s ByteArray.empty)&&seqs (deedT L[k].1 L[k].2.1 L[k].2.2.1) s then .inr (.inl (true,L[k].1,L[k].2.1,L[k].2.2.1)) else .inl ((k+1:Nat):Int)):=by
   simp only[findBody,N5i]
   rw[decide_eq_true (show(k:Int)<((L.length:Nat):Int) by omega),i1,w]
   simp only[cond_true,Option.bind_some,g,specDeed_eq]
   cases seqs s ByteArray.empty with
   |true=>rfl
   |false=>
    cases seqs (deedT L[k].1 L[k].2.1 L[k].2.2.1) s<;>rfl
  rw[st]
  cases c:(!(seqs s ByteArray.empty)&&seqs (deedT L[k].1 L[k].2.1 L[k].2.2.1) s) with
  |true=>rfl
  |false=>
   simp only[Bool.false_eq_true,if_false,Option.bind_some]
   exact ih
noncomputable def readI (s:ByteArray):Bool×Int×Int×Int:=open Classical in
 if h: ∃d:Int×Int×Int,deedB d.1 d.2.1 d.2.2=true∧deedT d.1 d.2.1 d.2.2=s then(true,h.choose.1,h.choose.2.1,h.choose.2.2) else(false,0,0,0)
theorem read_deed {k a b:Int} (h:deedB k a b=true):readI (deedT k a b)=(true,k,a,b):=by
 have hx: ∃d:Int×Int×Int,deedB d.1 d.2.1 d.2.2=true∧deedT d.1 d.2.1 d.2.2=deedT k a b:=⟨(k,a,b),h,rfl⟩
 unfold readI
 rw[dif_pos hx]
 obtain⟨e1,e2,e3⟩:=deed_inj hx.choose_spec.1 h hx.choose_spec.2
 rw[e1,e2,e3]
theorem read_true {s:ByteArray} {k a b:Int} (h:readI s=(true,k,a,b)):deedB k a b=true∧deedT k a b=s:=by
 unfold readI at h
 split at h
 ·rename_i hx
  have e:=Prod.mk.inj h
  have e2:=Prod.mk.inj e.2
  have e3:=Prod.mk.inj e2.2
  rw[←e2.1,←e3.1,←e3.2]
  exact hx.choose_spec
 ·cases (Prod.mk.inj h).1
theorem read_none {s:ByteArray} (h: ∀k a b:Int,deedB k a b=true→deedT k a b≠s):readI s=(false,0,0,0):=by
 unfold readI
 rw[dif_neg]
 rintro⟨⟨k,a,b⟩,h1,h2⟩
 exact h k a b h1 h2
theorem find_read {s:ByteArray} {L:List DeedL} (hL: ∀k a b,deedB k a b=true→deedT k a b=s→(k,a,b,())∈L):
  (match findI s L with|some c=>(true,c.1,c.2.1,c.2.2.1)|none=>(false,(0:Int),(0:Int),(0:Int)))=readI s:=by
 cases f:findI s L with
 |some c=>
  have h1:=List.find?_some f
  simp only[Bool.and_eq_true,Bool.not_eq_true'] at h1
  have e:=seqs_iff.mp h1.2
  have ne:s≠ByteArray.empty:=fun x=>by rw[x,seqs_self] at h1;cases h1.1
  have b:deedB c.1 c.2.1 c.2.2.1=true:=deed_iff.mp (by rw[e];exact ne)
  have:=read_deed b
  rw[e] at this
  rw[this]
 |none=>
  rw[read_none]
  intro k a b hb he
  have:=List.find?_eq_none.mp f _ (hL k a b hb he)
  simp only[Bool.and_eq_true,Bool.not_eq_true',not_and] at this
  refine this ?_ ?_
  ·refine seqs_ne ?_
   rw[←he]
   exact deed_ne hb
  ·rw[he]
   exact seqs_self s
theorem specRead_eq (s:ByteArray) (hs:s.size≤100000000):N2r s=some (readI s):=by
 have e:N2r s=Nhg s:=by unfold N2r;rfl
 obtain⟨out,c1,c2⟩:=specCut_eq s 32 (by omega)
 rw[e]
 unfold Nhg N8k
 rw[show(32:Int)=((32:Nat):Int) from rfl,c1]
 simp only[Option.bind_some]
 have tail: ∀L:List DeedL,L.length≤1000→(∀k a b,deedB k a b=true→deedT k a b=s→(k,a,b,())∈L)→Nhz s L=some (readI s):=fun L hl hL=>by
  unfold Nhz Nlj N8l Nnz Nmj N7r
  have q:=find_loop s L hl L.length 0 LL (by omega) (by simp only[LL];omega)
  have q':nloop (findBody s L) LL (0:Int)=_:=q
  simp only[Option.bind_some]
  rw[show(nloop _ LL (0:Int):Option ((Bool×Int×Int×Int)⊕Unit))=_ from q',List.drop_zero,←find_read hL]
  cases findI s L<;>rfl
 have len:out.length=(cutL 32 [] (bytesN s)).length:=by rw[←c2,List.length_map]
 have words: ∀k a b,deedB k a b=true→deedT k a b=s→(2≤k→k≤5→(k,a,b,())∈([(2,0,0,()),(3,0,0,()),(4,0,0,()),(5,0,0,())]:List DeedL)):=fun k a b hb _ h2 h5=>by
  rcases deedB_cases hb with⟨n,m,_,_,rfl,_,_⟩|⟨n,_,rfl,_,_⟩|⟨_,_,rfl,rfl⟩
  ·omega
  ·omega
  ·rcases wordW_eq h2 h5 with rfl|rfl|rfl|rfl<;>simp
 have osz: ∀t∈out,t.size≤100000000:=fun t ht=>by
  have:bytesN t∈cutL 32 [] (bytesN s):=by rw[←c2];exact List.mem_map_of_mem ht
  have key: ∀(l acc:List Nat) (x:List Nat),x∈cutL 32 acc l→x.length≤acc.length+l.length:=by
   intro l
   induction l with
   |nil=>
    intro acc x hx
    rw[cutL,List.mem_singleton] at hx
    rw[hx]
    simp
   |cons y l ih=>
    intro acc x hx
    rw[cutL] at hx
    split at hx
    ·rcases List.mem_cons.mp hx with h|h
     ·rw[h]
      simp
     ·have:=ih [] x h
      simp only[List.length_nil,List.length_cons] at this⊢
      omega
    ·have:=ih _ x hx
     simp only[List.length_append,List.length_cons,List.length_nil] at this⊢
     omega
  have:=key _ _ _ this
  rw[bytesN_length,bytesN_length] at this
  simp at this
  omega
 unfold Nmp Nmn Naj
 simp only[Option.bind_some]
 unfold Nj7
 by_cases l3:out.length=3
 ·rw[show((((out.length:Nat):Int))==3)=true from beq_iff_eq.mpr (by omega)]
  unfold N90
  match out,l3 with
  |[o0,o1,o2],_=>
   obtain⟨v1,d1⟩:=digits_some o1 (osz o1 (by simp))
   obtain⟨v2,d2⟩:=digits_some o2 (osz o2 (by simp))
   have i1:inb 1 [o0,o1,o2].length=some 1:=rfl
   have i2:inb 2 [o0,o1,o2].length=some 2:=rfl
   simp only[cond_true,i1,i2,Option.bind_some,List.getElem?_cons_succ,List.getElem?_cons_zero,d1,d2]
   rw[roomT (by simp)]
   simp only[Option.map_some,Option.bind_some]
   unfold Nfw N6k
   rw[show(((([o0,o1,o2].length:Nat):Int))==2)=false from rfl]
   simp only[cond_false,Option.bind_some]
   refine tail _ (by simp) fun k a b hb he=> ?_
   rw[List.mem_append]
   rcases deedB_cases hb with⟨n,m,hn,hm,rfl,rfl,rfl⟩|⟨n,hn,rfl,rfl,rfl⟩|⟨h2,h5,rfl,rfl⟩
   ·right
    rw[←he,pieces_head hn hm] at c2
    simp only[List.map_cons,List.map_nil,List.cons.injEq,and_true] at c2
    have e1:=bytesN_inj c2.2.1
    have e2:=bytesN_inj c2.2.2
    rw[e1,num_dig hn] at d1
    rw[e2,num_dig hm] at d2
    rw[←Option.some.inj d1,←Option.some.inj d2]
    simp
   ·rw[←he,pieces_add hn] at c2
    simp at c2
   ·exact .inl (words k 0 0 hb he h2 h5)
 ·rw[show((((out.length:Nat):Int))==3)=false from beq_eq_false_iff_ne.mpr (by omega)]
  unfold N93
  simp only[cond_false,Option.map_some,Option.bind_some]
  unfold Nfw N6k
  by_cases l2:out.length=2
  ·rw[show((((out.length:Nat):Int))==2)=true from beq_iff_eq.mpr (by omega)]
   match out,l2 with
   |[o0,o1],_=>
    obtain⟨v1,d1⟩:=digits_some o1 (osz o1 (by simp))
    have i1:inb 1 [o0,o1].length=some 1:=rfl
    simp only[cond_true,i1,Option.bind_some,List.getElem?_cons_succ,List.getElem?_cons_zero,d1]
    rw[roomT (by simp)]
    simp only[Option.bind_some]
    refine tail _ (by simp) fun k a b hb he=> ?_
    rw[List.mem_append]
    rcases deedB_cases hb with⟨n,m,hn,hm,rfl,rfl,rfl⟩|⟨n,hn,rfl,rfl,rfl⟩|⟨h2,h5,rfl,rfl⟩
    ·rw[←he,pieces_head hn hm] at c2
     simp at c2
    ·right
     rw[←he,pieces_add hn] at c2
     simp only[List.map_cons,List.map_nil,List.cons.injEq,and_true] at c2
     have e1:=bytesN_inj c2.2
     rw[e1,num_dig hn] at d1
     rw[←Option.some.inj d1]
     simp
    ·exact .inl (words k 0 0 hb he h2 h5)
  ·rw[show((((out.length:Nat):Int))==2)=false from beq_eq_false_iff_ne.mpr (by omega)]
   simp only[cond_false,Option.bind_some]
   refine tail _ (by simp) fun k a b hb he=> ?_
   rcases deedB_cases hb with⟨n,m,hn,hm,rfl,rfl,rfl⟩|⟨n,hn,rfl,rfl,rfl⟩|⟨h2,h5,rfl,rfl⟩
   ·rw[←he,pieces_head hn hm] at len
    simp at len
    omega
   ·rw[←he,pieces_add hn] at len
    simp at len
    omega
   ·exact words k 0 0 hb he h2 h5
def nlW:ByteArray:=ByteArray.mk #[10]
noncomputable def textD (d:DeedL):ByteArray:=deedT d.1 d.2.1 d.2.2.1
def validD (d:DeedL):Bool:=deedB d.1 d.2.1 d.2.2.1
noncomputable def journL:List DeedL→ByteArray
 |[]=>ByteArray.empty
 |d::r=>textD d++nlW++journL r
noncomputable def journT (l:List DeedL):ByteArray:=if l.all validD=true then journL l else ByteArray.empty
theorem journL_size: ∀{l:List DeedL},l.all validD=true→(journL l).size≤11*l.length
 |[],_=>Nat.zero_le _
 |d::l,h=>by
  rw[List.all_cons,Bool.and_eq_true] at h
  have:=journL_size h.2
  have h1:=deed_size (k:=d.1) (a:=d.2.1) (b:=d.2.2.1) h.1
  rw[journL,ByteArray.size_append,ByteArray.size_append,List.length_cons,show nlW.size=1 from rfl]
  unfold textD
  omega
abbrev jtBody (l:List DeedL):ByteArray×Int→Option ((ByteArray×Int)⊕(ByteArray⊕ByteArray)):=
 fun(s:ByteArray×Int)=>((N34 l s.1 s.2).map (Sum.elim (fun(t:ByteArray×Int)=>Sum.inl (t.1,t.2)) (Sum.elim (fun(t:ByteArray)=>Sum.inr (Sum.inl t)) (fun(t:ByteArray)=>Sum.inr (Sum.inr t)))):Option ((ByteArray×Int)⊕(ByteArray⊕ByteArray)))
theorem jt_loop (l:List DeedL) (hl:l.length≤2000000): ∀(r k N:Nat) (out:ByteArray),k+r=l.length→r<N→out.size≤11*k→
  nloop (jtBody l) N (out,(k:Int))=some (if(l.drop k).all validD=true then .inr (out++journL (l.drop k)) else .inl ByteArray.empty)
 |r,k,0,out,_,h,_=>by omega
 |0,k,N+1,out,hk,_,_=>by
  have e:k=l.length:=by omega
  subst e
  rw[nloop]
  simp only[jtBody,N34]
  rw[decide_eq_false (show¬((l.length:Nat):Int)<((l.length:Nat):Int) by omega),List.drop_length]
  simp only[cond_false,Option.map_some,Sum.elim_inr,Option.bind_some,List.all_nil,if_true,journL]
  rw[ByteArray.append_empty]
 |r+1,k,N+1,out,hk,hN,ho=>by
  have hkl:k<l.length:=by omega
  have g:idx l (k:Int)=some l[k]:=by unfold idx;rw[if_pos (by omega),Int.toNat_natCast,List.getElem?_eq_getElem hkl]
  have w:IntKind.wrap .i64 ((k:Int)+1)=((k+1:Nat):Int):=by rw[wrap64 (by omega) (by omega)];omega
  have dr:l.drop k=l[k]::l.drop (k+1):=List.drop_eq_getElem_cons hkl
  rw[nloop,dr,List.all_cons]
  cases v:validD l[k] with
  |false=>
   have e:deedT l[k].1 l[k].2.1 l[k].2.2.1=ByteArray.empty:=deed_none v
   simp only[jtBody,N34]
   rw[decide_eq_true (show(k:Int)<((l.length:Nat):Int) by omega),g]
   simp only[cond_true,Option.bind_some,specDeed_eq,e,seqs_self]
   rfl
  |true=>
   have hs:=deed_size (k:=l[k].1) (a:=l[k].2.1) (b:=l[k].2.2.1) v
   have ne:=deed_ne (k:=l[k].1) (a:=l[k].2.1) (b:=l[k].2.2.1) v
   have s1:(out++textD l[k]).size≤11*k+10:=by rw[ByteArray.size_append];unfold textD;omega
   have st:jtBody l (out,(k:Int))=some (.inl (out++textD l[k]++nlW,((k+1:Nat):Int))):=by
    simp only[jtBody,N34]
    rw[decide_eq_true (show(k:Int)<((l.length:Nat):Int) by omega),g,w]
    simp only[cond_true,Option.bind_some,specDeed_eq]
    rw[seqs_ne ne]
    simp only[cond_false]
    rw[catT (by omega)]
    simp only[Option.bind_some]
    rw[show cat (out++deedT l[k].1 l[k].2.1 l[k].2.2.1) (ByteArray.mk #[10])=some (out++textD l[k]++nlW) from catT (by
     have:(out++deedT l[k].1 l[k].2.1 l[k].2.2.1).size≤11*k+10:=s1
     show _+1≤_
     omega)]
    rfl
   rw[st]
   simp only[Option.bind_some,Bool.true_and]
   rw[jt_loop l hl r (k+1) N _ (by omega) (by omega) (by rw[ByteArray.size_append,show nlW.size=1 from rfl];omega),journL,←ByteArray.append_assoc,←ByteArray.append_assoc]
theorem specJournal_eq (l:List DeedL) (hl:l.length≤2000000):N2w l=some (journT l):=by
 have e:N2w l=Nge l:=by unfold N2w;rfl
 rw[e]
 unfold Nge Nak Njg Nlc Nau Nkg Np2 N9h
 have q:=jt_loop l hl l.length 0 LL ByteArray.empty (by omega) (by simp only[LL];omega) (Nat.zero_le _)
 have q':nloop (jtBody l) LL (ByteArray.empty,0)=_:=q
 simp only[Option.bind_some]
 rw[show(nloop _ LL (ByteArray.empty,(0:Int)):Option (ByteArray⊕ByteArray))=_ from q',List.drop_zero,ByteArray.empty_append]
 unfold journT
 cases l.all validD<;>rfl
def toB (l:List Nat):ByteArray:=ByteArray.mk (l.map Nat.toUInt8).toArray
theorem toB_bytes (a:ByteArray):toB (bytesN a)=a:=by
 refine ByteArray.ext (Array.toList_inj.mp ?_)
 unfold toB bytesN
 simp only[List.map_map]
 have:(Nat.toUInt8∘fun b:UInt8=>b.toNat)=id:=by
  funext b
  exact UInt8.ofNat_toNat
 rw[this,List.map_id]
noncomputable def scanJ:List Nat→List Nat→List DeedL×Nat
 |_,[]=>([],0)
 |acc,x::r=>if x=10 then(if(readI (toB acc)).1=true then(((readI (toB acc)).2.1,(readI (toB acc)).2.2.1,(readI (toB acc)).2.2.2,())::(scanJ [] r).1,acc.length+1+(scanJ [] r).2) else([],0)) else scanJ (acc++ [x]) r
abbrev rjBody (s:ByteArray):Int×Int×List DeedL→Option ((Int×Int×List DeedL)⊕((Int×List DeedL)⊕(Int×List DeedL))):=
 fun(t:Int×Int×(List (Int×Int×Int×Unit)))=>((N2j s t.1 t.2.1 t.2.2).map (Sum.elim (fun(t:Int×Int×(List (Int×Int×Int×Unit)))=>Sum.inl (t.1,t.2.1,t.2.2)) (Sum.elim (fun(t:Int×(List (Int×Int×Int×Unit)))=>Sum.inr (Sum.inl t)) (fun(t:Int×(List (Int×Int×Int×Unit)))=>Sum.inr (Sum.inr t)))):Option ((Int×Int×(List (Int×Int×Int×Unit)))⊕((Int×(List (Int×Int×Int×Unit)))⊕(Int×(List (Int×Int×Int×Unit))))))
theorem rj_loop (s:ByteArray) (hs:s.size≤100000000): ∀(r k f N:Nat) (out:List DeedL),k+r=s.size→r<N→f≤k→out.length≤k→
  ∃v,nloop (rjBody s) N ((f:Int),(k:Int),out)=some v∧(v= .inl (((f+(scanJ (((bytesN s).take k).drop f) ((bytesN s).drop k)).2:Nat):Int),out++(scanJ (((bytesN s).take k).drop f) ((bytesN s).drop k)).1)∨
   v= .inr (((f+(scanJ (((bytesN s).take k).drop f) ((bytesN s).drop k)).2:Nat):Int),out++(scanJ (((bytesN s).take k).drop f) ((bytesN s).drop k)).1))
 |r,k,f,0,out,_,h,_,_=>by omega
 |0,k,f,N+1,out,hk,_,hf,ho=>by
  have e:k=s.size:=by omega
  subst e
  rw[nloop]
  simp only[rjBody,N2j]
  rw[decide_eq_false (show¬((s.size:Nat):Int)<((s.size:Nat):Int) by omega),show(bytesN s).drop s.size=[] from List.drop_eq_nil_of_le (by rw[bytesN_length];omega),scanJ,List.append_nil]
  exact⟨_,rfl,.inr rfl⟩
 |r+1,k,f,N+1,out,hk,hN,hf,ho=>by
  have hks:k<s.size:=by omega
  have hl:k<(bytesN s).length:=by rw[bytesN_length];exact hks
  have dr:(bytesN s).drop k=(bytesN s)[k]::(bytesN s).drop (k+1):=List.drop_eq_getElem_cons hl
  have w:IntKind.wrap .i64 ((k:Int)+1)=((k+1:Nat):Int):=by rw[wrap64 (by omega) (by omega)];omega
  rw[nloop,dr,scanJ]
  by_cases c:(bytesN s)[k]=10
  ·have i1:inc (k:Int) s.size=some k:=by unfold inc;rw[if_pos (by omega)];simp
   have i2:inc (f:Int) k=some f:=by unfold inc;rw[if_pos (by omega)];simp
   have ex:s.extract f k=toB (((bytesN s).take k).drop f):=by rw[←bytesN_extract,toB_bytes]
   have ll:(((bytesN s).take k).drop f).length=k-f:=by rw[List.length_drop,List.length_take,bytesN_length];omega
   rw[if_pos c]
   generalize ha:((bytesN s).take k).drop f=acc at ex ll
   have rd:N2r (s.extract f k)=some (readI (toB acc)):=by
    rw[specRead_eq _ (by rw[ByteArray.size_extract];omega),ex]
   cases v:(readI (toB acc)).1 with
   |false=>
    have st:rjBody s ((f:Int),(k:Int),out)=some (.inr (.inl ((f:Int),out))):=by
     simp only[rjBody,N2j]
     rw[decide_eq_true (show(k:Int)<((s.size:Nat):Int) by omega),bidx_ok hks,c]
     simp only[cond_true,Option.bind_some]
     rw[show((((10:Nat):Int))==10)=true from rfl]
     simp only[cond_true,Option.bind_some,i1,i2,rd,v]
     rfl
    rw[st,if_neg (by simp)]
    refine⟨_,rfl,.inl ?_⟩
    simp
   |true=>
    have st:rjBody s ((f:Int),(k:Int),out)=some (.inl (((k+1:Nat):Int),((k+1:Nat):Int),out++ [((readI (toB acc)).2.1,(readI (toB acc)).2.2.1,(readI (toB acc)).2.2.2,())])):=by
     simp only[rjBody,N2j]
     rw[decide_eq_true (show(k:Int)<((s.size:Nat):Int) by omega),bidx_ok hks,c]
     simp only[cond_true,Option.bind_some]
     rw[show((((10:Nat):Int))==10)=true from rfl]
     simp only[cond_true,Option.bind_some,i1,i2,rd,v,w]
     simp only[Bool.not_true,cond_false]
     rw[roomT (by simp only[List.length_cons,List.length_nil];omega)]
     rfl
    rw[st,if_pos rfl]
    obtain⟨u,h1,h2⟩:=rj_loop s hs r (k+1) (k+1) N (out++ [((readI (toB acc)).2.1,(readI (toB acc)).2.2.1,(readI (toB acc)).2.2.2,())]) (by omega) (by omega) (Nat.le_refl _) (by simp;omega)
    rw[show((bytesN s).take (k+1)).drop (k+1)=[] from List.drop_eq_nil_of_le (by rw[List.length_take];omega)] at h2
    refine⟨u,h1,?_⟩
    rw[ll,show f+(k-f+1+(scanJ [] ((bytesN s).drop (k+1))).2)=k+1+(scanJ [] ((bytesN s).drop (k+1))).2 by omega,List.append_cons]
    exact h2
  ·have st:rjBody s ((f:Int),(k:Int),out)=some (.inl ((f:Int),((k+1:Nat):Int),out)):=by
    simp only[rjBody,N2j]
    rw[decide_eq_true (show(k:Int)<((s.size:Nat):Int) by omega),bidx_ok hks]
    simp only[cond_true,Option.bind_some]
    rw[beq_eq_false_iff_ne.mpr (by omega),w]
    rfl
   rw[st,if_neg c]
   obtain⟨u,h1,h2⟩:=rj_loop s hs r (k+1) f N out (by omega) (by omega) (by omega) (by omega)
   rw[List.take_succ_eq_append_getElem hl,List.drop_append_of_le_length (by rw[List.length_take];omega)] at h2
   exact⟨u,h1,h2⟩
noncomputable def readJ (s:ByteArray):List DeedL×Nat:=scanJ [] (bytesN s)
theorem specReadJ_eq (s:ByteArray) (hs:s.size≤100000000):N3a s=some (((readJ s).2:Int),(readJ s).1):=by
 have e:N3a s=Ndv s:=by unfold N3a;rfl
 rw[e]
 unfold Ndv N8x Np8 Nom Nar Njk Nj1 N9g
 obtain⟨v,q,h⟩:=rj_loop s hs s.size 0 0 LL [] (by omega) (by simp only[LL];omega) (Nat.le_refl _) (Nat.le_refl _)
 have q':nloop (rjBody s) LL (0,0,[])=some v:=q
 simp only[Option.bind_some]
 rw[show(nloop _ LL ((0:Int),(0:Int),([]:List DeedL)):Option ((Int×List DeedL)⊕(Int×List DeedL)))=some v from q']
 simp only[List.take_zero,List.drop_zero,Nat.zero_add,List.nil_append,List.drop_nil] at h
 unfold readJ
 rcases h with rfl|rfl<;>rfl
theorem scan_line: ∀(l acc r:List Nat),10∉l→scanJ acc (l++10::r)=scanJ (acc++l) (10::r)
 |[],acc,r,_=>by simp
 |x::l,acc,r,h=>by
  have hx:x≠10:=fun e=>h (by rw[e];exact List.mem_cons_self ..)
  rw[List.cons_append,scanJ,if_neg hx,scan_line l _ r (fun m=>h (List.mem_cons_of_mem _ m)),List.append_assoc,List.singleton_append]
theorem scan_text: ∀(r acc:List Nat),(∀x∈acc,x<256)→(∀x∈r,x<256)→(scanJ acc r).1.all validD=true∧(scanJ acc r).2≤acc.length+r.length∧bytesN (journL (scanJ acc r).1)=(acc++r).take (scanJ acc r).2
 |[],acc,_,_=>by
  rw[scanJ]
  exact⟨rfl,Nat.zero_le _,by simp[journL,bytesN_empty]⟩
 |x::r,acc,ha,hr=>by
  have hx:=hr x (List.mem_cons_self ..)
  have hr': ∀y∈r,y<256:=fun y hy=>hr y (List.mem_cons_of_mem _ hy)
  rw[scanJ]
  by_cases c:x=10
  ·rw[if_pos c]
   cases v:(readI (toB acc)).1 with
   |false=>
    rw[if_neg (by simp)]
    exact⟨rfl,Nat.zero_le _,by simp[journL,bytesN_empty]⟩
   |true=>
    rw[if_pos rfl]
    obtain⟨h1,h2,h3⟩:=scan_text r [] (by simp) hr'
    have rt:readI (toB acc)=(true,(readI (toB acc)).2.1,(readI (toB acc)).2.2.1,(readI (toB acc)).2.2.2):=by rw[←v]
    obtain⟨t1,t2⟩:=read_true rt
    have ba:bytesN (toB acc)=acc:=by
     unfold bytesN toB
     simp only[List.map_map]
     refine(List.map_congr_left (g:=id) fun y hy=> ?_).trans (List.map_id _)
     exact UInt8.toNat_ofNat_of_lt' (ha y hy)
    refine⟨?_,?_,?_⟩
    ·rw[List.all_cons,h1,Bool.and_true]
     exact t1
    ·simp only[List.length_cons,List.length_nil] at h2⊢
     omega
    ·rw[journL,bytesN_app,bytesN_app,h3]
     unfold textD
     simp only
     rw[t2,ba,show bytesN nlW=[10] from rfl,c,List.nil_append,List.append_assoc,List.singleton_append]
     rw[show acc.length+1+(scanJ [] r).2=acc.length+((scanJ [] r).2+1) by omega,List.take_length_add_append,List.take_succ_cons]
  ·rw[if_neg c]
   obtain⟨h1,h2,h3⟩:=scan_text r (acc++ [x]) (fun y hy=>by
    rcases List.mem_append.mp hy with h|h
    ·exact ha y h
    ·rw[List.mem_singleton] at h
     omega) hr'
   refine⟨h1,?_,?_⟩
   ·simp only[List.length_append,List.length_cons,List.length_nil] at h2⊢
    omega
   ·rw[h3,List.append_assoc,List.singleton_append]
theorem scan_prefix: ∀(r acc:List Nat) (k:Nat),(scanJ acc (r.take k)).1<+:(scanJ acc r).1
 |[],acc,k=>by rw[List.take_nil];exact List.prefix_refl _
 |x::r,acc,0=>by rw[List.take_zero,scanJ];exact List.nil_prefix
 |x::r,acc,k+1=>by
  rw[List.take_succ_cons,scanJ,scanJ]
  by_cases c:x=10
  ·rw[if_pos c,if_pos c]
   cases v:(readI (toB acc)).1 with
   |false=>rw[if_neg (by simp),if_neg (by simp)];exact List.prefix_refl _
   |true=>
    rw[if_pos rfl,if_pos rfl]
    exact(List.prefix_cons_inj _).mpr (scan_prefix r [] k)
  ·rw[if_neg c,if_neg c]
   exact scan_prefix r _ k
theorem readJ_ok (s:ByteArray):(readJ s).1.all validD=true∧(readJ s).2≤s.size∧journL (readJ s).1=s.extract 0 (readJ s).2:=by
 unfold readJ
 obtain⟨h1,h2,h3⟩:=scan_text (bytesN s) [] (by simp) bytesN_lt
 rw[bytesN_length] at h2
 refine⟨h1,by simpa using h2,bytesN_inj ?_⟩
 rw[bytesN_extract,List.drop_zero]
 simpa using h3
theorem readJ_prefix (s:ByteArray) (k:Nat):(readJ (s.extract 0 k)).1<+:(readJ s).1:=by
 unfold readJ
 rw[bytesN_extract,List.drop_zero]
 exact scan_prefix _ _ _
def lessK (h:List Int) (w:Nat):List Nat:=((List.range (w-1)).map (· +1)).filter fun k=>hd h k==w
def moreK (h:List Int) (w:Nat):List Nat:=((List.range (h.length-w)).map (· +(w+1))).filter fun k=>hd h k==w
theorem mem_words {n k:Nat}:k∈(List.range n).map (· +1)↔1≤k∧k≤n:=by
 rw[List.mem_map]
 constructor
 ·rintro⟨j,hj,rfl⟩
  rw[List.mem_range] at hj
  omega
 ·rintro⟨a,b⟩
  exact⟨k-1,by rw[List.mem_range];omega,by omega⟩
theorem mem_lessK {h:List Int} {w k:Nat} (w2:w≤h.length):k∈lessK h w↔(1≤k∧k≤h.length)∧hd h k=w∧k<w:=by
 unfold lessK
 rw[List.mem_filter,mem_words,beq_iff_eq]
 omega
theorem mem_moreK {h:List Int} {w k:Nat}:k∈moreK h w↔(1≤k∧k≤h.length)∧hd h k=w∧w<k:=by
 unfold moreK
 rw[List.mem_filter,List.mem_map,beq_iff_eq]
 constructor
 ·rintro⟨⟨j,hj,rfl⟩,e⟩
  rw[List.mem_range] at hj
  omega
 ·rintro⟨⟨a,b⟩,e,l⟩
  exact⟨⟨k-(w+1),by rw[List.mem_range];omega,by omega⟩,e⟩
theorem words_sorted (n:Nat):((List.range n).map (· +1)).Pairwise (· < ·):=by
 rw[List.pairwise_map]
 refine List.Pairwise.imp ?_ List.pairwise_lt_range
 intro a b h
 omega
theorem lessK_sorted (h:List Int) (w:Nat):(lessK h w).Pairwise (· < ·):=(words_sorted _).filter _
theorem moreK_sorted (h:List Int) (w:Nat):(moreK h w).Pairwise (· < ·):=by
 refine List.Pairwise.filter _ ?_
 rw[List.pairwise_map]
 refine List.Pairwise.imp ?_ List.pairwise_lt_range
 intro a b h
 omega
theorem flatMap_same {α β:Type} {f g:α→List β}: ∀{l:List α},(∀x∈l,f x=g x)→l.flatMap f=l.flatMap g
 |[],_=>rfl
 |x::l,h=>by
  rw[List.flatMap_cons,List.flatMap_cons,h x (List.mem_cons_self ..),flatMap_same (l:=l) (fun y hy=>h y (List.mem_cons_of_mem _ hy))]
def walkN (h:List Int):Nat→Nat→List Nat
 |0,_=> []
 |f+1,w=>(lessK h w).flatMap (walkN h f)++w::(moreK h w).flatMap (walkN h f)
section
variable {h : List Int} (T : Tree h)
include T
theorem kid_dep {w c:Nat} (c1:1≤c) (c2:c≤h.length) (w1:1≤w) (e:hd h c=w):dep h c=dep h w+1:=by
 have:=T.dep_step c1 c2 (by omega)
 rwa[e] at this
theorem walk_mem: ∀{f w x:Nat},1≤w→w≤h.length→h.length≤f+dep h w→(x∈walkN h f w↔Und h x w)
 |0,w,x,w1,w2,hf=>by
  have:=T.dep_lt w1 w2
  omega
 |f+1,w,x,w1,w2,hf=>by
  have kid: ∀c,(1≤c∧c≤h.length)∧hd h c=w→(x∈walkN h f c↔Und h x c):=fun c hc=>by
   have:=kid_dep T hc.1.1 hc.1.2 w1 hc.2
   exact walk_mem hc.1.1 hc.1.2 (by omega)
  rw[walkN,List.mem_append,List.mem_cons,List.mem_flatMap,List.mem_flatMap,T.und_child]
  constructor
  ·rintro(⟨c,hc,m⟩|e|⟨c,hc,m⟩)
   ·rw[mem_lessK w2] at hc
    exact .inr ⟨by omega,c,hc.1.1,hc.1.2,hc.2.1,(kid c ⟨hc.1,hc.2.1⟩).mp m⟩
   ·subst e
    exact .inl ⟨rfl,w1,w2⟩
   ·rw[mem_moreK] at hc
    exact .inr ⟨by omega,c,hc.1.1,hc.1.2,hc.2.1,(kid c ⟨hc.1,hc.2.1⟩).mp m⟩
  ·rintro(⟨e,_⟩|⟨_,c,c1,c2,c3,u⟩)
   ·exact .inr (.inl e)
   ·have m:=(kid c ⟨⟨c1,c2⟩,c3⟩).mpr u
    have ne:c≠w:=fun e=>T.hd_other c1 c2 (by rw[c3,e])
    by_cases l:c<w
    ·exact .inl ⟨c,(mem_lessK w2).mpr ⟨⟨c1,c2⟩,c3,l⟩,m⟩
    ·exact .inr (.inr ⟨c,mem_moreK.mpr ⟨⟨c1,c2⟩,c3,by omega⟩,m⟩)
theorem walk_pairs {R:Nat→Nat→Prop} (h1: ∀w c x,1≤w→w≤h.length→hd h c=w→c<w→Und h x c→R x w) (h2: ∀w c x,1≤w→w≤h.length→hd h c=w→w<c→Und h x c→R w x)
  (h3: ∀w c d x y,1≤w→w≤h.length→hd h c=w→hd h d=w→c<d→Und h x c→Und h y d→R x y): ∀{f w:Nat},1≤w→w≤h.length→h.length≤f+dep h w→(walkN h f w).Pairwise R
 |0,w,w1,w2,hf=>by
  have:=T.dep_lt w1 w2
  omega
 |f+1,w,w1,w2,hf=>by
  have mem: ∀c x,(1≤c∧c≤h.length)∧hd h c=w→x∈walkN h f c→Und h x c:=fun c x hc m=>by
   have:=kid_dep T hc.1.1 hc.1.2 w1 hc.2
   exact(walk_mem T hc.1.1 hc.1.2 (by omega)).mp m
  have rek: ∀c,(1≤c∧c≤h.length)∧hd h c=w→(walkN h f c).Pairwise R:=fun c hc=>by
   have:=kid_dep T hc.1.1 hc.1.2 w1 hc.2
   exact walk_pairs h1 h2 h3 hc.1.1 hc.1.2 (by omega)
  rw[walkN,List.pairwise_append,List.pairwise_cons,List.pairwise_flatMap,List.pairwise_flatMap]
  refine⟨⟨fun c hc=> ?_,?_⟩,⟨fun x m=> ?_,fun c hc=> ?_,?_⟩,fun x mx y my=> ?_⟩
  ·rw[mem_lessK w2] at hc
   exact rek c ⟨hc.1,hc.2.1⟩
  ·refine List.Pairwise.imp_of_mem ?_ (lessK_sorted h w)
   intro c d hc hd' l x mx y my
   rw[mem_lessK w2] at hc hd'
   exact h3 w c d x y w1 w2 hc.2.1 hd'.2.1 l (mem c x ⟨hc.1,hc.2.1⟩ mx) (mem d y ⟨hd'.1,hd'.2.1⟩ my)
  ·obtain⟨c,hc,mx⟩:=List.mem_flatMap.mp m
   rw[mem_moreK] at hc
   exact h2 w c x w1 w2 hc.2.1 hc.2.2 (mem c x ⟨hc.1,hc.2.1⟩ mx)
  ·rw[mem_moreK] at hc
   exact rek c ⟨hc.1,hc.2.1⟩
  ·refine List.Pairwise.imp_of_mem ?_ (moreK_sorted h w)
   intro c d hc hd' l x mx y my
   rw[mem_moreK] at hc hd'
   exact h3 w c d x y w1 w2 hc.2.1 hd'.2.1 l (mem c x ⟨hc.1,hc.2.1⟩ mx) (mem d y ⟨hd'.1,hd'.2.1⟩ my)
  ·obtain⟨c,hc,mx⟩:=List.mem_flatMap.mp mx
   rw[mem_lessK w2] at hc
   have ux:=mem c x ⟨hc.1,hc.2.1⟩ mx
   rcases List.mem_cons.mp my with e|my
   ·rw[e]
    exact h1 w c x w1 w2 hc.2.1 hc.2.2 ux
   ·obtain⟨d,hd',my⟩:=List.mem_flatMap.mp my
    rw[mem_moreK] at hd'
    exact h3 w c d x y w1 w2 hc.2.1 hd'.2.1 (by omega) ux (mem d y ⟨hd'.1,hd'.2.1⟩ my)
theorem walk_nodup {f w:Nat} (w1:1≤w) (w2:w≤h.length) (hf:h.length≤f+dep h w):(walkN h f w).Nodup:=by
 refine walk_pairs T ?_ ?_ ?_ w1 w2 hf
 ·intro w c x w1 w2 e l u q
  subst q
  have r:=(T.und_rng u).2
  have:=T.und_anti u (by have v:=T.und_hd r.1 r.2 (by omega);rwa[e] at v)
  omega
 ·intro w c x w1 w2 e l u q
  subst q
  have r:=(T.und_rng u).2
  have:=T.und_anti u (by have v:=T.und_hd r.1 r.2 (by omega);rwa[e] at v)
  omega
 ·intro w c d x y w1 w2 hc hd' l u v q
  subst q
  have:=T.und_child_unique (by omega) hc hd' u v
  omega
theorem walk_fuel: ∀{f w:Nat},1≤w→w≤h.length→h.length≤f+dep h w→walkN h (f+1) w=walkN h f w
 |0,w,w1,w2,hf=>by
  have:=T.dep_lt w1 w2
  omega
 |f+1,w,w1,w2,hf=>by
  have kid: ∀c,(1≤c∧c≤h.length)∧hd h c=w→walkN h (f+1) c=walkN h f c:=fun c hc=>by
   have:=kid_dep T hc.1.1 hc.1.2 w1 hc.2
   exact walk_fuel hc.1.1 hc.1.2 (by omega)
  have l1:(lessK h w).flatMap (walkN h (f+1))=(lessK h w).flatMap (walkN h f):=by
   refine flatMap_same ?_
   intro c hc
   rw[mem_lessK w2] at hc
   exact kid c ⟨hc.1,hc.2.1⟩
  have l2:(moreK h w).flatMap (walkN h (f+1))=(moreK h w).flatMap (walkN h f):=by
   refine flatMap_same ?_
   intro c hc
   rw[mem_moreK] at hc
   exact kid c ⟨hc.1,hc.2.1⟩
  rw[walkN,l1,l2,←walkN]
theorem walk_more {w:Nat} (w1:1≤w) (w2:w≤h.length) {f:Nat} (hf:h.length≤f+dep h w): ∀d,walkN h (f+d) w=walkN h f w
 |0=>rfl
 |d+1=>by
  rw[←Nat.add_assoc,walk_fuel T w1 w2 (by omega)]
  exact walk_more w1 w2 hf d
def flatO (h:List Int):List Nat:=walkN h h.length (top h)
theorem flatO_mem {x:Nat}:x∈flatO h↔1≤x∧x≤h.length:=by
 unfold flatO
 rw[walk_mem T (top_pos h) T.top_le (by omega)]
 exact⟨fun u=>(T.und_rng u).1,fun r=>T.und_top r.1 r.2⟩
theorem flatO_nodup:(flatO h).Nodup:=walk_nodup T (top_pos h) T.top_le (by omega)
theorem flatO_length:(flatO h).length=h.length:=by
 have p:(flatO h).Perm ((List.range h.length).map (· +1)):=by
  rw[List.perm_ext_iff_of_nodup (flatO_nodup T) (List.Pairwise.imp (fun h=>Nat.ne_of_lt h) (words_sorted _))]
  intro x
  rw[flatO_mem T,mem_words]
 rw[p.length_eq]
 simp
end
def flatOI (h:List Int):List Int:=(flatO h).map fun(x:Nat)=>(x:Int)
section
variable {h : List Int} (T : Tree h)
include T
theorem flatOI_length:(flatOI h).length=h.length:=by
 unfold flatOI
 rw[List.length_map,flatO_length T]
theorem flatOI_order:OrderP (flatOI h) ((flatOI h).length:Nat):=by
 rw[orderP_iff,flatOI_length T]
 refine⟨fun x hx=> ?_,?_⟩
 ·unfold flatOI at hx
  obtain⟨y,hy,rfl⟩:=List.mem_map.mp hx
  have:=(flatO_mem T).mp hy
  omega
 ·unfold flatOI
  rw[List.Nodup,List.pairwise_map]
  refine List.Pairwise.imp ?_ (flatO_nodup T)
  intro a b hab e
  exact hab (by omega)
end
theorem specRoot_eq (h:List Int) (hl:h.length≤1048576):N5m h=some (rootI h):=by
 unfold N5m Nmo Nce Nju Nlk N8v Nmh Nl6 Nbc rootI
 simp only[Option.bind_some]
 cases hT:treeB h with
 |false=>
  have hloop:=nloop_run (body:=fun(s:Int)=>((N30 h s).map (Sum.elim (fun(t:Int)=>Sum.inl t) (Sum.elim (fun(t:Int)=>Sum.inr (Sum.inl t)) (fun(t:Unit)=>Sum.inr (Sum.inr t)))):Option ((Int)⊕(Int⊕Unit))))
   (I:=fun s=>s=0) (μ:=fun s=>0) (f:=fun s=> .inr ())
   (by
    rintro _ rfl
    right
    simp only[N30]
    rw[specTree_eq,hT]
    by_cases h0:(0:Int)<((h.length:Nat):Int)
    ·rw[decide_eq_true h0];simp
    ·rw[decide_eq_false h0];simp)
  rw[hloop LL 0 rfl (by simp[LL])]
  simp
 |true=>
  have T:=(tree_iff h).1 hT
  have hloop:=nloop_run (body:=fun(s:Int)=>((N30 h s).map (Sum.elim (fun(t:Int)=>Sum.inl t) (Sum.elim (fun(t:Int)=>Sum.inr (Sum.inl t)) (fun(t:Unit)=>Sum.inr (Sum.inr t)))):Option ((Int)⊕(Int⊕Unit))))
   (I:=fun s=> ∃k:Nat,s=(k:Int)∧k<top h) (μ:=fun s=>h.length-s.toNat) (f:=fun s=> .inl (top h:Int))
   (by
    rintro _ ⟨k,rfl,hk⟩
    have ht:=T.top_le
    have hlt:k<h.length:=by omega
    have hg:=T.get (w:=k+1) (by omega) (by omega)
    rw[show k+1-1=k by omega,List.getElem?_eq_getElem hlt] at hg
    have hg':h[k]=((hd h (k+1):Nat):Int):=by simpa using hg
    simp only[N30]
    rw[specTree_eq,hT,show decide ((k:Int)<((h.length:Nat):Int))=true from decide_eq_true (by omega),idx_lt hlt,wrap64 (by omega) (by omega)]
    simp only[cond_true,Option.bind_some]
    by_cases e:hd h (k+1)=0
    ·right
     have:=(T.hd_zero (w:=k+1) (by omega) (by omega)).1 e
     have e1:h[k]=0:=by omega
     simp[e1];omega
    ·left
     have hne:k+1≠top h:=fun hh=>e ((T.hd_zero (by omega) (by omega)).2 hh)
     have e1:(h[k]==0)=false:=by simp;omega
     refine⟨((k+1:Nat):Int),by simp[e1],⟨k+1,rfl,by omega⟩,by simp;omega,trivial⟩)
  rw[hloop LL 0 ⟨0,rfl,(top_pos h)⟩ (by simp only[LL];simp;omega)]
  simp
theorem specOrder_eq (o:List Int) (m:Int) (hl:o.length≤1048576):N5l o m=some (orderB o m):=by
 unfold N5l Nkc N91 Nlf Nl0 Nb1 Nld Nk9
 have hin: ∀k,(hk:k<o.length)→Nej o k=some (cond (decide (o[k]∈o.take k)) (.inl false) (.inr ())):=fun k hk=>by
  unfold Nej
  have hloop:=nloop_run (body:=fun(s:Int)=>((N6c o k s).map (Sum.elim (fun(t:Int)=>Sum.inl t) (Sum.elim (fun(t:Bool)=>Sum.inr (Sum.inl t)) (fun(t:Unit)=>Sum.inr (Sum.inr t)))):Option ((Int)⊕(Bool⊕Unit))))
   (I:=fun s=> ∃j:Nat,s=(j:Int)∧j≤k∧o[k]∉o.take j) (μ:=fun s=>k-s.toNat) (f:=fun _=>cond (decide (o[k]∈o.take k)) (.inl false) (.inr ()))
   (by
    rintro _ ⟨j,rfl,hj,hno⟩
    simp only[N6c]
    by_cases hlt:j<k
    ·rw[show decide ((j:Int)<(k:Int))=true from decide_eq_true (by omega),idx_lt (show j<o.length by omega),idx_lt hk,wrap64 (by omega) (by omega)]
     simp only[cond_true,Option.bind_some]
     by_cases e:o[j]=o[k]
     ·right
      have:o[k]∈o.take k:=(mem_take (by omega)).2 ⟨j,hlt,e⟩
      rw[decide_eq_true this]
      simp[e]
     ·left
      have e1:(o[j]==o[k])=false:=by simpa using e
      refine⟨((j+1:Nat):Int),by simp[e1],⟨j+1,rfl,hlt,?_⟩,by simp;omega,trivial⟩
      rw[List.take_add_one,List.getElem?_eq_getElem (by omega)]
      simp only[Option.toList_some,List.mem_append,List.mem_singleton,not_or]
      exact⟨hno,fun hh=>e hh.symm⟩
    ·right
     have e:j=k:=by omega
     subst e
     rw[show decide ((j:Int)<(j:Int))=false from decide_eq_false (by omega),decide_eq_false hno]
     rfl)
  exact hloop LL 0 ⟨0,rfl,by omega,by simp⟩ (by simp only[LL];simp;omega)
 have hloop:=nloop_run (body:=fun(s:Int)=>((Nf9 o m s).map (Sum.elim (fun(t:Int)=>Sum.inl t) (Sum.elim (fun(t:Bool)=>Sum.inr (Sum.inl t)) (fun(t:Unit)=>Sum.inr (Sum.inr t)))):Option ((Int)⊕(Bool⊕Unit))))
  (I:=fun s=> ∃k:Nat,s=(k:Int)∧k≤o.length∧OrderP (o.take k) m) (μ:=fun s=>o.length-s.toNat) (f:=fun _=>cond (orderAll o m) (.inr ()) (.inl false))
  (by
   rintro _ ⟨k,rfl,hk,hP⟩
   simp only[Nf9,Ncd]
   by_cases hlt:k<o.length
   ·rw[show decide ((k:Int)<((o.length:Nat):Int))=true from decide_eq_true (by omega)]
    simp only[cond_true,Option.bind_some,Sum.elim_inl]
    unfold Nor Nli Njc Ncj Njj Nc9
    rw[idx_lt hlt,wrap64 (by omega) (by omega)]
    simp only[Option.bind_some,l1In_eq,hin k hlt]
    by_cases c:1≤o[k]∧o[k]≤m
    ·have e1:(decide (1≤o[k])&&decide (o[k]≤m))=true:=by simp[c.1,c.2]
     rw[e1]
     by_cases c3:o[k]∈o.take k
     ·right
      obtain⟨i,hi,e⟩:=(mem_take hk).1 c3
      rw[decide_eq_true c3,orderAll_false (fun hh=>hh.2 i k hi hlt e)]
      rfl
     ·left
      rw[decide_eq_false c3]
      refine⟨((k+1:Nat):Int),by simp,⟨k+1,rfl,hlt,?_⟩,by simp;omega,trivial⟩
      have hl:(o.take (k+1)).length=k+1:=by simp;omega
      refine⟨fun i hi=> ?_,fun i j hij hj=> ?_⟩
      ·rw[hl] at hi
       rw[List.getElem_take]
       by_cases e:i=k
       ·subst e;exact c
       ·have:=hP.1 i (by simp;omega)
        rwa[List.getElem_take] at this
      ·rw[hl] at hj
       rw[List.getElem_take,List.getElem_take]
       by_cases e:j=k
       ·subst e
        exact fun hh=>c3 ((mem_take hk).2 ⟨i,hij,hh⟩)
       ·have:=hP.2 i j hij (by simp;omega)
        rwa[List.getElem_take,List.getElem_take] at this
    ·right
     have e1:(decide (1≤o[k])&&decide (o[k]≤m))=false:=by
      simp only[Bool.and_eq_false_iff,decide_eq_false_iff_not];omega
     rw[e1,orderAll_false (fun hh=>c (hh.1 k hlt))]
     rfl
   ·right
    have e:k=o.length:=by omega
    subst e
    rw[List.take_length] at hP
    rw[show decide (((o.length:Nat):Int)<((o.length:Nat):Int))=false from decide_eq_false (by omega),(orderAll_iff o m).2 hP]
    rfl)
 simp only[Option.bind_some]
 rw[hloop LL 0 ⟨0,rfl,by omega,⟨fun k hk=>by simp at hk,fun i j hij hj=>by simp at hj⟩⟩ (by simp only[LL];simp;omega)]
 unfold orderB
 cases orderAll o m with
 |false=>simp
 |true=>
  simp only[cond_true,Option.map_some,Sum.elim_inr,Option.bind_some,Sum.elim_inl,Nc2,l1In_eq,Bool.and_true]
  cases (decide (1≤m)&&decide (m≤8))<;>simp
theorem places_loopS (o:List Int) (hl:o.length≤8) (hP:OrderP o (o.length:Nat)):
  nloop (fun(s:Int×(List Int))=>((N4c o s.1 s.2).map (Sum.elim (fun(t:Int×(List Int))=>Sum.inl (t.1,t.2)) (fun(t:(List Int))=>Sum.inr t)):Option ((Int×(List Int))⊕(((List Int)))))) LL (0,List.replicate (o.length+1) 0)=some (placesL o):=by
 have hloop:=nloop_run (body:=fun(s:Int×(List Int))=>((N4c o s.1 s.2).map (Sum.elim (fun(t:Int×(List Int))=>Sum.inl (t.1,t.2)) (fun(t:(List Int))=>Sum.inr t)):Option ((Int×(List Int))⊕(((List Int))))))
  (I:=fun s=> ∃k:Nat,s=((k:Int),placesK o k)∧k≤o.length) (μ:=fun s=>o.length-s.1.toNat) (f:=fun _=>placesL o)
  (by
   rintro _ ⟨k,rfl,hk⟩
   simp only[N4c]
   by_cases hlt:k<o.length
   ·left
    have hr:=hP.1 k hlt
    obtain⟨v,hv⟩: ∃v:Nat,o[k]=(v:Int):=⟨o[k].toNat,by omega⟩
    refine⟨(((k+1:Nat):Int),placesK o (k+1)),?_,⟨k+1,rfl,hlt⟩,by simp;omega,trivial⟩
    rw[show decide ((k:Int)<((o.length:Nat):Int))=true from decide_eq_true (by omega),idx_lt hlt,wrap64 (by omega) (by omega)]
    have hin:inb o[k] (placesK o k).length=some v:=by rw[hv,placesK_length];exact inb_nat (by omega)
    simp only[cond_true,Option.bind_some,hin]
    rw[show(k:Int)+1=((k+1:Nat):Int) by omega,placesK_step hP hlt hv]
    rfl
   ·right
    have e:k=o.length:=by omega
    subst e
    rw[show decide (((o.length:Nat):Int)<((o.length:Nat):Int))=false from decide_eq_false (by omega)]
    rfl)
 have:=hloop LL (0,placesK o 0) ⟨0,rfl,by omega⟩ (by simp only[LL];simp;omega)
 rw[placesK_zero] at this
 exact this
theorem specPut_eq (h o:List Int) (hlo:o.length≤1048576):N42 h o=some (if treeB h&&orderB o h.length then(true,putRow h o) else(false,[])):=by
 unfold N42 Njv Ncc
 rw[specTree_eq,specOrder_eq o _ hlo]
 cases hT:treeB h with
 |false=>simp
 |true=>
  cases hO:orderB o h.length with
  |false=>simp
  |true=>
   have T:=(tree_iff h).1 hT
   unfold orderB at hO
   simp only[Bool.and_eq_true,decide_eq_true_eq,beq_iff_eq] at hO
   obtain⟨⟨_,hlen⟩,hA⟩:=hO
   have hl:o.length=h.length:=by omega
   have hle:=T.le
   have hP:OrderP o (o.length:Nat):=by rw[hl];exact(orderAll_iff o _).1 hA
   rw[wrap64 (by omega) (by omega),show((h.length:Nat):Int)+1=((o.length+1:Nat):Int) by omega,mk_nat (by omega)]
   simp only[Option.bind_some,Bool.not_true,cond_false,Sum.elim_inl,Bool.and_self,if_true]
   unfold Np3 Njf N8t Nog Nkm
   rw[places_loopS o (by omega) hP]
   unfold Nlp Ncb No6 Nni Nap Nkn Now Ncp
   simp only[Option.bind_some,Option.map_some]
   have hloop:=nloop_run (body:=fun(s:Int×(List Int))=>((N76 h o s.1 (placesL o) s.2).map (Sum.elim (fun(t:Int×(List Int))=>Sum.inl (t.1,t.2)) (fun(t:(List Int))=>Sum.inr t)):Option ((Int×(List Int))⊕(((List Int))))))
    (I:=fun s=> ∃k:Nat,s.1=(k:Int)∧k≤o.length∧s.2.length≤k) (μ:=fun s=>o.length-s.1.toNat) (f:=fun s=>s.2++(putRow h o).drop s.1.toNat)
    (by
     rintro⟨_,out⟩ ⟨k,rfl,hk,ho⟩
     simp only at ho
     simp only[N76]
     by_cases hlt:k<o.length
     ·left
      obtain⟨w,x,h1,hw,h2,h3,h4⟩:=put_reads T hl hP hlt
      refine⟨(((k+1:Nat):Int),out++ [newHd h o k]),?_,⟨k+1,rfl,hlt,by simp;omega⟩,by simp;omega,?_⟩
      ·rw[show decide ((k:Int)<((o.length:Nat):Int))=true from decide_eq_true (by omega),idx_lt hlt]
       simp only[cond_true,Option.bind_some]
       rw[h1,wrap64 (x:=((w+1:Nat):Int)-1) (by omega) (by omega),show((w+1:Nat):Int)-1=(w:Int) by omega,idx_nat,h2,wrap64 (by omega) (by omega)]
       simp only[Option.bind_some]
       rw[inb_nat (by rw[placesL,placesK_length];exact h3)]
       simp only[Option.bind_some,h4,room_le (show out.length+ [newHd h o k].length≤1099511627776 by simp;omega)]
       simp
      ·simp only[Int.toNat_natCast]
       rw[putRow_drop h o hlt]
       simp
     ·right
      have e:k=o.length:=by omega
      subst e
      rw[show decide (((o.length:Nat):Int)<((o.length:Nat):Int))=false from decide_eq_false (by omega)]
      simp[List.drop_of_length_le (Nat.le_of_eq (putRow_length h o))])
   rw[hloop LL (0,[]) ⟨0,by simp,by omega,by simp⟩ (by simp only[LL];simp;omega)]
   simp
theorem room8 {n:Nat} (h:n≤1099511627776):room n=some ():=by unfold room;rw[if_pos h]
def castL (l:List Nat):List Int:=l.map fun(x:Nat)=>(x:Int)
theorem castL_append (a b:List Nat):castL (a++b)=castL a++castL b:=by simp[castL]
theorem castL_length (a:List Nat):(castL a).length=a.length:=by simp[castL]
def lessP (h:List Int) (w k:Nat):List Nat:=((List.range k).map (· +1)).filter fun j=>hd h j==w
def moreP (h:List Int) (w k:Nat):List Nat:=((List.range k).map (· +(w+1))).filter fun j=>hd h j==w
theorem lessP_succ (h:List Int) (w k:Nat):lessP h w (k+1)=lessP h w k++(if hd h (k+1)=w then[k+1] else[]):=by
 unfold lessP
 rw[List.range_succ,List.map_append,List.filter_append]
 congr 1
 by_cases e:hd h (k+1)=w<;>simp[e]
theorem moreP_succ (h:List Int) (w k:Nat):moreP h w (k+1)=moreP h w k++(if hd h (k+(w+1))=w then[k+(w+1)] else[]):=by
 unfold moreP
 rw[List.range_succ,List.map_append,List.filter_append]
 congr 1
 by_cases e:hd h (k+(w+1))=w<;>simp[e]
theorem flatMap_short {f:Nat→List Nat}: ∀{l:List Nat},(∀x∈l,(f x).length≤8)→(l.flatMap f).length≤8*l.length
 |[],_=>by simp
 |x::l,h=>by
  have a:=h x (List.mem_cons_self ..)
  have b:=flatMap_short (l:=l) (fun y hy=>h y (List.mem_cons_of_mem _ hy))
  rw[List.flatMap_cons,List.length_append,List.length_cons]
  omega
section
variable {h : List Int} (T : Tree h)
include T
theorem walk_len {f w:Nat} (w1:1≤w) (w2:w≤h.length) (hf:h.length≤f+dep h w):(walkN h f w).length≤8:=by
 have:=List.Nodup.length_le_of_subset (l₂:=(List.range h.length).map (· +1)) (walk_nodup T w1 w2 hf) (by
  intro x hx
  rw[mem_words]
  exact(T.und_rng ((walk_mem T w1 w2 hf).mp hx)).1)
 rw[List.length_map,List.length_range] at this
 have:=T.le
 omega
theorem specWalk_fuel: ∀(f w:Nat),1≤w→w≤h.length→h.length≤f+dep h w→Nd f h (w:Int)=some (castL (walkN h f w))
 |0,w,w1,w2,hf=>by
  have:=T.dep_lt w1 w2
  omega
 |f+1,w,w1,w2,hf=>by
  have h8:=T.le
  have kid: ∀c,1≤c→c≤h.length→hd h c=w→N3c f h (c:Int)=some (castL (walkN h f c))∧(walkN h f c).length≤8:=fun c c1 c2 e=>by
   have:=kid_dep T c1 c2 w1 e
   exact⟨specWalk_fuel f c c1 c2 (by omega),walk_len T c1 c2 (by omega)⟩
  have read: ∀c,1≤c→c≤h.length→idx h (IntKind.wrap .i64 ((c:Int)-1))=some ((hd h c:Nat):Int):=fun c c1 c2=>by
   rw[wrap64 (by omega) (by omega)]
   unfold idx
   rw[if_pos (by omega),show((c:Int)-1).toNat=c-1 by omega,T.get c1 c2]
  have e:Nd (f+1) h (w:Int)=Ngd (N3c f) h (w:Int):=rfl
  have mP: ∀k,k≤8→ ∀c∈lessP h w k,1≤c∧c≤k∧hd h c=w:=fun k hk c hc=>by
   unfold lessP at hc
   rw[List.mem_filter,mem_words,beq_iff_eq] at hc
   exact⟨hc.1.1,hc.1.2,hc.2⟩
  have mQ: ∀k,∀c∈moreP h w k,w<c∧c≤w+k∧hd h c=w:=fun k c hc=>by
   unfold moreP at hc
   rw[List.mem_filter,List.mem_map,beq_iff_eq] at hc
   obtain⟨⟨j,hj,rfl⟩,q⟩:=hc
   rw[List.mem_range] at hj
   exact⟨by omega,by omega,q⟩
  have nP: ∀k,(lessP h w k).length≤k:=fun k=>by
   unfold lessP
   refine Nat.le_trans (List.length_filter_le _ _) ?_
   simp
  have nQ: ∀k,(moreP h w k).length≤k:=fun k=>by
   unfold moreP
   refine Nat.le_trans (List.length_filter_le _ _) ?_
   simp
  have lP: ∀k,k<w→((lessP h w k).flatMap (walkN h f)).length≤64:=fun k hk=>by
   have:=flatMap_short (f:=walkN h f) (l:=lessP h w k) (fun c hc=>by
    have:=mP k (by omega) c hc
    exact(kid c this.1 (by omega) this.2.2).2)
   have:=nP k
   omega
  have lQ: ∀k,k≤h.length-w→((moreP h w k).flatMap (walkN h f)).length≤64:=fun k hk=>by
   have:=flatMap_short (f:=walkN h f) (l:=moreP h w k) (fun c hc=>by
    have:=mQ k c hc
    exact(kid c (by omega) (by omega) this.2.2).2)
   have:=nQ k
   omega
  have q1:=nloop_to (body:=fun(s:Int×(List Int))=>((N5e (N3c f) h (w:Int) s.1 s.2).map (Sum.elim (fun(t:Int×(List Int))=>Sum.inl (t.1,t.2)) (fun(t:(List Int))=>Sum.inr t)):Option ((Int×(List Int))⊕(((List Int))))))
   (fun k=>(((k+1:Nat):Int),castL ((lessP h w k).flatMap (walkN h f)))) (w-1) (castL ((lessK h w).flatMap (walkN h f)))
   (by
    intro k hk
    have w3:IntKind.wrap .i64 (((k+1:Nat):Int)+1)=((k+1+1:Nat):Int):=by rw[wrap64 (by omega) (by omega)];omega
    simp only[N5e]
    rw[decide_eq_true (show((k+1:Nat):Int)<(w:Int) by omega),read (k+1) (by omega) (by omega),w3,lessP_succ]
    simp only[cond_true,Option.bind_some]
    by_cases c:hd h (k+1)=w
    ·obtain⟨r1,r2⟩:=kid (k+1) (by omega) (by omega) c
     rw[show(((hd h (k+1):Nat):Int)==(w:Int))=true from beq_iff_eq.mpr (by omega),if_pos c,r1]
     simp only[cond_true,Option.bind_some]
     have:=lP k (by omega)
     rw[room8 (by rw[castL_length,castL_length];omega),List.flatMap_append,castL_append]
     simp
    ·rw[show(((hd h (k+1):Nat):Int)==(w:Int))=false from beq_eq_false_iff_ne.2 (by omega),if_neg c,List.append_nil]
     rfl)
   (by
    simp only[N5e]
    rw[decide_eq_false (show¬((w-1+1:Nat):Int)<(w:Int) by omega)]
    rfl) LL (by simp only[LL];omega)
  have q2:=nloop_to (body:=fun(s:Int×(List Int))=>((N65 (N3c f) h (w:Int) s.1 s.2).map (Sum.elim (fun(t:Int×(List Int))=>Sum.inl (t.1,t.2)) (fun(t:(List Int))=>Sum.inr t)):Option ((Int×(List Int))⊕(((List Int))))))
   (fun k=>(((k+(w+1):Nat):Int),(castL ((lessK h w).flatMap (walkN h f))++ [(w:Int)])++castL ((moreP h w k).flatMap (walkN h f)))) (h.length-w)
   ((castL ((lessK h w).flatMap (walkN h f))++ [(w:Int)])++castL ((moreK h w).flatMap (walkN h f)))
   (by
    intro k hk
    have w3:IntKind.wrap .i64 (((k+(w+1):Nat):Int)+1)=((k+1+(w+1):Nat):Int):=by rw[wrap64 (by omega) (by omega)];omega
    simp only[N65]
    rw[decide_eq_true (show((k+(w+1):Nat):Int)≤((h.length:Nat):Int) by omega),read (k+(w+1)) (by omega) (by omega),w3,moreP_succ]
    simp only[cond_true,Option.bind_some]
    by_cases c:hd h (k+(w+1))=w
    ·obtain⟨r1,r2⟩:=kid (k+(w+1)) (by omega) (by omega) c
     rw[show(((hd h (k+(w+1)):Nat):Int)==(w:Int))=true from beq_iff_eq.mpr (by omega),if_pos c,r1]
     simp only[cond_true,Option.bind_some]
     have a:=lQ k (by omega)
     have b:=lP (w-1) (by omega)
     have b':((lessK h w).flatMap (walkN h f)).length≤64:=b
     rw[room8 (by simp only[List.length_append,castL_length,List.length_cons,List.length_nil];omega),List.flatMap_append,castL_append]
     simp
    ·rw[show(((hd h (k+(w+1)):Nat):Int)==(w:Int))=false from beq_eq_false_iff_ne.2 (by omega),if_neg c,List.append_nil]
     rfl)
   (by
    simp only[N65]
    rw[decide_eq_false (show¬((h.length-w+(w+1):Nat):Int)≤((h.length:Nat):Int) by omega)]
    rfl) LL (by simp only[LL];omega)
  rw[e]
  unfold Ngd Nnh Nbl Nmy Nlo Nbf Nkt Nj6
  have q1':=q1
  rw[show((0+1:Nat):Int)=1 from rfl,show castL ((lessP h w 0).flatMap (walkN h f))=[] from rfl] at q1'
  simp only[Option.bind_some]
  rw[q1']
  simp only[Option.map_some,Option.bind_some]
  have b':((lessK h w).flatMap (walkN h f)).length≤64:=lP (w-1) (by omega)
  unfold Noe N88
  rw[room8 (by simp only[castL_length,List.length_cons,List.length_nil];omega)]
  simp only[Option.bind_some]
  unfold Njx Npa Na8 Nod Nme N9c
  have w4:IntKind.wrap .i64 ((w:Int)+1)=((0+(w+1):Nat):Int):=by rw[wrap64 (by omega) (by omega)];omega
  have q2':=q2
  rw[show castL ((moreP h w 0).flatMap (walkN h f))=[] from rfl,List.append_nil] at q2'
  simp only[Option.bind_some,w4]
  rw[q2']
  simp only[Option.map_some,Option.bind_some]
  rw[walkN,castL_append,show castL (w::(moreK h w).flatMap (walkN h f))=(w:Int)::castL ((moreK h w).flatMap (walkN h f)) from rfl]
  simp
end
theorem specFlatOrder_eq (h:List Int) (hl:h.length≤1048576):N5z h=some (if treeB h=true then flatOI h else[]):=by
 unfold N5z Nbx
 rw[specTree_eq]
 cases t:treeB h with
 |false=>rfl
 |true=>
  have T:=(tree_iff h).mp t
  have h8:=T.le
  have r:rootI h=(top h:Int):=by unfold rootI;rw[t];rfl
  have e:N7d h (top h:Int)=Nd RR h (top h:Int):=by unfold N7d;rfl
  have q:=specWalk_fuel T RR (top h) (top_pos h) T.top_le (by simp only[RR];omega)
  have m:=walk_more T (top_pos h) T.top_le (f:=h.length) (by omega) (RR-h.length)
  rw[show h.length+(RR-h.length)=RR by simp only[RR];omega] at m
  simp only[Option.bind_some,Bool.not_true,cond_false,specRoot_eq h hl,r,e,q,m]
  rfl
theorem flatOI_orderB {h:List Int} (T:Tree h):orderB (flatOI h) (h.length:Nat)=true:=by
 rw[orderB_iff]
 have hp:=T.pos
 have h8:=T.le
 have hl:=flatOI_length T
 have hP:=flatOI_order T
 rw[hl] at hP
 exact⟨by omega,by omega,by omega,hP⟩
theorem specMade_eq (h:List Int) (hl:h.length≤1048576):N2l h=some (if treeB h=true then putRow h (flatOI h) else[]):=by
 unfold N2l N9n
 rw[specFlatOrder_eq h hl]
 cases t:treeB h with
 |false=>
  simp only[Option.bind_some,Bool.false_eq_true,if_false]
  rw[specPut_eq h [] (by simp),t]
  rfl
 |true=>
  have T:=(tree_iff h).mp t
  have h8:=T.le
  have fl:=flatOI_length T
  simp only[Option.bind_some,if_true]
  rw[specPut_eq h _ (by omega),t,flatOI_orderB T]
  rfl
abbrev DeskL:=List Int×List (List Int)
def okDk (d:DeskL):Bool:=d.2.all treeB&&(treeB d.1&&decide (d.2.length≤8))
def kindB (a:DeedL) (k:Int):Bool:=(a.1==k)&&((a.2.1==0)&&((a.2.2.1==0)&&true))
def madeI (h:List Int):List Int:=if treeB h=true then putRow h (flatOI h) else[]
def madeDk (h:List Int) (a:DeedL):List Int:=
 if((a.1==0)&&(decide (1≤a.2.1)&&decide (a.2.1≤h.length)))=true then h.set (a.2.1-1).toNat a.2.2.1
 else if((a.1==1)&&(a.2.2.1==0))=true then h++ [a.2.1]
 else if kindB a 2=true then h.dropLast
 else if kindB a 3=true then backI h
 else if kindB a 4=true then madeI h
 else[]
def pushDk (p:List (List Int)) (h:List Int):List (List Int):=if p.length<8 then p++ [h] else(p++ [h]).drop 1
def doDk (d:DeskL) (a:DeedL):Bool×DeskL:=
 if okDk d=true then
  if(kindB a 5&& !d.2.isEmpty)=true then(true,d.2.getLastD [],d.2.dropLast)
  else if(madeDk d.1 a==d.1|| !treeB (madeDk d.1 a))=true then(false,d)
  else(true,madeDk d.1 a,pushDk d.2 d.1)
 else(false,[],[])
theorem tree_len {h:List Int} (t:treeB h=true):1≤h.length∧h.length≤8:=by
 have T:=(tree_iff h).mp t
 exact⟨T.pos,T.le⟩
theorem len_sum: ∀(p:List (List Int)) (x:List Int),x∈p→x.length≤(p.map List.length).sum
 |[],x,h=>by cases h
 |y::p,x,h=>by
  rw[List.map_cons,List.sum_cons]
  rcases List.mem_cons.mp h with rfl|h
  ·omega
  ·have:=len_sum p x h;omega
theorem specDeskOk_eq (n:List Int) (p:List (List Int)) (hp:p.length≤1152921504606846974):Nu n p=some (okDk (n,p)):=by
 have e:Nu n p=Nf2 n p:=by unfold Nu;rfl
 rw[e]
 unfold Nf2 Nbh Nne Nof N87 Nkd Nm3
 have w: ∀k:Nat,k<p.length→IntKind.wrap .i64 ((k:Int)+1)=((k+1:Nat):Int):=fun k hk=>by rw[wrap64 (by omega) (by omega)];omega
 have L:=nloop_while (body:=fun(s:Int)=>((N43 s p).map (Sum.elim (fun(t:Int)=>Sum.inl t) (Sum.elim (fun(t:Bool)=>Sum.inr (Sum.inl t)) (fun(t:Unit)=>Sum.inr (Sum.inr t)))):Option ((Int)⊕(Bool⊕Unit))))
  (fun k=>(k:Int)) p.length (fun k=>treeB (p.getD k [])) (fun b=>cond b (Sum.inr ()) (Sum.inl false))
  (fun k hk t=>by
   rw[List.getD_eq_getElem?_getD,List.getElem?_eq_getElem hk,Option.getD_some] at t
   unfold N43
   rw[decide_eq_true (show(k:Int)<((p.length:Nat):Int) by omega),idx_lt hk]
   simp only[cond_true,Option.bind_some,specTree_eq,t,Bool.not_true,cond_false,w k hk]
   rfl)
  (fun k hk t=>by
   rw[List.getD_eq_getElem?_getD,List.getElem?_eq_getElem hk,Option.getD_some] at t
   unfold N43
   rw[decide_eq_true (show(k:Int)<((p.length:Nat):Int) by omega),idx_lt hk]
   simp only[cond_true,Option.bind_some,specTree_eq,t,Bool.not_false,cond_true]
   rfl)
  (by
   unfold N43
   rw[decide_eq_false (show¬((p.length:Nat):Int)<((p.length:Nat):Int) by omega)]
   rfl) LL (by simp only[LL];omega)
 have L':nloop _ LL (0:Int)=_:=L
 rw[L']
 have ea:(List.range p.length).all (fun k=>treeB (p.getD k []))=p.all treeB:=by
  rw[Bool.eq_iff_iff,List.all_eq_true,List.all_eq_true]
  constructor
  ·intro h x hx
   obtain⟨k,hk,rfl⟩:=List.getElem_of_mem hx
   have:=h k (List.mem_range.mpr hk)
   rwa[List.getD_eq_getElem?_getD,List.getElem?_eq_getElem hk,Option.getD_some] at this
  ·intro h k hk
   have hk:=List.mem_range.mp hk
   rw[List.getD_eq_getElem?_getD,List.getElem?_eq_getElem hk,Option.getD_some]
   exact h _ (List.getElem_mem hk)
 rw[ea]
 unfold okDk
 cases p.all treeB with
 |false=>rfl
 |true=>
  simp only[cond_true,Option.map_some,Sum.elim_inr,Option.bind_some,Sum.elim_inl,Bool.true_and]
  unfold N89
  rw[specTree_eq,Option.bind_some]
  cases treeB n with
  |false=>rfl
  |true=>
   simp only[cond_true,Bool.true_and]
   congr 1
   rw[Bool.eq_iff_iff,decide_eq_true_iff,decide_eq_true_iff]
   omega
theorem specCopy_eq (n:List Int) (p:List (List Int)) (h:n.length+(p.map List.length).sum+p.length≤1048576):N3u n p=some (n,p):=by
 have e:N3u n p=Ngg n p:=by unfold N3u;rfl
 rw[e]
 unfold Ngg N9x Njm Nm0 Na7 Nkz Nl4 Nc5
 rw[room_le (by simp only[List.length_nil];omega)]
 simp only[Option.bind_some,List.nil_append]
 have hs: ∀x,x∈p→x.length≤(p.map List.length).sum:=fun x hx=>len_sum p x hx
 have w: ∀k:Nat,k<p.length→IntKind.wrap .i64 ((k:Int)+1)=((k+1:Nat):Int):=fun k hk=>by rw[wrap64 (by omega) (by omega)];omega
 have L:=nloop_to (body:=fun(s:Int×(List (List Int)))=>((N53 s.1 p s.2).map (Sum.elim (fun(t:Int×(List (List Int)))=>Sum.inl (t.1,t.2)) (fun(t:(List (List Int)))=>Sum.inr t)):Option ((Int×(List (List Int)))⊕(((List (List Int)))))))
  (fun k=>((k:Int),p.take k)) p.length p
  (fun k hk=>by
   have lt:(p.take k).length=k:=by rw[List.length_take];omega
   unfold N53
   simp only
   rw[decide_eq_true (show(k:Int)<((p.length:Nat):Int) by omega),idx_lt hk]
   simp only[cond_true,Option.bind_some]
   rw[room_le (by have:=hs _ (List.getElem_mem hk);omega),room_le (by omega)]
   simp only[Option.bind_some,w k hk,lt]
   have:(p.take k++ [[]]).set k p[k]=p.take (k+1):=by
    rw[List.take_succ_eq_append_getElem hk,List.set_append,if_neg (by omega),lt,Nat.sub_self]
    rfl
   rw[this]
   rfl)
  (by
   unfold N53
   simp only
   rw[decide_eq_false (show¬((p.length:Nat):Int)<((p.length:Nat):Int) by omega),List.take_length]
   rfl) LL (by simp only[LL];omega)
 have L':nloop _ LL ((0:Int),([]:List (List Int)))=_:=L
 rw[L']
 rfl
theorem specMade12_eq {h:List Int} (t:treeB h=true) (a:DeedL): ∃n r,N1s h a.1 a.2.1 a.2.2.1=some (n,r)∧n≤r.length∧r.take n=madeDk h a:=by
 obtain⟨l1,l8⟩:=tree_len t
 obtain⟨k,x,y,u⟩:=a
 have e:N1s h k x y=N6o h k x y:=by unfold N1s;rfl
 simp only
 rw[e]
 unfold N6o
 rw[room_le (by simp only[List.length_nil];omega)]
 simp only[Option.bind_some,List.nil_append,l1In_eq,beq_self_eq_true,Bool.true_and,Bool.and_true]
 have rest: ∃n r,(cond ((k==1)&&(y==0)) ((room (h.length+ [x].length)).bind fun _=>some ((h++ [x]).length,h++ [x]))
   (cond ((k==2)&&((x==0)&&(y==0))) ((inc (IntKind.wrap .i64 ((((h.length:Nat):Int))-1)) h.length).bind fun v=>some (v-0,h))
    (cond ((k==3)&&((x==0)&&(y==0))) ((N1z h).bind fun v=>some (v.length,v)) (cond ((k==4)&&((x==0)&&(y==0))) ((N2l h).bind fun v=>some (v.length,v)) (some (([]:List Int).length,([]:List Int)))))):Option (Nat×List Int))=some (n,r)∧n≤r.length∧r.take n=
   if((k==1)&&(y==0))=true then h++ [x] else if kindB (k,x,y,u) 2=true then h.dropLast else if kindB (k,x,y,u) 3=true then backI h else if kindB (k,x,y,u) 4=true then madeI h else[]:=by
  unfold kindB
  simp only[Bool.and_true]
  cases c1:(k==1)&&(y==0) with
  |true=>
   rw[room_le (by simp only[List.length_cons,List.length_nil];omega)]
   exact⟨_,_,rfl,Nat.le_refl _,by rw[List.take_length,if_pos rfl]⟩
  |false=>
   cases c2:(k==2)&&((x==0)&&(y==0)) with
   |true=>
    have w:IntKind.wrap .i64 ((((h.length:Nat):Int))-1)=((h.length-1:Nat):Int):=by rw[wrap64 (by omega) (by omega)];omega
    have i:inc ((h.length-1:Nat):Int) h.length=some (h.length-1):=by unfold inc;rw[if_pos (by omega)];simp
    rw[w,i]
    refine⟨h.length-1,h,rfl,by omega,?_⟩
    rw[if_neg (by simp),if_pos rfl,List.dropLast_eq_take]
   |false=>
    cases c3:(k==3)&&((x==0)&&(y==0)) with
    |true=>
     rw[specBack_eq]
     exact⟨_,_,rfl,Nat.le_refl _,by rw[List.take_length,if_neg (by simp),if_neg (by simp),if_pos rfl]⟩
    |false=>
     cases c4:(k==4)&&((x==0)&&(y==0)) with
     |true=>
      rw[specMade_eq h (by omega)]
      exact⟨_,_,rfl,Nat.le_refl _,by rw[List.take_length];show madeI h=_;rw[if_neg (show¬false=true by simp),if_neg (show¬false=true by simp),if_neg (show¬false=true by simp),if_pos rfl]⟩
     |false=>exact⟨0,[],rfl,Nat.le_refl _,by rw[if_neg (by simp),if_neg (by simp),if_neg (by simp),if_neg (by simp)];rfl⟩
 cases c0:k==0 with
 |false=>
  simp only[cond_false]
  obtain⟨n,r,h1,h2,h3⟩:=rest
  refine⟨n,r,h1,h2,?_⟩
  rw[h3]
  unfold madeDk
  simp only[c0,Bool.false_and]
  rw[if_neg (show¬false=true by simp)]
 |true=>
  simp only[cond_true]
  cases c:decide (1≤x)&&decide (x≤((h.length:Nat):Int)) with
  |false=>
   simp only[cond_false]
   obtain⟨n,r,h1,h2,h3⟩:=rest
   refine⟨n,r,h1,h2,?_⟩
   rw[h3]
   unfold madeDk
   simp only[c0,c,Bool.true_and]
   rw[if_neg (show¬false=true by simp)]
  |true=>
   simp only[cond_true]
   have c':=c
   rw[Bool.and_eq_true,decide_eq_true_iff,decide_eq_true_iff] at c'
   have w:IntKind.wrap .i64 (x-1)=(((x-1).toNat:Nat):Int):=by rw[wrap64 (by omega) (by omega)];omega
   rw[w,inb_nat (by omega)]
   refine⟨_,_,rfl,Nat.le_refl _,?_⟩
   rw[List.take_length]
   unfold madeDk
   simp only[c0,c,Bool.true_and]
   rw[if_pos trivial]
abbrev sameBody (n:Nat) (now r:List Int):Bool×Int→Option ((Bool×Int)⊕Bool):=
 fun(s:Bool×Int)=>((N2z n s.1 s.2 now r).map (Sum.elim (fun(t:Bool×Int)=>Sum.inl (t.1,t.2)) (fun(t:Bool)=>Sum.inr t)):Option ((Bool×Int)⊕(Bool)))
theorem same_loop (n:Nat) (now r:List Int) (hn:n≤r.length) (hl:now.length=n) (h8:n≤1048576): ∀(m k N:Nat) (b:Bool),k+m=n→m<N→
  nloop (sameBody n now r) N (b,(k:Int))=some (b&&((r.take n).drop k==now.drop k))
 |m,k,0,b,_,h=>by omega
 |0,k,N+1,b,hk,_=>by
  have e:k=n:=by omega
  subst e
  rw[nloop]
  simp only[sameBody,N2z]
  rw[decide_eq_false (show¬((k:Nat):Int)<((k:Nat):Int) by omega),List.drop_eq_nil_of_le (by rw[List.length_take];omega),List.drop_eq_nil_of_le (by omega)]
  simp
 |m+1,k,N+1,b,hk,hN=>by
  rw[nloop]
  have e1:(r.take n).drop k=r[k]::(r.take n).drop (k+1):=by
   rw[List.drop_eq_getElem_cons (by rw[List.length_take];omega),List.getElem_take]
  have e2:now.drop k=now[k]::now.drop (k+1):=List.drop_eq_getElem_cons (by omega)
  have w:IntKind.wrap .i64 ((k:Int)+1)=((k+1:Nat):Int):=by rw[wrap64 (by omega) (by omega)];omega
  simp only[sameBody,N2z]
  rw[decide_eq_true (show((k:Nat):Int)<((n:Nat):Int) by omega)]
  cases b with
  |false=>rfl
  |true=>
   simp only[cond_true]
   rw[inb_nat (show k<n by omega),Option.bind_some,Nat.zero_add,List.getElem?_eq_getElem (show k<r.length by omega),Option.bind_some,idx_lt (show k<now.length by omega),Option.bind_some,w]
   simp only[Option.map_some,Sum.elim_inl,Option.bind_some]
   rw[same_loop n now r hn hl h8 m (k+1) N _ (by omega) (by omega),e1,e2,List.cons_beq_cons,Bool.true_and]
theorem same_eq (n:Nat) (now r:List Int) (hn:n≤r.length) (h8:now.length≤1048576):Nhb n ((((n:Nat):Int))==(((now.length:Nat):Int))) now r=some (r.take n==now):=by
 unfold Nhb
 by_cases c:now.length=n
 ·have:=same_loop n now r hn c (by omega) n 0 LL ((((n:Nat):Int))==(((now.length:Nat):Int))) (by omega) (by simp only[LL];omega)
  rw[List.drop_zero,List.drop_zero,beq_iff_eq.mpr (show(((n:Nat):Int))=(((now.length:Nat):Int)) by omega),Bool.true_and] at this
  rw[beq_iff_eq.mpr (show(((n:Nat):Int))=(((now.length:Nat):Int)) by omega)]
  exact this
 ·rw[beq_eq_false_iff_ne.mpr (show(((n:Nat):Int))≠(((now.length:Nat):Int)) by omega),beq_eq_false_iff_ne.mpr (show r.take n≠now from fun e=>c (by rw[←e,List.length_take];omega))]
  rw[show LL=(LL-1)+1 from rfl,nloop]
  simp only[N2z]
  cases decide ((0:Int)<((n:Nat):Int))<;>rfl
theorem okDk_and {d:DeskL} (h:okDk d=true):treeB d.1=true∧d.2.length≤8∧ ∀x,x∈d.2→treeB x=true:=by
 unfold okDk at h
 rw[Bool.and_eq_true,Bool.and_eq_true,decide_eq_true_iff,List.all_eq_true] at h
 exact⟨h.2.1,h.2.2,h.1⟩
theorem past_le: ∀(p:List (List Int)),(∀x,x∈p→treeB x=true)→(p.map List.length).sum≤8*p.length
 |[],_=>Nat.zero_le _
 |x::p,h=>by
  have:=past_le p (fun y hy=>h y (List.mem_cons_of_mem _ hy))
  have:=(tree_len (h x (List.mem_cons_self ..))).2
  rw[List.map_cons,List.sum_cons,List.length_cons]
  omega
theorem specDo_eq (n:List Int) (p:List (List Int)) (a:DeedL) (hp:p.length≤1152921504606846974):
  N3v n p a.1 a.2.1 a.2.2.1=some (doDk (n,p) a):=by
 have e:N3v n p a.1 a.2.1 a.2.2.1=Ng1 n p a.1 a.2.1 a.2.2.1:=by unfold N3v;rfl
 rw[e]
 unfold Ng1 Ncf doDk
 rw[specDeskOk_eq n p hp,Option.bind_some]
 cases o:okDk (n,p) with
 |false=>rfl
 |true=>
  obtain⟨t,l8,ts⟩:=okDk_and o
  simp only at t l8 ts
  obtain⟨n1,n8⟩:=tree_len t
  have:=past_le p ts
  rw[if_pos rfl,specCopy_eq n p (by omega)]
  simp only[Bool.not_true,cond_false,Option.bind_some]
  have made: ∀q:Bool×DeskL,q=(if(madeDk n a==n|| !treeB (madeDk n a))=true then(false,(n,p)) else(true,madeDk n a,pushDk p n))→
    (((N1s n a.1 a.2.1 a.2.2.1).bind fun(v:Nat×(List Int))=>some (Sum.inl ((v.1),(((((v.1):Nat):Int))==(((List.length n:Nat):Int))),(v.2),n,p)):Option ((Nat×Bool×(List Int)×(List Int)×(List (List Int)))⊕(Bool×(List Int)×(List (List Int))))).bind
     (Sum.elim (fun(t:Nat×Bool×(List Int)×(List Int)×(List (List Int)))=>Nd3 t.1 t.2.1 n t.2.2.1 t.2.2.2.1 t.2.2.2.2) (fun e=>some ((fun(t:Bool×(List Int)×(List (List Int)))=>t) e))))=some q:=by
   rintro q rfl
   obtain⟨m,r,h1,h2,h3⟩:=specMade12_eq t a
   rw[h1]
   simp only[Option.bind_some,Sum.elim_inl]
   unfold Nd3 Noj N83 No2
   rw[Option.bind_some,same_eq m n r h2 (by omega),Option.map_some,Option.bind_some,h3]
   unfold N8i
   rw[List.drop_zero,h3,specTree_eq,Option.bind_some]
   cases madeDk n a==n with
   |true=>rfl
   |false=>
    cases tm:treeB (madeDk n a) with
    |false=>rfl
    |true=>
     have:=(tree_len tm).2
     have es:(p++ [[]]).set p.length n=p++ [n]:=by rw[List.set_append,if_neg (by omega),Nat.sub_self];rfl
     rw[room_le (by omega),room_le (by simp only[List.length_nil];omega),es]
     simp only[Bool.not_true,cond_false,Option.bind_some,List.nil_append,Bool.or_false,List.length_append,List.length_cons,List.length_nil]
     rw[if_neg (by simp)]
     unfold pushDk
     by_cases c:p.length<8
     ·rw[decide_eq_false (show¬(((p.length+(0+1):Nat):Int))>8 by omega),if_pos c]
      rfl
     ·rw[decide_eq_true (show(((p.length+(0+1):Nat):Int))>8 by omega),if_neg c]
      have i:inc 1 (p.length+(0+1))=some 1:=by unfold inc;rw[if_pos (by omega)];rfl
      rw[cond_true,i,Option.bind_some,List.take_of_length_le (by simp)]
  have ek:((a.1==5)&&((a.2.1==0)&&((a.2.2.1==0)&&true)))=kindB a 5:=rfl
  rw[ek]
  cases k5:kindB a 5 with
  |false=>
   simp only[cond_false,Bool.false_and]
   rw[if_neg (show¬false=true by simp)]
   exact made _ rfl
  |true=>
   simp only[cond_true,Bool.true_and]
   cases p with
   |nil=>
    rw[decide_eq_false (show¬(((([]:List (List Int)).length:Nat):Int))>0 by simp)]
    exact made _ rfl
   |cons x p'=>
    have w:IntKind.wrap .i64 ((((List.length (x::p'):Nat):Int))-1)=(((x::p').length-1:Nat):Int):=by rw[wrap64 (by simp only[List.length_cons];omega) (by omega)];simp only[List.length_cons];omega
    have i:inc (((x::p').length-1:Nat):Int) ((x::p').set ((x::p').length-1) []).length=some ((x::p').length-1):=by
     unfold inc;rw[if_pos (by rw[List.length_set];omega)];simp
    rw[decide_eq_true (show((((x::p').length:Nat):Int))>0 by simp only[List.length_cons];omega),w,inb_nat (by simp only[List.length_cons];omega)]
    simp only[cond_true,Option.bind_some]
    rw[List.getElem?_eq_getElem (show(x::p').length-1<(x::p').length by simp),Option.bind_some,i,Option.bind_some]
    have s:sure (Nat.blt ((x::p').length-1) 0||Nat.ble ((x::p').length-1) ((x::p').length-1))=some ():=by
     have:Nat.ble ((x::p').length-1) ((x::p').length-1)=true:=Nat.ble_eq.mpr (Nat.le_refl _)
     rw[this,Bool.or_true];rfl
    rw[s]
    simp only[Option.bind_some,Sum.elim_inr]
    rw[List.drop_zero,List.take_set_of_le (Nat.le_refl _),←List.dropLast_eq_take]
    simp[List.getLastD_eq_getLast?,List.getLast_eq_getElem,List.getLast?_eq_getElem?]
def newDk (h:List Int):Bool×List Int:=if treeB h=true then(true,h) else(false,[])
theorem specNew_eq (h:List Int):N3p h=some (newDk h):=by
 have e:N3p h=N6b h:=by unfold N3p;rfl
 rw[e]
 unfold N6b newDk
 rw[specTree_eq,Option.bind_some]
 cases t:treeB h with
 |false=>rfl
 |true=>
  rw[room_le (by have:=(tree_len t).2;simp only[List.length_nil];omega)]
  rfl
theorem okDk_mk {n:List Int} {p:List (List Int)} (t:treeB n=true) (l:p.length≤8) (h: ∀x,x∈p→treeB x=true):okDk (n,p)=true:=by
 unfold okDk
 rw[Bool.and_eq_true,Bool.and_eq_true,decide_eq_true_iff,List.all_eq_true]
 exact⟨h,t,l⟩
theorem pushDk_length (p:List (List Int)) (h:List Int) (l:p.length≤8):(pushDk p h).length≤8:=by
 unfold pushDk
 by_cases c:p.length<8
 ·rw[if_pos c,List.length_append,List.length_cons,List.length_nil];omega
 ·rw[if_neg c,List.length_drop,List.length_append,List.length_cons,List.length_nil];omega
theorem pushDk_mem {p:List (List Int)} {h x:List Int} (m:x∈pushDk p h):x∈p∨x=h:=by
 unfold pushDk at m
 have:x∈p++ [h]:=by
  by_cases c:p.length<8
  ·rwa[if_pos c] at m
  ·rw[if_neg c] at m;exact List.mem_of_mem_drop m
 simpa using this
theorem do_ok {d:DeskL} (a:DeedL) (o:okDk d=true):okDk (doDk d a).2=true:=by
 obtain⟨t,l,h⟩:=okDk_and o
 unfold doDk
 rw[if_pos o]
 by_cases c:(kindB a 5&& !d.2.isEmpty)=true
 ·rw[if_pos c]
  rw[Bool.and_eq_true] at c
  have ne:d.2≠ []:=by intro e;rw[e] at c;simp at c
  refine okDk_mk (h _ ?_) (by rw[List.length_dropLast];omega) (fun x hx=>h x (List.dropLast_subset _ hx))
  rw[List.getLastD_eq_getLast?,List.getLast?_eq_some_getLast ne,Option.getD_some]
  exact List.getLast_mem ne
 ·rw[if_neg c]
  by_cases c2:(madeDk d.1 a==d.1|| !treeB (madeDk d.1 a))=true
  ·rw[if_pos c2];exact o
  ·rw[if_neg c2]
   rw[Bool.or_eq_true,Bool.not_eq_true',not_or,Bool.not_eq_false] at c2
   refine okDk_mk c2.2 (pushDk_length _ _ l) (fun x hx=> ?_)
   rcases pushDk_mem hx with m|rfl
   ·exact h x m
   ·exact t
theorem do_not {d:DeskL} (a:DeedL) (o:okDk d=true) (f:(doDk d a).1=false):(doDk d a).2=d:=by
 unfold doDk at f⊢
 rw[if_pos o] at f⊢
 by_cases c:(kindB a 5&& !d.2.isEmpty)=true
 ·rw[if_pos c] at f;cases f
 ·rw[if_neg c] at f⊢
  by_cases c2:(madeDk d.1 a==d.1|| !treeB (madeDk d.1 a))=true
  ·rw[if_pos c2]
  ·rw[if_neg c2] at f;cases f
theorem do_none {d:DeskL} (a:DeedL) (o:okDk d=false):doDk d a=(false,[],[]):=by
 unfold doDk
 rw[if_neg (by rw[o];simp)]
def runDk:DeskL→List DeedL→Nat×DeskL
 |d,[]=>(0,d)
 |d,a::l=>if(doDk d a).1=true then((runDk (doDk d a).2 l).1+1,(runDk (doDk d a).2 l).2) else runDk d l
def runDI (d:DeskL) (l:List DeedL):Int×DeskL:=if(okDk d&&decide (l.length≤40))=true then(((runDk d l).1:Int),(runDk d l).2) else(0,[],[])
theorem runDk_ok: ∀(l:List DeedL) {d:DeskL},okDk d=true→okDk (runDk d l).2=true∧(runDk d l).1≤l.length
 |[],d,o=>⟨o,Nat.le_refl _⟩
 |a::l,d,o=>by
  rw[runDk]
  by_cases c:(doDk d a).1=true
  ·rw[if_pos c]
   have:=runDk_ok l (do_ok a o)
   exact⟨this.1,by rw[List.length_cons];exact Nat.succ_le_succ this.2⟩
  ·rw[if_neg c]
   have:=runDk_ok l o
   exact⟨this.1,by rw[List.length_cons];omega⟩
theorem runDk_append: ∀(l m:List DeedL) (d:DeskL),runDk d (l++m)=((runDk d l).1+(runDk (runDk d l).2 m).1,(runDk (runDk d l).2 m).2)
 |[],m,d=>by rw[List.nil_append,runDk,Nat.zero_add]
 |a::l,m,d=>by
  rw[List.cons_append,runDk,runDk]
  by_cases c:(doDk d a).1=true
  ·rw[if_pos c,if_pos c,runDk_append l m]
   simp only
   congr 1
   omega
  ·rw[if_neg c,if_neg c,runDk_append l m]
def tot (l:List (List Int)):Nat:=(l.map List.length).sum
def szT (S:List (List Int)):Nat:=S.length+tot S
theorem set_ok {o hs:List Int} {m:Nat} (hm:m≤1000000) (ho:o.length=m) (hx: ∀x∈o,1≤x∧x≤(m:Int)) (hh:hs.length=m) {k at_:Int} (hk0:0≤k) (hk:k<m) (ha0:0≤at_) (ha:at_<m) {α:Type} (f:List Int→α):
  ∃l:List Int,l.length=m∧((inb k (List.length o)).bind fun(v638:Nat)=>(o[v638]?).bind fun(v639:Int)=>(inb at_ (List.length o)).bind fun(v641:Nat)=>(o[v641]?).bind fun(v642:Int)=>(inb (IntKind.wrap .i64 (v639-1)) (List.length hs)).bind fun(v643:Nat)=>some (f (hs.set v643 v642)))=some (f l):=by
 have h1:k.toNat<o.length:=by omega
 have h2:at_.toNat<o.length:=by omega
 have hr:=hx o[k.toNat] (List.getElem_mem h1)
 refine⟨hs.set (o[k.toNat]-1).toNat o[at_.toNat],by simpa using hh,?_⟩
 rw[inb_ok hk0 (by omega),inb_ok ha0 (by omega)]
 simp only[Option.bind_some,List.getElem?_eq_getElem h1,List.getElem?_eq_getElem h2]
 rw[wrap64 (by omega) (by omega),inb_ok (by omega) (by omega)]
 rfl
theorem tree_ok {b:List Int} (hb:Bytes b) (n:Int) (hn:n≤1000) {p:Int} (hp:0≤p) (hp2:p≤999990000):
  ∃(q:Int) (h:List Int),N3k n b p=some (q,h)∧p≤q∧q≤p+300∧h.length≤8:=by
 unfold N3k Nkk Nc1
 obtain⟨v,hv,va,vb,_⟩:=pick_ok hb 7 (by omega) hp (by omega)
 have vb':=vb (by omega)
 obtain⟨m,hm⟩: ∃m:Nat,1+v=(m:Int):=⟨(1+v).toNat,by omega⟩
 obtain⟨q1,o,ho,q1a,q1b,hol,hox⟩:=order_ok hb m (by omega) (p:=p+1) (by omega) (by omega)
 obtain⟨nr,hnr,nra,_⟩:=pick_ok hb 2 (by omega) (p:=q1) (by omega) (by omega)
 simp only[hv,Option.bind_some]
 rw[wrap64 (x:=1+v) (by omega) (by omega),hm]
 simp only[ho,mk_nat (show m≤1099511627776 by omega),hnr,Option.bind_some]
 unfold Njo Nj8 N82 No9 Nk0
 obtain⟨⟨q2,hs⟩,h1,h2,h3,h4⟩:=nloop_ex (body:=fun(s:Int×Int×List Int)=>((N6z m nr s.1 b s.2.1 o s.2.2).map (Sum.elim (fun(t:Int×Int×List Int)=>Sum.inl (t.1,t.2.1,t.2.2)) (fun(t:Int×List Int)=>Sum.inr t)):Option ((Int×Int×List Int)⊕((Int×List Int)))))
  (I:=fun s=> ∃(k:Nat) (q:Int) (hs:List Int),s=((k:Int),q,hs)∧1≤k∧k≤m∧q1≤q∧q≤q1+1+2*k∧hs.length=m) (μ:=fun s=>m-s.1.toNat)
  (Q:=fun t=>q1≤t.1∧t.1≤q1+20∧t.2.length=m)
  (by
   rintro _ ⟨k,q,hs,rfl,hk1,hk,qa,qb,hhs⟩
   simp only[N6z]
   by_cases hlt:k<m
   ·left
    rw[show decide ((k:Int)<(m:Int))=true from decide_eq_true (by omega),wrap64 (x:=(k:Int)+1) (by omega) (by omega),wrap64 (x:=(k:Int)-1) (by omega) (by omega)]
    obtain⟨a,ha,aa,ab,_⟩:=pick_ok hb (k:Int) (by omega) (p:=q) (by omega) (by omega)
    have ab':=ab (by omega)
    obtain⟨c,hc,_⟩:=pick_ok hb 2 (by omega) (p:=q+1) (by omega) (by omega)
    simp only[cond_true,ha,Option.bind_some]
    have hmu:m-(((k:Int)+1)).toNat<m-((k:Int)).toNat:=by omega
    cases hnear:(nr==1) with
    |true=>
     simp only[cond_true,hc,Option.bind_some]
     cases h5:(c==0) with
     |true=>
      obtain⟨l,hl,e⟩:=set_ok (by omega) hol hox hhs (k:=(k:Int)) (at_:=(k:Int)-1) (by omega) (by omega) (by omega) (by omega) (fun l=>(Sum.inl ((k:Int)+1,q+1+1,l):(Int×Int×List Int)⊕(Int×List Int)))
      simp only[cond_true]
      rw[e]
      exact⟨_,rfl,⟨k+1,q+1+1,l,by push_cast;rfl,by omega,by omega,by omega,by push_cast;omega,hl⟩,hmu⟩
     |false=>
      obtain⟨l,hl,e⟩:=set_ok (by omega) hol hox hhs (k:=(k:Int)) (at_:=a) (by omega) (by omega) (by omega) (by omega) (fun l=>(Sum.inl ((k:Int)+1,q+1+1,l):(Int×Int×List Int)⊕(Int×List Int)))
      simp only[cond_false]
      rw[e]
      exact⟨_,rfl,⟨k+1,q+1+1,l,by push_cast;rfl,by omega,by omega,by omega,by push_cast;omega,hl⟩,hmu⟩
    |false=>
     obtain⟨l,hl,e⟩:=set_ok (by omega) hol hox hhs (k:=(k:Int)) (at_:=a) (by omega) (by omega) (by omega) (by omega) (fun l=>(Sum.inl ((k:Int)+1,q+1,l):(Int×Int×List Int)⊕(Int×List Int)))
     simp only[cond_false]
     rw[e]
     exact⟨_,rfl,⟨k+1,q+1,l,by push_cast;rfl,by omega,by omega,by omega,by push_cast;omega,hl⟩,hmu⟩
   ·right
    have e:k=m:=by omega
    subst e
    rw[show decide ((k:Int)<(k:Int))=false from decide_eq_false (by omega)]
    exact⟨_,rfl,qa,by show q≤q1+20;omega,hhs⟩) LL (1,q1+1,List.replicate m 0) ⟨1,q1+1,_,rfl,by omega,by omega,by omega,by omega,by simp⟩ (by simp only[LL];omega)
 rw[h1]
 simp only at h2 h3 h4
 simp only[Option.bind_some,Option.map_some]
 unfold Ncq
 obtain⟨od,q3,ho3,q3a,q3b⟩:=odd_ok hb n (by omega) (p:=q2) (by omega) (by omega)
 obtain⟨c,hc,ca,cb,_⟩:=pick_ok hb 4 (by omega) (p:=q3) (by omega) (by omega)
 obtain⟨d,hd,da,db,_⟩:=pick_ok hb (m:Int) (by omega) (p:=q3+1) (by omega) (by omega)
 have db':=db (by omega)
 obtain⟨e,he,ea,eb,_⟩:=pick_ok hb 3 (by omega) (p:=q3+1) (by omega) (by omega)
 have eb':=eb (by omega)
 simp only[ho3,Option.bind_some]
 cases od with
 |false=>exact⟨_,_,rfl,by omega,by omega,by omega⟩
 |true=>
  simp only[cond_true,hc,Option.bind_some]
  cases (c==0) with
  |true=>exact⟨_,_,rfl,by omega,by omega,by simp⟩
  |false=>
   cases (c==1) with
   |true=>exact⟨_,_,rfl,by omega,by omega,by simp⟩
   |false=>
    cases (c==2) with
    |true=>
     simp only[cond_true,cond_false,hd,Option.bind_some,inb_ok da (show d<(hs.length:Nat) by omega)]
     rw[room_le (by simp;omega)]
     exact⟨_,_,rfl,by omega,by omega,by simp;omega⟩
    |false=>
     simp only[cond_true,cond_false,he,Option.bind_some]
     have hin:inb e (List.length ([1,(IntKind.wrap .i64 ((m:Int)+1)),(-1)]))=some e.toNat:=inb_ok ea (by simp;omega)
     have hin0:inb 0 (List.length hs)=some 0:=inb_ok (by omega) (by omega)
     have hlt:e.toNat<([1,(IntKind.wrap .i64 ((m:Int)+1)),(-1)]:List Int).length:=by simp;omega
     rw[hin]
     simp only[Option.bind_some,List.getElem?_eq_getElem hlt,hin0]
     exact⟨_,_,rfl,by omega,by omega,by simp;omega⟩
theorem fill_ok {b:List Int} (hb:Bytes b) (m:Nat) (hm:m≤20): ∀(f:Nat) (low high head p:Int) (hs:List Int),(high-low+1).toNat<f→1≤low→low≤high+1→high≤m→hs.length=m→0≤p→p+2*(high-low+1)≤999980000→
  ∃(q:Int) (ks:List Int),N31 f low high head b p hs=some (q,ks)∧p≤q∧q≤p+2*(high-low+1)∧(low≤high→q+1≤p+2*(high-low+1))∧ks.length=m:=by
 intro f
 induction f with
 |zero=>intro low high head p hs h;omega
 |succ f ih=>
  intro low high head p hs hf h1 h2 h3 hl hp hp2
  simp only[N31]
  generalize hR:N31 f=R0 at ih
  unfold Nj4 Nmz Nbg
  by_cases h0:low>high
  ·rw[decide_eq_true h0]
   exact⟨p,hs,rfl,by omega,by omega,by omega,hl⟩
  ·rw[decide_eq_false h0]
   obtain⟨v,hv,va,vb,_⟩:=pick_ok hb (high-low+1) (by omega) (p:=p) (by omega) (by omega)
   have vb':=vb (by omega)
   rw[wrap64 (x:=high-low) (by omega) (by omega),wrap64 (x:=high-low+1) (by omega) (by omega)]
   simp only[cond_false,hv,Option.bind_some]
   rw[wrap64 (x:=low+v) (by omega) (by omega),wrap64 (x:=low+v-1) (by omega) (by omega),inb_ok (by omega) (show low+v-1<(hs.length:Nat) by omega)]
   simp only[Option.bind_some,Sum.elim_inl]
   generalize hroot:low+v=root
   unfold Nkv Nlx Nnn Noy Naw Np6 No3
   obtain⟨⟨q1,k1⟩,e1,a1,a2,a3⟩:=nloop_ex (body:=fun(s:Int×Int×(List Int))=>((N71 R0 root s.1 b s.2.1 s.2.2).map (Sum.elim (fun(t:Int×Int×(List Int))=>Sum.inl (t.1,t.2.1,t.2.2)) (fun(t:Int×(List Int))=>Sum.inr t)):Option ((Int×Int×(List Int))⊕((Int×(List Int))))))
    (I:=fun s=> ∃(fr q:Int) (ks:List Int),s=(fr,q,ks)∧low≤fr∧fr≤root∧p+1≤q∧q≤p+1+2*(fr-low)∧ks.length=m) (μ:=fun s=>(root-s.1).toNat)
    (Q:=fun t=>p+1≤t.1∧t.1≤p+1+2*(root-low)∧t.2.length=m)
    (by
     rintro _ ⟨fr,q,ks,rfl,i1,i2,i3,i4,i6⟩
     simp only[N71]
     by_cases hlt:fr<root
     ·left
      rw[decide_eq_true hlt,wrap64 (x:=root-fr) (by omega) (by omega)]
      obtain⟨w,hw,wa,wb,_⟩:=pick_ok hb (root-fr) (by omega) (p:=q) (by omega) (by omega)
      have wb':=wb (by omega)
      simp only[cond_true,hw,Option.bind_some]
      rw[wrap64 (x:=fr+w) (by omega) (by omega),wrap64 (x:=fr+w+1) (by omega) (by omega)]
      obtain⟨q2,k2,e2,b1,b2,b4,b3⟩:=ih fr (fr+w) root (q+1) ks (by omega) (by omega) (by omega) (by omega) i6 (by omega) (by omega)
      have b4':=b4 (by omega)
      rw[e2]
      exact⟨(fr+w+1,q2,k2),rfl,⟨fr+w+1,q2,k2,rfl,by omega,by omega,by omega,by omega,b3⟩,by simp only;omega⟩
     ·right
      rw[decide_eq_false hlt]
      exact⟨(q,ks),rfl,i3,by show q≤_;omega,i6⟩) LL (low,p+1,hs.set (root-1).toNat head) ⟨low,p+1,_,rfl,by omega,by omega,by omega,by omega,by simpa using hl⟩ (by simp only[LL];omega)
   simp only at a1 a2 a3
   rw[e1]
   simp only[Option.map_some,Option.bind_some]
   rw[wrap64 (x:=root+1) (by omega) (by omega)]
   obtain⟨⟨q2,k2⟩,e2,c1,c2,c3⟩:=nloop_ex (body:=fun(s:Int×Int×(List Int))=>((N6i R0 high root s.1 b s.2.1 s.2.2).map (Sum.elim (fun(t:Int×Int×(List Int))=>Sum.inl (t.1,t.2.1,t.2.2)) (fun(t:Int×(List Int))=>Sum.inr t)):Option ((Int×Int×(List Int))⊕((Int×(List Int))))))
    (I:=fun s=> ∃(fr q:Int) (ks:List Int),s=(fr,q,ks)∧root+1≤fr∧fr≤high+1∧p+1≤q∧q≤p+1+2*(root-low)+2*(fr-root-1)∧ks.length=m) (μ:=fun s=>(high+1-s.1).toNat)
    (Q:=fun t=>p+1≤t.1∧t.1≤p+1+2*(high-low)∧t.2.length=m)
    (by
     rintro _ ⟨fr,q,ks,rfl,i1,i2,i3,i4,i6⟩
     simp only[N6i]
     by_cases hlt:fr≤high
     ·left
      rw[decide_eq_true hlt,wrap64 (x:=high-fr) (by omega) (by omega),wrap64 (x:=high-fr+1) (by omega) (by omega)]
      obtain⟨w,hw,wa,wb,_⟩:=pick_ok hb (high-fr+1) (by omega) (p:=q) (by omega) (by omega)
      have wb':=wb (by omega)
      simp only[cond_true,hw,Option.bind_some]
      rw[wrap64 (x:=fr+w) (by omega) (by omega),wrap64 (x:=fr+w+1) (by omega) (by omega)]
      obtain⟨q2,k2,e2,b1,b2,b4,b3⟩:=ih fr (fr+w) root (q+1) ks (by omega) (by omega) (by omega) (by omega) i6 (by omega) (by omega)
      have b4':=b4 (by omega)
      rw[e2]
      exact⟨(fr+w+1,q2,k2),rfl,⟨fr+w+1,q2,k2,rfl,by omega,by omega,by omega,by omega,b3⟩,by simp only;omega⟩
     ·right
      rw[decide_eq_false hlt]
      exact⟨(q,ks),rfl,i3,by show q≤_;omega,i6⟩) LL (root+1,q1,k1) ⟨root+1,q1,k1,rfl,by omega,by omega,by omega,by omega,a3⟩ (by simp only[LL];omega)
   simp only at c1 c2 c3
   rw[e2]
   exact⟨q2,k2,rfl,by omega,by omega,by omega,c3⟩
theorem flat_ok {b:List Int} (hb:Bytes b) (n:Int) (hn:n≤1000) {p:Int} (hp:0≤p) (hp2:p≤999970000):
  ∃(q:Int) (h:List Int),N2c n b p=some (q,h)∧p≤q∧q≤p+400∧h.length≤8:=by
 have e:N2c n b p=N7o n b p:=by unfold N2c;rfl
 rw[e]
 unfold N7o
 obtain⟨c,hc,ca,_⟩:=pick_ok hb 3 (by omega) (p:=p) (by omega) (by omega)
 simp only[hc,Option.bind_some]
 cases (c==0) with
 |true=>
  obtain⟨q,h,hq,qa,qb,h8⟩:=tree_ok hb n hn (p:=p+1) (by omega) (by omega)
  simp only[cond_true,hq,Option.bind_some]
  exact⟨q,h,rfl,by omega,by omega,h8⟩
 |false=>
  obtain⟨v,hv,va,vb,_⟩:=pick_ok hb 7 (by omega) (p:=p+1) (by omega) (by omega)
  have vb':=vb (by omega)
  obtain⟨m,hm⟩: ∃m:Nat,1+v=(m:Int):=⟨(1+v).toNat,by omega⟩
  simp only[cond_false,hv,Option.bind_some]
  rw[wrap64 (x:=1+v) (by omega) (by omega),hm,mk_nat (by omega)]
  have e2:N7c 1 (m:Int) 0 b (p+1+1) (List.replicate m 0)=N31 RR 1 (m:Int) 0 b (p+1+1) (List.replicate m 0):=by unfold N7c N1d;rfl
  obtain⟨q,ks,hq,qa,qb,_,hk⟩:=fill_ok hb m (by omega) RR 1 (m:Int) 0 (p+1+1) (List.replicate m 0) (by simp only[RR];omega) (by omega) (by omega) (by omega) (by simp) (by omega) (by omega)
  simp only[Option.bind_some,e2,hq]
  exact⟨q,ks,rfl,by omega,by omega,by omega⟩
theorem wild_ok {b:List Int} (hb:Bytes b) (n:Int) (hn:n≤1000) {p:Int} (hp:0≤p) (hp2:p≤999960000):
  ∃(q:Int) (h:List Int),N2h n b p=some (q,h)∧p≤q∧q≤p+1000∧h.length≤8:=by
 have e:N2h n b p=N7b n b p:=by unfold N2h;rfl
 rw[e]
 unfold N7b
 obtain⟨q,h,hq,qa,qb,h8⟩:=tree_ok hb n hn hp (by omega)
 obtain⟨c,hc,_⟩:=pick_ok hb 2 (by omega) (p:=q) (by omega) (by omega)
 obtain⟨d,hd,_⟩:=pick_ok hb 3 (by omega) (p:=q+1) (by omega) (by omega)
 obtain⟨qf,hf,hqf,fa,fb,f8⟩:=flat_ok hb n hn (p:=q+1+1) (by omega) (by omega)
 obtain⟨qo,o,ho,oa,ob,ol,_⟩:=order_ok hb h.length (by omega) (p:=q+1) (by omega) (by omega)
 have tail: ∃(q':Int) (h':List Int),((N0 3 b (q+1)).bind fun(v4853:Int×Int)=>cond ((v4853.1)==0) ((N2c n b (v4853.2)).bind fun(v4857:Int×(List Int))=>some ((v4857.1),(v4857.2))) (some ((v4853.2),h)))=some (q',h')∧p≤q'∧q'≤p+1000∧h'.length≤8:=by
  simp only[hd,Option.bind_some]
  cases (d==0) with
  |true=>simp only[cond_true,hqf,Option.bind_some];exact⟨_,_,rfl,by omega,by omega,f8⟩
  |false=>exact⟨_,_,rfl,by omega,by omega,h8⟩
 simp only[hq,hc,Option.bind_some]
 cases (c==0) with
 |false=>exact tail
 |true=>
  simp only[cond_true,specTree_eq,Option.bind_some]
  cases hT:treeB h with
  |false=>exact tail
  |true=>
   simp only[cond_true,ho,Option.bind_some,specPut_eq h o (by omega)]
   refine⟨_,_,rfl,by omega,by omega,?_⟩
   split
   ·rw[putRow_length];omega
   ·simp
theorem deed_ok {b:List Int} (hb:Bytes b) (h:List Int) (hl:h.length≤1000) {p:Int} (hp:0≤p) (hp2:p≤999990000):
  ∃(q k a c:Int),N1j h b p=some (q,k,a,c)∧p≤q∧q≤p+10:=by
 suffices H: ∃r,N1j h b p=some r∧(p≤r.1∧r.1≤p+10) by
  obtain⟨⟨q,k,a,c⟩,h1,h2,h3⟩:=H
  exact⟨q,k,a,c,h1,h2,h3⟩
 have e:N1j h b p=N7l h b p:=by unfold N1j;rfl
 rw[e]
 unfold N7l
 obtain⟨v1,h1,a1,b1,_⟩:=pick_ok hb 8 (by omega) hp (by omega)
 have b1:=b1 (by omega)
 obtain⟨v2,h2,a2,b2,_⟩:=pick_ok hb 60 (by omega) (p:=p+1) (by omega) (by omega)
 have b2:=b2 (by omega)
 obtain⟨v3,h3,_⟩:=idx_ok (b:=[0,0,1,1,2,3,4,5]) a1 (by simp only[List.length_cons,List.length_nil];omega)
 obtain⟨v4,h4,_⟩:=quo_ok (a:=v2) (b:=59) (by omega) a2 (by omega)
 have tail: ∀(q k x y:Int),0≤q→q≤999999000→ ∃r:Int×Int×Int×Int,((Np 40 b q).bind fun(v:Bool×Int)=>cond (v.1) ((N0 3 b (v.2)).bind fun(w:Int×Int)=>(inb (w.1) (List.length ([(-1),9,100]:List Int))).bind fun(m:Nat)=>(([(-1),9,100]:List Int)[m]?).bind fun(c:Int)=>some (w.2,k,x,c)) (some (v.2,k,x,y)))=some r∧(q≤r.1∧r.1≤q+2):=by
  intro q k x y q0 q1
  obtain⟨v,s,ho,oa,ob⟩:=odd_ok hb 40 (by omega) q0 (by omega)
  rw[ho,Option.bind_some]
  cases v with
  |false=>exact⟨_,rfl,by simp only;omega,by simp only;omega⟩
  |true=>
   obtain⟨w,hw,wa,wb,_⟩:=pick_ok hb 3 (by omega) (p:=s) (by omega) (by omega)
   have wb:=wb (by omega)
   simp only[cond_true,hw,Option.bind_some]
   rw[inb_ok wa (by simp only[List.length_cons,List.length_nil];omega),Option.bind_some,List.getElem?_eq_getElem (show w.toNat<([(-1),9,100]:List Int).length by simp only[List.length_cons,List.length_nil];omega),Option.bind_some]
   exact⟨_,rfl,by simp only;omega,by simp only;omega⟩
 simp only[h1,h2,h3,h4,Option.bind_some]
 generalize IntKind.wrap .i64 (v3+(IntKind.wrap .i64 (v4*6)))=kk
 have wl:IntKind.wrap .i64 ((((List.length h:Nat):Int))+1)=((List.length h+1:Nat):Int):=by rw[wrap64 (by omega) (by omega)];omega
 have im:imax (((List.length h:Nat):Int)) 1≤1000:=by unfold imax;split<;>omega
 rw[wl]
 cases kk==0 with
 |true=>
  obtain⟨v5,h5,_⟩:=pick_ok hb (imax (((List.length h:Nat):Int)) 1) (by omega) (p:=p+1+1) (by omega) (by omega)
  obtain⟨v6,h6,_⟩:=pick_ok hb ((List.length h+1:Nat):Int) (by omega) (p:=p+1+1+1) (by omega) (by omega)
  simp only[cond_true,h5,h6,Option.bind_some]
  obtain⟨r,hr,ra,rb⟩:=tail (p+1+1+1+1) kk (IntKind.wrap .i64 (1+v5)) v6 (by omega) (by omega)
  exact⟨r,hr,by omega,by omega⟩
 |false=>
  cases kk==1 with
  |true=>
   obtain⟨v5,h5,_⟩:=pick_ok hb ((List.length h+1:Nat):Int) (by omega) (p:=p+1+1) (by omega) (by omega)
   obtain⟨v6,h6,a6,b6,_⟩:=pick_ok hb 9 (by omega) (p:=p+1+1+1) (by omega) (by omega)
   have b6:=b6 (by omega)
   obtain⟨v7,h7,_⟩:=quo_ok (a:=v6) (b:=8) (by omega) a6 (by omega)
   simp only[cond_true,cond_false,h5,h6,h7,Option.bind_some]
   obtain⟨r,hr,ra,rb⟩:=tail (p+1+1+1+1) kk (IntKind.wrap .i64 (v5+v7)) 0 (by omega) (by omega)
   exact⟨r,hr,by omega,by omega⟩
  |false=>
   simp only[cond_false]
   obtain⟨r,hr,ra,rb⟩:=tail (p+1+1) kk 0 0 (by omega) (by omega)
   exact⟨r,hr,by omega,by omega⟩
def Small (d:DeskL):Prop:=d.1.length≤8∧d.2.length≤9∧ ∀x,x∈d.2→x.length≤8
theorem small_ok {d:DeskL} (o:okDk d=true):Small d∧d.2.length≤8:=by
 obtain⟨t,l,h⟩:=okDk_and o
 exact⟨⟨(tree_len t).2,by omega,fun x hx=>(tree_len (h x hx)).2⟩,l⟩
theorem small_sum: ∀{p:List (List Int)},(∀x,x∈p→x.length≤8)→tot p≤8*p.length
 |[],_=>Nat.zero_le _
 |x::p,h=>by
  have:=small_sum (p:=p) (fun y hy=>h y (List.mem_cons_of_mem _ hy))
  have:=h x (List.mem_cons_self ..)
  unfold tot at*
  rw[List.map_cons,List.sum_cons,List.length_cons]
  omega
theorem small_sz {d:DeskL} (s:Small d):d.1.length+szT d.2≤100:=by
 obtain⟨h1,h2,h3⟩:=s
 have:=small_sum h3
 unfold szT
 omega
abbrev dkBody (b:List Int):Int×Int×(List Int)×(List (List Int))→Option ((Int×Int×(List Int)×(List (List Int)))⊕(Int×(List Int)×(List (List Int)))):=
 fun(s:Int×Int×(List Int)×(List (List Int)))=>((N6q s.1 b s.2.1 s.2.2.1 s.2.2.2).map (Sum.elim (fun(t:Int×Int×(List Int)×(List (List Int)))=>Sum.inl (t.1,t.2.1,t.2.2.1,t.2.2.2)) (fun(t:Int×(List Int)×(List (List Int)))=>Sum.inr t)):Option ((Int×Int×(List Int)×(List (List Int)))⊕((Int×(List Int)×(List (List Int))))))
theorem desk_ok {b:List Int} (hb:Bytes b) (n:Int) (hn:n≤1000) {p:Int} (hp:0≤p) (hp2:p≤999960000):
  ∃(q:Int) (d:DeskL),N44 n b p=some (q,d)∧p≤q∧q≤p+2000∧Small d:=by
 have e:N44 n b p=Nei n b p:=by unfold N44;rfl
 rw[e]
 unfold Nei Nbp Nnv No7 Nao Njw Njh
 obtain⟨q,h,hq,qa,qb,h8⟩:=wild_ok hb 0 (by omega) hp (by omega)
 obtain⟨m,hm,ma,mb,_⟩:=pick_ok hb 6 (by omega) (p:=q) (by omega) (by omega)
 have mb:=mb (by omega)
 have n8:(newDk h).2.length≤8:=by
  unfold newDk
  cases t:treeB h with
  |true=>exact h8
  |false=>simp
 simp only[hq,specNew_eq,Option.bind_some,hm]
 obtain⟨r,hr,ra,rb,rs⟩:=nloop_ex (body:=dkBody b)
  (I:=fun t=>0≤t.1∧t.1≤6∧q≤t.2.1∧t.2.1+10*t.1≤q+100∧Small t.2.2∧t.2.2.2.length≤8)
  (μ:=fun t=>t.1.toNat) (Q:=fun r=>q≤r.1∧r.1≤q+100∧Small r.2∧r.2.2.length≤8)
  (by
   rintro⟨k,s,d⟩ ⟨k0,k6,sa,sb,sm,l8⟩
   simp only at k0 k6 sa sb sm l8
   simp only[dkBody,N6q]
   by_cases c:k>0
   ·left
    obtain⟨s',kk,x,y,hd,da,db⟩:=deed_ok hb d.1 (by have:=sm.1;omega) (p:=s) (by omega) (by omega)
    have w:IntKind.wrap .i64 (k-1)=k-1:=wrap64 (by omega) (by omega)
    have sp:=specDo_eq d.1 d.2 (kk,x,y,()) (by omega)
    simp only at sp
    rw[decide_eq_true c,w]
    simp only[cond_true,hd,Option.bind_some,sp]
    cases f:(doDk d (kk,x,y,())).1 with
    |true=>
     have o:okDk d=true:=by
      cases o:okDk d with
      |true=>rfl
      |false=>rw[do_none _ o] at f;cases f
     have so:=small_ok (do_ok (kk,x,y,()) o)
     exact⟨(k-1,s',(doDk d (kk,x,y,())).2),rfl,⟨by simp only;omega,by simp only;omega,by simp only;omega,by simp only;omega,so.1,so.2⟩,by simp only;omega⟩
    |false=>exact⟨(k-1,s',d),rfl,⟨by simp only;omega,by simp only;omega,by simp only;omega,by simp only;omega,sm,l8⟩,by simp only;omega⟩
   ·right
    rw[decide_eq_false c]
    exact⟨(s,d),rfl,sa,by simp only;omega,sm,l8⟩) LL (m,q+1,(newDk h).2,([]:List (List Int)))
  ⟨by simp only;omega,by simp only;omega,by simp only;omega,by simp only;omega,⟨n8,by simp,by simp⟩,by simp⟩ (by simp only[LL];omega)
 rw[hr]
 obtain⟨s,d⟩:=r
 simp only at ra rb rs
 simp only[Option.map_some,Option.bind_some]
 unfold Nai
 obtain⟨v,s',ho,oa,ob⟩:=odd_ok hb n (by omega) (p:=s) (by omega) (by omega)
 rw[ho,Option.bind_some]
 cases v with
 |false=>exact⟨s',d,rfl,by omega,by omega,rs.1⟩
 |true=>
  obtain⟨w,hw,wa,wb,_⟩:=pick_ok hb 3 (by omega) (p:=s') (by omega) (by omega)
  simp only[cond_true,hw,Option.bind_some]
  obtain⟨⟨d1,d2,d3⟩,dl⟩:=rs
  cases w==0 with
  |true=>exact⟨_,([1],d.2),rfl,by omega,by omega,⟨by simp,d2,d3⟩⟩
  |false=>
   cases w==1 with
   |true=>
    simp only[cond_true,cond_false]
    rw[room_le (by omega),Option.bind_some]
    refine⟨_,(d.1,(d.2++ [[]]).set d.2.length []),rfl,by omega,by omega,⟨d1,by rw[List.length_set,List.length_append,List.length_cons,List.length_nil];omega,?_⟩⟩
    intro x hx
    rw[List.set_append_right _ _ (Nat.le_refl _),Nat.sub_self] at hx
    rcases List.mem_append.mp hx with hx|hx
    ·exact d3 x hx
    ·simp at hx;rw[hx];simp
   |false=>exact⟨_,([],[]),rfl,by omega,by omega,⟨by simp,by simp,by simp⟩⟩
theorem sameInts_eq (xs ys:List Int) (h:xs.length≤1048576):N2s xs ys=some (xs==ys):=by
 have e:N2s xs ys=Ngl xs ys:=by unfold N2s;rfl
 rw[e]
 unfold Ngl N8c Nnk Nj5 Nnu Nou Ncg N96
 by_cases hl:xs.length=ys.length
 ·have hloop:=nloop_run (body:=fun(s:Int)=>((N4p xs ys s).map (Sum.elim (fun(t:Int)=>Sum.inl t) (Sum.elim (fun(t:Bool)=>Sum.inr (Sum.inl t)) (fun(t:Unit)=>Sum.inr (Sum.inr t)))):Option ((Int)⊕(Bool⊕Unit))))
   (I:=fun s=> ∃k:Nat,s=k∧k≤xs.length) (μ:=fun s=>xs.length-s.toNat) (f:=fun s=>cond (xs.drop s.toNat==ys.drop s.toNat) (.inr ()) (.inl false))
   (by
    rintro _ ⟨k,rfl,hk⟩
    by_cases hlt:k<xs.length
    ·have hlt':k<ys.length:=by omega
     simp only[N4p]
     rw[show decide ((k:Int)<((xs.length:Nat):Int))=true from decide_eq_true (by omega)]
     simp only[cond_true,idx_lt hlt,idx_lt hlt',Option.bind_some,Int.toNat_natCast]
     rw[wrap64 (by omega) (by omega),drop_beq hlt hlt']
     by_cases he:xs[k]=ys[k]
     ·left
      refine⟨((k+1:Nat):Int),by simp[he],⟨k+1,rfl,hlt⟩,by simp;omega,by simp[he]⟩
     ·right
      have e1:(xs[k]==ys[k])=false:=by simpa using he
      simp[bne,e1]
    ·right
     have e:k=xs.length:=by omega
     subst e
     simp only[N4p]
     rw[show decide (((xs.length:Nat):Int)<((xs.length:Nat):Int))=false from decide_eq_false (by omega)]
     simp[List.drop_of_length_le (Nat.le_of_eq hl.symm)])
  rw[show((((xs.length:Nat):Int)) !=(((ys.length:Nat):Int)))=false by simp[hl]]
  simp only[cond_false,Option.bind_some,Sum.elim_inl]
  rw[hloop LL 0 ⟨0,by simp,by omega⟩ (by simp only[LL];simp;omega)]
  simp only[Int.toNat_zero,List.drop_zero]
  cases xs==ys<;>rfl
 ·rw[show((((xs.length:Nat):Int)) !=(((ys.length:Nat):Int)))=true by simp;omega]
  have:(xs==ys)=false:=by
   rw[beq_eq_false_iff_ne]
   exact fun e=>hl (by rw[e])
  rw[this];rfl
theorem drop_beq2 {xs ys:List (List Int)} {k:Nat} (h:k<xs.length) (h':k<ys.length):(xs.drop k==ys.drop k)=((xs[k]==ys[k])&&(xs.drop (k+1)==ys.drop (k+1))):=by
 rw[List.drop_eq_getElem_cons h,List.drop_eq_getElem_cons h',List.cons_beq_cons]
theorem sameRows_eq (xs ys:List (List Int)) (h:xs.length≤1048576) (hr: ∀x,x∈xs→x.length≤1048576):N3f xs ys=some (xs==ys):=by
 have e:N3f xs ys=Nih xs ys:=by unfold N3f;rfl
 rw[e]
 unfold Nih N9p Nkx Nmq Nok Nje Nc4 N7x
 by_cases hl:xs.length=ys.length
 ·have hloop:=nloop_run (body:=fun(s:Int)=>((N5p xs ys s).map (Sum.elim (fun(t:Int)=>Sum.inl t) (Sum.elim (fun(t:Bool)=>Sum.inr (Sum.inl t)) (fun(t:Unit)=>Sum.inr (Sum.inr t)))):Option ((Int)⊕(Bool⊕Unit))))
   (I:=fun s=> ∃k:Nat,s=k∧k≤xs.length) (μ:=fun s=>xs.length-s.toNat) (f:=fun s=>cond (xs.drop s.toNat==ys.drop s.toNat) (.inr ()) (.inl false))
   (by
    rintro _ ⟨k,rfl,hk⟩
    by_cases hlt:k<xs.length
    ·have hlt':k<ys.length:=by omega
     simp only[N5p]
     rw[show decide ((k:Int)<((xs.length:Nat):Int))=true from decide_eq_true (by omega)]
     simp only[cond_true,idx_lt hlt,idx_lt hlt',Option.bind_some,Int.toNat_natCast]
     rw[wrap64 (by omega) (by omega),drop_beq2 hlt hlt',sameInts_eq _ _ (hr _ (List.getElem_mem hlt)),Option.bind_some]
     by_cases he:xs[k]=ys[k]
     ·left
      refine⟨((k+1:Nat):Int),by simp[he],⟨k+1,rfl,hlt⟩,by simp;omega,by simp[he]⟩
     ·right
      have e1:(xs[k]==ys[k])=false:=by simpa using he
      simp[bne,e1]
    ·right
     have e:k=xs.length:=by omega
     subst e
     simp only[N5p]
     rw[show decide (((xs.length:Nat):Int)<((xs.length:Nat):Int))=false from decide_eq_false (by omega)]
     simp[List.drop_of_length_le (Nat.le_of_eq hl.symm)])
  rw[show((((xs.length:Nat):Int)) !=(((ys.length:Nat):Int)))=false by simp[hl]]
  simp only[cond_false,Option.bind_some,Sum.elim_inl]
  rw[hloop LL 0 ⟨0,by simp,by omega⟩ (by simp only[LL];simp;omega)]
  simp only[Int.toNat_zero,List.drop_zero]
  cases xs==ys<;>rfl
 ·rw[show((((xs.length:Nat):Int)) !=(((ys.length:Nat):Int)))=true by simp;omega]
  have:(xs==ys)=false:=by
   rw[beq_eq_false_iff_ne]
   exact fun e=>hl (by rw[e])
  rw[this];rfl
theorem sameDesk_eq (d e:DeskL) (s:Small d):N5n d.1 d.2 e.1 e.2=some (d==e):=by
 obtain⟨s1,s2,s3⟩:=s
 obtain⟨n,p⟩:=d
 obtain⟨m,q⟩:=e
 simp only at s1 s2 s3
 unfold N5n N9a
 simp only
 rw[sameInts_eq n m (by omega),Option.bind_some,sameRows_eq p q (by omega) (fun x hx=>by have:=s3 x hx;omega)]
 rw[show((n,p)==(m,q))=((n==m)&&(p==q)) from rfl]
 cases n==m<;>rfl
abbrev dsBody (h b:List Int):Int×Int×List DeedL→Option ((Int×Int×List DeedL)⊕(Int×List DeedL)):=
 fun(s:Int×Int×(List (Int×Int×Int×Unit)))=>((N6j h s.1 b s.2.1 s.2.2).map (Sum.elim (fun(t:Int×Int×(List (Int×Int×Int×Unit)))=>Sum.inl (t.1,t.2.1,t.2.2)) (fun(t:Int×(List (Int×Int×Int×Unit)))=>Sum.inr t)):Option ((Int×Int×(List (Int×Int×Int×Unit)))⊕((Int×(List (Int×Int×Int×Unit))))))
theorem deeds_ok {b:List Int} (hb:Bytes b) (h:List Int) (hl:h.length≤1000) {p:Int} (hp:0≤p) (hp2:p≤999980000):
  ∃(q:Int) (l:List DeedL),N2g h b p=some (q,l)∧p≤q∧q≤p+200∧l.length≤6:=by
 have e:N2g h b p=Ndp h b p:=by unfold N2g;rfl
 rw[e]
 unfold Ndp Naz Njq Nk7 N92 Nn9 Nlz
 obtain⟨m,hm,ma,mb,_⟩:=pick_ok hb 6 (by omega) hp (by omega)
 have mb:=mb (by omega)
 simp only[hm,Option.bind_some]
 obtain⟨r,hr,ra,rb,rs⟩:=nloop_ex (body:=dsBody h b)
  (I:=fun t=>0≤t.1∧t.1+((t.2.2.length:Nat):Int)≤6∧p≤t.2.1∧t.2.1+10*t.1≤p+200)
  (μ:=fun t=>t.1.toNat) (Q:=fun r=>p≤r.1∧r.1≤p+200∧r.2.length≤6)
  (by
   rintro⟨k,s,l⟩ ⟨k0,k6,sa,sb⟩
   simp only at k0 k6 sa sb
   simp only[dsBody,N6j]
   by_cases c:k>0
   ·left
    obtain⟨s',kk,x,y,hd,da,db⟩:=deed_ok hb h hl (p:=s) (by omega) (by omega)
    have w:IntKind.wrap .i64 (k-1)=k-1:=wrap64 (by omega) (by omega)
    rw[decide_eq_true c,w]
    simp only[cond_true,hd,Option.bind_some]
    rw[room_le (by simp only[List.length_cons,List.length_nil];omega)]
    exact⟨(k-1,s',l++ [(kk,x,y,())]),rfl,⟨by simp only;omega,by simp only[List.length_append,List.length_cons,List.length_nil];omega,by simp only;omega,by simp only;omega⟩,by simp only;omega⟩
   ·right
    rw[decide_eq_false c]
    exact⟨(s,l),rfl,by simp only;omega,by simp only;omega,by simp only;omega⟩) LL (m,p+1,([]:List DeedL))
  ⟨by simp only;omega,by simp only[List.length_nil];omega,by simp only;omega,by simp only;omega⟩ (by simp only[LL];omega)
 rw[hr]
 obtain⟨s,l⟩:=r
 exact⟨s,l,rfl,by simpa using ra,by simpa using rb,rs⟩
abbrev wrBody (l:List DeedL):Int×List DeedL→Option ((Int×List DeedL)⊕List DeedL):=
 fun(s:Int×(List (Int×Int×Int×Unit)))=>((N6w s.1 s.2 l).map (Sum.elim (fun(t:Int×(List (Int×Int×Int×Unit)))=>Sum.inl (t.1,t.2)) (fun(t:(List (Int×Int×Int×Unit)))=>Sum.inr t)):Option ((Int×(List (Int×Int×Int×Unit)))⊕(((List (Int×Int×Int×Unit))))))
theorem written_ok {b:List Int} (hb:Bytes b) {p:Int} (hp:0≤p) (hp2:p≤999950000):
  ∃(q:Int) (l:List DeedL),N33 b p=some (q,l)∧p≤q∧q≤p+2000∧l.length≤6:=by
 have e:N33 b p=Ndh b p:=by unfold N33;rfl
 rw[e]
 unfold Ndh Nag Nm9 Nkj Nac Nmd Nnc
 obtain⟨q,h,hq,qa,qb,h8⟩:=wild_ok hb 0 (by omega) hp (by omega)
 obtain⟨s,l,hl,sa,sb,l6⟩:=deeds_ok hb h (by omega) (p:=q) (by omega) (by omega)
 simp only[hq,hl,Option.bind_some]
 obtain⟨r,hr,rl⟩:=nloop_ex (body:=wrBody l)
  (I:=fun t=> ∃k:Nat,t.1=(k:Int)∧k≤l.length∧t.2.length≤k)
  (μ:=fun t=>l.length-t.1.toNat) (Q:=fun r=>r.length≤l.length)
  (by
   rintro⟨i,o⟩ ⟨k,ei,hk,ho⟩
   simp only at ei ho
   subst ei
   simp only[wrBody,N6w]
   by_cases c:k<l.length
   ·left
    have w:IntKind.wrap .i64 ((k:Int)+1)=((k+1:Nat):Int):=by rw[wrap64 (by omega) (by omega)];omega
    rw[decide_eq_true (show(k:Int)<((l.length:Nat):Int) by omega),inb_nat c,w]
    simp only[cond_true,Option.bind_some,List.getElem?_eq_getElem c,specDeed_eq]
    cases seqs (deedT l[k].1 l[k].2.1 l[k].2.2.1) ByteArray.empty with
    |true=>exact⟨(((k+1:Nat):Int),o),rfl,⟨k+1,rfl,c,by simp only;omega⟩,by simp only[Int.toNat_natCast];omega⟩
    |false=>
     rw[room_le (by simp only[List.length_cons,List.length_nil];omega)]
     exact⟨(((k+1:Nat):Int),o++ [l[k]]),rfl,⟨k+1,rfl,c,by simp only[List.length_append,List.length_cons,List.length_nil];omega⟩,by simp only[Int.toNat_natCast];omega⟩
   ·right
    rw[decide_eq_false (show¬(k:Int)<((l.length:Nat):Int) by omega)]
    exact⟨o,rfl,by omega⟩) LL (0,([]:List DeedL)) ⟨0,rfl,by omega,by simp⟩ (by simp only[LL,Int.toNat_zero];omega)
 rw[hr]
 exact⟨s,r,rfl,by omega,by omega,by omega⟩
theorem spoil_ok {b:List Int} (hb:Bytes b) (s:ByteArray) (hs:s.size≤1000) {p:Int} (hp:0≤p) (hp2:p≤999990000):
  ∃(t:ByteArray) (q:Int),N3j s b p=some (t,q)∧p≤q∧q≤p+2∧t.size≤s.size+4:=by
 have e:N3j s b p=N6a s b p:=by unfold N3j;rfl
 rw[e]
 unfold N6a
 cases c:(((ByteArray.size s:Nat):Int))==0 with
 |true=>exact⟨_,p,rfl,by omega,by omega,by show 1≤_;omega⟩
 |false=>
  have c':1≤s.size:=by
   have:=beq_eq_false_iff_ne.mp c
   omega
  obtain⟨v,hv,va,vb,_⟩:=pick_ok hb ((ByteArray.size s:Nat):Int) (by omega) hp (by omega)
  have vb:=vb (by omega)
  obtain⟨w,hw,wa,wb,_⟩:=pick_ok hb 6 (by omega) (p:=p+1) (by omega) (by omega)
  have wb:=wb (by omega)
  have ix: ∃t:ByteArray,idx ([ByteArray.empty,(ByteArray.mk #[48]),(ByteArray.mk #[32]),(ByteArray.mk #[10]),(ByteArray.mk #[45]),(ByteArray.mk #[98,97,99,107])]) w=some t∧t.size≤4:=by
   have:w=0∨w=1∨w=2∨w=3∨w=4∨w=5:=by omega
   rcases this with rfl|rfl|rfl|rfl|rfl|rfl<;>exact⟨_,rfl,by decide⟩
  obtain⟨t,ht,t4⟩:=ix
  have w1:IntKind.wrap .i64 (v+1)=v+1:=wrap64 (by omega) (by omega)
  simp only[cond_false,hv,hw,Option.bind_some,w1,ht]
  rw[inc_ok va (by omega),Option.bind_some,inc_ok (by omega) (by omega),Option.bind_some]
  have e1:(s.extract 0 v.toNat).size≤v.toNat:=by rw[ByteArray.size_extract];omega
  have e2:(s.extract (v+1).toNat s.size).size≤s.size-(v+1).toNat:=by rw[ByteArray.size_extract];omega
  rw[catT (by omega),Option.bind_some,catT (by rw[ByteArray.size_append];omega),Option.bind_some]
  exact⟨_,_,rfl,by omega,by omega,by rw[ByteArray.size_append,ByteArray.size_append];omega⟩
theorem sameDeeds_refl (l:List DeedL) (h:l.length≤1048576):N2t l l=some true:=by
 have e:N2t l l=Ne9 l l:=by unfold N2t;rfl
 rw[e]
 unfold Ne9 Na1 Noa Njz Na5 Nl5 Njb Nbi
 have lp:=nloop_to (body:=fun(s:Int)=>((N4y l l s).map (Sum.elim (fun(t:Int)=>Sum.inl t) (Sum.elim (fun(t:Bool)=>Sum.inr (Sum.inl t)) (fun(t:Unit)=>Sum.inr (Sum.inr t)))):Option ((Int)⊕(Bool⊕Unit))))
  (fun k=>(k:Int)) l.length (Sum.inr ())
  (by
   intro k hk
   have w:IntKind.wrap .i64 ((k:Int)+1)=((k+1:Nat):Int):=by rw[wrap64 (by omega) (by omega)];omega
   simp only[N4y]
   rw[decide_eq_true (show(k:Int)<((l.length:Nat):Int) by omega),idx_lt hk,w]
   simp)
  (by
   simp only[N4y]
   rw[decide_eq_false (show¬((l.length:Nat):Int)<((l.length:Nat):Int) by omega)]
   rfl) LL (by simp only[LL];omega)
 have lp':=lp
 rw[show((0:Nat):Int)=0 from rfl] at lp'
 simp only[bne_self_eq_false,cond_false,Option.bind_some,Sum.elim_inl]
 rw[lp']
 rfl
theorem tree0:treeB [0]=true:=by decide
theorem tree1:treeB [1]=false:=by decide
theorem alive_eq:N2p=some true:=by
 unfold N2p N8p
 simp[implTree_eq,tree0,tree1]
end Go.Rv
