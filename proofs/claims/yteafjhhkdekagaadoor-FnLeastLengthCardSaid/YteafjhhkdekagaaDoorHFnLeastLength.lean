/-
  Plain mathematics of what the law reaches. Conditions: none.
-/
import Derived.Test.YteafjhhkdekagaaDoorHFnLeastLengtha
set_option linter.unusedVariables false
set_option linter.unusedSimpArgs false
namespace Go.Rv
theorem ins_behind {l:List Nat} (so:l.Pairwise (· ≤ ·)) {x j:Nat} (hj:j≤l.length) (up: ∀i,j≤i→i<l.length→x<l.getD i 0) (lo:j=0∨l.getD (j-1) 0≤x):
  l.take j++ [x]++l.drop j=insS l x:=by
 have at': ∀i (hi:i<l.length),l.getD i 0=l[i]:=fun i hi=>by simp[List.getD,hi]
 have mono:=List.pairwise_iff_getElem.mp so
 refine sorted_eq ?_ (insS_sorted so x) ?_
 ·rw[List.append_assoc,List.pairwise_append]
  refine⟨so.sublist (List.take_sublist ..),?_,?_⟩
  ·rw[List.singleton_append,List.pairwise_cons]
   refine⟨fun y hy=> ?_,so.sublist (List.drop_sublist ..)⟩
   obtain⟨i,hi,rfl⟩:=List.getElem_of_mem hy
   rw[List.length_drop] at hi
   rw[List.getElem_drop]
   have:=up (j+i) (by omega) (by omega)
   rw[at' _ (by omega)] at this
   omega
  ·intro a ha b hb
   obtain⟨i,hi,rfl⟩:=List.getElem_of_mem ha
   rw[List.length_take] at hi
   rw[List.getElem_take]
   have ax:l[i]≤x:=by
    rcases lo with z|lo
    ·omega
    ·rw[at' _ (by omega)] at lo
     rcases Nat.lt_or_ge i (j-1) with q|q
     ·exact Nat.le_trans (mono i (j-1) (by omega) (by omega) q) lo
     ·have:i=j-1:=by omega
      subst this
      exact lo
   rw[List.singleton_append] at hb
   rcases List.mem_cons.mp hb with rfl|hb
   ·exact ax
   ·obtain⟨i',hi',rfl⟩:=List.getElem_of_mem hb
    rw[List.length_drop] at hi'
    rw[List.getElem_drop]
    have:=up (j+i') (by omega) (by omega)
    rw[at' _ (by omega)] at this
    omega
 ·refine List.Perm.trans ?_ (insS_perm l x).symm
  rw[List.append_assoc,List.singleton_append]
  have:=List.perm_middle (a:=x) (l₁:=l.take j) (l₂:=l.drop j)
  rw[List.take_append_drop] at this
  exact this
theorem down_loop (x:Nat) {l:List Nat} (hl:l.length≤100): ∀(n:Nat) (N:Nat),n≤l.length→n<N→(∀i,n≤i→i<l.length→x<l.getD i 0)→
  ∃j,j≤l.length∧(∀i,j≤i→i<l.length→x<l.getD i 0)∧(j=0∨l.getD (j-1) 0≤x)∧
   nloop (fun(s:Int)=>((N21 (x:Int) s (cstL l)).map (Sum.elim (fun(t:Int)=>Sum.inl t) (fun(t:Int)=>Sum.inr t)):Option ((Int)⊕(Int)))) N (n:Int)=some (j:Int)
 |0,N,hn,hN,up=>by
  obtain⟨N',rfl⟩: ∃N',N=N'+1:=⟨N-1,by omega⟩
  refine⟨0,by omega,up,.inl rfl,?_⟩
  simp only[nloop,N21]
  rfl
 |n+1,N,hn,hN,up=>by
  obtain⟨N',rfl⟩: ∃N',N=N'+1:=⟨N-1,by omega⟩
  have g:(cstL l)[n]? =some ((l.getD n 0:Nat):Int):=by
   rw[castL_get]
   simp[List.getD,show n<l.length by omega]
  have w:IntKind.wrap .i64 (((n+1:Nat):Int)-1)=(n:Int):=by rw[wrap64 (by omega) (by omega)];omega
  have st:(N21 (x:Int) ((n+1:Nat):Int) (cstL l))=if x<l.getD n 0 then some (Sum.inl (n:Int)) else some (Sum.inr ((n+1:Nat):Int)):=by
   unfold N21
   rw[decide_eq_true (show((n+1:Nat):Int)>0 by omega),w,inb_nat (by rw[cstL_length];omega)]
   simp only[cond_true,Option.bind_some,g]
   by_cases q:x<l.getD n 0
   ·rw[if_pos q,decide_eq_true (show(x:Int)<((l.getD n 0:Nat):Int) by omega)]
    rfl
   ·rw[if_neg q,decide_eq_false (show¬(x:Int)<((l.getD n 0:Nat):Int) by omega)]
    rfl
  by_cases q:x<l.getD n 0
  ·obtain⟨j,h1,h2,h3,h4⟩:=down_loop x hl n N' (by omega) (by omega) (fun i hi hi2=>by
    rcases Nat.lt_or_ge n i with z|z
    ·exact up i (by omega) hi2
    ·have:i=n:=by omega
     subst this
     exact q)
   refine⟨j,h1,h2,h3,?_⟩
   rw[←h4]
   simp only[nloop,st,if_pos q,Option.map_some,Sum.elim_inl,Option.bind_some]
  ·refine⟨n+1,hn,up,.inr (by simpa using q),?_⟩
   simp only[nloop,st,if_neg q,Option.map_some,Sum.elim_inr,Option.bind_some]
theorem inserted_eq (x:Nat) {l:List Nat} (hl:l.length≤100) (so:l.Pairwise (· ≤ ·)):N29 (x:Int) (cstL l)=some (cstL (insS l x)):=by
 have e:N29 (x:Int) (cstL l)=Nce (x:Int) (cstL l):=by unfold N29;rfl
 rw[e]
 unfold Nce N8u Ni7 Nhs Ne4
 obtain⟨j,h1,h2,h3,h4⟩:=down_loop x hl l.length LL (Nat.le_refl _) (by simp only[LL];omega) (fun i a b=>by omega)
 simp only[Option.bind_some,cstL_length]
 rw[h4]
 simp only[Option.map_some,Option.bind_some]
 unfold N5s Nf8 insI
 have ic:inc (j:Int) (cstL l).length=some j:=by
  unfold inc
  rw[cstL_length,if_pos (by omega),Int.toNat_natCast]
 simp only[ic,Option.bind_some]
 rw[room_le (by rw[cstL_length];simp;omega)]
 simp only[Option.bind_some]
 rw[←ins_behind so h1 h2 h3]
 simp[cstL]
theorem deps_words {h:List Int} (T:Tree h) (w:Nat):wordsL (maskN (headB h (w:Int)) h.length)=cstL (kidW h w):=by
 rw[wordsL_mask _ T.le]
 unfold kidW cstL
 rw[List.filter_map,List.map_map]
 have:(List.range h.length).filter (headB h (w:Int))=(List.range h.length).filter ((fun k=>hd h k==w)∘fun x=>x+1):=by
  refine List.filter_congr fun i hi=> ?_
  have hi:=List.mem_range.mp hi
  unfold headB
  rw[T.getD_hd hi]
  simp only[Function.comp]
  rw[Bool.eq_iff_iff,beq_iff_eq,beq_iff_eq]
  omega
 rw[this]
 rfl
theorem kidW_mem {h:List Int} {w c:Nat} (m:c∈kidW h w):1≤c∧c≤h.length:=by
 unfold kidW at m
 obtain⟨i,hi,rfl⟩:=List.mem_map.mp (List.mem_filter.mp m).1
 have:=List.mem_range.mp hi
 omega
theorem sizesBelow_eq {h:List Int} (T:Tree h) {w:Nat} (w1:1≤w) (w2:w≤h.length):N2a h (yieldL h) (w:Int)=some (cstL (sizesW h w)):=by
 have e:N2a h (yieldL h) (w:Int)=N9d h (yieldL h) (w:Int):=by unfold N2a;rfl
 have l8:=T.le
 have k7:=kidW_le T w1 w2
 rw[e]
 unfold N9d N6v Nh3 Nfo N72
 rw[dependents_eq _ _ l8]
 have m8:maskN (headB h (w:Int)) h.length<256:=by
  have:=maskN_lt (headB h (w:Int)) h.length
  have:(2:Nat)^h.length≤2^8:=Nat.pow_le_pow_right (by omega) l8
  omega
 simp only[Option.bind_some,list_eq m8,deps_words T w]
 unfold Nha Ngq
 have lp:=nloop_to (body:=fun(s:Int×(List Int))=>((N33 (yieldL h) (((cstL (kidW h w)).length:Nat):Int) s.1 s.2 (cstL (kidW h w))).map (Sum.elim (fun(t:Int×(List Int))=>Sum.inl (t.1,t.2)) (fun(t:(List Int))=>Sum.inr t)):Option ((Int×(List Int))⊕(((List Int))))))
  (fun k=>((k:Int),cstL (sortS (((kidW h w).take k).map (sizeW h))))) (kidW h w).length (cstL (sizesW h w))
  (by
   intro k hk
   have g:(cstL (kidW h w))[k]? =some (((kidW h w)[k]:Nat):Int):=by rw[castL_get,List.getElem?_eq_getElem hk];rfl
   have m:=kidW_mem (List.getElem_mem hk)
   have t1:(kidW h w).take (k+1)=(kidW h w).take k++ [(kidW h w)[k]]:=by rw[List.take_add_one,List.getElem?_eq_getElem hk];rfl
   have sl:(sortS (((kidW h w).take k).map (sizeW h))).length≤100:=by rw[(sortS_perm _).length_eq,List.length_map,List.length_take];omega
   have wk:IntKind.wrap .i64 ((k:Int)+1)=((k+1:Nat):Int):=by rw[wrap64 (by omega) (by omega)];omega
   generalize (kidW h w)[k]=c at g m t1
   have w2:IntKind.wrap .i64 ((c:Int)-1)=((c-1:Nat):Int):=by rw[wrap64 (by omega) (by omega)];omega
   simp only[N33]
   rw[cstL_length,decide_eq_true (show(k:Int)<(((kidW h w).length:Nat):Int) by omega),inb_nat hk,wk]
   simp only[cond_true,Option.bind_some,g,w2]
   rw[idx_nat,yieldL_get h (show c-1<h.length by omega),show c-1+1=c by omega]
   simp only[Option.bind_some]
   rw[count_eq (ymask_lt l8 c),size_words T]
   simp only[Option.bind_some]
   rw[inserted_eq _ sl (sortS_sorted _),t1,List.map_append,List.map_cons,List.map_nil,sortS_snoc]
   rfl)
  (by
   simp only[N33]
   rw[cstL_length,decide_eq_false (show¬(((kidW h w).length:Nat):Int)<(((kidW h w).length:Nat):Int) by omega),List.take_length]
   rfl) LL (by simp only[LL];omega)
 have lp':=lp
 rw[show((0:Nat):Int)=0 from rfl,show cstL (sortS (((kidW h w).take 0).map (sizeW h)))=[] from rfl] at lp'
 rw[lp']
 rfl
def stepC (l:List Nat) (s:Nat) (a:Nat×Nat×Nat) (k:Nat):Nat×Nat×Nat:=
 if s/2^k%2=1 then(a.1+(a.2.2+1),a.2.1,a.2.2+l.getD k 0) else(a.1+(a.2.1+1),a.2.1+l.getD k 0,a.2.2)
theorem selL_cons (x:Nat) (r:List Nat) (s:Nat):selL (x::r) s=if s%2=1 then(x::(selL r (s/2)).1,(selL r (s/2)).2) else((selL r (s/2)).1,x::(selL r (s/2)).2):=by rw[selL]
theorem steps_cost: ∀(l:List Nat) (s:Nat) (a:Nat×Nat×Nat),(List.range l.length).foldl (stepC l s) a=
  (a.1+l.length+costL (selL l s).1+costL (selL l s).2+a.2.2*(selL l s).1.length+a.2.1*(selL l s).2.length,a.2.1+(selL l s).2.sum,a.2.2+(selL l s).1.sum)
 |[],s,(c,b0,b1)=>by simp[selL,costL]
 |x::r,s,(c,b0,b1)=>by
  rw[List.length_cons,List.range_succ_eq_map,List.foldl_cons,List.foldl_map]
  have sh:(fun(a:Nat×Nat×Nat) (k:Nat)=>stepC (x::r) s a (k+1))=stepC r (s/2):=by
   funext a k
   unfold stepC
   rw[List.getD_cons_succ,Nat.pow_succ,Nat.mul_comm,←Nat.div_div_eq_div_mul]
  show(List.range r.length).foldl (fun(a:Nat×Nat×Nat) (k:Nat)=>stepC (x::r) s a (k+1)) _=_
  rw[sh,steps_cost r (s/2)]
  unfold stepC
  rw[selL_cons,Nat.pow_zero,Nat.div_one,List.getD_cons_zero]
  by_cases q:s%2=1
  ·rw[if_pos q,if_pos q]
   refine congr (congrArg Prod.mk ?_) (congr (congrArg Prod.mk ?_) ?_)<;>simp only[costL,List.length_cons,List.sum_cons,Nat.mul_add,Nat.add_mul,Nat.mul_one,Nat.one_mul]<;>omega
  ·rw[if_neg q,if_neg q]
   refine congr (congrArg Prod.mk ?_) (congr (congrArg Prod.mk ?_) ?_)<;>simp only[costL,List.length_cons,List.sum_cons,Nat.mul_add,Nat.add_mul,Nat.mul_one,Nat.one_mul]<;>omega
theorem sel_turn: ∀(l:List Nat) (s:Nat),s<2^l.length→selL l (2^l.length-1-s)=((selL l s).2,(selL l s).1)
 |[],s,_=>rfl
 |x::r,s,h=>by
  rw[List.length_cons,Nat.pow_succ] at h⊢
  have ih:=sel_turn r (s/2) (by omega)
  have d:(2^r.length*2-1-s)/2=2^r.length-1-s/2:=by omega
  rw[selL_cons,selL_cons,d,ih]
  by_cases q:s%2=1
  ·rw[if_pos q,if_neg (by omega)]
  ·rw[if_neg q,if_pos (by omega)]
theorem costS_turn (l:List Nat) (root:Bool) {s:Nat} (h:s<2^l.length):costS l root (2^l.length-1-s)=costL (selL l s).1+costL (selL l s).2+if root=true then 0 else(selL l s).2.sum:=by
 unfold costS
 rw[sel_turn l s h]
theorem shr_nat {a k:Nat} (hk:k≤64):shr .u64 (a:Int) (k:Int)=some ((a/2^k:Nat):Int):=by
 unfold shr
 rw[if_neg (by omega),Int.toNat_natCast,show min k (IntKind.bits .u64)=k by show min k 64=k;omega]
 congr 1
 rw[Int.fdiv_eq_ediv_of_nonneg _ (Int.pow_nonneg (by omega)),show(2:Int)^k=((2^k:Nat):Int) by simp]
 exact(Int.natCast_ediv _ _).symm
theorem choice_eq {l:List Nat} (h8: ∀x∈l,x≤8) (hl:l.length≤7) {s:Nat} (hs:s<2^l.length) (root:Bool):
  N10 (cstL l) (s:Int) (!root)=some ((l.length+costS l root (2^l.length-1-s):Nat):Int):=by
 have e:N10 (cstL l) (s:Int) (!root)=Nb6 (cstL l) (s:Int) (!root):=by unfold N10;rfl
 rw[e]
 unfold Nb6 N6t Nfu Ndp N7h Nfy Nfd
 have s7:s<128:=by
  have:(2:Nat)^l.length≤2^7:=Nat.pow_le_pow_right (by omega) hl
  omega
 have it: ∀k,l.getD k 0≤8:=fun k=>by
  rw[List.getD_eq_getElem?_getD]
  cases g:l[k]? with
  |none=>simp
  |some x=>exact h8 x (List.mem_of_getElem? g)
 let A:Nat→Nat×Nat×Nat:=fun k=>(List.range k).foldl (stepC l s) (0,0,0)
 have A1: ∀k,A (k+1)=stepC l s (A k) k:=fun k=>by
  show(List.range (k+1)).foldl _ _=_
  rw[List.range_succ,List.foldl_append]
  rfl
 have bd: ∀k,k≤7→(A k).1≤60*k∧(A k).2.1≤8*k∧(A k).2.2≤8*k:=by
  intro k
  induction k with
  |zero=>intro _;exact⟨Nat.zero_le _,Nat.zero_le _,Nat.zero_le _⟩
  |succ k ih=>
   intro hk
   obtain⟨a,b,c⟩:=ih (by omega)
   have:=it k
   rw[A1]
   unfold stepC
   split
   ·refine⟨?_,?_,?_⟩<;>dsimp only<;>omega
   ·refine⟨?_,?_,?_⟩<;>dsimp only<;>omega
 have lp:=nloop_to (body:=fun(t:Int×Int×(List Int))=>((N3s (s:Int) t.1 (cstL l) ((l.length:Nat):Int) t.2.1 t.2.2).map (Sum.elim (fun(t:Int×Int×(List Int))=>Sum.inl (t.1,t.2.1,t.2.2)) (fun(t:Int×(List Int))=>Sum.inr t)):Option ((Int×Int×(List Int))⊕((Int×(List Int))))))
  (fun k=>((((A k).1:Nat):Int),(k:Int),[(((A k).2.1:Nat):Int),(((A k).2.2:Nat):Int)])) l.length ((((A l.length).1:Nat):Int),[(((A l.length).2.1:Nat):Int),(((A l.length).2.2:Nat):Int)])
  (by
   intro k hk
   obtain⟨b1,b2,b3⟩:=bd k (by omega)
   have ik:=it k
   have g:idx (cstL l) (k:Int)=some ((l.getD k 0:Nat):Int):=by
    rw[idx_nat,castL_get]
    simp[List.getD,hk]
   have wk:IntKind.wrap .i64 ((k:Int)+1)=((k+1:Nat):Int):=by rw[wrap64 (by omega) (by omega)];omega
   have sd:s/2^k≤s:=Nat.div_le_self ..
   have ia:iand .u64 ((s/2^k:Nat):Int) 1=((s/2^k%2:Nat):Int):=by
    have:=iandu (a:=s/2^k) (b:=1) (by omega) (by omega)
    rw[Nat.and_one_is_mod] at this
    exact this
   simp only[N3s]
   rw[decide_eq_true (show(k:Int)<((l.length:Nat):Int) by omega),g,shr_nat (by omega),wk]
   simp only[cond_true,Option.bind_some,ia,same,List.length_cons,List.length_nil,if_true]
   rw[A1]
   unfold stepC
   have c2:s/2^k%2=0∨s/2^k%2=1:=by omega
   rcases c2 with c2|c2
   ·rw[c2,if_neg (by omega),inb_nat (show 0<2 by omega)]
    simp only[Option.bind_some,List.getElem?_cons_zero,List.set_cons_zero,Option.map_some,Sum.elim_inl]
    rw[wrap64 (x:=(((A k).2.1:Nat):Int)+1) (by omega) (by omega),wrap64 (by omega) (by omega),wrap64 (by omega) (by omega)]
    rfl
   ·rw[c2,if_pos rfl,inb_nat (show 1<2 by omega)]
    simp only[Option.bind_some,List.getElem?_cons_succ,List.getElem?_cons_zero,List.set_cons_succ,List.set_cons_zero,Option.map_some,Sum.elim_inl]
    rw[wrap64 (x:=(((A k).2.2:Nat):Int)+1) (by omega) (by omega),wrap64 (by omega) (by omega),wrap64 (by omega) (by omega)]
    rfl)
  (by
   simp only[N3s]
   rw[decide_eq_false (show¬((l.length:Nat):Int)<((l.length:Nat):Int) by omega)]
   rfl) LL (by simp only[LL];omega)
 simp only[Option.bind_some,cstL_length]
 have lp':=lp
 rw[show((((A 0).1:Nat):Int),((0:Nat):Int),[(((A 0).2.1:Nat):Int),(((A 0).2.2:Nat):Int)])=((0:Int),(0:Int),List.replicate 2 (0:Int)) from rfl] at lp'
 rw[lp']
 simp only[Option.map_some,Option.bind_some]
 obtain⟨b1,b2,b3⟩:=bd l.length hl
 have fin:A l.length=(l.length+costL (selL l s).1+costL (selL l s).2,(selL l s).2.sum,(selL l s).1.sum):=by
  show(List.range l.length).foldl _ _=_
  rw[steps_cost]
  simp
 unfold N75
 rw[costS_turn l root hs]
 rw[fin] at b1 b2 b3⊢
 dsimp only at b1 b2 b3
 cases root with
 |true=>
  simp only[Bool.not_true,cond_false,if_true,Nat.add_zero,Nat.add_assoc]
 |false=>
  simp only[Bool.not_false,cond_true,same,List.length_cons,List.length_nil,if_true,Option.bind_some]
  rw[show inb (0:Int) 2=some 0 from rfl]
  simp only[Option.bind_some,List.getElem?_cons_zero]
  rw[wrap64 (by omega) (by omega),if_neg (by decide)]
  congr 1
  omega
def lowC (F:Nat→Nat):Nat→Nat
 |0=>F 0
 |k+1=>min (lowC F k) (F k)
theorem lowC_min (F:Nat→Nat): ∀k,lowC F (k+1)=minN F k
 |0=>by simp[lowC,minN]
 |k+1=>by
  rw[lowC,lowC_min F k]
  rfl
theorem least_turn (l:List Nat) (root:Bool):minN (fun s=>l.length+costS l root (2^l.length-1-s)) (2^l.length-1)=l.length+leastC l root:=by
 have p:1≤2^l.length:=Nat.one_le_two_pow
 refine Nat.le_antisymm ?_ ?_
 ·obtain⟨k,hk,e⟩:=minN_at (f:=costS l root) (2^l.length-1)
  unfold leastC
  rw[e]
  have:=minN_le (f:=fun s=>l.length+costS l root (2^l.length-1-s)) (n:=2^l.length-1) (k:=2^l.length-1-k) (by omega)
  rw[show 2^l.length-1-(2^l.length-1-k)=k by omega] at this
  exact this
 ·obtain⟨k,hk,e⟩:=minN_at (f:=fun s=>l.length+costS l root (2^l.length-1-s)) (2^l.length-1)
  rw[e]
  have:=leastC_le (l:=l) (root:=root) (s:=2^l.length-1-k) (by omega)
  omega
theorem leastBy_eq {l:List Nat} (h8: ∀x∈l,x≤8) (hl:l.length≤7) (root:Bool):N27 (cstL l) (!root)=some ((l.length+leastC l root:Nat):Int):=by
 have e:N27 (cstL l) (!root)=Nc8 (cstL l) (!root):=by unfold N27;rfl
 have p:1≤2^l.length:=Nat.one_le_two_pow
 have p7:(2:Nat)^l.length≤2^7:=Nat.pow_le_pow_right (by omega) hl
 rw[e]
 unfold Nc8 N7z
 have c0:=choice_eq h8 hl (s:=0) (by omega) root
 rw[show(0:Int)=((0:Nat):Int) from rfl,c0]
 simp only[Option.bind_some]
 unfold Nd9 Nfc N6f
 have sh:shl .u64 1 ((l.length:Nat):Int)=some ((2^l.length:Nat):Int):=by
  unfold shl
  rw[if_neg (by omega),Int.toNat_natCast,show min l.length (IntKind.bits .u64)=l.length by show min l.length 64=l.length;omega,Int.one_mul]
  congr 1
  rw[show(2:Int)^l.length=((2^l.length:Nat):Int) by simp,wrapu64 (by omega) (by omega)]
 rw[cstL_length,sh]
 simp only[Option.bind_some]
 unfold Nfx Ndw
 generalize hF:(fun s=>l.length+costS l root (2^l.length-1-s))=F
 have cF: ∀s:Nat,s<2^l.length→N10 (cstL l) (s:Int) (!root)=some ((F s:Nat):Int):=fun s hs=>by rw[choice_eq h8 hl hs,←hF]
 have lp:=nloop_to (body:=fun(s:Int×Int)=>((N3j (cstL l) (!root) s.1 ((2^l.length:Nat):Int) s.2).map (Sum.elim (fun(t:Int×Int)=>Sum.inl (t.1,t.2)) (fun(t:Int)=>Sum.inr t)):Option ((Int×Int)⊕(Int))))
  (fun k=>(((lowC F k:Nat):Int),(k:Int))) (2^l.length) ((lowC F (2^l.length):Nat):Int)
  (by
   intro k hk
   have wk:IntKind.wrap .u64 ((k:Int)+1)=((k+1:Nat):Int):=by rw[wrapu64 (by omega) (by omega)];omega
   simp only[N3j]
   rw[decide_eq_true (show(k:Int)<((2^l.length:Nat):Int) by exact_mod_cast hk),cF k hk,wk]
   simp only[cond_true,Option.bind_some,Option.map_some,Sum.elim_inl,iminN,lowC])
  (by
   simp only[N3j]
   rw[decide_eq_false (show¬((2^l.length:Nat):Int)<((2^l.length:Nat):Int) by omega)]
   rfl) LL (by simp only[LL];omega)
 have f0:l.length+costS l root (2^l.length-1-0)=lowC F 0:=by rw[←hF];rfl
 rw[f0]
 have lp':=lp
 rw[show((0:Nat):Int)=0 from rfl] at lp'
 rw[lp']
 simp only[Option.map_some,Option.bind_some]
 unfold N5f
 have lo:=lowC_min F (2^l.length-1)
 rw[show 2^l.length-1+1=2^l.length by omega] at lo
 rw[lo,←hF,least_turn]
theorem sizesW_kids {h:List Int} {w:Nat}:(sizesW h w).length=kidsN h w:=by
 unfold sizesW kidW kidsN
 rw[(sortS_perm _).length_eq,List.length_map,List.filter_map,List.length_map,List.countP_eq_length_filter]
 rfl
theorem implLeast_eq (h:List Int):N13 h=some (leastI h):=by
 have e:N13 h=N9q h:=by unfold N13;rfl
 rw[e]
 unfold N9q N7y leastI
 rw[implTree_eq]
 cases t:treeB h with
 |false=>rfl
 |true=>
  have T:=(tree_iff h).mp t
  have l8:=T.le
  have l1:=T.pos
  simp only[Option.bind_some,Bool.not_true,cond_false,if_true,yields_eq T,Sum.elim_inl]
  unfold Ng0 Nds N5z
  simp only[Option.bind_some]
  unfold Nfe Ndz
  have one: ∀i,i<h.length→(sizesW h (i+1)).length+leastW h (i+1)≤1160:=fun i hi=>by
   have:=sizesW_len T (w:=i+1) (by omega) (by omega)
   have:=leastW_le T (w:=i+1) (by omega) (by omega)
   omega
  have sb: ∀k,k≤h.length→sumR (fun i=>(sizesW h (i+1)).length+leastW h (i+1)) k≤1160*k:=by
   intro k
   induction k with
   |zero=>intro _;simp[sumR]
   |succ k ih=>
    intro hk
    have:=one k (by omega)
    have:=ih (by omega)
    rw[sumR]
    omega
  have all:sumR (fun i=>(sizesW h (i+1)).length+leastW h (i+1)) h.length=leastN h:=by
   rw[sumR_add,leastN]
   congr 1
   rw[sumR_congr (g:=fun i=>kidsN h (i+1)) fun i hi=>sizesW_kids]
   exact kids_total T
  have lp:=nloop_to (body:=fun(s:Int×Int)=>((N2x h s.1 ((h.length:Nat):Int) s.2 (yieldL h)).map (Sum.elim (fun(t:Int×Int)=>Sum.inl (t.1,t.2)) (fun(t:Int)=>Sum.inr t)):Option ((Int×Int)⊕(Int))))
   (fun k=>(((sumR (fun i=>(sizesW h (i+1)).length+leastW h (i+1)) k:Nat):Int),(k:Int))) h.length ((leastN h:Nat):Int)
   (by
    intro k hk
    have g:=T.get (w:=k+1) (by omega) (by omega)
    rw[Nat.add_sub_cancel] at g
    have b:=sb k (by omega)
    have o:=one k hk
    have wk:IntKind.wrap .i64 ((k:Int)+1)=((k+1:Nat):Int):=by rw[wrap64 (by omega) (by omega)];omega
    simp only[N2x]
    rw[decide_eq_true (show(k:Int)<((h.length:Nat):Int) by omega),idx_nat,g,wk]
    simp only[cond_true,Option.bind_some]
    rw[sizesBelow_eq T (by omega) (by omega)]
    have r:(((hd h (k+1):Nat):Int) !=0)= !(hd h (k+1)==0):=by
     rw[Bool.eq_iff_iff]
     simp
    rw[r]
    simp only[Option.bind_some]
    rw[leastBy_eq (sizesW_mem T) (sizesW_len T (by omega) (by omega))]
    simp only[Option.bind_some,Option.map_some,Sum.elim_inl]
    rw[sumR,show leastC (sizesW h (k+1)) (hd h (k+1)==0)=leastW h (k+1) from rfl,wrap64 (by omega) (by omega)]
    rfl)
   (by
    simp only[N2x]
    rw[decide_eq_false (show¬((h.length:Nat):Int)<((h.length:Nat):Int) by omega),all]
    rfl) LL (by simp only[LL];omega)
  have lp':=lp
  rw[show sumR (fun i=>(sizesW h (i+1)).length+leastW h (i+1)) 0=0 from rfl,show((0:Nat):Int)=0 from rfl] at lp'
  rw[lp']
  rfl
theorem arcLen_eq (a b:Int):N45 a b=some (IntKind.wrap .i64 (b-a)):=by
 unfold N45
 rfl
def arcD (h:List Int):List Nat:=((List.range h.length).filter fun i=>decide (h.getD i 0>0)).map fun i=>lenW h (i+1)
theorem arcD_length (h:List Int):(arcD h).length=(arcsP h).length:=by simp[arcD,arcsP,arcsK]
theorem arcD_get {h:List Int} (T:Tree h) {k:Nat} (hk:k<(arcsP h).length):
  ∃(lo d:Nat),((arcsP h).map asArc)[k]? =some ((lo:Int),(((lo+d:Nat):Int),()))∧(arcD h)[k]? =some d∧lo+d≤8:=by
 have l8:=T.le
 unfold arcsP arcsK at hk⊢
 rw[List.length_map] at hk
 have hm:=List.getElem_mem hk
 unfold arcD
 rw[List.getElem?_map,List.getElem?_map,List.getElem?_map,List.getElem?_eq_getElem hk]
 generalize ((List.range h.length).filter fun i=>decide (h.getD i 0>0))[k]=i at hm
 rw[List.mem_filter,List.mem_range,decide_eq_true_eq] at hm
 obtain⟨hi,hp⟩:=hm
 simp only[Option.map_some]
 rw[T.getD_hd hi] at hp⊢
 have hl:=T.hd_le (w:=i+1) (by omega) (by omega)
 refine⟨min (i+1) (hd h (i+1)),lenW h (i+1),?_,rfl,?_⟩
 ·simp only[asArc]
  rw[show(i:Int)+1=((i+1:Nat):Int) by omega,iminN,imaxN]
  unfold lenW
  rw[if_neg (by omega)]
  congr 4
  omega
 ·unfold lenW
  rw[if_neg (by omega)]
  omega
theorem lenW_off {h:List Int} (T:Tree h) {i:Nat} (hi:i<h.length) (hp:decide (h.getD i 0>0)=false):lenW h (i+1)=0:=by
 rw[T.getD_hd hi,decide_eq_false_iff_not] at hp
 unfold lenW
 rw[if_pos (by omega)]
theorem arcD_sum {h:List Int} (T:Tree h):(arcD h).sum=lenN h:=by
 unfold arcD lenN
 rw[sumR_list]
 have: ∀l:List Nat,(∀i∈l,i<h.length)→((l.filter fun i=>decide (h.getD i 0>0)).map fun i=>lenW h (i+1)).sum=(l.map fun i=>lenW h (i+1)).sum:=by
  intro l
  induction l with
  |nil=>intro _;rfl
  |cons i l ih=>
   intro hl
   have ih:=ih fun j hj=>hl j (List.mem_cons_of_mem _ hj)
   cases hp:decide (h.getD i 0>0) with
   |true=>rw[List.filter_cons_of_pos (by simpa using hp),List.map_cons,List.map_cons,List.sum_cons,List.sum_cons,ih]
   |false=>rw[List.filter_cons_of_neg (by simpa using hp),List.map_cons,List.sum_cons,ih,lenW_off T (hl i (List.mem_cons_self ..)) hp,Nat.zero_add]
 exact this _ fun i hi=>List.mem_range.mp hi
theorem sum_take (l:List Nat) (k:Nat):(l.take k).sum≤l.sum:=by
 have:(l.take k++l.drop k).sum=l.sum:=by rw[List.take_append_drop]
 rw[List.sum_append] at this
 omega
theorem take_one {l:List Nat} {k d:Nat} (h:l[k]? =some d):l.take (k+1)=l.take k++ [d]:=by
 rw[List.take_add_one,h]
 rfl
theorem implLen_eq (h:List Int):Nf h=some (lenI h):=by
 have e:Nf h=Nau h:=by unfold Nf;rfl
 rw[e]
 unfold Nau N82 lenI
 rw[implTree_eq]
 cases t:treeB h with
 |false=>rfl
 |true=>
  have T:=(tree_iff h).mp t
  have l64:=len_le T
  have dl:=arcD_length h
  simp only[Option.bind_some,Bool.not_true,cond_false,Sum.elim_inl,if_true]
  unfold Nh7 Nda N7x
  rw[implArcs_eq T]
  simp only[Option.bind_some]
  unfold Ner Nhz
  have al:((arcsP h).map asArc).length=(arcsP h).length:=List.length_map ..
  have a8:(arcsP h).length≤h.length:=arcsK_length h _
  have h8:=T.le
  have lp:=nloop_to (body:=fun(s:Int×Int)=>((N3x s.1 ((((arcsP h).map asArc).length:Nat):Int) s.2 ((arcsP h).map asArc)).map (Sum.elim (fun(t:Int×Int)=>Sum.inl (t.1,t.2)) (fun(t:Int)=>Sum.inr t)):Option ((Int×Int)⊕(Int))))
   (fun k=>((((((arcD h).take k).sum:Nat):Int)),(k:Int))) (arcsP h).length ((lenN h:Nat):Int)
   (by
    intro k hk
    obtain⟨lo,d,g1,g2,b⟩:=arcD_get T hk
    have st:=sum_take (arcD h) (k+1)
    rw[take_one g2,List.sum_append,List.sum_singleton,arcD_sum T] at st
    have w:IntKind.wrap .i64 ((k:Int)+1)=((k+1:Nat):Int):=by rw[wrap64 (by omega) (by omega)];omega
    simp only[N3x]
    rw[al,decide_eq_true (show(k:Int)<(((arcsP h).length:Nat):Int) by omega),inb_nat hk,w]
    simp only[cond_true,Option.bind_some,g1,arcLen_eq,Option.map_some,Sum.elim_inl]
    rw[wrap64 (x:=((lo+d:Nat):Int)-(lo:Int)) (by omega) (by omega),take_one g2,List.sum_append,List.sum_singleton,wrap64 (by omega) (by omega)]
    congr 3
    omega)
   (by
    simp only[N3x]
    rw[al,decide_eq_false (show¬(((arcsP h).length:Nat):Int)<(((arcsP h).length:Nat):Int) by omega),←dl,List.take_length,arcD_sum T]
    rfl) LL (by simp only[LL];omega)
  have lp':=lp
  rw[show(((arcD h).take 0).sum)=0 from rfl,show((0:Nat):Int)=0 from rfl] at lp'
  rw[lp']
  rfl
theorem specOrder_eq (o:List Int) (m:Int) (hl:o.length≤1048576):N3i o m=some (orderB o m):=by
 unfold N3i Ng2 N5o Nhj Ng9 N8i Ne2 Nfp
 have hin: ∀k,(hk:k<o.length)→Nba o k=some (cond (decide (o[k]∈o.take k)) (.inl false) (.inr ())):=fun k hk=>by
  unfold Nba
  have hloop:=nloop_run (body:=fun(s:Int)=>((N4j o k s).map (Sum.elim (fun(t:Int)=>Sum.inl t) (Sum.elim (fun(t:Bool)=>Sum.inr (Sum.inl t)) (fun(t:Unit)=>Sum.inr (Sum.inr t)))):Option ((Int)⊕(Bool⊕Unit))))
   (I:=fun s=> ∃j:Nat,s=(j:Int)∧j≤k∧o[k]∉o.take j) (μ:=fun s=>k-s.toNat) (f:=fun _=>cond (decide (o[k]∈o.take k)) (.inl false) (.inr ()))
   (by
    rintro _ ⟨j,rfl,hj,hno⟩
    simp only[N4j]
    by_cases hlt:j<k
    ·rw[show decide ((j:Int)<(k:Int))=true from decide_eq_true (by omega),idx_lt (show j<o.length by omega),idx_lt hk,wrap64 (by omega) (by omega)]
     simp only[cond_true,Option.bind_some]
     by_cases e:o[j]=o[k]
     ·right
      have:o[k]∈o.take k:=(mem_take (by omega)).2 ⟨j,hlt,e⟩
      rw[decide_eq_true this]
      simp[e]
     ·left
      have e1:(o[j]==o[k])=false:=by simpa using e
      refine⟨((j+1:Nat):Int),by simp[e1],⟨j+1,rfl,hlt,?_⟩,by simp;omega,trivial⟩
      rw[List.take_add_one,List.getElem?_eq_getElem (by omega)]
      simp only[Option.toList_some,List.mem_append,List.mem_singleton,not_or]
      exact⟨hno,fun hh=>e hh.symm⟩
    ·right
     have e:j=k:=by omega
     subst e
     rw[show decide ((j:Int)<(j:Int))=false from decide_eq_false (by omega),decide_eq_false hno]
     rfl)
  exact hloop LL 0 ⟨0,rfl,by omega,by simp⟩ (by simp only[LL];simp;omega)
 have hloop:=nloop_run (body:=fun(s:Int)=>((Nao o m s).map (Sum.elim (fun(t:Int)=>Sum.inl t) (Sum.elim (fun(t:Bool)=>Sum.inr (Sum.inl t)) (fun(t:Unit)=>Sum.inr (Sum.inr t)))):Option ((Int)⊕(Bool⊕Unit))))
  (I:=fun s=> ∃k:Nat,s=(k:Int)∧k≤o.length∧OrderP (o.take k) m) (μ:=fun s=>o.length-s.toNat) (f:=fun _=>cond (orderAll o m) (.inr ()) (.inl false))
  (by
   rintro _ ⟨k,rfl,hk,hP⟩
   simp only[Nao,N6i]
   by_cases hlt:k<o.length
   ·rw[show decide ((k:Int)<((o.length:Nat):Int))=true from decide_eq_true (by omega)]
    simp only[cond_true,Option.bind_some,Sum.elim_inl]
    unfold Nf0 Neh Nej N88 Nee N81
    rw[idx_lt hlt,wrap64 (by omega) (by omega)]
    simp only[Option.bind_some,l1In_eq,hin k hlt]
    by_cases c:1≤o[k]∧o[k]≤m
    ·have e1:(decide (1≤o[k])&&decide (o[k]≤m))=true:=by simp[c.1,c.2]
     rw[e1]
     by_cases c3:o[k]∈o.take k
     ·right
      obtain⟨i,hi,e⟩:=(mem_take hk).1 c3
      rw[decide_eq_true c3,orderAll_false (fun hh=>hh.2 i k hi hlt e)]
      rfl
     ·left
      rw[decide_eq_false c3]
      refine⟨((k+1:Nat):Int),by simp,⟨k+1,rfl,hlt,?_⟩,by simp;omega,trivial⟩
      have hl:(o.take (k+1)).length=k+1:=by simp;omega
      refine⟨fun i hi=> ?_,fun i j hij hj=> ?_⟩
      ·rw[hl] at hi
       rw[List.getElem_take]
       by_cases e:i=k
       ·subst e;exact c
       ·have:=hP.1 i (by simp;omega)
        rwa[List.getElem_take] at this
      ·rw[hl] at hj
       rw[List.getElem_take,List.getElem_take]
       by_cases e:j=k
       ·subst e
        exact fun hh=>c3 ((mem_take hk).2 ⟨i,hij,hh⟩)
       ·have:=hP.2 i j hij (by simp;omega)
        rwa[List.getElem_take,List.getElem_take] at this
    ·right
     have e1:(decide (1≤o[k])&&decide (o[k]≤m))=false:=by
      simp only[Bool.and_eq_false_iff,decide_eq_false_iff_not];omega
     rw[e1,orderAll_false (fun hh=>c (hh.1 k hlt))]
     rfl
   ·right
    have e:k=o.length:=by omega
    subst e
    rw[List.take_length] at hP
    rw[show decide (((o.length:Nat):Int)<((o.length:Nat):Int))=false from decide_eq_false (by omega),(orderAll_iff o m).2 hP]
    rfl)
 simp only[Option.bind_some]
 rw[hloop LL 0 ⟨0,rfl,by omega,⟨fun k hk=>by simp at hk,fun i j hij hj=>by simp at hj⟩⟩ (by simp only[LL];simp;omega)]
 unfold orderB
 cases orderAll o m with
 |false=>simp
 |true=>
  simp only[cond_true,Option.map_some,Sum.elim_inr,Option.bind_some,Sum.elim_inl,N66,l1In_eq,Bool.and_true]
  cases (decide (1≤m)&&decide (m≤8))<;>simp
theorem places_loopS (o:List Int) (hl:o.length≤8) (hP:OrderP o (o.length:Nat)):
  nloop (fun(s:Int×(List Int))=>((N8r o s.1 s.2).map (Sum.elim (fun(t:Int×(List Int))=>Sum.inl (t.1,t.2)) (fun(t:(List Int))=>Sum.inr t)):Option ((Int×(List Int))⊕(((List Int)))))) LL (0,List.replicate (o.length+1) 0)=some (placesL o):=places_loop o hl hP
theorem specPut_eq (h o:List Int) (hlo:o.length≤1048576):N31 h o=some (if treeB h&&orderB o h.length then(true,putRow h o) else(false,[])):=by
 unfold N31 Nhi N89
 rw[specTree_eq,specOrder_eq o _ hlo]
 cases hT:treeB h with
 |false=>simp
 |true=>
  cases hO:orderB o h.length with
  |false=>simp
  |true=>
   have T:=(tree_iff h).1 hT
   unfold orderB at hO
   simp only[Bool.and_eq_true,decide_eq_true_eq,beq_iff_eq] at hO
   obtain⟨⟨_,hlen⟩,hA⟩:=hO
   have hl:o.length=h.length:=by omega
   have hle:=T.le
   have hP:OrderP o (o.length:Nat):=by rw[hl];exact(orderAll_iff o _).1 hA
   rw[wrap64 (by omega) (by omega),show((h.length:Nat):Int)+1=((o.length+1:Nat):Int) by omega,mk_nat (by omega)]
   simp only[Option.bind_some,Bool.not_true,cond_false,Sum.elim_inl,Bool.and_self,if_true]
   unfold Nhd Nei N7e Ne1 Nem
   rw[places_loopS o (by omega) hP]
   unfold Ndd N6b Nh2 Ngu N8b Ngw Ni8 N6s
   simp only[Option.bind_some,Option.map_some]
   have hloop:=nloop_run (body:=fun(s:Int×(List Int))=>((N4z h o s.1 (placesL o) s.2).map (Sum.elim (fun(t:Int×(List Int))=>Sum.inl (t.1,t.2)) (fun(t:(List Int))=>Sum.inr t)):Option ((Int×(List Int))⊕(((List Int))))))
    (I:=fun s=> ∃k:Nat,s.1=(k:Int)∧k≤o.length∧s.2.length≤k) (μ:=fun s=>o.length-s.1.toNat) (f:=fun s=>s.2++(putRow h o).drop s.1.toNat)
    (by
     rintro⟨_,out⟩ ⟨k,rfl,hk,ho⟩
     simp only at ho
     simp only[N4z]
     by_cases hlt:k<o.length
     ·left
      obtain⟨w,x,h1,hw,h2,h3,h4⟩:=put_reads T hl hP hlt
      refine⟨(((k+1:Nat):Int),out++ [newHd h o k]),?_,⟨k+1,rfl,hlt,by simp;omega⟩,by simp;omega,?_⟩
      ·rw[show decide ((k:Int)<((o.length:Nat):Int))=true from decide_eq_true (by omega),idx_lt hlt]
       simp only[cond_true,Option.bind_some]
       rw[h1,wrap64 (x:=((w+1:Nat):Int)-1) (by omega) (by omega),show((w+1:Nat):Int)-1=(w:Int) by omega,idx_nat,h2,wrap64 (by omega) (by omega)]
       simp only[Option.bind_some]
       rw[inb_nat (by rw[placesL,placesK_length];exact h3)]
       simp only[Option.bind_some,h4,room_le (show out.length+ [newHd h o k].length≤1099511627776 by simp;omega)]
       simp
      ·simp only[Int.toNat_natCast]
       rw[putRow_drop h o hlt]
       simp
     ·right
      have e:k=o.length:=by omega
      subst e
      rw[show decide (((o.length:Nat):Int)<((o.length:Nat):Int))=false from decide_eq_false (by omega)]
      simp[List.drop_of_length_le (Nat.le_of_eq (putRow_length h o))])
   rw[hloop LL (0,[]) ⟨0,by simp,by omega,by simp⟩ (by simp only[LL];simp;omega)]
   simp
theorem room8 {n:Nat} (h:n≤1099511627776):room n=some ():=by unfold room;rw[if_pos h]
def castL (l:List Nat):List Int:=l.map fun(x:Nat)=>(x:Int)
theorem castL_append (a b:List Nat):castL (a++b)=castL a++castL b:=by simp[castL]
theorem castL_length (a:List Nat):(castL a).length=a.length:=by simp[castL]
theorem flatMap_short {f:Nat→List Nat}: ∀{l:List Nat},(∀x∈l,(f x).length≤8)→(l.flatMap f).length≤8*l.length
 |[],_=>by simp
 |x::l,h=>by
  have a:=h x (List.mem_cons_self ..)
  have b:=flatMap_short (l:=l) (fun y hy=>h y (List.mem_cons_of_mem _ hy))
  rw[List.flatMap_cons,List.length_append,List.length_cons]
  omega
section
variable {h : List Int} (T : Tree h)
include T
theorem walk_len {f w:Nat} (w1:1≤w) (w2:w≤h.length) (hf:h.length≤f+dep h w):(walkN h f w).length≤8:=by
 have:=List.Nodup.length_le_of_subset (l₂:=(List.range h.length).map (· +1)) (walk_nodup T w1 w2 hf) (by
  intro x hx
  rw[mem_words]
  exact(T.und_rng ((walk_mem T w1 w2 hf).mp hx)).1)
 rw[List.length_map,List.length_range] at this
 have:=T.le
 omega
end
theorem flatOI_orderB {h:List Int} (T:Tree h):orderB (flatOI h) (h.length:Nat)=true:=by
 rw[orderB_iff]
 have hp:=T.pos
 have h8:=T.le
 have hl:=flatOI_length T
 have hP:=flatOI_order T
 rw[hl] at hP
 exact⟨by omega,by omega,by omega,hP⟩
theorem asc_ext: ∀{a b:List Int},a.Pairwise (· < ·)→b.Pairwise (· < ·)→(∀x,x∈a↔x∈b)→a=b
 |[],[],_,_,_=>rfl
 |[],y::b,_,_,h=>by have:=(h y).mpr (List.mem_cons_self ..);cases this
 |x::a,[],_,_,h=>by have:=(h x).mp (List.mem_cons_self ..);cases this
 |x::a,y::b,ha,hb,h=>by
  rw[List.pairwise_cons] at ha hb
  have e:x=y:=by
   rcases List.mem_cons.mp ((h x).mp (List.mem_cons_self ..)) with e|m
   ·exact e
   ·rcases List.mem_cons.mp ((h y).mpr (List.mem_cons_self ..)) with e|m'
    ·exact e.symm
    ·have h1:=hb.1 x m
     have h2:=ha.1 y m'
     omega
  subst e
  congr 1
  refine asc_ext ha.2 hb.2 fun z=> ?_
  constructor
  ·intro m
   rcases List.mem_cons.mp ((h z).mp (List.mem_cons_of_mem _ m)) with e|m'
   ·have:=ha.1 z m
    omega
   ·exact m'
  ·intro m
   rcases List.mem_cons.mp ((h z).mpr (List.mem_cons_of_mem _ m)) with e|m'
   ·have:=hb.1 z m
    omega
   ·exact m'
theorem wordsL_asc8 (m:Nat):(wordsL m).Pairwise (· < ·):=by
 unfold wordsL
 rw[List.pairwise_map]
 refine List.Pairwise.imp ?_ (List.Pairwise.filter _ List.pairwise_lt_range)
 intro a b h
 omega
theorem castL_asc {l:List Nat} (h:l.Pairwise (· < ·)):(castL l).Pairwise (· < ·):=by
 unfold castL
 rw[List.pairwise_map]
 refine List.Pairwise.imp ?_ h
 intro a b h
 omega
theorem mem_castL {l:List Nat} {x:Int}:x∈castL l↔ ∃k,k∈l∧x=(k:Int):=by
 unfold castL
 rw[List.mem_map]
 exact⟨fun⟨k,a,b⟩=>⟨k,a,b.symm⟩,fun⟨k,a,b⟩=>⟨k,a,b.symm⟩⟩
section
variable {h : List Int} (T : Tree h)
include T
theorem left_words {w:Nat} (h1:1≤w) (h2:w≤h.length):wordsL (maskN (leftB h (w:Int) w) h.length)=castL (lessK h w):=by
 refine asc_ext (wordsL_asc8 _) (castL_asc (lessK_sorted h w)) fun x=> ?_
 rw[mem_wordsL T.le,mem_castL]
 constructor
 ·rintro⟨i,hi,hp,e⟩
  simp only[leftB,Bool.and_eq_true,decide_eq_true_eq] at hp
  exact⟨i+1,(mem_lessK h2).mpr ⟨by omega,(T.headB_iff hi).mp hp.1,by omega⟩,e⟩
 ·rintro⟨k,hk,e⟩
  rw[mem_lessK h2] at hk
  refine⟨k-1,by omega,?_,by omega⟩
  simp only[leftB,Bool.and_eq_true,decide_eq_true_eq]
  exact⟨(T.headB_iff (by omega)).mpr (by rw[show k-1+1=k by omega];exact hk.2.1),by omega⟩
theorem right_words {w:Nat} (h1:1≤w) (h2:w≤h.length):wordsL (maskN (rightB h (w:Int) w) h.length)=castL (moreK h w):=by
 refine asc_ext (wordsL_asc8 _) (castL_asc (moreK_sorted h w)) fun x=> ?_
 rw[mem_wordsL T.le,mem_castL]
 constructor
 ·rintro⟨i,hi,hp,e⟩
  simp only[rightB,Bool.and_eq_true,Bool.not_eq_true',decide_eq_false_iff_not] at hp
  have hh:=(T.headB_iff hi).mp hp.1
  have ne:i+1≠w:=fun e'=>T.hd_ne h1 h2 (by rw[←e'] at hh⊢;exact hh)
  exact⟨i+1,mem_moreK.mpr ⟨by omega,hh,by omega⟩,e⟩
 ·rintro⟨k,hk,e⟩
  rw[mem_moreK] at hk
  refine⟨k-1,by omega,?_,by omega⟩
  simp only[rightB,Bool.and_eq_true,Bool.not_eq_true',decide_eq_false_iff_not]
  exact⟨(T.headB_iff (by omega)).mpr (by rw[show k-1+1=k by omega];exact hk.2.1),by omega⟩
omit T in
theorem each_flat {R0 R1:List Int→Int→List Int→Option (List Int)} {f m:Nat} {K:List Nat} (hm:m<256) (hK:wordsL m=castL K) (o:List Int)
  (h0: ∀k∈K,∀j,R0 h (k:Int) (o++castL ((K.take j).flatMap (walkN h f)))=some (o++castL ((K.take j).flatMap (walkN h f))++castL (walkN h f k))):
  N8n R0 R1 h (m:Int) o=some (o++castL (K.flatMap (walkN h f))):=by
 have len:(castL K).length=K.length:=castL_length K
 have q:=nloop_to (body:=fun(s:Int×(List Int))=>((N2n R0 R1 h (((castL K).length:Nat):Int) s.1 s.2 (castL K)).map (Sum.elim (fun(t:Int×(List Int))=>Sum.inl (t.1,t.2)) (fun(t:(List Int))=>Sum.inr t)):Option ((Int×(List Int))⊕(((List Int))))))
  (fun k=>((k:Int),o++castL ((K.take k).flatMap (walkN h f)))) K.length (o++castL (K.flatMap (walkN h f)))
  (by
   intro k hk
   have le8:=wordsL_length_le m
   rw[hK,len] at le8
   have i1:inb (k:Int) (castL K).length=some k:=by unfold inb;rw[if_pos (by omega)];simp
   have g:(castL K)[k]? =some (K[k]:Int):=by unfold castL;rw[List.getElem?_map,List.getElem?_eq_getElem hk];rfl
   have q0:=h0 K[k] (List.getElem_mem hk) k
   simp only[N2n]
   rw[decide_eq_true (show(k:Int)<(((castL K).length:Nat):Int) by omega),i1,wrap64 (by omega) (by omega)]
   simp only[cond_true,Option.bind_some,g,q0,Option.map_some,Sum.elim_inl]
   rw[List.take_succ_eq_append_getElem hk,List.flatMap_append,List.flatMap_cons,List.flatMap_nil,List.append_nil,castL_append,List.append_assoc,show(k:Int)+1=((k+1:Nat):Int) by omega])
  (by
   simp only[N2n]
   rw[decide_eq_false (show¬((K.length:Nat):Int)<(((castL K).length:Nat):Int) by omega),List.take_length]
   rfl) LL (by
    have le8:=wordsL_length_le m
    rw[hK,len] at le8
    simp only[LL];omega)
 unfold N8n Nec N7l Nh0 Ndy N5y
 rw[list_eq hm,hK]
 simp only[Option.bind_some]
 unfold Nge Nef N6u
 have q':=q
 rw[List.take_zero,List.flatMap_nil,show castL []=[] from rfl,List.append_nil,show((0:Nat):Int)=0 from rfl] at q'
 rw[q']
 rfl
theorem less_len {w f:Nat} (w1:1≤w) (w2:w≤h.length) (hf:h.length≤f+1+dep h w) (j:Nat):(((lessK h w).take j).flatMap (walkN h f)).length≤64∧(((moreK h w).take j).flatMap (walkN h f)).length≤64:=by
 have l1:(lessK h w).length≤8:=by
  have:=wordsL_length_le (maskN (leftB h (w:Int) w) h.length)
  rwa[left_words T w1 w2,castL_length] at this
 have l2:(moreK h w).length≤8:=by
  have:=wordsL_length_le (maskN (rightB h (w:Int) w) h.length)
  rwa[right_words T w1 w2,castL_length] at this
 have kid: ∀c,(1≤c∧c≤h.length)∧hd h c=w→(walkN h f c).length≤8:=fun c hc=>by
  have:=kid_dep T hc.1.1 hc.1.2 w1 hc.2
  exact walk_len T hc.1.1 hc.1.2 (by omega)
 constructor
 ·have:=flatMap_short (f:=walkN h f) (l:=(lessK h w).take j) (fun x hx=>by
   have hx:=List.mem_of_mem_take hx
   rw[mem_lessK w2] at hx
   exact kid x ⟨hx.1,hx.2.1⟩)
  have t:=List.length_take_le' j (lessK h w)
  omega
 ·have:=flatMap_short (f:=walkN h f) (l:=(moreK h w).take j) (fun x hx=>by
   have hx:=List.mem_of_mem_take hx
   rw[mem_moreK] at hx
   exact kid x ⟨hx.1,hx.2.1⟩)
  have t:=List.length_take_le' j (moreK h w)
  omega
theorem implWalk: ∀(f w:Nat) (o:List Int) (n:Nat),1≤w→w≤h.length→h.length≤f+dep h w→2*f≤n→o.length+200*f≤1000000→Ng n h (w:Int) o=some (o++castL (walkN h f w))
 |0,w,o,n,w1,w2,hf,_,_=>by
  have:=T.dep_lt w1 w2
  omega
 |f+1,w,o,n,w1,w2,hf,hn,ho=>by
  obtain⟨n,rfl⟩: ∃n',n=n'+1+1:=⟨n-2,by omega⟩
  have hle:=T.le
  have kid: ∀c o',(1≤c∧c≤h.length)∧hd h c=w→o'.length+200*f≤1000000→(N5 n).1 h (c:Int) o'=some (o'++castL (walkN h f c)):=fun c o' hc ho'=>by
   have:=kid_dep T hc.1.1 hc.1.2 w1 hc.2
   exact implWalk f c o' n hc.1.1 hc.1.2 (by omega) (by omega) ho'
  have e:Ng (n+1+1) h (w:Int) o=N4g (N5 (n+1)).1 (N5 (n+1)).2 h (w:Int) o:=rfl
  have e2:(N5 (n+1)).2=fun y0 y1 y2=>N8n (N5 n).1 (N5 n).2 y0 y1 y2:=rfl
  have all1:(lessK h w).take (lessK h w).length=lessK h w:=List.take_length
  have b1:=(less_len T w1 w2 hf (lessK h w).length).1
  rw[all1] at b1
  have s1:=each_flat (R0:=(N5 n).1) (R1:=(N5 n).2) (f:=f) (lt256 hle (maskN_lt (leftB h (w:Int) w) h.length)) (left_words T w1 w2) o (fun k hk j=>by
   rw[mem_lessK w2] at hk
   have:=(less_len T w1 w2 hf j).1
   exact kid k _ ⟨hk.1,hk.2.1⟩ (by simp only[List.length_append,castL_length];omega))
  have s2:=each_flat (R0:=(N5 n).1) (R1:=(N5 n).2) (f:=f) (lt256 hle (maskN_lt (rightB h (w:Int) w) h.length)) (right_words T w1 w2) (o++castL ((lessK h w).flatMap (walkN h f))++ [(w:Int)]) (fun k hk j=>by
   rw[mem_moreK] at hk
   have:=(less_len T w1 w2 hf j).2
   exact kid k _ ⟨hk.1,hk.2.1⟩ (by simp only[List.length_append,castL_length,List.length_cons,List.length_nil];omega))
  rw[e]
  unfold N4g
  rw[beside_eq T w1 w2,e2]
  simp only[Option.bind_some,s1]
  rw[room8 (by simp only[List.length_append,castL_length,List.length_cons,List.length_nil];omega)]
  simp only[Option.bind_some,s2]
  rw[walkN,castL_append,show castL (w::(moreK h w).flatMap (walkN h f))=(w:Int)::castL ((moreK h w).flatMap (walkN h f)) from rfl]
  simp
end
theorem implFlatOrder_eq (h:List Int):N24 h=some (if treeB h=true then flatOI h else[]):=by
 have e:N24 h=N4v h:=by unfold N24;rfl
 rw[e]
 unfold N4v
 rw[implTree_eq]
 cases t:treeB h with
 |false=>rfl
 |true=>
  have T:=(tree_iff h).mp t
  have h8:=T.le
  have r:rootI h=(top h:Int):=by unfold rootI;rw[t];rfl
  have e: ∀o,N49 h (top h:Int) o=Ng RR h (top h:Int) o:=fun o=>by unfold N49;rfl
  have m0:mk 0 ((h.length:Nat):Int)=some 0:=by unfold mk;rw[if_pos (by omega)];rfl
  have q:=implWalk T RR (top h) [] (2*RR) (top_pos h) T.top_le (by simp only[RR];omega) (Nat.le_refl _)
  have q:=implWalk T h.length (top h) [] RR (top_pos h) T.top_le (by omega) (by simp only[RR];omega) (by simp;omega)
  simp only[Option.bind_some,Bool.not_true,cond_false,implRoot_eq h,r,m0,e,List.replicate_zero,q]
  rfl
theorem implMade_eq (h:List Int):N1y h=some (if treeB h=true then putRow h (flatOI h) else[]):=by
 have e:N1y h=N4m h:=by unfold N1y;rfl
 rw[e]
 unfold N4m
 rw[implFlatOrder_eq]
 simp only[Option.bind_some,implPut_eq]
 cases t:treeB h with
 |false=>rfl
 |true=>
  have T:=(tree_iff h).mp t
  simp only[if_true,flatOI_orderB T,Bool.and_self]
theorem ordK_left (a:Nat): ∀k,(ordK a k).2≤a
 |0=>Nat.le_refl _
 |k+1=>Nat.le_trans (Nat.div_le_self _ _) (ordK_left a k)
theorem order_step {β:Type} {a j:Nat} (ha:a≤1000000) (hj:j≤100) (K:Int→List Int→Option β):
  ((rem (((ordK a j).2:Nat):Int) ((j+1:Nat):Int)).bind fun(v:Int)=>(quo .i64 (((ordK a j).2:Nat):Int) ((j+1:Nat):Int)).bind fun(q:Int)=>(inc v (List.length (ordK a j).1)).bind fun(p:Nat)=>(room ((List.length ([]:List Int))+List.length (((ordK a j).1.drop 0).take (p-0)))).bind fun(_:Unit)=>(room ((List.length (([]:List Int)++(((ordK a j).1.drop 0).take (p-0))))+List.length ([((j+1:Nat):Int)]))).bind fun(_:Unit)=>(inc v (List.length (ordK a j).1)).bind fun(p2:Nat)=>(room ((List.length ((([]:List Int)++(((ordK a j).1.drop 0).take (p-0)))++([((j+1:Nat):Int)])))+List.length (((ordK a j).1.drop p2).take ((List.length (ordK a j).1)-p2)))).bind fun(_:Unit)=>K q (((([]:List Int)++(((ordK a j).1.drop 0).take (p-0)))++([((j+1:Nat):Int)]))++(((ordK a j).1.drop p2).take ((List.length (ordK a j).1)-p2))))
   =K (((ordK a (j+1)).2:Nat):Int) (ordK a (j+1)).1:=by
 have l:=(ordK_order a j).1
 have le:=ordK_left a j
 have r:rem (((ordK a j).2:Nat):Int) ((j+1:Nat):Int)=some (((ordK a j).2% (j+1):Nat):Int):=by
  unfold rem
  rw[if_neg (by omega)]
  rfl
 have q:=quoN (a:=(ordK a j).2) (b:=j+1) (by omega) (by omega)
 have lt:(ordK a j).2% (j+1)<j+1:=Nat.mod_lt _ (by omega)
 have i:inc (((ordK a j).2% (j+1):Nat):Int) (List.length (ordK a j).1)=some ((ordK a j).2% (j+1)):=by
  unfold inc
  rw[if_pos (by omega),Int.toNat_natCast]
 rw[r,q]
 simp only[Option.bind_some,i]
 rw[room_ok (by simp;omega),room_ok (by simp;omega),room_ok (by simp;omega)]
 simp only[Option.bind_some]
 congr 1
 rw[ordK,insL,List.drop_zero,Nat.sub_zero,List.nil_append,List.append_assoc,List.singleton_append]
 congr 2
 rw[List.take_of_length_le (by simp)]
theorem orderAt_B {n a:Nat} (n1:1≤n) (n8:n≤8):orderB (orderAt n a) (n:Int)=true:=by
 have:=orderAt_order n a
 have l:=orderAt_length n a
 rw[orderB_iff]
 refine⟨by omega,by omega,by omega,?_⟩
 rw[l] at this
 exact this
theorem implPut_at {h:List Int} (T:Tree h) (a:Nat):N1h h (orderAt h.length a)=some (true,putRow h (orderAt h.length a)):=by
 have hp:=T.pos
 have l8:=T.le
 rw[implPut_eq,(tree_iff h).mpr T,orderAt_B (by omega) (by omega)]
 rfl
theorem putAt_tree {h:List Int} (T:Tree h) (a:Nat):Tree (putRow h (orderAt h.length a)):=put_tree T (orderAt_length _ _) (orderAt_order _ _)
theorem putAt_len (h:List Int) (a:Nat):(putRow h (orderAt h.length a)).length=h.length:=by rw[putRow_length,orderAt_length]
def flatC (h:List Int):Bool:=
 treeB h&&(List.range h.length).all fun i=>(List.range h.length).all fun j=>Nat.beq i j|| !(crsN (i+1) (hd h (i+1)) (j+1) (hd h (j+1)))
theorem flatC_ok {h:List Int} (c:flatC h=true):Tree h∧FlatP h:=by
 unfold flatC at c
 simp only[Bool.and_eq_true,List.all_eq_true,List.mem_range,Bool.or_eq_true,Bool.not_eq_true'] at c
 have T:=(tree_iff h).mp c.1
 have C: ∀w v,1≤w→w≤h.length→1≤v→v≤h.length→w≠v→crsN w (hd h w) v (hd h v)=false:=by
  intro w v w1 w2 v1 v2 ne
  have:=(c.2 (w-1) (by omega) (v-1) (by omega)).resolve_left (fun e=>by
   have:=Nat.eq_of_beq_eq_true e
   omega)
  rwa[show w-1+1=w by omega,show v-1+1=v by omega] at this
 refine⟨T,(plan_iff T).mpr ⟨(arcs_pairs T).mpr ?_,?_⟩⟩
 ·intro w v w1 w2 w3 v1 v2 v3 x
  by_cases e:w=v
  ·subst e
   unfold CrossW Betw Outs at x
   omega
  ·have:=C w v w1 w2 v1 v2 e
   rw[(crsN_iff _ _ _ _).mpr x] at this
   cases this
 ·rw[Bool.eq_false_iff]
  intro x
  unfold covB at x
  rw[List.any_eq_true] at x
  obtain⟨p,hp,q⟩:=x
  simp only[decide_eq_true_eq] at q
  obtain⟨w,w1,w2,w3,e⟩:=(mem_arcs T).mp hp
  have t0:=(T.hd_zero (top_pos h) T.top_le).mpr rfl
  have ne:w≠top h:=fun e=>w3 (by rw[e];exact t0)
  have:=C w (top h) w1 w2 (top_pos h) T.top_le ne
  have b:Betw w (hd h w) (top h)∧Outs w (hd h w) (hd h (top h)):=by
   rw[t0]
   rw[e] at q
   unfold imin imax at q
   unfold Betw Outs
   constructor
   ·split at q<;>omega
   ·omega
  rw[(crsN_iff _ _ _ _).mpr (.inl b)] at this
  cases this
def flatQ (h:List Int):Bool:=
 (List.range h.length).all fun i=>(List.range h.length).all fun j=>Nat.beq i j|| !(crsN (i+1) (hd h (i+1)) (j+1) (hd h (j+1)))
def attB (n:Nat) (h:List Int):Bool:=
 !(treeB h)||(match N1o h with
  |some v=>(List.range (factN n)).any fun a=>(((lenN (putRow h (orderAt n a)):Nat):Int)==v)&&flatQ (putRow h (orderAt n a))
  |none=>false)
theorem att_tab1:allH (attB 1) 1 1 []=true:=by decide+kernel
theorem att_tab2:allH (attB 2) 2 2 []=true:=by decide+kernel
theorem att_tab3:allH (attB 3) 3 3 []=true:=by decide+kernel
theorem att_tab5_0:allH (attB 5) 5 4 [0]=true:=by decide+kernel
theorem att_tab5_1:allH (attB 5) 5 4 [1]=true:=by decide+kernel
theorem att_tab5_2:allH (attB 5) 5 4 [2]=true:=by decide+kernel
theorem att_tab5_3:allH (attB 5) 5 4 [3]=true:=by decide+kernel
theorem att_tab5_4:allH (attB 5) 5 4 [4]=true:=by decide+kernel
theorem att_tab5_5:allH (attB 5) 5 4 [5]=true:=by decide+kernel
theorem att_tab5:allH (attB 5) 5 5 []=true:=by
 unfold allH
 rw[List.all_eq_true]
 intro v hv
 rw[List.mem_range] at hv
 have:v=0∨v=1∨v=2∨v=3∨v=4∨v=5:=by omega
 rcases this with rfl|rfl|rfl|rfl|rfl|rfl
 ·exact att_tab5_0
 ·exact att_tab5_1
 ·exact att_tab5_2
 ·exact att_tab5_3
 ·exact att_tab5_4
 ·exact att_tab5_5
theorem att_tab4:allH (attB 4) 4 4 []=true:=by decide+kernel
theorem att_all {h:List Int} (T:Tree h) (h5:h.length≤5):attB h.length h=true:=by
 have hp:=T.pos
 have:h.length=1∨h.length=2∨h.length=3∨h.length=4∨h.length=5:=by omega
 rcases this with e|e|e|e|e<;>rw[e]
 ·exact allH_ok att_tab1 T e
 ·exact allH_ok att_tab2 T e
 ·exact allH_ok att_tab3 T e
 ·exact allH_ok att_tab4 T e
 ·exact allH_ok att_tab5 T e
theorem least_att {h:List Int} (T:Tree h) (h5:h.length≤5): ∃a,a<factN h.length∧FlatP (putRow h (orderAt h.length a))∧lenN (putRow h (orderAt h.length a))=leastN h:=by
 have s:=att_all T h5
 have t:=(tree_iff h).mpr T
 unfold attB at s
 rw[specLeast_eq,t,Bool.not_true,Bool.false_or] at s
 simp only[List.any_eq_true,List.mem_range,Bool.and_eq_true,beq_iff_eq] at s
 obtain⟨a,ha,e,q⟩:=s
 refine⟨a,ha,?_,?_⟩
 ·refine(flatC_ok (h:=putRow h (orderAt h.length a)) ?_).2
  unfold flatC
  rw[(tree_iff _).mpr (putAt_tree T a),Bool.true_and]
  exact q
 ·unfold leastI at e
  rw[t,if_pos rfl] at e
  omega
theorem set_ok {o hs:List Int} {m:Nat} (hm:m≤1000000) (ho:o.length=m) (hx: ∀x∈o,1≤x∧x≤(m:Int)) (hh:hs.length=m) {k at_:Int} (hk0:0≤k) (hk:k<m) (ha0:0≤at_) (ha:at_<m) {α:Type} (f:List Int→α):
  ∃l:List Int,l.length=m∧((inb k (List.length o)).bind fun(v638:Nat)=>(o[v638]?).bind fun(v639:Int)=>(inb at_ (List.length o)).bind fun(v641:Nat)=>(o[v641]?).bind fun(v642:Int)=>(inb (IntKind.wrap .i64 (v639-1)) (List.length hs)).bind fun(v643:Nat)=>some (f (hs.set v643 v642)))=some (f l):=by
 have h1:k.toNat<o.length:=by omega
 have h2:at_.toNat<o.length:=by omega
 have hr:=hx o[k.toNat] (List.getElem_mem h1)
 refine⟨hs.set (o[k.toNat]-1).toNat o[at_.toNat],by simpa using hh,?_⟩
 rw[inb_ok hk0 (by omega),inb_ok ha0 (by omega)]
 simp only[Option.bind_some,List.getElem?_eq_getElem h1,List.getElem?_eq_getElem h2]
 rw[wrap64 (by omega) (by omega),inb_ok (by omega) (by omega)]
 rfl
theorem tree_ok {b:List Int} (hb:Bytes b) (n:Int) (hn:n≤1000) {p:Int} (hp:0≤p) (hp2:p≤999990000):
  ∃(q:Int) (h:List Int),N22 n b p=some (q,h)∧p≤q∧q≤p+300∧h.length≤8:=by
 unfold N22 Nhq N6c
 obtain⟨v,hv,va,vb,_⟩:=pick_ok hb 7 (by omega) hp (by omega)
 have vb':=vb (by omega)
 obtain⟨m,hm⟩: ∃m:Nat,1+v=(m:Int):=⟨(1+v).toNat,by omega⟩
 obtain⟨q1,o,ho,q1a,q1b,hol,hox⟩:=order_ok hb m (by omega) (p:=p+1) (by omega) (by omega)
 obtain⟨nr,hnr,nra,_⟩:=pick_ok hb 2 (by omega) (p:=q1) (by omega) (by omega)
 simp only[hv,Option.bind_some]
 rw[wrap64 (x:=1+v) (by omega) (by omega),hm]
 simp only[ho,mk_nat (show m≤1099511627776 by omega),hnr,Option.bind_some]
 unfold Ne8 Ne7 N8e Nfs Ndt
 obtain⟨⟨q2,hs⟩,h1,h2,h3,h4⟩:=nloop_ex (body:=fun(s:Int×Int×List Int)=>((N56 m nr s.1 b s.2.1 o s.2.2).map (Sum.elim (fun(t:Int×Int×List Int)=>Sum.inl (t.1,t.2.1,t.2.2)) (fun(t:Int×List Int)=>Sum.inr t)):Option ((Int×Int×List Int)⊕((Int×List Int)))))
  (I:=fun s=> ∃(k:Nat) (q:Int) (hs:List Int),s=((k:Int),q,hs)∧1≤k∧k≤m∧q1≤q∧q≤q1+1+2*k∧hs.length=m) (μ:=fun s=>m-s.1.toNat)
  (Q:=fun t=>q1≤t.1∧t.1≤q1+20∧t.2.length=m)
  (by
   rintro _ ⟨k,q,hs,rfl,hk1,hk,qa,qb,hhs⟩
   simp only[N56]
   by_cases hlt:k<m
   ·left
    rw[show decide ((k:Int)<(m:Int))=true from decide_eq_true (by omega),wrap64 (x:=(k:Int)+1) (by omega) (by omega),wrap64 (x:=(k:Int)-1) (by omega) (by omega)]
    obtain⟨a,ha,aa,ab,_⟩:=pick_ok hb (k:Int) (by omega) (p:=q) (by omega) (by omega)
    have ab':=ab (by omega)
    obtain⟨c,hc,_⟩:=pick_ok hb 2 (by omega) (p:=q+1) (by omega) (by omega)
    simp only[cond_true,ha,Option.bind_some]
    have hmu:m-(((k:Int)+1)).toNat<m-((k:Int)).toNat:=by omega
    cases hnear:(nr==1) with
    |true=>
     simp only[cond_true,hc,Option.bind_some]
     cases h5:(c==0) with
     |true=>
      obtain⟨l,hl,e⟩:=set_ok (by omega) hol hox hhs (k:=(k:Int)) (at_:=(k:Int)-1) (by omega) (by omega) (by omega) (by omega) (fun l=>(Sum.inl ((k:Int)+1,q+1+1,l):(Int×Int×List Int)⊕(Int×List Int)))
      simp only[cond_true]
      rw[e]
      exact⟨_,rfl,⟨k+1,q+1+1,l,by push_cast;rfl,by omega,by omega,by omega,by push_cast;omega,hl⟩,hmu⟩
     |false=>
      obtain⟨l,hl,e⟩:=set_ok (by omega) hol hox hhs (k:=(k:Int)) (at_:=a) (by omega) (by omega) (by omega) (by omega) (fun l=>(Sum.inl ((k:Int)+1,q+1+1,l):(Int×Int×List Int)⊕(Int×List Int)))
      simp only[cond_false]
      rw[e]
      exact⟨_,rfl,⟨k+1,q+1+1,l,by push_cast;rfl,by omega,by omega,by omega,by push_cast;omega,hl⟩,hmu⟩
    |false=>
     obtain⟨l,hl,e⟩:=set_ok (by omega) hol hox hhs (k:=(k:Int)) (at_:=a) (by omega) (by omega) (by omega) (by omega) (fun l=>(Sum.inl ((k:Int)+1,q+1,l):(Int×Int×List Int)⊕(Int×List Int)))
     simp only[cond_false]
     rw[e]
     exact⟨_,rfl,⟨k+1,q+1,l,by push_cast;rfl,by omega,by omega,by omega,by push_cast;omega,hl⟩,hmu⟩
   ·right
    have e:k=m:=by omega
    subst e
    rw[show decide ((k:Int)<(k:Int))=false from decide_eq_false (by omega)]
    exact⟨_,rfl,qa,by show q≤q1+20;omega,hhs⟩) LL (1,q1+1,List.replicate m 0) ⟨1,q1+1,_,rfl,by omega,by omega,by omega,by omega,by simp⟩ (by simp only[LL];omega)
 rw[h1]
 simp only at h2 h3 h4
 simp only[Option.bind_some,Option.map_some]
 unfold N7d
 obtain⟨od,q3,ho3,q3a,q3b⟩:=odd_ok hb n (by omega) (p:=q2) (by omega) (by omega)
 obtain⟨c,hc,ca,cb,_⟩:=pick_ok hb 4 (by omega) (p:=q3) (by omega) (by omega)
 obtain⟨d,hd,da,db,_⟩:=pick_ok hb (m:Int) (by omega) (p:=q3+1) (by omega) (by omega)
 have db':=db (by omega)
 obtain⟨e,he,ea,eb,_⟩:=pick_ok hb 3 (by omega) (p:=q3+1) (by omega) (by omega)
 have eb':=eb (by omega)
 simp only[ho3,Option.bind_some]
 cases od with
 |false=>exact⟨_,_,rfl,by omega,by omega,by omega⟩
 |true=>
  simp only[cond_true,hc,Option.bind_some]
  cases (c==0) with
  |true=>exact⟨_,_,rfl,by omega,by omega,by simp⟩
  |false=>
   cases (c==1) with
   |true=>exact⟨_,_,rfl,by omega,by omega,by simp⟩
   |false=>
    cases (c==2) with
    |true=>
     simp only[cond_true,cond_false,hd,Option.bind_some,inb_ok da (show d<(hs.length:Nat) by omega)]
     rw[room_le (by simp;omega)]
     exact⟨_,_,rfl,by omega,by omega,by simp;omega⟩
    |false=>
     simp only[cond_true,cond_false,he,Option.bind_some]
     have hin:inb e (List.length ([1,(IntKind.wrap .i64 ((m:Int)+1)),(-1)]))=some e.toNat:=inb_ok ea (by simp;omega)
     have hin0:inb 0 (List.length hs)=some 0:=inb_ok (by omega) (by omega)
     have hlt:e.toNat<([1,(IntKind.wrap .i64 ((m:Int)+1)),(-1)]:List Int).length:=by simp;omega
     rw[hin]
     simp only[Option.bind_some,List.getElem?_eq_getElem hlt,hin0]
     exact⟨_,_,rfl,by omega,by omega,by simp;omega⟩
theorem fill_ok {b:List Int} (hb:Bytes b) (m:Nat) (hm:m≤20): ∀(f:Nat) (low high head p:Int) (hs:List Int),(high-low+1).toNat<f→1≤low→low≤high+1→high≤m→hs.length=m→0≤p→p+2*(high-low+1)≤999980000→
  ∃(q:Int) (ks:List Int),N2e f low high head b p hs=some (q,ks)∧p≤q∧q≤p+2*(high-low+1)∧(low≤high→q+1≤p+2*(high-low+1))∧ks.length=m:=by
 intro f
 induction f with
 |zero=>intro low high head p hs h;omega
 |succ f ih=>
  intro low high head p hs hf h1 h2 h3 hl hp hp2
  simp only[N2e]
  generalize hR:N2e f=R0 at ih
  unfold Ngd Ng4 N7o
  by_cases h0:low>high
  ·rw[decide_eq_true h0]
   exact⟨p,hs,rfl,by omega,by omega,by omega,hl⟩
  ·rw[decide_eq_false h0]
   obtain⟨v,hv,va,vb,_⟩:=pick_ok hb (high-low+1) (by omega) (p:=p) (by omega) (by omega)
   have vb':=vb (by omega)
   rw[wrap64 (x:=high-low) (by omega) (by omega),wrap64 (x:=high-low+1) (by omega) (by omega)]
   simp only[cond_false,hv,Option.bind_some]
   rw[wrap64 (x:=low+v) (by omega) (by omega),wrap64 (x:=low+v-1) (by omega) (by omega),inb_ok (by omega) (show low+v-1<(hs.length:Nat) by omega)]
   simp only[Option.bind_some,Sum.elim_inl]
   generalize hroot:low+v=root
   unfold Ndg Nhg Nf9 Ngr N5r Nhp Ndb
   obtain⟨⟨q1,k1⟩,e1,a1,a2,a3⟩:=nloop_ex (body:=fun(s:Int×Int×(List Int))=>((N4a R0 root s.1 b s.2.1 s.2.2).map (Sum.elim (fun(t:Int×Int×(List Int))=>Sum.inl (t.1,t.2.1,t.2.2)) (fun(t:Int×(List Int))=>Sum.inr t)):Option ((Int×Int×(List Int))⊕((Int×(List Int))))))
    (I:=fun s=> ∃(fr q:Int) (ks:List Int),s=(fr,q,ks)∧low≤fr∧fr≤root∧p+1≤q∧q≤p+1+2*(fr-low)∧ks.length=m) (μ:=fun s=>(root-s.1).toNat)
    (Q:=fun t=>p+1≤t.1∧t.1≤p+1+2*(root-low)∧t.2.length=m)
    (by
     rintro _ ⟨fr,q,ks,rfl,i1,i2,i3,i4,i6⟩
     simp only[N4a]
     by_cases hlt:fr<root
     ·left
      rw[decide_eq_true hlt,wrap64 (x:=root-fr) (by omega) (by omega)]
      obtain⟨w,hw,wa,wb,_⟩:=pick_ok hb (root-fr) (by omega) (p:=q) (by omega) (by omega)
      have wb':=wb (by omega)
      simp only[cond_true,hw,Option.bind_some]
      rw[wrap64 (x:=fr+w) (by omega) (by omega),wrap64 (x:=fr+w+1) (by omega) (by omega)]
      obtain⟨q2,k2,e2,b1,b2,b4,b3⟩:=ih fr (fr+w) root (q+1) ks (by omega) (by omega) (by omega) (by omega) i6 (by omega) (by omega)
      have b4':=b4 (by omega)
      rw[e2]
      exact⟨(fr+w+1,q2,k2),rfl,⟨fr+w+1,q2,k2,rfl,by omega,by omega,by omega,by omega,b3⟩,by simp only;omega⟩
     ·right
      rw[decide_eq_false hlt]
      exact⟨(q,ks),rfl,i3,by show q≤_;omega,i6⟩) LL (low,p+1,hs.set (root-1).toNat head) ⟨low,p+1,_,rfl,by omega,by omega,by omega,by omega,by simpa using hl⟩ (by simp only[LL];omega)
   simp only at a1 a2 a3
   rw[e1]
   simp only[Option.map_some,Option.bind_some]
   rw[wrap64 (x:=root+1) (by omega) (by omega)]
   obtain⟨⟨q2,k2⟩,e2,c1,c2,c3⟩:=nloop_ex (body:=fun(s:Int×Int×(List Int))=>((N55 R0 high root s.1 b s.2.1 s.2.2).map (Sum.elim (fun(t:Int×Int×(List Int))=>Sum.inl (t.1,t.2.1,t.2.2)) (fun(t:Int×(List Int))=>Sum.inr t)):Option ((Int×Int×(List Int))⊕((Int×(List Int))))))
    (I:=fun s=> ∃(fr q:Int) (ks:List Int),s=(fr,q,ks)∧root+1≤fr∧fr≤high+1∧p+1≤q∧q≤p+1+2*(root-low)+2*(fr-root-1)∧ks.length=m) (μ:=fun s=>(high+1-s.1).toNat)
    (Q:=fun t=>p+1≤t.1∧t.1≤p+1+2*(high-low)∧t.2.length=m)
    (by
     rintro _ ⟨fr,q,ks,rfl,i1,i2,i3,i4,i6⟩
     simp only[N55]
     by_cases hlt:fr≤high
     ·left
      rw[decide_eq_true hlt,wrap64 (x:=high-fr) (by omega) (by omega),wrap64 (x:=high-fr+1) (by omega) (by omega)]
      obtain⟨w,hw,wa,wb,_⟩:=pick_ok hb (high-fr+1) (by omega) (p:=q) (by omega) (by omega)
      have wb':=wb (by omega)
      simp only[cond_true,hw,Option.bind_some]
      rw[wrap64 (x:=fr+w) (by omega) (by omega),wrap64 (x:=fr+w+1) (by omega) (by omega)]
      obtain⟨q2,k2,e2,b1,b2,b4,b3⟩:=ih fr (fr+w) root (q+1) ks (by omega) (by omega) (by omega) (by omega) i6 (by omega) (by omega)
      have b4':=b4 (by omega)
      rw[e2]
      exact⟨(fr+w+1,q2,k2),rfl,⟨fr+w+1,q2,k2,rfl,by omega,by omega,by omega,by omega,b3⟩,by simp only;omega⟩
     ·right
      rw[decide_eq_false hlt]
      exact⟨(q,ks),rfl,i3,by show q≤_;omega,i6⟩) LL (root+1,q1,k1) ⟨root+1,q1,k1,rfl,by omega,by omega,by omega,by omega,a3⟩ (by simp only[LL];omega)
   simp only at c1 c2 c3
   rw[e2]
   exact⟨q2,k2,rfl,by omega,by omega,by omega,c3⟩
theorem flat_ok {b:List Int} (hb:Bytes b) (n:Int) (hn:n≤1000) {p:Int} (hp:0≤p) (hp2:p≤999970000):
  ∃(q:Int) (h:List Int),N1j n b p=some (q,h)∧p≤q∧q≤p+400∧h.length≤8:=by
 have e:N1j n b p=N4s n b p:=by unfold N1j;rfl
 rw[e]
 unfold N4s
 obtain⟨c,hc,ca,_⟩:=pick_ok hb 3 (by omega) (p:=p) (by omega) (by omega)
 simp only[hc,Option.bind_some]
 cases (c==0) with
 |true=>
  obtain⟨q,h,hq,qa,qb,h8⟩:=tree_ok hb n hn (p:=p+1) (by omega) (by omega)
  simp only[cond_true,hq,Option.bind_some]
  exact⟨q,h,rfl,by omega,by omega,h8⟩
 |false=>
  obtain⟨v,hv,va,vb,_⟩:=pick_ok hb 7 (by omega) (p:=p+1) (by omega) (by omega)
  have vb':=vb (by omega)
  obtain⟨m,hm⟩: ∃m:Nat,1+v=(m:Int):=⟨(1+v).toNat,by omega⟩
  simp only[cond_false,hv,Option.bind_some]
  rw[wrap64 (x:=1+v) (by omega) (by omega),hm,mk_nat (by omega)]
  have e2:N4n 1 (m:Int) 0 b (p+1+1) (List.replicate m 0)=N2e RR 1 (m:Int) 0 b (p+1+1) (List.replicate m 0):=by unfold N4n N1e;rfl
  obtain⟨q,ks,hq,qa,qb,_,hk⟩:=fill_ok hb m (by omega) RR 1 (m:Int) 0 (p+1+1) (List.replicate m 0) (by simp only[RR];omega) (by omega) (by omega) (by omega) (by simp) (by omega) (by omega)
  simp only[Option.bind_some,e2,hq]
  exact⟨q,ks,rfl,by omega,by omega,by omega⟩
theorem wild_ok {b:List Int} (hb:Bytes b) (n:Int) (hn:n≤1000) {p:Int} (hp:0≤p) (hp2:p≤999960000):
  ∃(q:Int) (h:List Int),N1u n b p=some (q,h)∧p≤q∧q≤p+1000∧h.length≤8:=by
 have e:N1u n b p=N4f n b p:=by unfold N1u;rfl
 rw[e]
 unfold N4f
 obtain⟨q,h,hq,qa,qb,h8⟩:=tree_ok hb n hn hp (by omega)
 obtain⟨c,hc,_⟩:=pick_ok hb 2 (by omega) (p:=q) (by omega) (by omega)
 obtain⟨d,hd,_⟩:=pick_ok hb 3 (by omega) (p:=q+1) (by omega) (by omega)
 obtain⟨qf,hf,hqf,fa,fb,f8⟩:=flat_ok hb n hn (p:=q+1+1) (by omega) (by omega)
 obtain⟨qo,o,ho,oa,ob,ol,_⟩:=order_ok hb h.length (by omega) (p:=q+1) (by omega) (by omega)
 have tail: ∃(q':Int) (h':List Int),((N1 3 b (q+1)).bind fun(v4853:Int×Int)=>cond ((v4853.1)==0) ((N1j n b (v4853.2)).bind fun(v4857:Int×(List Int))=>some ((v4857.1),(v4857.2))) (some ((v4853.2),h)))=some (q',h')∧p≤q'∧q'≤p+1000∧h'.length≤8:=by
  simp only[hd,Option.bind_some]
  cases (d==0) with
  |true=>simp only[cond_true,hqf,Option.bind_some];exact⟨_,_,rfl,by omega,by omega,f8⟩
  |false=>exact⟨_,_,rfl,by omega,by omega,h8⟩
 simp only[hq,hc,Option.bind_some]
 cases (c==0) with
 |false=>exact tail
 |true=>
  simp only[cond_true,specTree_eq,Option.bind_some]
  cases hT:treeB h with
  |false=>exact tail
  |true=>
   simp only[cond_true,ho,Option.bind_some,specPut_eq h o (by omega)]
   refine⟨_,_,rfl,by omega,by omega,?_⟩
   split
   ·rw[putRow_length];omega
   ·simp
theorem drawn_wild (x:List Int) (w: ∀n∈x,(Lit.int .u8 n).wf=true) (l:x.length≤maxLen) (n:Int) (hn:n≤1000):
  ∃h:List Int,h.length≤8∧((N2b x).bind fun(v:List Int)=>(N1u n v 0).bind fun(t:Int×List Int)=>some (t.2))=some h:=by
 obtain⟨b,hb,hB⟩:=open_ok x w l
 obtain⟨q,h,hq,_,_,h8⟩:=wild_ok hB n hn (p:=0) (by omega) (by omega)
 exact⟨h,h8,by simp[hb,hq]⟩
theorem tree0:treeB [0]=true:=by decide
theorem tree1:treeB [1]=false:=by decide
theorem alive_eq:N2y=some true:=by
 unfold N2y N7s
 simp[implTree_eq,tree0,tree1]
end Go.Rv
