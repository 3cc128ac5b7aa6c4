/-
  Plain mathematics of what the law reaches. Conditions: none.
-/
import Derived.Test.YtihgceegapfngadGreatDoorHFnReadJournala
set_option linter.unusedVariables false
set_option linter.unusedSimpArgs false
namespace Go.Rv
theorem before_tab:((List.range 8).all fun i=>N2y ((i:Int)+1)==some ((2^i-1:Nat):Int))=true:=by decide+kernel
theorem before_eq {w:Nat} (h1:1≤w) (h2:w≤8):N2y (w:Int)=some ((2^(w-1)-1:Nat):Int):=by
 have h:=all_lt before_tab (i:=w-1) (by omega)
 rw[show((w-1:Nat):Int)+1=(w:Int) by omega] at h
 simpa using h
theorem iandnu {a b:Nat} (ha:a<2^62) (hb:b<2^62): ∃c:Nat,iandn .u64 (a:Int) (b:Int)=(c:Int)∧c≤a∧ ∀i,c.testBit i=(a.testBit i&& !b.testBit i):=by
 have h:a&&&(2^64-1-b)≤a:=Nat.and_le_left
 refine⟨a&&&(2^64-1-b),?_,h,fun i=> ?_⟩
 ·show IntKind.wrap .u64 ((BitVec.ofInt 64 (a:Int)&&& ~~~BitVec.ofInt 64 (b:Int)).toNat:Int)=_
  rw[BitVec.toNat_and,BitVec.toNat_not,ofInt_nat (by omega),ofInt_nat (by omega),wrapu64 (by omega) (by omega)]
 ·rw[Nat.testBit_and]
  by_cases hi:i<64
  ·have e:2^64-1-b=2^64-(b+1):=by omega
   rw[e,Nat.testBit_two_pow_sub_succ (by omega)]
   simp[hi]
  ·have:a.testBit i=false:=Nat.testBit_lt_two_pow (Nat.lt_of_lt_of_le ha (Nat.pow_le_pow_right (by omega) (by omega)))
   rw[this];simp
def leftB (h:List Int) (v:Int) (w i:Nat):Bool:=headB h v i&&decide (i<w-1)
def rightB (h:List Int) (v:Int) (w i:Nat):Bool:=headB h v i&& !decide (i<w-1)
theorem Tree.headB_iff {h:List Int} (T:Tree h) {w i:Nat} (hi:i<h.length):headB h (w:Int) i=true↔hd h (i+1)=w:=by
 have hg:=T.get (w:=i+1) (by omega) (by omega)
 rw[Nat.add_sub_cancel] at hg
 simp only[headB,List.getD_eq_getElem?_getD,hg,Option.getD_some,beq_iff_eq]
 omega
theorem Tree.hd_ne {h:List Int} (T:Tree h) {w:Nat} (h1:1≤w) (h2:w≤h.length):hd h w≠w:=by
 intro e
 have:=T.dep_step h1 h2 (by omega)
 rw[e] at this
 omega
theorem beside_eq {h:List Int} (T:Tree h) {w:Nat} (h1:1≤w) (h2:w≤h.length):
  N3i h (w:Int)=some (((maskN (leftB h (w:Int) w) h.length:Nat):Int),((maskN (rightB h (w:Int) w) h.length:Nat):Int)):=by
 have hle:=T.le
 have hp:=pow_lt256 (show w≤8 by omega) h1
 have l0:maskN (headB h (w:Int)) h.length<256:=lt256 hle (maskN_lt _ _)
 obtain⟨c,hc,hc1,hc2⟩:=iandnu (a:=maskN (headB h (w:Int)) h.length) (b:=2^(w-1)-1) (by omega) (by omega)
 have e:N3i h (w:Int)=N6r h (w:Int):=by unfold N3i;rfl
 rw[e]
 unfold N6r
 simp only[Option.bind_some,dependents_eq h _ hle,before_eq h1 (show w≤8 by omega),hc]
 rw[iandu (by omega) (by omega)]
 have e1:maskN (headB h (w:Int)) h.length&&&(2^(w-1)-1)=maskN (leftB h (w:Int) w) h.length:=by
  refine eq_maskN (Nat.lt_of_le_of_lt Nat.and_le_left (maskN_lt _ _)) fun i hi=> ?_
  rw[Nat.testBit_and,maskN_bit,Nat.testBit_two_pow_sub_one]
  simp[hi,leftB]
 have e2:c=maskN (rightB h (w:Int) w) h.length:=by
  refine eq_maskN (Nat.lt_of_le_of_lt hc1 (maskN_lt _ _)) fun i hi=> ?_
  rw[hc2,maskN_bit,Nat.testBit_two_pow_sub_one]
  simp[hi,rightB]
 rw[e1,e2]
theorem asc_ext: ∀{a b:List Int},a.Pairwise (· < ·)→b.Pairwise (· < ·)→(∀x,x∈a↔x∈b)→a=b
 |[],[],_,_,_=>rfl
 |[],y::b,_,_,h=>by have:=(h y).mpr (List.mem_cons_self ..);cases this
 |x::a,[],_,_,h=>by have:=(h x).mp (List.mem_cons_self ..);cases this
 |x::a,y::b,ha,hb,h=>by
  rw[List.pairwise_cons] at ha hb
  have e:x=y:=by
   rcases List.mem_cons.mp ((h x).mp (List.mem_cons_self ..)) with e|m
   ·exact e
   ·rcases List.mem_cons.mp ((h y).mpr (List.mem_cons_self ..)) with e|m'
    ·exact e.symm
    ·have h1:=hb.1 x m
     have h2:=ha.1 y m'
     omega
  subst e
  congr 1
  refine asc_ext ha.2 hb.2 fun z=> ?_
  constructor
  ·intro m
   rcases List.mem_cons.mp ((h z).mp (List.mem_cons_of_mem _ m)) with e|m'
   ·have:=ha.1 z m
    omega
   ·exact m'
  ·intro m
   rcases List.mem_cons.mp ((h z).mpr (List.mem_cons_of_mem _ m)) with e|m'
   ·have:=hb.1 z m
    omega
   ·exact m'
theorem wordsL_asc8 (m:Nat):(wordsL m).Pairwise (· < ·):=by
 unfold wordsL
 rw[List.pairwise_map]
 refine List.Pairwise.imp ?_ (List.Pairwise.filter _ List.pairwise_lt_range)
 intro a b h
 omega
theorem castL_asc {l:List Nat} (h:l.Pairwise (· < ·)):(castL l).Pairwise (· < ·):=by
 unfold castL
 rw[List.pairwise_map]
 refine List.Pairwise.imp ?_ h
 intro a b h
 omega
theorem mem_castL {l:List Nat} {x:Int}:x∈castL l↔ ∃k,k∈l∧x=(k:Int):=by
 unfold castL
 rw[List.mem_map]
 exact⟨fun⟨k,a,b⟩=>⟨k,a,b.symm⟩,fun⟨k,a,b⟩=>⟨k,a,b.symm⟩⟩
section
variable {h : List Int} (T : Tree h)
include T
theorem left_words {w:Nat} (h1:1≤w) (h2:w≤h.length):wordsL (maskN (leftB h (w:Int) w) h.length)=castL (lessK h w):=by
 refine asc_ext (wordsL_asc8 _) (castL_asc (lessK_sorted h w)) fun x=> ?_
 rw[mem_wordsL T.le,mem_castL]
 constructor
 ·rintro⟨i,hi,hp,e⟩
  simp only[leftB,Bool.and_eq_true,decide_eq_true_eq] at hp
  exact⟨i+1,(mem_lessK h2).mpr ⟨by omega,(T.headB_iff hi).mp hp.1,by omega⟩,e⟩
 ·rintro⟨k,hk,e⟩
  rw[mem_lessK h2] at hk
  refine⟨k-1,by omega,?_,by omega⟩
  simp only[leftB,Bool.and_eq_true,decide_eq_true_eq]
  exact⟨(T.headB_iff (by omega)).mpr (by rw[show k-1+1=k by omega];exact hk.2.1),by omega⟩
theorem right_words {w:Nat} (h1:1≤w) (h2:w≤h.length):wordsL (maskN (rightB h (w:Int) w) h.length)=castL (moreK h w):=by
 refine asc_ext (wordsL_asc8 _) (castL_asc (moreK_sorted h w)) fun x=> ?_
 rw[mem_wordsL T.le,mem_castL]
 constructor
 ·rintro⟨i,hi,hp,e⟩
  simp only[rightB,Bool.and_eq_true,Bool.not_eq_true',decide_eq_false_iff_not] at hp
  have hh:=(T.headB_iff hi).mp hp.1
  have ne:i+1≠w:=fun e'=>T.hd_ne h1 h2 (by rw[←e'] at hh⊢;exact hh)
  exact⟨i+1,mem_moreK.mpr ⟨by omega,hh,by omega⟩,e⟩
 ·rintro⟨k,hk,e⟩
  rw[mem_moreK] at hk
  refine⟨k-1,by omega,?_,by omega⟩
  simp only[rightB,Bool.and_eq_true,Bool.not_eq_true',decide_eq_false_iff_not]
  exact⟨(T.headB_iff (by omega)).mpr (by rw[show k-1+1=k by omega];exact hk.2.1),by omega⟩
omit T in
theorem each_flat {R0 R1:List Int→Int→List Int→Option (List Int)} {f m:Nat} {K:List Nat} (hm:m<256) (hK:wordsL m=castL K) (o:List Int)
  (h0: ∀k∈K,∀j,R0 h (k:Int) (o++castL ((K.take j).flatMap (walkN h f)))=some (o++castL ((K.take j).flatMap (walkN h f))++castL (walkN h f k))):
  N8g R0 R1 h (m:Int) o=some (o++castL (K.flatMap (walkN h f))):=by
 have len:(castL K).length=K.length:=castL_length K
 have q:=nloop_to (body:=fun(s:Int×(List Int))=>((N63 R0 R1 h (((castL K).length:Nat):Int) s.1 s.2 (castL K)).map (Sum.elim (fun(t:Int×(List Int))=>Sum.inl (t.1,t.2)) (fun(t:(List Int))=>Sum.inr t)):Option ((Int×(List Int))⊕(((List Int))))))
  (fun k=>((k:Int),o++castL ((K.take k).flatMap (walkN h f)))) K.length (o++castL (K.flatMap (walkN h f)))
  (by
   intro k hk
   have le8:=wordsL_length_le m
   rw[hK,len] at le8
   have i1:inb (k:Int) (castL K).length=some k:=by unfold inb;rw[if_pos (by omega)];simp
   have g:(castL K)[k]? =some (K[k]:Int):=by unfold castL;rw[List.getElem?_map,List.getElem?_eq_getElem hk];rfl
   have q0:=h0 K[k] (List.getElem_mem hk) k
   simp only[N63]
   rw[decide_eq_true (show(k:Int)<(((castL K).length:Nat):Int) by omega),i1,wrap64 (by omega) (by omega)]
   simp only[cond_true,Option.bind_some,g,q0,Option.map_some,Sum.elim_inl]
   rw[List.take_succ_eq_append_getElem hk,List.flatMap_append,List.flatMap_cons,List.flatMap_nil,List.append_nil,castL_append,List.append_assoc,show(k:Int)+1=((k+1:Nat):Int) by omega])
  (by
   simp only[N63]
   rw[decide_eq_false (show¬((K.length:Nat):Int)<(((castL K).length:Nat):Int) by omega),List.take_length]
   rfl) LL (by
    have le8:=wordsL_length_le m
    rw[hK,len] at le8
    simp only[LL];omega)
 unfold N8g Npf Nbq Nn7 Npc N9w
 rw[list_eq hm,hK]
 simp only[Option.bind_some]
 unfold Nki Noq Nbt
 have q':=q
 rw[List.take_zero,List.flatMap_nil,show castL []=[] from rfl,List.append_nil,show((0:Nat):Int)=0 from rfl] at q'
 rw[q']
 rfl
theorem less_len {w f:Nat} (w1:1≤w) (w2:w≤h.length) (hf:h.length≤f+1+dep h w) (j:Nat):(((lessK h w).take j).flatMap (walkN h f)).length≤64∧(((moreK h w).take j).flatMap (walkN h f)).length≤64:=by
 have l1:(lessK h w).length≤8:=by
  have:=wordsL_length_le (maskN (leftB h (w:Int) w) h.length)
  rwa[left_words T w1 w2,castL_length] at this
 have l2:(moreK h w).length≤8:=by
  have:=wordsL_length_le (maskN (rightB h (w:Int) w) h.length)
  rwa[right_words T w1 w2,castL_length] at this
 have kid: ∀c,(1≤c∧c≤h.length)∧hd h c=w→(walkN h f c).length≤8:=fun c hc=>by
  have:=kid_dep T hc.1.1 hc.1.2 w1 hc.2
  exact walk_len T hc.1.1 hc.1.2 (by omega)
 constructor
 ·have:=flatMap_short (f:=walkN h f) (l:=(lessK h w).take j) (fun x hx=>by
   have hx:=List.mem_of_mem_take hx
   rw[mem_lessK w2] at hx
   exact kid x ⟨hx.1,hx.2.1⟩)
  have t:=List.length_take_le' j (lessK h w)
  omega
 ·have:=flatMap_short (f:=walkN h f) (l:=(moreK h w).take j) (fun x hx=>by
   have hx:=List.mem_of_mem_take hx
   rw[mem_moreK] at hx
   exact kid x ⟨hx.1,hx.2.1⟩)
  have t:=List.length_take_le' j (moreK h w)
  omega
theorem implWalk: ∀(f w:Nat) (o:List Int) (n:Nat),1≤w→w≤h.length→h.length≤f+dep h w→2*f≤n→o.length+200*f≤1000000→Nq n h (w:Int) o=some (o++castL (walkN h f w))
 |0,w,o,n,w1,w2,hf,_,_=>by
  have:=T.dep_lt w1 w2
  omega
 |f+1,w,o,n,w1,w2,hf,hn,ho=>by
  obtain⟨n,rfl⟩: ∃n',n=n'+1+1:=⟨n-2,by omega⟩
  have hle:=T.le
  have kid: ∀c o',(1≤c∧c≤h.length)∧hd h c=w→o'.length+200*f≤1000000→(N5 n).1 h (c:Int) o'=some (o'++castL (walkN h f c)):=fun c o' hc ho'=>by
   have:=kid_dep T hc.1.1 hc.1.2 w1 hc.2
   exact implWalk f c o' n hc.1.1 hc.1.2 (by omega) (by omega) ho'
  have e:Nq (n+1+1) h (w:Int) o=N6h (N5 (n+1)).1 (N5 (n+1)).2 h (w:Int) o:=rfl
  have e2:(N5 (n+1)).2=fun y0 y1 y2=>N8g (N5 n).1 (N5 n).2 y0 y1 y2:=rfl
  have all1:(lessK h w).take (lessK h w).length=lessK h w:=List.take_length
  have b1:=(less_len T w1 w2 hf (lessK h w).length).1
  rw[all1] at b1
  have s1:=each_flat (R0:=(N5 n).1) (R1:=(N5 n).2) (f:=f) (lt256 hle (maskN_lt (leftB h (w:Int) w) h.length)) (left_words T w1 w2) o (fun k hk j=>by
   rw[mem_lessK w2] at hk
   have:=(less_len T w1 w2 hf j).1
   exact kid k _ ⟨hk.1,hk.2.1⟩ (by simp only[List.length_append,castL_length];omega))
  have s2:=each_flat (R0:=(N5 n).1) (R1:=(N5 n).2) (f:=f) (lt256 hle (maskN_lt (rightB h (w:Int) w) h.length)) (right_words T w1 w2) (o++castL ((lessK h w).flatMap (walkN h f))++ [(w:Int)]) (fun k hk j=>by
   rw[mem_moreK] at hk
   have:=(less_len T w1 w2 hf j).2
   exact kid k _ ⟨hk.1,hk.2.1⟩ (by simp only[List.length_append,castL_length,List.length_cons,List.length_nil];omega))
  rw[e]
  unfold N6h
  rw[beside_eq T w1 w2,e2]
  simp only[Option.bind_some,s1]
  rw[room8 (by simp only[List.length_append,castL_length,List.length_cons,List.length_nil];omega)]
  simp only[Option.bind_some,s2]
  rw[walkN,castL_append,show castL (w::(moreK h w).flatMap (walkN h f))=(w:Int)::castL ((moreK h w).flatMap (walkN h f)) from rfl]
  simp
end
theorem implFlatOrder_eq (h:List Int):N3s h=some (if treeB h=true then flatOI h else[]):=by
 have e:N3s h=N6y h:=by unfold N3s;rfl
 rw[e]
 unfold N6y
 rw[implTree_eq]
 cases t:treeB h with
 |false=>rfl
 |true=>
  have T:=(tree_iff h).mp t
  have h8:=T.le
  have r:rootI h=(top h:Int):=by unfold rootI;rw[t];rfl
  have e: ∀o,N6v h (top h:Int) o=Nq RR h (top h:Int) o:=fun o=>by unfold N6v;rfl
  have m0:mk 0 ((h.length:Nat):Int)=some 0:=by unfold mk;rw[if_pos (by omega)];rfl
  have q:=implWalk T RR (top h) [] (2*RR) (top_pos h) T.top_le (by simp only[RR];omega) (Nat.le_refl _)
  have q:=implWalk T h.length (top h) [] RR (top_pos h) T.top_le (by omega) (by simp only[RR];omega) (by simp;omega)
  simp only[Option.bind_some,Bool.not_true,cond_false,implRoot_eq h,r,m0,e,List.replicate_zero,q]
  rfl
theorem implMade_eq (h:List Int):N3z h=some (if treeB h=true then putRow h (flatOI h) else[]):=by
 have e:N3z h=N7k h:=by unfold N3z;rfl
 rw[e]
 unfold N7k
 rw[implFlatOrder_eq]
 simp only[Option.bind_some,implPut_eq]
 cases t:treeB h with
 |false=>rfl
 |true=>
  have T:=(tree_iff h).mp t
  simp only[if_true,flatOI_orderB T,Bool.and_self]
theorem cloneI_eq (x:List Int) (h:x.length≤1099511627776):N3b x=some x:=by
 unfold N3b cloneD
 rw[if_pos h]
theorem cloneII_eq (x:List (List Int)) (h:x.length≤1099511627776):Neq x=some x:=by
 unfold Neq cloneD
 rw[if_pos h]
theorem implNewDesk_eq (n:List Int) (p:List (List Int)) (hn:n.length≤1048576) (hp:p.length≤1048576) (hs: ∀x∈p,x.length≤1048576):Nf n p=some (n,p):=by
 have e:Nf n p=Nfp n p:=by unfold Nf;rfl
 rw[e]
 unfold Nfp Nbk Nj0 Nos N8f Nmf Nkb Nal
 rw[cloneI_eq n (by omega)]
 simp only[Option.bind_some]
 have w: ∀k:Nat,k<p.length→IntKind.wrap .i64 ((k:Int)+1)=((k+1:Nat):Int):=fun k hk=>by rw[wrap64 (by omega) (by omega)];omega
 have L:=nloop_to (body:=fun(s:Int×(List (List Int)))=>((N4s p ((p.length:Nat):Int) s.1 s.2).map (Sum.elim (fun(t:Int×(List (List Int)))=>Sum.inl (t.1,t.2)) (fun(t:(List (List Int)))=>Sum.inr t)):Option ((Int×(List (List Int)))⊕(((List (List Int)))))))
  (fun k=>((k:Int),p.take k)) p.length p
  (fun k hk=>by
   have lt:(p.take k).length=k:=by rw[List.length_take];omega
   unfold N4s
   simp only
   rw[decide_eq_true (show(k:Int)<((p.length:Nat):Int) by omega),idx_lt hk]
   simp only[cond_true,Option.bind_some]
   rw[cloneI_eq _ (by have:=hs _ (List.getElem_mem hk);omega),Option.bind_some,room_le (by omega)]
   simp only[Option.bind_some,w k hk,lt]
   have:(p.take k++ [[]]).set k p[k]=p.take (k+1):=by
    rw[List.take_succ_eq_append_getElem hk,List.set_append,if_neg (by omega),lt,Nat.sub_self]
    rfl
   rw[this]
   rfl)
  (by
   unfold N4s
   simp only
   rw[decide_eq_false (show¬((p.length:Nat):Int)<((p.length:Nat):Int) by omega),List.take_length]
   rfl) LL (by simp only[LL];omega)
 have L':nloop _ LL ((0:Int),([]:List (List Int)))=_:=L
 rw[L']
 rfl
theorem implDeskOk_eq (n:List Int) (p:List (List Int)):N1y n p=some (okDk (n,p)):=by
 have e:N1y n p=Ni6 n p:=by unfold N1y;rfl
 rw[e]
 unfold Ni6 N8q okDk
 rw[implTree_eq,Option.bind_some]
 cases treeB n with
 |false=>simp
 |true=>
  simp only[Bool.not_true,cond_false,Bool.true_and]
  by_cases c:p.length≤8
  ·rw[decide_eq_false (show¬((p.length:Nat):Int)>8 by omega),decide_eq_true c,Bool.and_true]
   simp only[cond_false,Option.bind_some,Sum.elim_inl]
   unfold No5 Nm2 Nbd Nnl Nob
   have w: ∀k:Nat,k<p.length→IntKind.wrap .i64 ((k:Int)+1)=((k+1:Nat):Int):=fun k hk=>by rw[wrap64 (by omega) (by omega)];omega
   have L:=nloop_while (body:=fun(s:Int)=>((N2x p ((p.length:Nat):Int) s).map (Sum.elim (fun(t:Int)=>Sum.inl t) (Sum.elim (fun(t:Bool)=>Sum.inr (Sum.inl t)) (fun(t:Unit)=>Sum.inr (Sum.inr t)))):Option ((Int)⊕(Bool⊕Unit))))
    (fun k=>(k:Int)) p.length (fun k=>treeB (p.getD k [])) (fun b=>cond b (Sum.inr ()) (Sum.inl false))
    (fun k hk t=>by
     rw[List.getD_eq_getElem?_getD,List.getElem?_eq_getElem hk,Option.getD_some] at t
     unfold N2x
     rw[decide_eq_true (show(k:Int)<((p.length:Nat):Int) by omega),idx_lt hk]
     simp only[cond_true,Option.bind_some,implTree_eq,t,Bool.not_true,cond_false,w k hk]
     rfl)
    (fun k hk t=>by
     rw[List.getD_eq_getElem?_getD,List.getElem?_eq_getElem hk,Option.getD_some] at t
     unfold N2x
     rw[decide_eq_true (show(k:Int)<((p.length:Nat):Int) by omega),idx_lt hk]
     simp only[cond_true,Option.bind_some,implTree_eq,t,Bool.not_false,cond_true]
     rfl)
    (by
     unfold N2x
     rw[decide_eq_false (show¬((p.length:Nat):Int)<((p.length:Nat):Int) by omega)]
     rfl) LL (by simp only[LL];omega)
   have L':nloop _ LL (0:Int)=_:=L
   simp only[Option.bind_some]
   rw[L']
   have ea:(List.range p.length).all (fun k=>treeB (p.getD k []))=p.all treeB:=by
    rw[Bool.eq_iff_iff,List.all_eq_true,List.all_eq_true]
    constructor
    ·intro h x hx
     obtain⟨k,hk,rfl⟩:=List.getElem_of_mem hx
     have:=h k (List.mem_range.mpr hk)
     rwa[List.getD_eq_getElem?_getD,List.getElem?_eq_getElem hk,Option.getD_some] at this
    ·intro h k hk
     have hk:=List.mem_range.mp hk
     rw[List.getD_eq_getElem?_getD,List.getElem?_eq_getElem hk,Option.getD_some]
     exact h _ (List.getElem_mem hk)
   rw[ea]
   cases p.all treeB<;>rfl
  ·rw[decide_eq_true (show((p.length:Nat):Int)>8 by omega),decide_eq_false c,Bool.and_false]
   rfl
theorem treeB_nil:treeB []=false:=by decide
def restB (k x y:Int):Bool:=(((k==0)||(k==1))||(x==0))&&((k==0)||(y==0))
theorem implRest_eq (k x y:Int):N2v k x y=some (restB k x y):=by
 unfold N2v N84 Nl N6p restB
 cases k==0<;>cases k==1<;>cases x==0<;>cases y==0<;>rfl
theorem implChangedBy_eq {h:List Int} (t:treeB h=true) (k x y:Int) (r:restB k x y=true):N32 h k x y=some (madeDk h (k,x,y,())):=by
 obtain⟨l1,l8⟩:=tree_len t
 have e:N32 h k x y=N6n h k x y:=by unfold N32;rfl
 rw[e]
 unfold N6n madeDk kindB
 unfold restB at r
 cases k0:k==0 with
 |true=>
  have k1:(k==1)=false:=by rw[eq_of_beq k0];rfl
  have k2:(k==2)=false:=by rw[eq_of_beq k0];rfl
  have k3:(k==3)=false:=by rw[eq_of_beq k0];rfl
  have k4:(k==4)=false:=by rw[eq_of_beq k0];rfl
  simp only[cond_true,wordOk_eq,Option.bind_some,k1,k2,k3,k4,Bool.true_and,Bool.false_and,wordB,t]
  cases c:decide (1≤x)&&decide (x≤((h.length:Nat):Int)) with
  |false=>simp[c]
  |true=>
   have c':=c
   rw[Bool.and_eq_true,decide_eq_true_iff,decide_eq_true_iff] at c'
   have w:IntKind.wrap .i64 (x-1)=(((x-1).toNat:Nat):Int):=by rw[wrap64 (by omega) (by omega)];omega
   simp only[Bool.true_and,c,Bool.not_true,cond_false,cloneI_eq h (by omega),Option.bind_some,w,inb_nat (show(x-1).toNat<h.length by omega)]
   rfl
 |false=>
  rw[k0] at r
  simp only[Bool.false_or] at r
  rw[Bool.and_eq_true] at r
  have y0:=r.2
  cases k1:k==1 with
  |true=>
   simp only[cond_false,cond_true,cloneI_eq h (by omega),Option.bind_some,y0,Bool.false_and,Bool.true_and,if_neg (show¬false=true by simp)]
   rw[room_le (by simp only[List.length_cons,List.length_nil];omega)]
   rfl
  |false=>
   rw[k1,Bool.false_or] at r
   have x0:=r.1
   simp only[cond_false,x0,y0,Bool.false_and,Bool.true_and,Bool.and_true,if_neg (show¬false=true by simp)]
   cases k2:k==2 with
   |true=>
    have w:IntKind.wrap .i64 ((((h.length:Nat):Int))-1)=((h.length-1:Nat):Int):=by rw[wrap64 (by omega) (by omega)];omega
    have i:inc ((h.length-1:Nat):Int) h.length=some (h.length-1):=by unfold inc;rw[if_pos (by omega)];simp
    simp only[cond_true,w,i,Option.bind_some,List.drop_zero]
    rw[cloneI_eq _ (by rw[List.length_take];omega),Option.bind_some,List.dropLast_eq_take]
    rfl
   |false=>
    cases k3:k==3 with
    |true=>
     simp only[cond_false,cond_true,implBack_eq,Option.bind_some]
     rfl
    |false=>
     cases k4:k==4 with
     |true=>
      simp only[cond_false,cond_true,implMade_eq,Option.bind_some]
      rfl
     |false=>rfl
theorem made_rest {h:List Int} {k x y:Int} (r:restB k x y=false):madeDk h (k,x,y,())=[]:=by
 unfold madeDk kindB
 unfold restB at r
 simp only[Bool.and_true]
 cases k0:k==0 with
 |true=>rw[k0] at r;simp at r
 |false=>
  cases k1:k==1<;>cases x0:x==0<;>cases y0:y==0<;>simp_all
theorem equal_eq (x y:List Int) (hx:x.length≤1048576):N3o x y=some (x==y):=by
 have e:N3o x y=Neu x y:=by unfold N3o;rfl
 rw[e]
 unfold Neu N8z
 by_cases c:x.length=y.length
 ·have b:((((x.length:Nat):Int)) !=(((y.length:Nat):Int)))=false:=by rw[c];simp
  rw[b]
  simp only[cond_false,Option.bind_some,Sum.elim_inl]
  unfold Nk4 Nnf N9y Njd Nn8
  have w: ∀k:Nat,k<x.length→IntKind.wrap .i64 ((k:Int)+1)=((k+1:Nat):Int):=fun k hk=>by rw[wrap64 (by omega) (by omega)];omega
  have L:=nloop_while (body:=fun(s:Int)=>((N39 x y ((x.length:Nat):Int) s).map (Sum.elim (fun(t:Int)=>Sum.inl t) (Sum.elim (fun(t:Bool)=>Sum.inr (Sum.inl t)) (fun(t:Unit)=>Sum.inr (Sum.inr t)))):Option ((Int)⊕(Bool⊕Unit))))
   (fun k=>(k:Int)) x.length (fun k=>x.getD k 0==y.getD k 0) (fun b=>cond b (Sum.inr ()) (Sum.inl false))
   (fun k hk t=>by
    rw[List.getD_eq_getElem?_getD,List.getElem?_eq_getElem hk,Option.getD_some,List.getD_eq_getElem?_getD,List.getElem?_eq_getElem (show k<y.length by omega),Option.getD_some] at t
    unfold N39
    rw[decide_eq_true (show(k:Int)<((x.length:Nat):Int) by omega),idx_lt hk,Option.bind_some,idx_lt (show k<y.length by omega),Option.bind_some]
    rw[show(x[k] !=y[k]'(by omega))=false by unfold bne;rw[t];rfl]
    simp only[cond_true,cond_false,w k hk]
    rfl)
   (fun k hk t=>by
    rw[List.getD_eq_getElem?_getD,List.getElem?_eq_getElem hk,Option.getD_some,List.getD_eq_getElem?_getD,List.getElem?_eq_getElem (show k<y.length by omega),Option.getD_some] at t
    unfold N39
    rw[decide_eq_true (show(k:Int)<((x.length:Nat):Int) by omega),idx_lt hk,Option.bind_some,idx_lt (show k<y.length by omega),Option.bind_some]
    rw[show(x[k] !=y[k]'(by omega))=true by unfold bne;rw[t];rfl]
    rfl)
   (by
    unfold N39
    rw[decide_eq_false (show¬((x.length:Nat):Int)<((x.length:Nat):Int) by omega)]
    rfl) LL (by simp only[LL];omega)
  have L':nloop _ LL (0:Int)=_:=L
  simp only[Option.bind_some]
  rw[L']
  have ea:(List.range x.length).all (fun k=>x.getD k 0==y.getD k 0)=(x==y):=by
   rw[Bool.eq_iff_iff,List.all_eq_true,beq_iff_eq]
   constructor
   ·intro h
    refine List.ext_getElem c fun k hk hk'=> ?_
    have:=h k (List.mem_range.mpr hk)
    rw[List.getD_eq_getElem?_getD,List.getElem?_eq_getElem hk,Option.getD_some,List.getD_eq_getElem?_getD,List.getElem?_eq_getElem hk',Option.getD_some] at this
    exact eq_of_beq this
   ·rintro rfl k hk
    exact beq_self_eq_true _
  rw[ea]
  cases x==y<;>rfl
 ·have b:((((x.length:Nat):Int)) !=(((y.length:Nat):Int)))=true:=by
   rw[bne_iff_ne]
   omega
  rw[b,show(x==y)=false from beq_eq_false_iff_ne.mpr (fun e=>c (by rw[e]))]
  rfl
theorem implChanged_eq {n:List Int} {p:List (List Int)} (o:okDk (n,p)=true) (k x y:Int) (r:restB k x y=true) (k5:kindB (k,x,y,()) 5=false):N3l n p k x y=some (doDk (n,p) (k,x,y,())):=by
 obtain⟨t,l8,ts⟩:=okDk_and o
 simp only at t l8 ts
 obtain⟨n1,n8⟩:=tree_len t
 have e:N3l n p k x y=N7a n p k x y:=by unfold N3l;rfl
 have hs: ∀z∈p,z.length≤1048576:=fun z hz=>by have:=(tree_len (ts z hz)).2;omega
 rw[e]
 unfold N7a doDk
 rw[if_pos o,k5,Bool.false_and,if_neg (show¬false=true by simp),implChangedBy_eq t k x y r,Option.bind_some,implTree_eq,Option.bind_some]
 cases tm:treeB (madeDk n (k,x,y,())) with
 |false=>
  simp only[Bool.not_false,cond_true,implNewDesk_eq n p (by omega) (by omega) hs,Option.bind_some,Bool.or_true,if_pos]
 |true=>
  obtain⟨m1,m8⟩:=tree_len tm
  simp only[Bool.not_true,cond_false,equal_eq _ n (show(madeDk n (k,x,y,())).length≤1048576 by omega),Option.bind_some,Bool.or_false]
  cases madeDk n (k,x,y,())==n with
  |true=>simp only[cond_true,implNewDesk_eq n p (by omega) (by omega) hs,Option.bind_some,if_pos]
  |false=>
   simp only[cond_false,cloneII_eq p (by omega),Option.bind_some,if_neg (show¬false=true by simp)]
   rw[room_le (by simp only[List.length_cons,List.length_nil];omega),Option.bind_some]
   have la:(p++ [n]).length=p.length+1:=by simp
   have w:IntKind.wrap .i64 ((((p++ [n]).length:Nat):Int)-8)=(p.length:Int)-7:=by rw[la,wrap64 (by omega) (by omega)];omega
   have hs2: ∀z∈p++ [n],z.length≤1048576:=fun z hz=>by
    rcases List.mem_append.1 hz with hz|hz
    ·exact hs z hz
    ·rw[List.mem_singleton.1 hz];omega
   rw[w]
   unfold pushDk
   by_cases c:p.length<8
   ·have i:inc (imax 0 ((p.length:Int)-7)) (p++ [n]).length=some 0:=by
     have:imax 0 ((p.length:Int)-7)=0:=by unfold imax;split<;>omega
     rw[this]
     unfold inc
     rw[if_pos (by omega)]
     rfl
    rw[i,Option.bind_some,List.drop_zero,Nat.sub_zero,List.take_length,implNewDesk_eq _ _ (by omega) (by omega) hs2,Option.bind_some,if_pos c]
   ·have i:inc (imax 0 ((p.length:Int)-7)) (p++ [n]).length=some 1:=by
     have:imax 0 ((p.length:Int)-7)=1:=by unfold imax;split<;>omega
     rw[this]
     unfold inc
     rw[if_pos (by omega)]
     rfl
    have tk:((p++ [n]).drop 1).take ((p++ [n]).length-1)=(p++ [n]).drop 1:=List.take_of_length_le (by rw[List.length_drop];omega)
    rw[i,Option.bind_some,tk,implNewDesk_eq _ _ (by omega) (by rw[List.length_drop];omega) (fun z hz=>hs2 z (List.mem_of_mem_drop hz)),Option.bind_some,if_neg c]
theorem implPutBack_eq {n:List Int} {p:List (List Int)} (o:okDk (n,p)=true) (k x y:Int) (k5:kindB (k,x,y,()) 5=true):N3w n p=some (doDk (n,p) (k,x,y,())):=by
 obtain⟨t,l8,ts⟩:=okDk_and o
 simp only at t l8 ts
 obtain⟨n1,n8⟩:=tree_len t
 have e:N3w n p=N6s n p:=by unfold N3w;rfl
 have hs: ∀z∈p,z.length≤1048576:=fun z hz=>by have:=(tree_len (ts z hz)).2;omega
 have km:madeDk n (k,x,y,())=[]:=by
  have k5:k=5:=by
   unfold kindB at k5
   rw[Bool.and_eq_true] at k5
   exact eq_of_beq k5.1
  subst k5
  rfl
 rw[e]
 unfold N6s doDk
 rw[if_pos o,k5,Bool.true_and,km]
 cases p with
 |nil=>
  have w:IntKind.wrap .i64 (((([]:List (List Int)).length:Nat):Int)-1)= -1:=by decide
  rw[w,implNewDesk_eq n [] (by omega) (by simp) (by simp)]
  simp[treeB_nil]
 |cons z p'=>
  have w:IntKind.wrap .i64 ((((z::p').length:Nat):Int)-1)=(((z::p').length-1:Nat):Int):=by rw[wrap64 (by simp only[List.length_cons];omega) (by omega)];simp only[List.length_cons];omega
  have i:inc (((z::p').length-1:Nat):Int) (z::p').length=some ((z::p').length-1):=by unfold inc;rw[if_pos (by omega)];simp
  rw[w,decide_eq_false (by omega),cond_false,idx_lt (by simp),Option.bind_some,i,Option.bind_some,List.drop_zero,implNewDesk_eq _ _ (hs _ (List.getElem_mem _)) (by rw[List.length_take];omega) (fun q hq=>hs q (List.mem_of_mem_take hq)),Option.bind_some]
  rw[←List.dropLast_eq_take]
  simp[List.getLastD_eq_getLast?,List.getLast?_eq_getElem?,List.getLast_eq_getElem]
theorem implDo_eq (n:List Int) (p:List (List Int)) (a:DeedL):N2q n p a.1 a.2.1 a.2.2.1=some (doDk (n,p) a):=by
 obtain⟨k,x,y,u⟩:=a
 simp only
 have e:N2q n p k x y=N6l n p k x y:=by unfold N2q;rfl
 rw[e]
 unfold N6l
 rw[implDeskOk_eq,Option.bind_some]
 cases o:okDk (n,p) with
 |false=>rw[do_none _ o];rfl
 |true=>
  obtain⟨t,l8,ts⟩:=okDk_and o
  simp only at t l8 ts
  obtain⟨n1,n8⟩:=tree_len t
  have hs: ∀z∈p,z.length≤1048576:=fun z hz=>by have:=(tree_len (ts z hz)).2;omega
  simp only[Bool.not_true,cond_false,implRest_eq,Option.bind_some]
  cases r:restB k x y with
  |false=>
   have k5:kindB (k,x,y,u) 5=false:=by
    unfold kindB
    unfold restB at r
    show((k==5)&&((x==0)&&((y==0)&&true)))=false
    cases k5:k==5 with
    |false=>rfl
    |true=>
     have h0:(k==0)=false:=by rw[eq_of_beq k5];rfl
     have h1:(k==1)=false:=by rw[eq_of_beq k5];rfl
     rw[h0,h1] at r
     cases hx:x==0<;>cases hy:y==0<;>rw[hx,hy] at r<;>first|rfl|cases r
   have m:=made_rest (h:=n) r
   simp only[Bool.not_false,cond_true,implNewDesk_eq n p (by omega) (by omega) hs,Option.bind_some]
   unfold doDk
   rw[if_pos o,k5,Bool.false_and,if_neg (show¬false=true by simp),show madeDk n (k,x,y,u)=[] from m,treeB_nil,Bool.not_false,Bool.or_true,if_pos rfl]
  |true=>
   simp only[Bool.not_true,cond_false]
   cases k5:k==5 with
   |true=>
    have kb:kindB (k,x,y,()) 5=true:=by
     unfold kindB
     unfold restB at r
     have:k=5:=eq_of_beq k5
     subst this
     simpa using r
    simp only[cond_true,implPutBack_eq o k x y kb,Option.bind_some]
   |false=>
    have kb:kindB (k,x,y,()) 5=false:=by unfold kindB;simp only[k5,Bool.false_and]
    simp only[cond_false,implChanged_eq o k x y r kb,Option.bind_some]
abbrev irunBody (l:List DeedL):Int×Int×DeskL→Option ((Int×Int×DeskL)⊕(Int×DeskL)):=
 fun(s:Int×Int×(List Int)×(List (List Int)))=>((N4d s.1 l ((l.length:Nat):Int) s.2.1 s.2.2.1 s.2.2.2).map (Sum.elim (fun(t:Int×Int×(List Int)×(List (List Int)))=>Sum.inl (t.1,t.2.1,t.2.2.1,t.2.2.2)) (fun(t:Int×(List Int)×(List (List Int)))=>Sum.inr t)):Option ((Int×Int×(List Int)×(List (List Int)))⊕((Int×(List Int)×(List (List Int))))))
theorem irun_loop (l:List DeedL) (hl:l.length≤40): ∀(m k N:Nat) (c:Nat) (d:DeskL),k+m=l.length→c≤k→m<N→
  nloop (irunBody l) N ((c:Int),(k:Int),d)=some ((((runDk d (l.drop k)).1+c:Nat):Int),(runDk d (l.drop k)).2)
 |m,k,0,c,d,_,_,h=>by omega
 |0,k,N+1,c,d,hk,hc,_=>by
  rw[nloop]
  simp only[irunBody,N4d]
  rw[decide_eq_false (by omega),List.drop_eq_nil_of_le (by omega)]
  simp[runDk]
 |m+1,k,N+1,c,d,hk,hc,hN=>by
  rw[nloop]
  simp only[irunBody,N4d]
  have w:IntKind.wrap .i64 ((k:Int)+1)=((k+1:Nat):Int):=by rw[wrap64 (by omega) (by omega)];omega
  have w2:IntKind.wrap .i64 ((c:Int)+1)=((c+1:Nat):Int):=by rw[wrap64 (by omega) (by omega)];omega
  rw[decide_eq_true (by omega),idx_lt (show k<l.length by omega),List.drop_eq_getElem_cons (show k<l.length by omega)]
  simp only[cond_true,Option.bind_some,w,w2]
  have im:=implDo_eq d.1 d.2 l[k]
  rw[im]
  simp only[Option.bind_some,runDk]
  cases f:(doDk (d.1,d.2) l[k]).1 with
  |true=>
   have f':(doDk d l[k]).1=true:=f
   simp only[cond_true,Option.map_some,Sum.elim_inl,f',if_pos]
   have:=irun_loop l hl m (k+1) N (c+1) (doDk d l[k]).2 (by omega) (by omega) (by omega)
   refine Eq.trans this ?_
   rw[show(runDk (doDk d l[k]).2 (l.drop (k+1))).1+(c+1)=(runDk (doDk d l[k]).2 (l.drop (k+1))).1+1+c by omega]
  |false=>
   have f':(doDk d l[k]).1=false:=f
   simp only[cond_false,Option.map_some,Sum.elim_inl,f',if_neg (show¬false=true by simp)]
   exact irun_loop l hl m (k+1) N c d (by omega) (by omega) (by omega)
theorem implDeskRun_eq (n:List Int) (p:List (List Int)) (l:List DeedL):N29 n p l=some (runDI (n,p) l):=by
 have e:N29 n p l=Ne0 n p l:=by unfold N29;rfl
 rw[e]
 unfold Ne0 Nc3 runDI
 rw[implDeskOk_eq,Option.bind_some]
 cases o:okDk (n,p) with
 |false=>rfl
 |true=>
  obtain⟨t,l8,ts⟩:=okDk_and o
  simp only at t l8 ts
  obtain⟨n1,n8⟩:=tree_len t
  have hs: ∀z∈p,z.length≤1048576:=fun z hz=>by have:=(tree_len (ts z hz)).2;omega
  simp only[Bool.not_true,cond_false,Bool.true_and]
  by_cases c:l.length≤40
  ·rw[decide_eq_false (show¬((l.length:Nat):Int)>40 by omega),decide_eq_true c,cond_false,implNewDesk_eq n p (by omega) (by omega) hs]
   simp only[Option.bind_some,Sum.elim_inl,if_pos]
   unfold Nl3 Nle N9j Nnb Nks N9v
   have L:=irun_loop l c l.length 0 LL 0 (n,p) (by omega) (by omega) (by simp only[LL];omega)
   have L':nloop _ LL ((0:Int),(0:Int),n,p)=_:=L
   simp only[Option.bind_some]
   rw[L']
   rfl
  ·rw[decide_eq_true (show((l.length:Nat):Int)>40 by omega),decide_eq_false c]
   rfl
def ddL (n:Nat):List UInt8:=if n<10 then[UInt8.ofNat (48+n)] else[UInt8.ofNat (48+n/10),UInt8.ofNat (48+n%10)]
theorem dd_eq {n:Nat} (h:n<100):Lib.decDigits n=ddL n:=by
 unfold ddL
 rw[Lib.decDigits]
 by_cases c:n<10
 ·rw[dif_pos c,if_pos c]
 ·rw[dif_neg c,if_neg c,Lib.decDigits,dif_pos (show n/10<10 by omega)]
  rfl
def numChk2 (n:Nat):Bool:=match Nx (n:Int) with
 |some t=>t.data.toList==ddL n
 |none=>false
theorem num_tab2:((List.range 100).all numChk2)=true:=by decide+kernel
theorem num_itoa {n:Nat} (h:n<100):itoaS (n:Int)=some (numT n):=by
 have h1:=List.all_eq_true.mp num_tab2 n (List.mem_range.mpr h)
 unfold numChk2 at h1
 rw[(num_ok h).1] at h1
 simp only[beq_iff_eq] at h1
 unfold itoaS
 rw[if_pos (by omega),Int.toNat_natCast,dd_eq h,←h1]
def numChk3 (n:Nat):Bool:=match Nx (n:Int) with
 |some t=>(atoiE t).1==(n:Int)
 |none=>false
theorem num_tab3:((List.range 100).all numChk3)=true:=by decide+kernel
theorem num_atoi {n:Nat} (h:n<100):(atoiE (numT n)).1=(n:Int):=by
 have h1:=List.all_eq_true.mp num_tab3 n (List.mem_range.mpr h)
 unfold numChk3 at h1
 rw[(num_ok h).1] at h1
 simpa using h1
theorem inText_eq (k a b:Int):N49 k a b=some (deedB k a b):=by
 unfold N49 Na3 deedB
 rw[implRest_eq]
 unfold restB
 by_cases k0:k=0
 ·subst k0
  by_cases a0:0≤a<;>by_cases a9:a≤99<;>by_cases b0:0≤b<;>by_cases b9:b≤99<;>simp[a0,a9,b0,b9]
 ·have z0:(k==0)=false:=beq_eq_false_iff_ne.mpr k0
  by_cases k1:k=1
  ·subst k1
   by_cases b0:b=0
   ·subst b0
    by_cases a0:0≤a<;>by_cases a9:a≤99<;>simp[a0,a9]
   ·rw[beq_eq_false_iff_ne.mpr b0]
    simp
  ·have z1:(k==1)=false:=beq_eq_false_iff_ne.mpr k1
   rw[z0,z1]
   by_cases k2:2≤k∧k≤5
   ·rw[decide_eq_true (show k≥0 by omega),decide_eq_true (show k<6 by omega),decide_eq_true k2.1,decide_eq_true k2.2]
    by_cases a0:a=0
    ·by_cases b0:b=0
     ·subst a0
      subst b0
      rfl
     ·rw[beq_eq_false_iff_ne.mpr b0]
      simp
    ·rw[beq_eq_false_iff_ne.mpr a0]
     simp
   ·have r:(false&&decide (0≤a)&&decide (a≤99)&&decide (0≤b)&&decide (b≤99)||false&&decide (0≤a)&&decide (a≤99)&&b==0||decide (2≤k)&&decide (k≤5)&&a==0&&b==0)=false:=by
     by_cases c2:2≤k
     ·rw[decide_eq_false (show¬k≤5 from fun h=>k2 ⟨c2,h⟩)]
      simp
     ·rw[decide_eq_false c2]
      simp
    rw[r]
    by_cases c0:k≥0
    ·rw[decide_eq_true c0,decide_eq_false (show¬k<6 by omega)]
     rfl
    ·rw[decide_eq_false c0]
     rfl
theorem nloop_s {σ ω:Type} {body:σ→Option (σ⊕ω)} {s s':σ} (h:body s=some (.inl s')) (N:Nat):nloop body (N+1) s=nloop body N s':=by
 rw[nloop,h]
 rfl
theorem nloop_e {σ ω:Type} {body:σ→Option (σ⊕ω)} {s:σ} {o:ω} (h:body s=some (.inr o)) (N:Nat):nloop body (N+1) s=some o:=by
 rw[nloop,h]
 rfl
theorem LL3: ∃N,LL=N+1+1+1:=⟨LL-3,by simp only[LL]⟩
abbrev dtBody (xs:List Int) (n:Int):ByteArray×Int→Option ((ByteArray×Int)⊕ByteArray):=
 fun(s:ByteArray×Int)=>((N5h s.1 xs n s.2).map (Sum.elim (fun(t:ByteArray×Int)=>Sum.inl (t.1,t.2)) (fun(t:ByteArray)=>Sum.inr t)):Option ((ByteArray×Int)⊕(ByteArray)))
theorem dt_step {t:ByteArray} {xs:List Int} {n:Int} {k m:Nat} (ht:t.size≤1000) (hk:k<xs.length) (h1000:k<1000) (hn:(k:Int)<n) (hm:m<100) (hx:xs[k]=(m:Int)):
  dtBody xs n (t,(k:Int))=some (.inl (t++(spaceW++numT m),((k+1:Nat):Int))):=by
 obtain⟨_,n2,n3,_⟩:=num_ok hm
 have w:IntKind.wrap .i64 ((k:Int)+1)=((k+1:Nat):Int):=by rw[wrap64 (by omega) (by omega)];omega
 have s1:(spaceW++numT m).size≤3:=by rw[ByteArray.size_append];show 1+_≤3;omega
 simp only[dtBody,N5h]
 rw[decide_eq_true hn,idx_lt hk,hx,w]
 simp only[cond_true,Option.bind_some,Nng,num_itoa hm]
 rw[show cat (ByteArray.mk #[32]) (numT m)=some (spaceW++numT m) from catT (by show 1+_≤_;omega)]
 simp only[Option.bind_some]
 rw[catT (by omega)]
 rfl
theorem dt_end {t:ByteArray} {xs:List Int} {n k:Int} (hn: ¬k<n):dtBody xs n (t,k)=some (.inr t):=by
 simp only[dtBody,N5h]
 rw[decide_eq_false hn]
 rfl
theorem implDeedText_eq (k a b:Int):N3 k a b=some (deedT k a b):=by
 have e:N3 k a b=Ndc k a b:=by unfold N3;rfl
 rw[e]
 unfold Ndc Nb2
 rw[inText_eq,Option.bind_some]
 cases d:deedB k a b with
 |false=>rw[deed_none d];rfl
 |true=>
  simp only[Bool.not_true,cond_false]
  rcases deedB_cases d with⟨n,m,hn,hm,rfl,rfl,rfl⟩|⟨n,hn,rfl,rfl,rfl⟩|⟨h2,h5,rfl,rfl⟩
  ·have i:idx tabW 0=some (ByteArray.mk #[104,101,97,100]):=rfl
   rw[i,show same (List.length tabW) 6=some () from rfl]
   simp only[Option.bind_some,Sum.elim_inl]
   unfold N8d Na0 N4h N85 Nav N4u
   have nn:Nl 0=some 2:=by unfold Nl;rfl
   rw[nn,Option.bind_some,show inc 2 (List.length [(n:Int),(m:Int)])=some 2 from rfl]
   simp only[Option.bind_some]
   have L:nloop (dtBody [(n:Int),(m:Int)] 2) LL (ByteArray.mk #[104,101,97,100],((0:Nat):Int))=some (ByteArray.mk #[104,101,97,100]++(spaceW++numT n)++(spaceW++numT m)):=by
    obtain⟨_,n2,n3,_⟩:=num_ok hn
    obtain⟨N,hN⟩:=LL3
    rw[hN,nloop_s (dt_step (m:=n) (by decide) (by simp) (by decide) (by decide) hn rfl),nloop_s (dt_step (m:=m) (by rw[ByteArray.size_append,ByteArray.size_append];show 4+(1+_)≤1000;omega) (by simp) (by decide) (by decide) hm rfl),nloop_e (dt_end (by decide))]
   have L':nloop _ LL (ByteArray.mk #[104,101,97,100],(0:Int))=_:=L
   refine(congrArg (fun x:Option ByteArray=>(x.map fun t=>t).bind fun t=>some t) L').trans ?_
   rw[deed_head hn hm]
   simp only[Option.map_some,Option.bind_some]
   congr 1
   refine bytesN_inj ?_
   simp only[bytesN_app]
   rw[show bytesN headW=bytesN (ByteArray.mk #[104,101,97,100])++bytesN spaceW from rfl]
   simp
  ·have i:idx tabW 1=some (ByteArray.mk #[97,100,100]):=rfl
   rw[i,show same (List.length tabW) 6=some () from rfl]
   simp only[Option.bind_some,Sum.elim_inl]
   unfold N8d Na0 N4h N85 Nav N4u
   have nn:Nl 1=some 1:=by unfold Nl;rfl
   rw[nn,Option.bind_some,show inc 1 (List.length [(n:Int),0])=some 1 from rfl]
   simp only[Option.bind_some]
   have L:nloop (dtBody [(n:Int)] 1) LL (ByteArray.mk #[97,100,100],((0:Nat):Int))=some (ByteArray.mk #[97,100,100]++(spaceW++numT n)):=by
    obtain⟨N,hN⟩:=LL3
    rw[hN,nloop_s (dt_step (m:=n) (by decide) (by simp) (by decide) (by decide) hn rfl),nloop_e (dt_end (by decide))]
   have L':nloop _ LL (ByteArray.mk #[97,100,100],(0:Int))=_:=L
   refine(congrArg (fun x:Option ByteArray=>(x.map fun t=>t).bind fun t=>some t) L').trans ?_
   rw[deed_add hn]
   simp only[Option.map_some,Option.bind_some]
   congr 1
  ·rw[deed_word h2 h5,show same (List.length tabW) 6=some () from rfl]
   have nn:Nl k=some 0:=by
    unfold Nl N6p
    rw[beq_eq_false_iff_ne.mpr (show k≠0 by omega),beq_eq_false_iff_ne.mpr (show k≠1 by omega)]
    rfl
   have i:idx tabW k=some (wordW k):=by
    rcases wordW_eq h2 h5 with rfl|rfl|rfl|rfl<;>rfl
   rw[i]
   simp only[Option.bind_some,Sum.elim_inl]
   unfold N8d Na0 N4h N85 Nav N4u
   rw[nn,Option.bind_some,show inc 0 (List.length [(0:Int),0])=some 0 from rfl]
   simp only[Option.bind_some]
   have L:nloop (dtBody ([]:List Int) 0) LL (wordW k,((0:Nat):Int))=some (wordW k):=by
    obtain⟨N,hN⟩:=LL3
    rw[hN,nloop_e (dt_end (by decide))]
   have L':nloop _ LL (wordW k,(0:Int))=_:=L
   exact(congrArg (fun x:Option ByteArray=>(x.map fun t=>t).bind fun t=>some t) L').trans rfl
theorem indexByte_is: ∀(l:List UInt8) (c:UInt8),(Lib.indexByte l c= -1∧c∉l)∨ ∃l1 l2,l=l1++c::l2∧c∉l1∧Lib.indexByte l c=(l1.length:Int)
 |[],c=> .inl ⟨rfl,by simp⟩
 |b::l,c=>by
  rw[Lib.indexByte]
  by_cases e:b=c
  ·subst e
   rw[beq_self_eq_true,if_pos rfl]
   exact .inr ⟨[],l,rfl,by simp,rfl⟩
  ·rw[beq_eq_false_iff_ne.mpr e,if_neg (by simp)]
   rcases indexByte_is l c with⟨h1,h2⟩|⟨l1,l2,rfl,h2,h3⟩
   ·rw[h1]
    exact .inl ⟨rfl,fun m=>by
     rcases List.mem_cons.1 m with m|m
     ·exact e m.symm
     ·exact h2 m⟩
   ·rw[h3,beq_eq_false_iff_ne.mpr (show((l1.length:Nat):Int)≠ -1 by omega),if_neg (by simp)]
    exact .inr ⟨b::l1,l2,rfl,fun m=>by
     rcases List.mem_cons.1 m with m|m
     ·exact e m.symm
     ·exact h2 m,by simp⟩
theorem cut_unique {α:Type} {x:α}: ∀{l1 m1 l2 m2:List α},l1++x::l2=m1++x::m2→x∉l1→x∉m1→l1=m1∧l2=m2
 |[],[],l2,m2,h,_,_=>by simpa using h
 |[],y::m1,l2,m2,h,_,n=>by simp at h;exact absurd (by rw[h.1];exact List.mem_cons_self ..) n
 |y::l1,[],l2,m2,h,n,_=>by simp at h;exact absurd (by rw[←h.1];exact List.mem_cons_self ..) n
 |y::l1,z::m1,l2,m2,h,n1,n2=>by
  simp only[List.cons_append,List.cons.injEq] at h
  obtain⟨rfl,h⟩:=h
  obtain⟨rfl,rfl⟩:=cut_unique h (fun m=>n1 (List.mem_cons_of_mem _ m)) (fun m=>n2 (List.mem_cons_of_mem _ m))
  exact⟨rfl,rfl⟩
theorem sidx_is (s:ByteArray) (c:UInt8):(sidx s (ByteArray.mk #[c])=some (-1)∧c.toNat∉bytesN s)∨ ∃l1 l2,bytesN s=l1++c.toNat::l2∧c.toNat∉l1∧sidx s (ByteArray.mk #[c])=some (l1.length:Int):=by
 have e:sidx s (ByteArray.mk #[c])=some (Lib.indexByte s.data.toList c):=rfl
 have inj: ∀(l:List UInt8),c∉l→c.toNat∉l.map (fun b:UInt8=>b.toNat):=fun l h m=>by
  obtain⟨b,hb,e⟩:=List.mem_map.1 m
  exact h (UInt8.toNat_inj.mp e▸hb)
 rw[e]
 rcases indexByte_is s.data.toList c with⟨h1,h2⟩|⟨l1,l2,h1,h2,h3⟩
 ·exact .inl ⟨by rw[h1],inj _ h2⟩
 ·refine .inr ⟨l1.map (fun b:UInt8=>b.toNat),l2.map (fun b:UInt8=>b.toNat),?_,inj _ h2,by rw[h3];simp⟩
  unfold bytesN
  rw[h1]
  simp
theorem sidx_none {s:ByteArray} {c:UInt8} (h:c.toNat∉bytesN s):sidx s (ByteArray.mk #[c])=some (-1):=by
 rcases sidx_is s c with⟨h1,_⟩|⟨l1,l2,h1,_,_⟩
 ·exact h1
 ·exact absurd (by rw[h1];simp) h
theorem sidx_cut {s:ByteArray} {c:UInt8} {l1 l2:List Nat} (h:bytesN s=l1++c.toNat::l2) (n:c.toNat∉l1):sidx s (ByteArray.mk #[c])=some (l1.length:Int):=by
 rcases sidx_is s c with⟨_,h2⟩|⟨m1,m2,h1,h2,h3⟩
 ·exact absurd (by rw[h];simp) h2
 ·obtain⟨rfl,_⟩:=cut_unique (h.symm.trans h1) n h2
  exact h3
theorem cut_left {s:ByteArray} {x:Nat} {l1 l2:List Nat} (h:bytesN s=l1++x::l2):s.extract 0 l1.length=toB l1:=by
 rw[←toB_bytes (s.extract 0 l1.length),bytesN_extract,h,List.drop_zero,List.take_left']
 rfl
theorem cut_right {s:ByteArray} {x:Nat} {l1 l2:List Nat} (h:bytesN s=l1++x::l2):s.extract (l1.length+1) s.size=toB l2:=by
 have hl:s.size=l1.length+(l2.length+1):=by rw[←bytesN_length,h];simp
 rw[←toB_bytes (s.extract (l1.length+1) s.size),bytesN_extract,h,List.take_of_length_le (by simp;omega)]
 congr 1
 rw[List.drop_append]
 simp
theorem bytesN_toB {l:List Nat} (h: ∀x∈l,x<256):bytesN (toB l)=l:=by
 unfold bytesN toB
 simp only[List.map_map]
 refine(List.map_congr_left (g:=id) fun y hy=> ?_).trans (List.map_id _)
 exact UInt8.toNat_ofNat_of_lt' (h y hy)
theorem cut_lt {s:ByteArray} {x:Nat} {l1 l2:List Nat} (h:bytesN s=l1++x::l2):(∀y∈l1,y<256)∧(∀y∈l2,y<256)∧l1.length+(l2.length+1)=s.size:=by
 refine⟨fun y hy=>bytesN_lt (a:=s) y (by rw[h];simp[hy]),fun y hy=>bytesN_lt (a:=s) y (by rw[h];simp[hy]),?_⟩
 rw[←bytesN_length,h]
 simp
abbrev gsBody (n:Int):ByteArray×Int×List ByteArray→Option ((ByteArray×Int×List ByteArray)⊕(ByteArray×Int×List ByteArray)):=
 fun(s:ByteArray×Int×(List ByteArray))=>((N41 s.1 (ByteArray.mk #[32]) 0 n s.2.1 s.2.2).map (Sum.elim (fun(t:ByteArray×Int×(List ByteArray))=>Sum.inl (t.1,t.2.1,t.2.2)) (fun(t:ByteArray×Int×(List ByteArray))=>Sum.inr t)):Option ((ByteArray×Int×(List ByteArray))⊕((ByteArray×Int×(List ByteArray)))))
theorem strIndex_eq (s t:ByteArray):N56 s t=(sidx s t).bind some:=by
 unfold N56 N8j N6g
 rfl
theorem gs_end {n i:Int} {t:ByteArray} {row:List ByteArray} (h: ¬i<n):gsBody n (t,i,row)=some (.inr (t,i,row)):=by
 simp only[gsBody,N41]
 rw[decide_eq_false h]
 rfl
theorem gs_none {n i:Int} {t:ByteArray} {row:List ByteArray} (h:i<n) (c:32∉bytesN t):gsBody n (t,i,row)=some (.inr (t,i,row)):=by
 simp only[gsBody,N41]
 rw[decide_eq_true h,strIndex_eq,sidx_none (c:=32) c]
 rfl
theorem gs_cut {n:Int} {k:Nat} {t:ByteArray} {row:List ByteArray} {l1 l2:List Nat} (h:(k:Int)<n) (hk:k<row.length) (hr:k≤1000) (ht:t.size≤1000000000) (c:bytesN t=l1++32::l2) (d:32∉l1):
  gsBody n (t,(k:Int),row)=some (.inl (toB l2,((k+1:Nat):Int),row.set k (toB l1))):=by
 obtain⟨_,_,hl⟩:=cut_lt c
 have w1:IntKind.wrap .i64 (((l1.length:Nat):Int)+0)=((l1.length:Nat):Int):=by rw[wrap64 (by omega) (by omega)];omega
 have w2:IntKind.wrap .i64 (((l1.length:Nat):Int)+(((ByteArray.mk #[32]).size:Nat):Int))=((l1.length+1:Nat):Int):=by
  show IntKind.wrap .i64 (((l1.length:Nat):Int)+1)=_
  rw[wrap64 (by omega) (by omega)];omega
 have w3:IntKind.wrap .i64 ((k:Int)+1)=((k+1:Nat):Int):=by rw[wrap64 (by omega) (by omega)];omega
 simp only[gsBody,N41]
 rw[decide_eq_true h,strIndex_eq,sidx_cut (c:=32) c d]
 simp only[cond_true,Option.bind_some]
 rw[decide_eq_false (by omega),w1,w2,w3,cond_false,inc_ok (by omega) (by omega),Option.bind_some,inb_nat hk,Option.bind_some,inc_ok (by omega) (by omega),Option.bind_some,Int.toNat_natCast,Int.toNat_natCast,cut_left c,cut_right c]
 rfl
def PartsAt (s:ByteArray) (n:Nat) (row:List ByteArray):Prop:=
 n≤row.length∧1≤n∧n≤3∧(∀x∈row,x.size≤s.size)∧
 (32∉bytesN s→n=1∧row[0]? =some s)∧
 (∀l1 l2,bytesN s=l1++32::l2→32∉l1→32∉l2→n=2∧row[0]? =some (toB l1)∧row[1]? =some (toB l2))∧
 (∀l1 l2 l3,bytesN s=l1++32::(l2++32::l3)→32∉l1→32∉l2→n=3∧row[0]? =some (toB l1)∧row[1]? =some (toB l2)∧row[2]? =some (toB l3))
theorem toB_size (l:List Nat):(toB l).size=l.length:=by
 show(Array.size _)=_
 simp[toB]
theorem in_space {s:ByteArray} (h: ¬32∉bytesN s): ∃l1 l2,bytesN s=l1++32::l2∧32∉l1:=by
 rcases sidx_is s 32 with⟨_,h2⟩|⟨l1,l2,h1,h2,_⟩
 ·exact absurd h2 h
 ·exact⟨l1,l2,h1,h2⟩
theorem splitN_ok (s:ByteArray) (hs:s.size≤1000000000): ∃n row,N3m s (ByteArray.mk #[32]) 3=some (n,row)∧PartsAt s n row:=by
 obtain⟨N,hN⟩:=LL3
 have e:N3m s (ByteArray.mk #[32]) 3=N7f s (ByteArray.mk #[32]) 3:=by unfold N3m;rfl
 have e2:N5o s (ByteArray.mk #[32]) 0 3=Ndd s (ByteArray.mk #[32]) 0 3:=by unfold N5o;rfl
 rw[e]
 unfold N7f
 rw[e2]
 unfold Ndd N7u
 have w:IntKind.wrap .i64 (((s.size:Nat):Int)+1)=((s.size+1:Nat):Int):=by rw[wrap64 (by omega) (by omega)];omega
 have sp:seqs (ByteArray.mk #[32]) ByteArray.empty=false:=seqs_ne (by decide)
 rw[sp,w,show((3:Int)==0)=false from rfl,show decide ((3:Int)<0)=false from rfl]
 simp only[cond_false]
 obtain⟨m,hm,m1,m3,ms⟩: ∃m:Nat,imin 3 ((s.size+1:Nat):Int)=(m:Int)∧1≤m∧m≤3∧ ∀q,q≤s.size→q≤2→q<m:=by
  by_cases c:s.size+1≤3
  ·refine⟨s.size+1,?_,by omega,by omega,fun q h1 h2=>by omega⟩
   unfold imin
   split<;>omega
  ·refine⟨3,?_,by omega,by omega,fun q h1 h2=>by omega⟩
   unfold imin
   split<;>omega
 rw[hm,mk_nat (by omega),Option.bind_some,wrap64 (x:=(m:Int)-1) (by omega) (by omega)]
 simp only[Option.bind_some,Sum.elim_inl]
 unfold Nn5 Nlv Nlg
 have fin: ∀(t:ByteArray) (k:Nat) (row:List ByteArray),row.length=m→k<m→nloop (gsBody ((m:Int)-1)) LL (s,((0:Nat):Int),List.replicate m ByteArray.empty)=some (t,((k:Nat):Int),row)→PartsAt s (k+1) (row.set k t)→
   ∃n row',((((nloop (gsBody ((m:Int)-1)) LL (s,((0:Nat):Int),List.replicate m ByteArray.empty)).map (fun(t:ByteArray×Int×(List ByteArray))=>(t.1,t.2.1,t.2.2))).bind (fun(t:ByteArray×Int×(List ByteArray))=>N6u t.1 t.2.1 t.2.2)).bind fun(v:Nat×(List ByteArray))=>some ((v.1),(v.2)))=some (n,row')∧PartsAt s n row':=by
  intro t k row hl hk hL hP
  rw[hL]
  simp only[Option.map_some,Option.bind_some]
  unfold N6u
  have w3:IntKind.wrap .i64 ((k:Int)+1)=((k+1:Nat):Int):=by rw[wrap64 (by omega) (by omega)];omega
  rw[inb_nat (by omega),Option.bind_some,w3,inc_ok (by omega) (by rw[List.length_set];omega),Option.bind_some,Option.bind_some,Int.toNat_natCast,Nat.sub_zero]
  exact⟨k+1,row.set k t,rfl,hP⟩
 have r0:(List.replicate m ByteArray.empty).length=m:=List.length_replicate ..
 have small: ∀x∈List.replicate m ByteArray.empty,x.size≤s.size:=fun x hx=>by rw[(List.mem_replicate.1 hx).2];exact Nat.zero_le _
 have setle: ∀{row:List ByteArray} {k:Nat} {y:ByteArray},(∀x∈row,x.size≤s.size)→y.size≤s.size→ ∀x∈row.set k y,x.size≤s.size:=fun {row k y} h hy x hx=>by
  rcases List.mem_or_eq_of_mem_set hx with h'|h'
  ·exact h x h'
  ·rw[h'];exact hy
 by_cases c1:32∉bytesN s
 ·refine fin s 0 _ r0 (by omega) ?_ ⟨by rw[List.length_set];omega,by omega,by omega,setle small (Nat.le_refl _),fun _=>⟨rfl,by rw[List.getElem?_set_self (by omega)]⟩,fun l1 l2 h _ _=>absurd (by rw[h];simp) c1,fun l1 l2 l3 h _ _=>absurd (by rw[h];simp) c1⟩
  rw[hN]
  by_cases q:((0:Nat):Int)<(m:Int)-1
  ·exact nloop_e (gs_none q c1) _
  ·exact nloop_e (gs_end q) _
 ·obtain⟨l1,l2,h1,d1⟩:=in_space c1
  obtain⟨b1,b2,hl⟩:=cut_lt h1
  have m2:1<m:=ms 1 (by omega) (by omega)
  have st1:=gs_cut (n:=(m:Int)-1) (k:=0) (t:=s) (row:=List.replicate m ByteArray.empty) (by omega) (by omega) (by omega) hs h1 d1
  have z1:(toB l1).size≤s.size:=by rw[toB_size];omega
  have z2:(toB l2).size≤s.size:=by rw[toB_size];omega
  have bb:bytesN (toB l2)=l2:=bytesN_toB b2
  by_cases c2:32∉l2
  ·refine fin (toB l2) 1 ((List.replicate m ByteArray.empty).set 0 (toB l1)) (by rw[List.length_set];omega) (by omega) ?_ ⟨by rw[List.length_set,List.length_set];omega,by omega,by omega,setle (setle small z1) z2,fun h=>absurd h c1,fun a b h da db=> ?_,fun a b c h da db=> ?_⟩
   ·rw[hN,nloop_s st1]
    by_cases q:((0+1:Nat):Int)<(m:Int)-1
    ·exact nloop_e (gs_none q (by rw[bb];exact c2)) _
    ·exact nloop_e (gs_end q) _
   ·obtain⟨rfl,rfl⟩:=cut_unique (h1.symm.trans h) d1 da
    refine⟨rfl,?_,by rw[List.getElem?_set_self (by rw[List.length_set];omega)]⟩
    rw[List.getElem?_set_ne (by omega),List.getElem?_set_self (by omega)]
   ·obtain⟨rfl,rfl⟩:=cut_unique (h1.symm.trans h) d1 da
    exact absurd (by simp) c2
  ·obtain⟨k1,k2,h2,d2⟩:=in_space (s:=toB l2) (by rw[bb];exact c2)
   obtain⟨b3,b4,hl2⟩:=cut_lt h2
   rw[toB_size] at hl2
   have m3':2<m:=ms 2 (by omega) (by omega)
   have st2:=gs_cut (n:=(m:Int)-1) (k:=1) (t:=toB l2) (row:=(List.replicate m ByteArray.empty).set 0 (toB l1)) (by omega) (by rw[List.length_set];omega) (by omega) (by rw[toB_size];omega) h2 d2
   have z3:(toB k1).size≤s.size:=by rw[toB_size];omega
   have z4:(toB k2).size≤s.size:=by rw[toB_size];omega
   rw[bb] at h2
   refine fin (toB k2) 2 (((List.replicate m ByteArray.empty).set 0 (toB l1)).set 1 (toB k1)) (by rw[List.length_set,List.length_set];omega) (by omega) ?_ ⟨by rw[List.length_set,List.length_set,List.length_set];omega,by omega,by omega,setle (setle (setle small z1) z3) z4,fun h=>absurd h c1,fun a b h da db=> ?_,fun a b c h da db=> ?_⟩
   ·rw[hN,nloop_s st1,nloop_s st2]
    exact nloop_e (gs_end (by omega)) _
   ·obtain⟨rfl,rfl⟩:=cut_unique (h1.symm.trans h) d1 da
    exact absurd db c2
   ·obtain⟨rfl,e2⟩:=cut_unique (h1.symm.trans h) d1 da
    obtain⟨rfl,rfl⟩:=cut_unique (h2.symm.trans e2) d2 db
    refine⟨rfl,?_,?_,by rw[List.getElem?_set_self (by rw[List.length_set,List.length_set];omega)]⟩
    ·rw[List.getElem?_set_ne (by omega),List.getElem?_set_ne (by omega),List.getElem?_set_self (by omega)]
    ·rw[List.getElem?_set_ne (by omega),List.getElem?_set_self (by rw[List.length_set];omega)]
theorem kind_some (w:ByteArray): ∃k,Nj w=some k:=by
 have e:Nj w=Ncs w:=by unfold Nj;rfl
 rw[e]
 unfold Ncs N99 Nm8 Nnm Nbn Nna Nk1 Nax
 rw[show same (List.length tabW) 6=some () from rfl]
 simp only[Option.bind_some]
 obtain⟨r,hr,_⟩:=nloop_ex (body:=fun(s:Int)=>((N70 w (tabW.getD 0 ByteArray.empty) (tabW.getD 1 ByteArray.empty) (tabW.getD 2 ByteArray.empty) (tabW.getD 3 ByteArray.empty) (tabW.getD 4 ByteArray.empty) (tabW.getD 5 ByteArray.empty) s).map (Sum.elim (fun(t:Int)=>Sum.inl t) (Sum.elim (fun(t:Int)=>Sum.inr (Sum.inl t)) (fun(t:Unit)=>Sum.inr (Sum.inr t)))):Option ((Int)⊕(Int⊕Unit))))
  (I:=fun s=>0≤s∧s≤6) (μ:=fun s=>(6-s).toNat) (Q:=fun _=>True)
  (by
   intro s ⟨s0,s6⟩
   unfold N70
   by_cases c:s<6
   ·rw[decide_eq_true c]
    obtain⟨j,rfl⟩:=Int.eq_ofNat_of_zero_le s0
    have hj:j< [tabW.getD 0 ByteArray.empty,tabW.getD 1 ByteArray.empty,tabW.getD 2 ByteArray.empty,tabW.getD 3 ByteArray.empty,tabW.getD 4 ByteArray.empty,tabW.getD 5 ByteArray.empty].length:=by simp;omega
    rw[cond_true,idx_lt hj,Option.bind_some,wrap64 (by omega) (by omega)]
    cases seqs _ w with
    |true=>exact .inr ⟨_,rfl,trivial⟩
    |false=>exact .inl ⟨_,rfl,⟨by omega,by omega⟩,by omega⟩
   ·rw[decide_eq_false c]
    exact .inr ⟨_,rfl,trivial⟩) LL 0 ⟨by omega,by omega⟩ (by simp only[LL];omega)
 have hr':nloop _ LL (0:Int)=some r:=hr
 rw[hr']
 cases r with
 |inl x=>exact⟨_,rfl⟩
 |inr x=>exact⟨_,rfl⟩
theorem kind_word:Nj (ByteArray.mk #[104,101,97,100])=some 0∧Nj (ByteArray.mk #[97,100,100])=some 1∧Nj (wordW 2)=some 2∧Nj (wordW 3)=some 3∧Nj (wordW 4)=some 4∧Nj (wordW 5)=some 5:=by
 decide+kernel
theorem atoi_some {t:ByteArray} (h:t.size≤1000000000):N7p t=some (atoiE t):=by
 unfold N7p atoiS
 rw[if_pos (by omega)]
def guessR (s:ByteArray) (k x y:Int) (t:ByteArray):Bool×Int×Int×Int:=cond (seqs s ByteArray.empty) (false,0,0,0) (cond (!(seqs t s)) (false,0,0,0) (true,k,x,y))
theorem implRead_eq (s:ByteArray) (hs:s.size≤100000000):N25 s=some (readI s):=by
 obtain⟨n,row,hsp,hn,n1,n3,hsz,p1,p2,p3⟩:=splitN_ok s (by omega)
 have e:N25 s=N7i s:=by unfold N25;rfl
 have rs: ∀i (hi:i<row.length),row[i].size≤1000000000:=fun i hi=>by have:=hsz _ (List.getElem_mem hi);omega
 obtain⟨k,hk⟩:=kind_some (row[0]'(by omega))
 have G:N25 s=some (guessR s k (if h:1<n then(atoiE (row[1]'(by omega))).1 else 0) (if h:2<n then(atoiE (row[2]'(by omega))).1 else 0) (deedT k (if h:1<n then(atoiE (row[1]'(by omega))).1 else 0) (if h:2<n then(atoiE (row[2]'(by omega))).1 else 0))):=by
  rw[e]
  unfold N7i guessR
  rw[hsp]
  simp only[Option.bind_some,Nat.zero_add]
  rw[show(0:Int)=((0:Nat):Int) from rfl,inb_nat (show 0<n by omega),Option.bind_some,List.getElem?_eq_getElem (show 0<row.length by omega),Option.bind_some,hk,Option.bind_some]
  by_cases c1:1<n
  ·rw[decide_eq_true (show(n:Int)>1 by omega),cond_true,show(1:Int)=((1:Nat):Int) from rfl,inb_nat c1,Option.bind_some,List.getElem?_eq_getElem (show 1<row.length by omega),Option.bind_some,atoi_some (rs 1 _),Option.bind_some,dif_pos c1]
   by_cases c2:2<n
   ·rw[decide_eq_true (show(n:Int)>2 by omega),cond_true,show(2:Int)=((2:Nat):Int) from rfl,inb_nat c2,Option.bind_some,List.getElem?_eq_getElem (show 2<row.length by omega),Option.bind_some,atoi_some (rs 2 _),Option.bind_some,dif_pos c2,implDeedText_eq]
    cases seqs s ByteArray.empty with
    |true=>rfl
    |false=>
     simp only[cond_false,Option.bind_some]
     cases seqs _ s<;>rfl
   ·rw[decide_eq_false (show¬(n:Int)>2 by omega),cond_false,dif_neg c2]
    have:=implDeedText_eq k (atoiE (row[1]'(by omega))).1 0
    rw[show((0:Nat):Int)=0 from rfl,this]
    cases seqs s ByteArray.empty with
    |true=>rfl
    |false=>
     simp only[cond_false,Option.bind_some]
     cases seqs _ s<;>rfl
  ·rw[decide_eq_false (show¬(n:Int)>1 by omega),cond_false,decide_eq_false (show¬(n:Int)>2 by omega),cond_false,dif_neg c1,dif_neg (show¬2<n by omega)]
   have:=implDeedText_eq k 0 0
   rw[show((0:Nat):Int)=0 from rfl,this]
   cases seqs s ByteArray.empty with
   |true=>rfl
   |false=>
    simp only[cond_false,Option.bind_some]
    cases seqs _ s<;>rfl
 rw[G]
 by_cases q: ∃d:Int×Int×Int,deedB d.1 d.2.1 d.2.2=true∧deedT d.1 d.2.1 d.2.2=s
 ·obtain⟨⟨k',a,b⟩,d,t⟩:=q
  simp only at d t
  have R:=read_deed d
  rw[t] at R
  have ne:=deed_ne d
  rw[t] at ne
  rw[R]
  have same:k=k'∧(if h:1<n then(atoiE (row[1]'(by omega))).1 else 0)=a∧(if h:2<n then(atoiE (row[2]'(by omega))).1 else 0)=b:=by
   have at0: ∀{x:ByteArray},row[0]? =some x→row[0]'(by omega)=x:=fun h=>by
    rw[List.getElem?_eq_getElem (show 0<row.length by omega)] at h
    exact Option.some.inj h
   rcases deedB_cases d with⟨u,v,hu,hv,rfl,rfl,rfl⟩|⟨u,hu,rfl,rfl,rfl⟩|⟨h2,h5,rfl,rfl⟩
   ·have hb:bytesN s=[104,101,97,100]++32::(bytesN (numT u)++32::bytesN (numT v)):=by
     rw[←t,deed_head hu hv,bytesN_app,bytesN_app,bytesN_app]
     rw[show bytesN headW=[104,101,97,100]++ [32] from rfl,show bytesN spaceW=[32] from rfl]
     simp
    obtain⟨rfl,r0,r1,r2⟩:=p3 _ _ _ hb (by decide) (no_space hu)
    rw[toB_bytes] at r1 r2
    have k0:=at0 r0
    rw[k0,show toB [104,101,97,100]=ByteArray.mk #[104,101,97,100] from rfl,kind_word.1] at hk
    rw[List.getElem?_eq_getElem (show 1<row.length by omega)] at r1
    rw[List.getElem?_eq_getElem (show 2<row.length by omega)] at r2
    refine⟨(Option.some.inj hk).symm,?_,?_⟩
    ·rw[dif_pos (by omega),Option.some.inj r1,num_atoi hu]
    ·rw[dif_pos (by omega),Option.some.inj r2,num_atoi hv]
   ·have hb:bytesN s=[97,100,100]++32::bytesN (numT u):=by
     rw[←t,deed_add hu,bytesN_app]
     rw[show bytesN addW=[97,100,100]++ [32] from rfl]
     simp
    obtain⟨rfl,r0,r1⟩:=p2 _ _ hb (by decide) (no_space hu)
    rw[toB_bytes] at r1
    have k0:=at0 r0
    rw[k0,show toB [97,100,100]=ByteArray.mk #[97,100,100] from rfl,kind_word.2.1] at hk
    rw[List.getElem?_eq_getElem (show 1<row.length by omega)] at r1
    refine⟨(Option.some.inj hk).symm,?_,?_⟩
    ·rw[dif_pos (by omega),Option.some.inj r1,num_atoi hu]
    ·rw[dif_neg (by omega)]
   ·have hw:s=wordW k':=by rw[←t,deed_word h2 h5]
    obtain⟨rfl,r0⟩:=p1 (by
     rw[hw]
     rcases wordW_eq h2 h5 with rfl|rfl|rfl|rfl<;>decide)
    have k0:=at0 r0
    rw[k0,hw] at hk
    refine⟨?_,by rw[dif_neg (by omega)],by rw[dif_neg (by omega)]⟩
    have kw:=kind_word
    rcases wordW_eq h2 h5 with rfl|rfl|rfl|rfl
    ·rw[kw.2.2.1] at hk;exact(Option.some.inj hk).symm
    ·rw[kw.2.2.2.1] at hk;exact(Option.some.inj hk).symm
    ·rw[kw.2.2.2.2.1] at hk;exact(Option.some.inj hk).symm
    ·rw[kw.2.2.2.2.2] at hk;exact(Option.some.inj hk).symm
  obtain⟨e1,e2,e3⟩:=same
  rw[e1,e2,e3]
  unfold guessR
  rw[seqs_ne ne,t,seqs_self]
  rfl
 ·rw[read_none (fun k a b hd ht=>q ⟨(k,a,b),hd,ht⟩)]
  unfold guessR
  by_cases em:s=ByteArray.empty
  ·rw[em,seqs_self]
   rfl
  ·rw[seqs_ne em]
   generalize (if h:1<n then(atoiE (row[1]'(by omega))).1 else 0)=x
   generalize (if h:2<n then(atoiE (row[2]'(by omega))).1 else 0)=y
   have:seqs (deedT k x y) s=false:=seqs_ne (fun t=>by
    cases d:deedB k x y with
    |true=>exact q ⟨(k,x,y),d,t⟩
    |false=>
     rw[deed_none d] at t
     exact em t.symm)
   rw[this]
   rfl
theorem strCut_none {t:ByteArray} {c:UInt8} (h:c.toNat∉bytesN t):N18 t (ByteArray.mk #[c])=some (t,ByteArray.empty,false):=by
 have e:N18 t (ByteArray.mk #[c])=N40 t (ByteArray.mk #[c]):=by unfold N18;rfl
 have e2:N2d t (ByteArray.mk #[c])=N3q t (ByteArray.mk #[c]):=by unfold N2d;rfl
 rw[e]
 unfold N40
 rw[e2]
 unfold N3q N6g
 rw[sidx_none h]
 rfl
theorem strCut_cut {t:ByteArray} {c:UInt8} (ht:t.size≤1000000000) {l1 l2:List Nat} (h:bytesN t=l1++c.toNat::l2) (d:c.toNat∉l1):N18 t (ByteArray.mk #[c])=some (toB l1,toB l2,true):=by
 have e:N18 t (ByteArray.mk #[c])=N40 t (ByteArray.mk #[c]):=by unfold N18;rfl
 have e2:N2d t (ByteArray.mk #[c])=N3q t (ByteArray.mk #[c]):=by unfold N2d;rfl
 obtain⟨_,_,hl⟩:=cut_lt h
 have w2:IntKind.wrap .i64 (((l1.length:Nat):Int)+(((ByteArray.mk #[c]).size:Nat):Int))=((l1.length+1:Nat):Int):=by
  show IntKind.wrap .i64 (((l1.length:Nat):Int)+1)=_
  rw[wrap64 (by omega) (by omega)];omega
 rw[e]
 unfold N40
 rw[e2]
 unfold N3q N6g
 rw[sidx_cut h d,Option.bind_some,decide_eq_true (by omega),cond_true,w2,inc_ok (by omega) (by omega),Option.bind_some,inc_ok (by omega) (by omega),Option.bind_some,Int.toNat_natCast,Int.toNat_natCast,cut_left h,cut_right h]
 rfl
theorem scan_none: ∀{r acc:List Nat},10∉r→scanJ acc r=([],0)
 |[],acc,_=>by rw[scanJ]
 |x::r,acc,h=>by
  rw[scanJ,if_neg (fun e=>h (by rw[e];exact List.mem_cons_self ..))]
  exact scan_none fun m=>h (List.mem_cons_of_mem _ m)
abbrev ijBody (s:ByteArray):Int×List DeedL→Option ((Int×List DeedL)⊕(Int×List DeedL)):=
 fun(t:Int×(List (Int×Int×Int×Unit)))=>((N38 s t.1 t.2).map (Sum.elim (fun(t:Int×(List (Int×Int×Int×Unit)))=>Sum.inl (t.1,t.2)) (fun(t:Int×(List (Int×Int×Int×Unit)))=>Sum.inr t)):Option ((Int×(List (Int×Int×Int×Unit)))⊕((Int×(List (Int×Int×Int×Unit))))))
theorem ij_loop (s:ByteArray) (hs:s.size≤100000000): ∀(N f:Nat) (out:List DeedL),f≤s.size→out.length≤f→s.size-f<N→
  nloop (ijBody s) N ((f:Int),out)=some (((f+(scanJ [] ((bytesN s).drop f)).2:Nat):Int),out++(scanJ [] ((bytesN s).drop f)).1)
 |0,f,out,_,_,h=>by omega
 |N+1,f,out,hf,ho,hN=>by
  have hb:bytesN (s.extract f s.size)=(bytesN s).drop f:=by
   rw[bytesN_extract,List.take_of_length_le (by rw[bytesN_length];omega)]
  have hz:(s.extract f s.size).size≤s.size:=by rw[←bytesN_length,hb,List.length_drop,bytesN_length];omega
  by_cases c:10∉bytesN (s.extract f s.size)
  ·refine(nloop_e (o:=((f:Int),out)) ?_ N).trans ?_
   ·simp only[ijBody,N38]
    rw[inc_ok (by omega) (by omega),Option.bind_some,Int.toNat_natCast,strCut_none (c:=10) c]
    simp only[Option.bind_some]
    rw[implRead_eq _ (by omega)]
    rfl
   ·rw[hb] at c
    rw[scan_none c]
    simp
  ·obtain⟨l1,l2,h1,d1⟩: ∃l1 l2,bytesN (s.extract f s.size)=l1++10::l2∧10∉l1:=by
    rcases sidx_is (s.extract f s.size) 10 with⟨_,h2⟩|⟨l1,l2,h1,h2,_⟩
    ·exact absurd h2 c
    ·exact⟨l1,l2,h1,h2⟩
   obtain⟨_,_,hl⟩:=cut_lt h1
   have hR:(bytesN s).drop f=l1++10::l2:=by rw[←hb,h1]
   have hlen:s.size-f=l1.length+(l2.length+1):=by
    have:=congrArg List.length hR
    rw[List.length_drop,bytesN_length] at this
    simpa using this
   have hrd:=implRead_eq (toB l1) (by rw[toB_size];omega)
   have sc:scanJ [] ((bytesN s).drop f)=if(readI (toB l1)).1=true then(((readI (toB l1)).2.1,(readI (toB l1)).2.2.1,(readI (toB l1)).2.2.2,())::(scanJ [] l2).1,l1.length+1+(scanJ [] l2).2) else([],0):=by
    rw[hR,scan_line _ _ _ d1,List.nil_append,scanJ,if_pos rfl]
   cases v:(readI (toB l1)).1 with
   |false=>
    refine(nloop_e (o:=((f:Int),out)) ?_ N).trans ?_
    ·simp only[ijBody,N38]
     rw[inc_ok (by omega) (by omega),Option.bind_some,Int.toNat_natCast,strCut_cut (c:=10) (by omega) h1 d1]
     simp only[Option.bind_some,hrd,v]
     rfl
    ·rw[sc,v,if_neg (by simp)]
     simp
   |true=>
    have w1:IntKind.wrap .i64 (((toB l1).size:Nat)+1:Int)=((l1.length+1:Nat):Int):=by rw[toB_size,wrap64 (by omega) (by omega)];omega
    have w2:IntKind.wrap .i64 ((f:Int)+((l1.length+1:Nat):Int))=((f+(l1.length+1):Nat):Int):=by rw[wrap64 (by omega) (by omega)];omega
    refine(nloop_s (s':=(((f+(l1.length+1):Nat):Int),out++ [((readI (toB l1)).2.1,(readI (toB l1)).2.2.1,(readI (toB l1)).2.2.2,())])) ?_ N).trans ?_
    ·simp only[ijBody,N38]
     rw[inc_ok (by omega) (by omega),Option.bind_some,Int.toNat_natCast,strCut_cut (c:=10) (by omega) h1 d1]
     simp only[Option.bind_some,hrd,v,Bool.not_true,cond_false]
     rw[room_le (by simp only[List.length_cons,List.length_nil];omega),Option.bind_some,w1,w2]
     rfl
    ·rw[ij_loop s hs N (f+(l1.length+1)) _ (by omega) (by simp;omega) (by omega)]
     have hd:(bytesN s).drop (f+(l1.length+1))=l2:=by
      rw[←List.drop_drop,hR,List.drop_append]
      simp
     rw[hd,sc,v,if_pos rfl]
     simp only[List.append_assoc,List.singleton_append]
     congr 2
     omega
theorem implReadJ_eq (s:ByteArray) (hs:s.size≤100000000):N1l s=some (((readJ s).2:Int),(readJ s).1):=by
 have e:N1l s=Nd2 s:=by unfold N1l;rfl
 rw[e]
 unfold Nd2 Nab Noo Nj2
 have L:=ij_loop s hs LL 0 [] (by omega) (by simp) (by simp only[LL];omega)
 have L':nloop _ LL ((0:Int),([]:List DeedL))=_:=L
 simp only[Option.bind_some]
 rw[L']
 simp only[List.drop_zero,Nat.zero_add,List.nil_append,Option.map_some]
 rfl
theorem ba_empty_append (a:ByteArray):ByteArray.empty++a=a:=bytesN_inj (by rw[bytesN_app,bytesN_empty,List.nil_append])
theorem jtext_is: ∀(l:List DeedL) (acc:ByteArray),acc.size+11*l.length≤100000000→
  jtext (fun d:Int×Int×Int×Unit=>N3 d.1 d.2.1 d.2.2.1) l acc=some (if l.all validD=true then acc++journL l else ByteArray.empty)
 |[],acc,_=>by
  rw[jtext,List.all_nil,if_pos rfl]
  congr 1
  exact bytesN_inj (by rw[bytesN_app,show bytesN (journL [])=[] from rfl,List.append_nil])
 |d::l,acc,h=>by
  rw[List.length_cons] at h
  have e:N3 d.1 d.2.1 d.2.2.1=some (textD d):=implDeedText_eq d.1 d.2.1 d.2.2.1
  rw[jtext,e,Option.bind_some]
  cases v:validD d with
  |false=>
   have:textD d=ByteArray.empty:=deed_none v
   rw[if_pos this,List.all_cons,v,Bool.false_and,if_neg (by simp)]
  |true=>
   obtain⟨_,s10⟩:=deed_size v
   have ne:textD d≠ByteArray.empty:=deed_ne v
   have s10:(textD d).size≤10:=s10
   rw[if_neg ne,if_pos ⟨by omega,by omega⟩,jtext_is l _ (by rw[ByteArray.size_append,ByteArray.size_append];show acc.size+((textD d).size+1)+_≤_;omega),List.all_cons,v,Bool.true_and]
   cases l.all validD with
   |false=>rw[if_neg (by simp),if_neg (by simp)]
   |true=>
    rw[if_pos rfl,if_pos rfl]
    congr 1
    refine bytesN_inj ?_
    rw[journL]
    simp only[bytesN_app]
    rw[show bytesN (ByteArray.mk #[10])=bytesN nlW from rfl]
    simp
theorem implJournal_eq (l:List DeedL) (h:l.length≤1048576):N9m l=some (journT l):=by
 unfold N9m journT jtextL
 rw[if_pos (by omega)]
 rw[jtext_is l _ (by show 0+_≤_;omega)]
 cases l.all validD with
 |false=>rfl
 |true=>rw[if_pos rfl,if_pos rfl,ba_empty_append]
end Go.Rv
