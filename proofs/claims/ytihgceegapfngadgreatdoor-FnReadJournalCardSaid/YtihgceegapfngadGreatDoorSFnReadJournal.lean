/-
  The law FnReadJournal,in plain words: it is true of every argument. Conditions: what the program's ReadJournal,JournalText,DeedText,DeskRun,and DeskLine of the texts of deeds say.
-/
import Derived.Test.YtihgceegapfngadGreatDoorHFnReadJournal
set_option linter.unusedVariables false
set_option linter.unusedSimpArgs false
namespace Go.Rv
def okS:ByteArray:=ByteArray.mk #[111,107]
def notS:ByteArray:=ByteArray.mk #[110,111,116]
theorem seqs_ok:seqs okS (ByteArray.mk #[111,107])=true:=seqs_self _
theorem seqs_not:seqs notS (ByteArray.mk #[111,107])=false∧seqs notS (ByteArray.mk #[110,111,116])=true:=⟨seqs_ne (by intro e;have:=congrArg ByteArray.size e;revert this;decide),seqs_self _⟩
theorem journL_len: ∀(l:List DeedL),l.length≤(journL l).size
 |[]=>Nat.zero_le _
 |d::r=>by
  have:=journL_len r
  rw[journL,ByteArray.size_append,ByteArray.size_append,List.length_cons]
  have e:nlW.size=1:=rfl
  omega
theorem readJ_len (s:ByteArray):(readJ s).1.length≤s.size:=by
 have h:=readJ_ok s
 have:=journL_len (readJ s).1
 rw[h.2.2,ByteArray.size_extract] at this
 omega
theorem runDk_snoc (d:DeskL) (l:List DeedL) (a:DeedL) (o:okDk d=true):(runDk d (l++ [a])).2=(doDk (runDk d l).2 a).2:=by
 rw[runDk_append]
 simp only
 rw[runDk,runDk]
 by_cases c:(doDk (runDk d l).2 a).1=true
 ·rw[if_pos c]
 ·rw[if_neg c,do_not a (runDk_ok l o).1 (by simpa using c)]
  rfl
theorem drawn_journal (x:List Int) (w: ∀n∈x,(Lit.int .u8 n).wf=true) (l:x.length≤maxLen): ∃s,N4w x=some s∧s.size≤100:=by
 obtain⟨b,hb,hB⟩:=open_ok x w l
 obtain⟨q,dl,hq,qa,qb,l6⟩:=written_ok hB (p:=0) (by omega) (by omega)
 obtain⟨v,hv,va,vb,_⟩:=pick_ok hB 3 (by omega) (p:=q) (by omega) (by omega)
 have js:(journT dl).size≤66:=by
  unfold journT
  split
  ·rename_i c
   have:=journL_size c
   omega
  ·simp
 unfold N4w N9f
 simp only[hb,hq,Option.bind_some,specJournal_eq dl (by omega),hv]
 cases c0:(v==0) with
 |true=>
  obtain⟨t,q2,ht,_,_,ts⟩:=spoil_ok hB (journT dl) (by omega) (p:=q+1) (by omega) (by omega)
  simp only[cond_true,ht,Option.bind_some]
  exact⟨t,rfl,by omega⟩
 |false=>
  cases c1:(v==1) with
  |true=>
   obtain⟨u,hu,ua,ub,_⟩:=pick_ok hB (((journT dl).size:Nat)+1:Int) (by omega) (p:=q+1) (by omega) (by omega)
   have ub:=ub (by omega)
   simp only[cond_false,cond_true]
   rw[wrap64 (by omega) (by omega),hu]
   simp only[Option.bind_some]
   rw[inc_ok ua (by omega)]
   exact⟨_,rfl,by rw[ByteArray.size_extract];omega⟩
  |false=>exact⟨_,rfl,by omega⟩
theorem drawn_run (x:List Int) (w: ∀n∈x,(Lit.int .u8 n).wf=true) (l:x.length≤maxLen): ∃d u,N5f x=some (d.1,u,d.2)∧Small d:=by
 obtain⟨b,hb,hB⟩:=open_ok x w l
 obtain⟨q,d,hq,qa,qb,sm⟩:=desk_ok hB 12 (by omega) (p:=0) (by omega) (by omega)
 obtain⟨v,s,ho,sa,sb⟩:=odd_ok hB 30 (by omega) (p:=q) (by omega) (by omega)
 obtain⟨r,t,ht,_,_,t6⟩:=deeds_ok hB d.1 (by have:=sm.1;omega) (p:=s) (by omega) (by omega)
 refine⟨d,?_⟩
 unfold N5f Nam
 simp only[hb,hq,ho,Option.bind_some]
 cases v with
 |true=>exact⟨_,rfl,sm⟩
 |false=>simp only[cond_false,ht,Option.bind_some];exact⟨t,rfl,sm⟩
section
variable (hJ : ∀ s,s.size ≤ 1048576 → N1l s = some (((readJ s).2 : Int),(readJ s).1))
include hJ
theorem cut_all (s:ByteArray) (hs:s.size≤100):Nfd s (readJ s).1=some (Sum.inl ()):=by
 unfold Nfd N7z Nm5 Nn3
 have rl:=readJ_len s
 have lp:=nloop_to (body:=fun(t:Int)=>((N5d s t (readJ s).1).map (Sum.elim (fun(t:Int)=>Sum.inl t) (Sum.elim (fun(t:Bool)=>Sum.inr (Sum.inl t)) (fun(t:Unit)=>Sum.inr (Sum.inr t)))):Option ((Int)⊕(Bool⊕Unit))))
  (fun k=>(k:Int)) (s.size+1) (Sum.inr ())
  (by
   intro k hk
   have w:IntKind.wrap .i64 ((k:Int)+1)=((k+1:Nat):Int):=by rw[wrap64 (by omega) (by omega)];omega
   have pf:=readJ_prefix s k
   have ok:=readJ_ok (s.extract 0 k)
   have es:(s.extract 0 k).size=k:=by rw[ByteArray.size_extract];omega
   have le:=pf.length_le
   simp only[N5d]
   rw[decide_eq_true (show(k:Int)≤((ByteArray.size s:Nat):Int) by omega),inc_ok (by omega) (by omega),w]
   simp only[cond_true,Option.bind_some,Int.toNat_natCast]
   rw[hJ _ (by omega)]
   simp only[Option.bind_some]
   have im:imin (((List.length (readJ (s.extract 0 k)).1:Nat):Int)) (((List.length (readJ s).1:Nat):Int))=(((readJ (s.extract 0 k)).1.length:Nat):Int):=by
    unfold imin
    split<;>omega
   rw[decide_eq_false (show¬(((List.length (readJ (s.extract 0 k)).1:Nat):Int))>(((List.length (readJ s).1:Nat):Int)) by omega),im,inc_ok (by omega) (by omega)]
   simp only[cond_false,Option.bind_some,Int.toNat_natCast,List.drop_zero,Nat.sub_zero]
   rw[←List.prefix_iff_eq_take.mp pf,sameDeeds_refl _ (by omega)]
   simp only[Option.bind_some,Bool.not_true,cond_false]
   rw[decide_eq_false (show¬(((readJ (s.extract 0 k)).2:Nat):Int)>(k:Int) by omega)]
   rfl)
  (by
   simp only[N5d]
   rw[decide_eq_false (show¬((s.size+1:Nat):Int)≤((ByteArray.size s:Nat):Int) by omega)]
   rfl) LL (by simp only[LL];omega)
 have lp':=lp
 rw[show((0:Nat):Int)=0 from rfl] at lp'
 simp only[Option.bind_some]
 rw[lp']
 rfl
omit hJ in
theorem said_all (hT: ∀k a b,N3 k a b=some (deedT k a b))
  (hL: ∀n p a,n.length+szT p≤1048576→okDk (n,p)=true→validD a=true→N1v n p (textD a)=some (cond (doDk (n,p) a).1 okS notS,(doDk (n,p) a).2))
  {l:List DeedL} (hv:l.all validD=true) (hl:l.length≤1048576) (d:DeskL) (sm:Small d):
  Niy l d.1 d.2=some (Sum.inl (if okDk d=true then(runDk d l).2 else d)):=by
 unfold Niy N9u Nku Nno
 have dk:Nu d.1 d.2=some (okDk d):=specDeskOk_eq d.1 d.2 (by have:=sm.2.1;omega)
 cases o:okDk d with
 |false=>
  have lp:=nloop_to (body:=fun(s:Int×(List Int)×(List (List Int)))=>((N2n s.1 l d.1 d.2 s.2.1 s.2.2).map (Sum.elim (fun(t:Int×(List Int)×(List (List Int)))=>Sum.inl (t.1,t.2.1,t.2.2)) (Sum.elim (fun(t:Bool)=>Sum.inr (Sum.inl t)) (fun(t:(List Int)×(List (List Int)))=>Sum.inr (Sum.inr t)))):Option ((Int×(List Int)×(List (List Int)))⊕(Bool⊕((List Int)×(List (List Int)))))))
   (fun k=>((k:Int),d.1,d.2)) 0 (Sum.inr (d.1,d.2)) (fun k hk=>by omega)
   (by
    simp only[N2n,dk,o,Option.bind_some,cond_false]
    cases decide ((((0:Nat):Int))<(((List.length l:Nat):Int)))<;>rfl) LL (by simp only[LL];omega)
  have lp':=lp
  rw[show((0:Nat):Int)=0 from rfl] at lp'
  simp only[Option.bind_some]
  rw[lp']
  rfl
 |true=>
  have lp:=nloop_to (body:=fun(s:Int×(List Int)×(List (List Int)))=>((N2n s.1 l d.1 d.2 s.2.1 s.2.2).map (Sum.elim (fun(t:Int×(List Int)×(List (List Int)))=>Sum.inl (t.1,t.2.1,t.2.2)) (Sum.elim (fun(t:Bool)=>Sum.inr (Sum.inl t)) (fun(t:(List Int)×(List (List Int)))=>Sum.inr (Sum.inr t)))):Option ((Int×(List Int)×(List (List Int)))⊕(Bool⊕((List Int)×(List (List Int)))))))
   (fun k=>((k:Int),(runDk d (l.take k)).2.1,(runDk d (l.take k)).2.2)) l.length (Sum.inr (runDk d l).2)
   (by
    intro k hk
    have w:IntKind.wrap .i64 ((k:Int)+1)=((k+1:Nat):Int):=by rw[wrap64 (by omega) (by omega)];omega
    have va:validD l[k]=true:=List.all_eq_true.mp hv _ (List.getElem_mem hk)
    have ro:=(runDk_ok (l.take k) o).1
    have rs:=small_sz (small_ok ro).1
    have hd:=hL (runDk d (l.take k)).2.1 (runDk d (l.take k)).2.2 l[k] (by omega) ro va
    have et:deedT l[k].1 l[k].2.1 l[k].2.2.1=textD l[k]:=rfl
    have es:l.take (k+1)=l.take k++ [l[k]]:=by rw[List.take_add_one,List.getElem?_eq_getElem hk];rfl
    have en:=runDk_snoc d (l.take k) l[k] o
    simp only[N2n]
    rw[decide_eq_true (show(k:Int)<((List.length l:Nat):Int) by omega),dk,inb_nat hk,w]
    simp only[cond_true,Option.bind_some,o,List.getElem?_eq_getElem hk,hT,et,hd]
    rw[es,en]
    cases c:(doDk (runDk d (l.take k)).2 l[k]).1 with
    |true=>
     simp only[cond_true,seqs_ok,Bool.not_true,cond_false]
     rfl
    |false=>
     simp only[cond_false,seqs_not.1,seqs_not.2,Bool.not_true,Bool.not_false,cond_true]
     rfl)
   (by
    simp only[N2n]
    rw[decide_eq_false (show¬((l.length:Nat):Int)<((List.length l:Nat):Int) by omega),List.take_length]
    rfl) LL (by simp only[LL];omega)
  have lp':=lp
  rw[show((0:Nat):Int)=0 from rfl,List.take_zero,runDk] at lp'
  simp only[Option.bind_some]
  rw[lp']
  rfl
theorem core_FnReadJournal (hT: ∀k a b,N3 k a b=some (deedT k a b)) (hW: ∀l,l.length≤1048576→N9m l=some (journT l))
  (hR: ∀n p l,n.length+szT p+l.length≤1048576→N29 n p l=some (runDI (n,p) l))
  (hL: ∀n p a,n.length+szT p≤1048576→okDk (n,p)=true→validD a=true→N1v n p (textD a)=some (cond (doDk (n,p) a).1 okS notS,(doDk (n,p) a).2))
  (x:List Int) (w: ∀n∈x,(Lit.int .u8 n).wf=true) (l:x.length≤maxLen) (y:List Int) (wy: ∀n∈y,(Lit.int .u8 n).wf=true) (ly:y.length≤maxLen):N2u x y=some true:=by
 have e:N2u x y=Ngs x y:=by unfold N2u;rfl
 rw[e]
 unfold Ngs N9b
 by_cases c:((x.length:Nat):Int)>1048576
 ·rw[decide_eq_true c]
  rfl
 ·by_cases c2:((y.length:Nat):Int)>1048576
  ·rw[decide_eq_false c,decide_eq_true c2]
   rfl
  ·rw[decide_eq_false c,decide_eq_false c2]
   obtain⟨s,hs,s100⟩:=drawn_journal x w l
   obtain⟨d,u,hd,sm⟩:=drawn_run y wy ly
   have rl:=readJ_len s
   obtain⟨jv,jn,jt⟩:=readJ_ok s
   simp only[cond_false,hs,Option.bind_some,hJ s (by omega),specReadJ_eq s (by omega),sameDeeds_refl _ (show(readJ s).1.length≤1048576 by omega),Bool.not_true,bne_self_eq_false,Sum.elim_inl]
   unfold Nlh Nka Nke N9q
   rw[cut_all hJ s s100]
   simp only[Option.bind_some,Sum.elim_inl,hd]
   rw[said_all hT hL jv (by omega) d sm]
   simp only[Option.bind_some,Sum.elim_inl]
   unfold N7v
   have sz:=small_sz sm
   have hr:N29 d.1 d.2 (readJ s).1=some (runDI d (readJ s).1):=hR d.1 d.2 _ (by omega)
   have dk:Nu d.1 d.2=some (okDk d):=specDeskOk_eq d.1 d.2 (by have:=sm.2.1;omega)
   rw[hr]
   simp only[Option.bind_some]
   have ej:journT (readJ s).1=s.extract 0 (readJ s).2:=by
    unfold journT
    rw[if_pos jv,jt]
   rw[decide_eq_true (show(((readJ s).2:Nat):Int)≤((ByteArray.size s:Nat):Int) by omega),inc_ok (by omega) (by omega),hW _ (by omega)]
   simp only[cond_true,Option.bind_some,Int.toNat_natCast,ej,seqs_self,dk]
   cases o:okDk d with
   |false=>
    simp only[Bool.not_false,cond_true,alive_eq,Option.bind_some]
   |true=>
    simp only[Bool.not_true,cond_false]
    by_cases c40:(readJ s).1.length≤40
    ·rw[decide_eq_false (show¬(((List.length (readJ s).1:Nat):Int))>40 by omega)]
     have er:runDI d (readJ s).1=(((runDk d (readJ s).1).1:Int),(runDk d (readJ s).1).2):=by
      unfold runDI
      rw[o,decide_eq_true c40]
      rfl
     have same:=sameDesk_eq _ (runDk d (readJ s).1).2 (small_ok (runDk_ok (readJ s).1 o).1).1
     rw[beq_self_eq_true] at same
     rw[er]
     simp only[cond_false,if_true,same,Option.bind_some,cond_true,alive_eq]
    ·rw[decide_eq_true (show(((List.length (readJ s).1:Nat):Int))>40 by omega)]
     simp only[cond_true,alive_eq,Option.bind_some]
end
theorem line_deed (n:List Int) (p:List (List Int)) (a:DeedL) (o:okDk (n,p)=true) (v:validD a=true):N1v n p (textD a)=some (cond (doDk (n,p) a).1 okS notS,(doDk (n,p) a).2):=by
 have e:N1v n p (textD a)=N72 n p (textD a):=by unfold N1v;rfl
 rw[e]
 unfold N72
 have s:=(deed_size v).2
 have r:readI (textD a)=(true,a.1,a.2.1,a.2.2.1):=read_deed v
 have s:(textD a).size≤10:=s
 rw[implDeskOk_eq,o,Option.bind_some,implRead_eq _ (by omega),r]
 simp only[Bool.not_true,cond_false,Option.bind_some]
 have im:=implDo_eq n p a
 rw[im,Option.bind_some]
 cases (doDk (n,p) a).1<;>rfl
theorem same_FnReadJournal (x:List Int) (w: ∀n∈x,(Lit.int .u8 n).wf=true) (l:x.length≤maxLen) (y:List Int) (wy: ∀n∈y,(Lit.int .u8 n).wf=true) (ly:y.length≤maxLen):N2u x y=some true:=
 core_FnReadJournal (fun s h=>implReadJ_eq s (by omega)) implDeedText_eq implJournal_eq (fun n p l _=>implDeskRun_eq n p l) (fun n p a _ o v=>line_deed n p a o v) x w l y wy ly
end Go.Rv
