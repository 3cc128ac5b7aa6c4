/-
  The framework: rows that own rows. Conditions: none.
-/
import Derived.Test.YthjlnoplibeclaaGreatDoorFA
import Derived.Laws.BytesString
import Derived.Laws.StructEq
import Derived.Lib.SliceRun
open List (replicate range toArray)
open Go.Instr (findNow storeAt loadAt sliceAt sameNow findKey fill sureAddr checkKey indexAt)
open Go.Builtin (append_ zeroCells len_ max2 min2 firstCells copy_ max_ min_ lenOf cap_)
open Nat (beq ble blt)
open Go.Act (eval)
open Go.Oper (wp)
open Go.Made (depth)
open Go.Deferred (ofValue)
set_option linter.all false
namespace Go.Rv
def au:=@cond_false
def aR:=@congrArg
def bl:=@List.mem_cons_self
def bn:=@Option.map_some
def bA:=@List.mem_cons_of_mem
def bQ:=@List.all_eq_true
def co:=@Option.map_eq_some_iff
def db:=@decide_eq_true_eq
def dc:=@List.getElem_mem
def fh:=@List.mem_range
def fY:=@List.drop_zero
def fZ:=@List.append_nil
def ix:=@Nat.zero_add
def iy:=@List.take_add_one
def iz:=@Nat.beq_eq
def iA:=@List.map_nil
def kh:=@Bool.false_or
def lr:=@List.take_length
def ls:=@List.cons.injEq
def mY:=@Nat.ble_eq
def oO:=@Oper.upon_value
def oP:=@List.set_append_right
def qQ:=@Nat.eq_of_beq_eq_true
def qR:=@Nat.beq_refl
def vf:=@List.getElem?_cons_zero
def vg:=@List.length_set
def vh:=@List.map_set
def vi:=@List.getElem?_replicate
def Cb:=@List.mem_append_left
def Cc:=@List.mem_append_right
def Cd:=@List.find?_eq_none
def Ce:=@List.isEmpty_cons
def Cf:=@Nat.lt_or_ge
def Cg:=@Oper.upon_skip
def Ch:=@List.take_set
def Ci:=@Oper.upon_enter
def Cj:=@List.isEmpty_iff
def Ck:=@Option.isSome_iff_exists
def MQ:=@List.getElem?_eq_none_iff
section
variable {P : Program} {T : TT} {B : ce} {s : St} {tmps : Array Value} {w : World} {ι : aX}
theorem ax.vj {S:Nat->Prop} {u:Ty} {xs:List u.den} {b o c:Nat} (f:xs.length<=c) (e:S b) (g:b<w.heap.size)
  (d: ∀(i:Nat) x,xs[i]? =some x-> ∃cs,ax w S u x cs/\fa w b (o+i*u.cells) cs):ax w S (.list u) xs [.slice (some ⟨b,o,none⟩) xs.length c]:=
 ⟨some ⟨b,o,none⟩,c,rfl,f,.inr ⟨b,o,rfl,e,g,d⟩⟩
theorem Cl (m:eG B.D w ι s.heap) {e:Nat->Prop} (A: ∀b,dst B.D w ι s.heap b->e b) {g:Nat} {u:Ty} {xs:List u.den} (k:s.heap[g]? =some (some (.seq u xs))) (r: ∀p,ι g=some p->e p.1)
  {off len:Nat} {h:Sum} (t:sumOf ι s.heap g=some h) (n:off+len<=h.len) {v:Value} (d:br h off len v):ax w e (.list u) ((xs.drop off).take len) [v]:=by
 have y:=dA k t
 subst y
 simp only at n
 have F:((xs.drop off).take len).length=len:=by simp;omega
 unfold br at d
 simp only at d
 split at d
 ·rename_i b o c j
  obtain⟨E,rfl|⟨z,a,rfl⟩⟩:=d
  ·have l:=m.rows g _ k
   rw[j] at l
   have q:b<w.heap.size:=l.lt
   have:=ax.vj (w:=w) (S:=e) (u:=u) (xs:=(xs.drop off).take len) (b:=b) (o:=o+off*u.cells) (c:=c-off) (by omega) (r _ j) q (fun i x G=>by
    grind [mS,ax.sub,Nat.add_assoc,Nat.add_mul])
   simp_all
  ·have f:len=0:=by omega
   subst f
   exact⟨a,0,by simp,by simp,.inl (by simp)⟩
 ·obtain⟨_,f,a,rfl⟩:=d
  subst f
  exact⟨a,0,by simp,by simp,.inl (by simp)⟩
theorem Cm {S:Nat->Prop} {σ:Nat->Option Sum} {u:Ty} {xs:List u.den} {p:Option (Nat×Nat×Nat)} {v:Value} (l:bF w S σ p (.seq u xs)) (f:br ⟨p,u.cells,xs.length⟩ 0 xs.length v):
  (xs=[]/\ ∃a,v= .slice a 0 0)\/(∃b o c d e,p=some (b,o,c)/\v= .slice (some ⟨b,o,none⟩) xs.length c/\w.heap[b]? =some (.cells d e (0,0))/\xs.length<=c/\c<=maxLen/\d.size=o+c*u.cells/\gW w S u xs d o):=by
 unfold br at f
 simp only at f
 split at f
 ·rename_i b o c
  obtain⟨d,e,g,h,i,j,k⟩:=l
  obtain⟨n,rfl|⟨m,a,rfl⟩⟩:=f
  ·exact .inr ⟨b,o,c,d,e,rfl,by simp,g,i,j,h,k⟩
  ·exact .inl ⟨kW (by omega),a,rfl⟩
 simp_all
theorem ab6 {D:Nat->Prop} {d:Heap} (q:eG D w ι d) {f:Nat->Prop} (r: ∀b,dst D w ι d b->f b) {g:Nat} {t:Ty} {xss:List (List t.den)} {m:Nat} (p:d[g]? =some (some (.nest t xss m []))) (E: ∀b,aP ι d g b->f b)
  {b o c:Nat} (F:ι g=some (b,o,c)) {i:Nat} {x:List t.den} (h:xss[i]? =some x):
  ∃v,w.cell? ⟨b,o+i,none⟩=some v/\ax w f (.list t) x [v]:=by
 have l:=q.nest g t xss m [] p
 have A:=(aO.1 h).1
 obtain⟨M,a1,O,R,e,v,n,V,W,J⟩:=l.cell _ x h (by simp;omega)
 rw[F] at n
 cases n
 refine⟨v,by grind [jm],?_⟩
 have H:=l.part _ x h
 rcases Cm H J with⟨rfl,a,rfl⟩|⟨N,a2,Q,S,U,G,rfl,u,K,X,Z,I⟩
 ·exact⟨a,0,rfl,aS _,.inl rfl⟩
 ·refine ax.vj K (E _ (.aq t xss m [] _ _ p A G rfl)) (jd.1 u).1 (fun j y L=> ?_)
  obtain⟨cs,hd,Y⟩:=I j y L
  exact⟨cs,ax.sub r hd,fun k z a0=>by grind [jm]⟩
theorem ab7 {D:Nat->Prop} {d:Heap} (l:eG D w ι d) {h:Nat->Prop} (A: ∀b,dst D w ι d b->h b) {g:Nat} {t:Ty} {xss:List (List t.den)} {m:Nat} (e:d[g]? =some (some (.nest t xss m []))) (q: ∀b,aP ι d g b->h b)
  {off len:Nat} {k:Sum} (r:sumOf ι d g=some k) (E:off+len<=k.len) {v:Value} (f:br k off len v):ax w h (.list (.list t)) ((xss.drop off).take len) [v]:=by
 have G:k=⟨ι g,1,xss.length⟩:=by
  rw[bO e] at r
  cases r
  rfl
 subst G
 simp only at E
 have J:=l.nest g t xss m [] e
 have M:((xss.drop off).take len).length=len:=by simp;omega
 unfold br at f
 simp only at f
 split at f
 ·rename_i b o c n
  obtain⟨L,rfl|⟨I,a,rfl⟩⟩:=f
  ·have z:=l.rows g _ e
   rw[n] at z
   have F:b<w.heap.size:=z.lt
   have:=ax.vj (w:=w) (S:=h) (u:= .list t) (xs:=(xss.drop off).take len) (b:=b) (o:=o+off*1) (c:=c-off) (by omega) (q _ (.out _ _ e n rfl)) F (fun i x N=>by
    have H:xss[off+i]? =some x:=by
     grind
    obtain⟨v,K,hd⟩:=ab6 l A e q n H
    refine⟨[v],hd,fun j y O=> ?_⟩
    grind [Ty.cells])
   simp_all
  ·have p:len=0:=by omega
   subst p
   exact⟨a,0,by simp,by simp,.inl (by simp)⟩
 ·obtain⟨_,p,a,rfl⟩:=f
  subst p
  exact⟨a,0,by simp,by simp,.inl (by simp)⟩
theorem Cn (l:Inv B s tmps w ι) {i:Nat->Prop} (j: ∀b,dst B.D w ι s.heap b->i b) {io:Bool} {t:TypeId} {a x:AV} (h:ij s T io t a=some x)
  (q: ∀g∈ha a x,∀b,aP ι s.heap g b->i b) {v:Value} (k:ah w (dst B.D w ι s.heap) (sumOf ι s.heap) a v):ah w i (sumOf ι s.heap) x v:=by
 have E: ∀a:AV,ah w (dst B.D w ι s.heap) (sumOf ι s.heap) a v->ah w i (sumOf ι s.heap) a v:=fun a y=>
  ah.mono (aS _) (fun b z _=>⟨j b z,rfl⟩) a v (fun _ _=>rfl) y
 unfold ij at h
 split at h
 ·rename_i g
  split at h
  ·simp_all
  ·split at h
   ·rename_i u xs e
    simp at h
    subst h
    obtain⟨r,c,f⟩:=k
    have d:=bk e
    have A:=dA d c
    subst A
    have:=Cl l.am j d (fun p o=>q g (by simp[ha]) p.1 (.out _ p d o rfl)) c (by simp) f
    simp only[fY,lr] at this
    exact this
   ·rename_i u xss m e
    simp at h
    subst h
    obtain⟨r,c,f⟩:=k
    have d:=bk e
    have n:r.len=xss.length:=by
     rw[bO d] at c
     cases c
     rfl
    have:=ab7 l.am j d (q g (by simp[ha])) c (by omega) f
    rw[n] at this
    simp only[fY,lr] at this
    exact this
   ·cases h
 ·rename_i g off len
  split at h
  ·cases h
  ·split at h
   ·rename_i u xs e
    simp at h
    subst h
    obtain⟨r,c,n,f⟩:=k
    exact Cl l.am j (bk e) (fun p o=>q g (by simp[ha]) p.1 (.out _ p (bk e) o rfl)) c n f
   ·cases h
 ·split at h
  ·simp_all
  ·split at h
   ·split at h
    ·simp at h;subst h
     obtain⟨a,rfl⟩:=k
     exact⟨a,0,rfl,aS _,.inl rfl⟩
    ·cases h
   ·cases h
 all_goals simp_all
theorem ab8 (i:Inv B s tmps w ι) {c:Nat->Prop} (d: ∀b,dst B.D w ι s.heap b->c b) {a x:AV} (h:lb s a=some x)
  (j: ∀g∈ha a x,∀b,aP ι s.heap g b->c b) {v:Value} (f:ah w (dst B.D w ι s.heap) (sumOf ι s.heap) a v):ah w c (sumOf ι s.heap) x v:=by
 unfold lb at h
 split at h
 ·grind [Cn]
 ·grind [Cn]
 ·cases h
  exact ah.mono (aS _) (fun b e _=>⟨d b e,rfl⟩) _ _ (fun _ _=>rfl) f
theorem MR (i:Inv B s tmps w ι) {c:Nat->Prop} (j: ∀b,dst B.D w ι s.heap b->c b): ∀(as xs:List AV) (vs:List Value),ik s as=some xs->
  (∀g∈im as xs,∀b,aP ι s.heap g b->c b)->aC w (dst B.D w ι s.heap) (sumOf ι s.heap) as vs->aC w c (sumOf ι s.heap) xs vs
 |[],xs,vs,h,_,f=>by
  simp only[ik,ew] at h
  subst h
  exact f
 |a::r,xs,vs,h,e,f=>by
  simp only[ik] at h
  split at h
  ·rename_i x l p o
   cases h
   obtain⟨v,k,rfl,m,n⟩:=f
   simp only[im] at e
   exact⟨v,k,rfl,ab8 i j p (fun g d=>e g (Cb _ d)) m,MR i j r l k o (fun g d=>e g (Cc _ d)) n⟩
  ·cases h
theorem ab9 (i:Inv B s tmps w ι) {c:Nat->Prop} (d: ∀b,dst B.D w ι s.heap b->c b) {io:Bool} {t:TypeId} {a x:AV} (h:jf s T io t a=some x)
  (j: ∀g∈jX a x,∀b,aP ι s.heap g b->c b) {v:Value} (f:ah w (dst B.D w ι s.heap) (sumOf ι s.heap) a v):ah w c (sumOf ι s.heap) x v:=by
 unfold jf at h
 split at h
 ·rename_i cs
  cases io with
  |true=>
   cases h
   exact ah.mono (aS _) (fun b l _=>⟨d b l,rfl⟩) _ _ (fun _ _=>rfl) f
  |false=>
   simp only[au] at h
   obtain⟨k,hd,rfl⟩:=co.1 h
   obtain⟨vs,e,m⟩:=f
   exact⟨vs,e,MR i d cs k vs hd j m⟩
 ·rename_i o
  refine Cn i d h (fun g n=>j g ?_) f
  unfold jX
  grind [absurd,ha]
theorem aca (z:Inv B s tmps w ι) {i:Nat->Prop} (p: ∀b,dst B.D w ι s.heap b->i b) {a x:AV} (h:lc s a=some x)
  (H: ∀g∈ha a x,∀b,aP ι s.heap g b->i b) {v:Value} (r:ah w (dst B.D w ι s.heap) (sumOf ι s.heap) a v):ah w i (sumOf ι s.heap) x v:=by
 unfold lc at h
 split at h
 ·rename_i g off
  split at h
  ·rename_i c I
   cases l:(beq off 0&&c.ids.isEmpty) with
   |false=>simp_all
   |true=>
    rw[l] at h
    cases h
    simp only[aT] at l
    have t:=qQ l.1
    subst t
    have n:=bk I
    obtain⟨Q,b,o,k,G,m,rfl⟩:=r
    have f:=bO (ι:=ι) n
    rw[G] at f
    have f:=fV f
    subst f
    obtain⟨J,O,K,L,e,q,d,A⟩:=z.am.rows g _ n
    simp only at m
    rw[m] at q
    cases q
    obtain⟨u,M,_,E⟩:=A 0 c rfl
    refine⟨b,o,u,rfl,H g (by simp[ha]) b (.out _ _ n m rfl),(jd.1 d).1,fun j y N=> ?_,ah.mono (aS _) (fun b d _=>⟨p b d,rfl⟩) _ _ (fun _ _=>rfl) E⟩
    have F:j=0:=by
     grind
    subst F
    grind [jm]
  ·cases h
 ·cases h
  exact ah.mono (aS _) (fun b d _=>⟨p b d,rfl⟩) _ _ (fun _ _=>rfl) r
 ·cases h
theorem MS (i:Inv B s tmps w ι) {c:Nat->Prop} (j: ∀b,dst B.D w ι s.heap b->c b): ∀(as xs:List AV) (vs:List Value),il s as=some xs->
  (∀g∈im as xs,∀b,aP ι s.heap g b->c b)->aC w (dst B.D w ι s.heap) (sumOf ι s.heap) as vs->aC w c (sumOf ι s.heap) xs vs
 |[],xs,vs,h,_,f=>by
  simp only[il,ew] at h
  subst h
  exact f
 |a::r,xs,vs,h,e,f=>by
  simp only[il] at h
  split at h
  ·rename_i x l p o
   cases h
   obtain⟨v,k,rfl,m,n⟩:=f
   simp only[im] at e
   exact⟨v,k,rfl,aca i j p (fun g d=>e g (Cb _ d)) m,MS i j r l k o (fun g d=>e g (Cc _ d)) n⟩
  ·cases h
theorem acb (k:Inv B s tmps w ι) {j:Nat->Prop} (m: ∀b,dst B.D w ι s.heap b->j b) {a x:AV} (h:ld s a=some x)
  (G: ∀g∈jX a x,∀b,aP ι s.heap g b->j b) {v:Value} (p:ah w (dst B.D w ι s.heap) (sumOf ι s.heap) a v):ah w j (sumOf ι s.heap) x v:=by
 unfold ld at h
 split at h
 ·rename_i g a b
  split at h
  ·rename_i l A
   cases d:(cj a).isEmpty with
   |false=>simp_all
   |true=>
    rw[d] at h
    cases h
    obtain⟨J,r,rfl,y,z⟩:=p
    exact⟨J,r,rfl,aC.mono (aS _) (fun b n _=>⟨m b n,rfl⟩) _ _ (fun _ _=>rfl) y,MS k m b l r A (by grind [jX]) z⟩
  ·cases h
 ·rename_i g off
  split at h
  ·rename_i u xs H
   cases d:beq off 0 with
   |false=>simp_all
   |true=>
    rw[d] at h
    cases h
    have t:=qQ d
    subst t
    have f:=bk H
    obtain⟨L,b,o,c,E,e,rfl⟩:=p
    have F:=dA f E
    subst F
    simp only at e
    have q:=k.am.rows g _ f
    rw[e] at q
    refine⟨b,o,rfl,G g (by simp[jX,ha]) b (.out _ _ f e rfl),q.lt,fun i x I=> ?_⟩
    obtain⟨cs,hd,K⟩:=mS k.am f e I
    grind [ax.sub]
  ·cases h
 ·cases h
  exact ah.mono (aS _) (fun b n _=>⟨m b n,rfl⟩) _ _ (fun _ _=>rfl) p
 ·cases h
theorem MT (k:Inv B s tmps w ι) {d:Nat->Prop} (m: ∀b,dst B.D w ι s.heap b->d b) {io:Nat->Bool}: ∀(as:List AV) (n:Nat) (c:List TypeId) (xs:List AV) (vs:List Value),ey s T io n c as=some xs->
  (∀g∈gC as xs,∀b,aP ι s.heap g b->d b)->aC w (dst B.D w ι s.heap) (sumOf ι s.heap) as vs->aC w d (sumOf ι s.heap) xs vs
 |[],n,c,xs,vs,h,_,e=>by
  cases c<;>simp[ey] at h<;>subst h<;>exact e
 |a::r,n,[],xs,vs,h,_,e=>by simp[ey] at h
 |a::r,n,t::c,xs,vs,h,f,e=>by
  simp only[ey] at h
  split at h
  ·rename_i x l z p
   simp at h
   subst h
   obtain⟨v,i,rfl,y,j⟩:=e
   have q:gC (a::r) (x::l)=jX a x++gC r l:=by
    simp[gC]
   rw[q] at f
   have u:ah w d (sumOf ι s.heap) x v:=by
    grind [uP,acb,List.mem_append_left,ab9]
   exact⟨v,i,rfl,u,MT k m r (n+1) c l i p (fun g o=>f g (Cc _ o)) j⟩
  ·cases h
theorem lu {b:Heap} {ids:List Nat} {j:Nat} {r:Row} (h:(bJ b ids)[j]? =some (some r)): ∃g c,ids[j]? =some g/\b[g]? =some (some c)/\r=c.bG (place ids):=by
 grind [bJ]
theorem vk {b:Heap} {ids:List Nat} {j g:Nat} {c:Row} (hi:ids[j]? =some g) (d:b[g]? =some (some c)):(bJ b ids)[j]? =some (some (c.bG (place ids))):=by
 simp[bJ,hi,d]
theorem Co {C:Ctx} (j7: ∀f,Sound P f (C.ek f)) (j2:C.k=B.k) (j5: ∀g,C.mv.contains g=true->B.mv g=true) (G:Inv B s tmps w ι) {β:Type} {base:Nat} {f:FuncId} {args:List AV} {types:List TypeId} (c2:lg C s f args types=true) {K:AV->St->Option β} {r:β}
  (h:eJ (ag β) C base s f args types K=some r) {vs:List Value} (g9:aC w (dst B.D w ι s.heap) (sumOf ι s.heap) args vs):
  ∃a s',K a s'=some r/\Calls P f vs.toArray w (fun e w'=> ∃v f7,e= .returned v/\Inv B s' tmps w' f7/\ah w' (dst B.D w' f7 s'.heap) (sumOf f7 s'.heap) a v):=by
 unfold eJ at h
 split at h
 ·cases h
 ·rename_i avs g0
  simp only at h
  split at h
  ·rename_i c8
   unfold lg at c2
   rw[g0] at c2
   simp only at c2
   generalize l3:reach s.heap (s.heap.length+1) 0 (dw [] (cj avs))=ids at h c8 c2
   generalize g8:gC args avs=c4 at h c8
   simp only[aT] at c8
   obtain⟨⟨⟨⟨g6,c9⟩,h7⟩,k5⟩,i3⟩:=c8
   simp only[ag] at h
   cases e5:(C.ek f (da (place ids) avs) (bJ s.heap ids)).o with
   |none=>simp[e5] at h
   |some l0=>
    simp only[e5,ac,mJ] at h
    generalize k1:(C.ek f (da (place ids) avs) (bJ s.heap ids)).dec l0=b4 at h
    obtain⟨d5,y⟩:=b4
    have j8:(C.ek f (da (place ids) avs) (bJ s.heap ids)).run=some (d5,y):=by simp[ad.run,e5,k1]
    split at h
    ·rename_i g1
     simp only[aT,db] at g1
     obtain⟨⟨l5,l6⟩,a8⟩:=g1
     refine⟨_,_,h,?_⟩
     let N:aX:=⟨fun j=>match ids[j]? with|some g=>ι g|none=>none,fun j=>match ids[j]? with|some g=>ι.aq g|none=>fun _=>none⟩
     have c0: ∀{j b:Nat},aP N (bJ s.heap ids) j b-> ∃g,ids[j]? =some g/\aP ι s.heap g b:=fun {j b} o=>by
      cases o with
      |out r p a1 I e=>
       obtain⟨g,n,hi,l,_⟩:=lu a1
       simp only[N,hi] at I
       exact⟨g,hi,.out n p l I e⟩
      |aq t xss m cs i p a1 M I e=>
       obtain⟨g,n,hi,l,U⟩:=lu a1
       simp only[N,hi] at I
       obtain⟨X,rfl,_⟩:=Row.qO U.symm
       exact⟨g,hi,.aq t xss m X i p l M I e⟩
     have d0: ∀g,g∈ids->ids[place ids g]? =some g:=fun g l=>MO l
     have e8: ∀g,g∈ids->sumOf N (bJ s.heap ids) (place ids g)=sumOf ι s.heap g:=fun g l=>by
      obtain⟨n,A,_⟩:=lq c9 l
      have:=vk (d0 g l) A
      simp[sumOf,this,A,N,d0 g l,Row.B9,Row.Ca]
     have d4: ∀b,aN w ι s.heap b->aN w N (bJ s.heap ids) b:=fun b E=>by
      refine⟨E.1,fun j o=> ?_⟩
      obtain⟨g,_,L⟩:=c0 o
      exact E.2 g L
     have b3: ∀g b,g∉ids->aP ι s.heap g b->aN w N (bJ s.heap ids) b:=fun g b b9 Y=>by
      refine⟨Y.lt G.am,fun j o=> ?_⟩
      obtain⟨b5,hi,L⟩:=c0 o
      have:=G.am.one b5 g b L Y
      exact b9 (this▸jc hi)
     let a0:Nat->Prop:=fun b=>dst B.D w ι s.heap b\/(∃g∈c4,aP ι s.heap g b)\/w.heap.size<=b\/(∃g∈ids,aP ι s.heap g b)
     have c7: ∀b,dst B.D w ι s.heap b->dst a0 w N (bJ s.heap ids) b:=fun b E=>⟨.inl E,d4 b E.2⟩
     have l4: ∀g∈c4,∃n,s.heap[g]? =some (some n):=fun g l=>by
       have k9: ∀(as xs:List AV) (vs:List Value),aC w (dst B.D w ι s.heap) (sumOf ι s.heap) as vs->g∈gC as xs-> ∃n,s.heap[g]? =some (some n):=by
        intro as
        induction as with
        |nil=>intro xs vs _ l;cases xs<;>simp[gC] at l
        |cons a r k8=>
         intro xs vs k7 l
         obtain⟨v,l1,rfl,z,F⟩:=k7
         cases xs with
         |nil=>simp[gC] at l
         |cons x l2=>
          simp only[gC,jQ] at l
          rcases l with l|l
          ·have:a.refs g=true:=abD l
           obtain⟨b4,a2⟩:=ah.cn a v g z this
           exact dy a2
          ·exact k8 l2 l1 F l
       exact k9 args avs vs g9 (by rw[g8];exact l)
     have k4: ∀g∈gC args avs,∀b,aP ι s.heap g b->dst a0 w N (bJ s.heap ids) b:=fun g l b Y=>by
      rw[g8] at l
      have b9:g∉ids:=by
       have:=bQ.1 k5 g l
       simpa using this
      exact⟨.inr (.inl ⟨g,l,Y⟩),b3 g b b9 Y⟩
     have h8:aC w (dst a0 w N (bJ s.heap ids)) (sumOf N (bJ s.heap ids)) (da (place ids) avs) vs:=by
      have z:=MT G c7 args 0 types avs vs g0 k4 g9
      refine aC.bG avs vs (.inl fun b E=>E) (fun g l=> ?_) z
      have V:g∈ids:=by
       have:=bQ.1 h7 g (kg avs g l)
       simpa using this
      exact e8 g V
     have h6:eG a0 w N (bJ s.heap ids):=by
      refine⟨fun j r d=> ?_,fun f2 f3 b f5 f6=> ?_,fun j b o=> ?_,fun j u xss m cs d=> ?_⟩
      ·obtain⟨g,n,hi,l,rfl⟩:=lu d
       have J:N j=ι g:=by simp[N,hi]
       rw[J]
       refine bF.bG (.inl c7) (fun x M=> ?_) (G.am.rows g n l)
       obtain⟨Z,W,j1⟩:=lq c9 (jc hi)
       have:Z=n:=by rw[l] at W;simpa using W.symm
       subst this
       exact e8 x (j1 x (Row.qN M))
      ·obtain⟨c5,i9,a4⟩:=c0 f5
       obtain⟨a6,j0,a5⟩:=c0 f6
       have:=G.am.one c5 a6 b a4 a5
       exact ve g6 i9 (this▸j0)
      ·obtain⟨g,hi,L⟩:=c0 o
       exact .inr (.inr (.inr ⟨g,jc hi,L⟩))
      ·obtain⟨g,n,hi,l,U⟩:=lu d
       obtain⟨X,rfl,b8⟩:=Row.qO U.symm
       have h4:N j=ι g:=by simp[N,hi]
       have h5:N.aq j=ι.aq g:=by simp[N,hi]
       rw[h4,h5]
       exact(cS.bG (.inl c7) (G.am.nest g u xss m X l)).gD b8
     have i8:gY w (dst a0 w N (bJ s.heap ids)):=G.dK.mono (aS _) (fun b E _=>⟨c7 b E,rfl⟩)
     have k0: ∀j,j<(bJ s.heap ids).length-> ∃x,(bJ s.heap ids)[j]? =some (some x):=fun j d=>by
      have g5:j<ids.length:=by simpa[bJ] using d
      obtain⟨n,A,_⟩:=lq c9 (dc g5)
      exact⟨_,vk (bh g5) A⟩
     refine(j7 f _ _ _ _ j8 a0 w vs N (fun b E=> .inr (.inr (.inl E))) h6 i8 k0 h8).mono fun e w' j9=> ?_
     obtain⟨v,R,rfl,b1,b6,e6,f0,g7⟩:=j9
     let f4:Nat->Prop:=fun g=> ∃j:Nat,(C.ek f (da (place ids) avs) (bJ s.heap ids)).mv.contains j=true/\ids[j]? =some g
     have e4: ∀g,f4 g->(B.k<=g\/B.mv g=true)/\(∀a∈s.env,a.refs g=false)/\ ∀x n,x∉ids->s.heap[x]? =some (some n)->n.refs g=false:=fun g ⟨j,d,d1⟩=>by
      have z:=bQ.1 c2 j (by simpa using d)
      rw[d1] at z
      simp only[aT,ev] at z
      obtain⟨⟨F,U⟩,c6⟩:=z
      refine⟨F.imp (fun h=>j2▸ja h) (j5 g),fun a a7=> ?_,fun x n M A=> ?_⟩
      ·have:=bQ.1 U a a7
       simpa using this
      ·have:=bQ.1 c6 x (fh.2 (aO.1 A).1)
       rw[A] at this
       simp only[ev] at this
       rcases this with d6|d6
       ·exact absurd (by simpa using d6) M
       ·simpa using d6
     let q:=fx ids base
     have a9: ∀j g,ids[j]? =some g->q j=g:=fun j g d=>by simp[q,fx,d]
     have e0: ∀j,ids.length<=j->q j=base+(j-ids.length):=fun j d=>by
      simp[q,fx,List.getElem?_eq_none d]
     have a3: ∀j,j<y.length->(j<ids.length/\ ∃n,s.heap[q j]? =some (some n)/\q j∈ids)\/(ids.length<=j/\s.heap[q j]? =some none):=fun j d=>by
      by_cases b0:j<ids.length
      ·obtain⟨n,A,_⟩:=lq c9 (dc b0)
       have:=a9 j _ (bh b0)
       exact .inl ⟨b0,n,by rw[this];exact A,by rw[this];exact dc b0⟩
      ·refine .inr ⟨by omega,?_⟩
       rw[e0 j (by omega)]
       exact qP i3 (by omega)
     have e2: ∀i j,i<y.length->j<y.length->q i=q j->i=j:=fun i j hi d e=>by
      by_cases g4:i<ids.length
      ·by_cases e3:j<ids.length
       ·have z:=a9 i _ (bh g4)
        have F:=a9 j _ (bh e3)
        refine ve g6 (bh g4) ?_
        rw[bh e3,<-z,<-F,e]
       ·rcases a3 i hi with⟨_,n,z,_⟩|⟨z,_⟩
        ·rcases a3 j d with⟨F,_⟩|⟨_,F⟩
         ·omega
         ·rw[e,F] at z;simp at z
        ·omega
      ·by_cases e3:j<ids.length
       ·rcases a3 j d with⟨_,n,z,_⟩|⟨z,_⟩
        ·rcases a3 i hi with⟨F,_⟩|⟨_,F⟩
         ·omega
         ·rw[<-e,F] at z;simp at z
        ·omega
       ·rw[e0 i (by omega),e0 j (by omega)] at e
        omega
     let S:=fd q 0 y s.heap
     let l7:Nat->Nat->Prop:=fun g j=>j<y.length/\q j=g
     let H:aX:=⟨fun g=>match(range y.length).find? (fun j=>q j==g) with|some j=>R j|none=>ι g,fun g=>match(range y.length).find? (fun j=>q j==g) with|some j=>R.aq j|none=>ι.aq g⟩
     have h0: ∀j,j<y.length->H (q j)=R j/\H.aq (q j)=R.aq j:=fun j d=>by
      have:(range y.length).find? (fun i=>q i==q j)=some j:=by
       cases e1:(range y.length).find? (fun i=>q i==q j) with
       |none=>
        have:=Cd.1 e1 j (fh.2 d)
        simp at this
       |some i=>
        have z:=List.find?_some e1
        have F:=List.mem_of_find?_eq_some e1
        simp at z F
        rw[e2 i j F d z]
      simp[H,this]
     have h2: ∀j,j<y.length->H (q j)=R j:=fun j d=>(h0 j d).1
     have h1: ∀g,(∀j,j<y.length->q j≠g)->H g=ι g/\H.aq g=ι.aq g:=fun g l=>by
      have:(range y.length).find? (fun i=>q i==g)=none:=by
       rw[Cd]
       intro i hi
       simp at hi⊢
       exact l i hi
      simp[H,this]
     have h3: ∀g,(∀j,j<y.length->q j≠g)->H g=ι g:=fun g l=>(h1 g l).1
     have j3: ∀j,j<y.length->q j<s.heap.length:=fun j d=>by
      rcases a3 j d with⟨_,n,z,_⟩|⟨_,z⟩<;>exact(aO.1 z).1
     have d8: ∀(j:Nat) r,y[j]? =some (some r)->S[q j]? =some (some (r.bG q)):=fun j r d=>by
      have d2:=(aO.1 d).1
      have:=MP q y 0 s.heap j r d (by simpa using j3 j d2) (fun i x M i2=>e2 i j (aO.1 M).1 d2 (by simpa using i2))
      simpa[S] using this
     have d9: ∀g,(∀(j:Nat) r,y[j]? =some (some r)->q j≠g)->S[g]? =s.heap[g]? :=fun g l=>by
      exact mX q g y 0 s.heap (fun j r d=>by simpa using l j r d)
     have d7: ∀g r,S[g]? =some (some r)->(∃j n,y[j]? =some (some n)/\q j=g/\r=n.bG q/\H g=R j)\/((∀j,j<y.length->q j≠g)/\s.heap[g]? =some (some r)/\H g=ι g/\g∉ids):=fun g r l=>by
      by_cases g2: ∃j,j<y.length/\q j=g
      ·obtain⟨j,d,rfl⟩:=g2
       left
       cases b7:y[j]? with
       |none=>rw[MQ] at b7;omega
       |some x=>
        cases x with
        |some n=>
         have:=d8 j n b7
         rw[l] at this
         simp at this
         exact⟨j,n,b7,rfl,this,h2 j d⟩
        |none=>
         have V:S[q j]? =s.heap[q j]? :=d9 _ (fun i x hi e=>by
          have:=e2 i j (aO.1 hi).1 d e
          subst this
          rw[b7] at hi;simp at hi)
         rcases a3 j d with⟨b0,n,z,_⟩|⟨_,z⟩
         ·obtain⟨_,Z,W⟩:=f0 j (by simpa[bJ] using b0)
          rw[b7] at W;simp at W
         ·rw[V,z] at l;simp at l
      ·right
       have Q: ∀j,j<y.length->q j≠g:=fun j d e=>g2 ⟨j,d,e⟩
       refine⟨Q,?_,h3 g Q,fun O=> ?_⟩
       ·rw[<-d9 g (fun j r d=>Q j (aO.1 d).1)];exact l
       ·have z:=d0 g O
        have F:=(aO.1 z).1
        exact Q (place ids g) (by omega) (a9 _ _ z)
     have f9: ∀g t xss m cs,S[g]? =some (some (.nest t xss m cs))->(∃j X,y[j]? =some (some (.nest t xss m X))/\X.length=cs.length/\q j=g/\H g=R j/\H.aq g=R.aq j)\/((∀j,j<y.length->q j≠g)/\s.heap[g]? =some (some (.nest t xss m cs))/\H g=ι g/\H.aq g=ι.aq g/\g∉ids):=fun g t xss m cs l=>by
      rcases d7 g _ l with⟨j,n,d,rfl,U,J⟩|⟨Q,A,J,O⟩
      ·obtain⟨X,rfl,b8⟩:=Row.qO U.symm
       exact .inl ⟨j,X,d,b8,rfl,J,(h0 j (aO.1 d).1).2⟩
      ·exact .inr ⟨Q,A,J,(h1 g Q).2,O⟩
     have b2: ∀{g b:Nat},aP H S g b->(∃j,q j=g/\aP R y j b)\/(g∉ids/\(∀j,j<y.length->q j≠g)/\aP ι s.heap g b):=fun {g b} o=>by
      cases o with
      |out r p a1 I e=>
       rcases d7 g r a1 with⟨j,n,d,E,_,J⟩|⟨Q,A,J,O⟩
       ·rw[J] at I
        exact .inl ⟨j,E,.out n p d I e⟩
       ·rw[J] at I
        exact .inr ⟨O,Q,.out r p A I e⟩
      |aq t xss m cs i p a1 M I e=>
       rcases f9 g t xss m cs a1 with⟨j,X,d,_,E,_,J⟩|⟨Q,A,_,J,O⟩
       ·rw[J] at I
        exact .inl ⟨j,E,.aq t xss m X i p d M I e⟩
       ·rw[J] at I
        exact .inr ⟨O,Q,.aq t xss m cs i p A M I e⟩
     have e9: ∀j r,y[j]? =some (some r)->sumOf H S (q j)=sumOf R y j:=fun j r d=>by
      have d2:=(aO.1 d).1
      rw[bO (d8 j r d),bO d,h2 j d2,Row.B9,Row.Ca]
     have e7: ∀b,aN w ι s.heap b->aN w' H S b:=fun b E=>by
      have z:=e6 b (d4 b E)
      refine⟨z.1,fun g o=> ?_⟩
      rcases b2 o with⟨j,_,L⟩|⟨_,_,L⟩
      ·exact z.2 j L
      ·exact E.2 g L
     have c3:Trans w ι s.heap w' H S (fun x=>(∃n,s.heap[x]? =some (some n))/\ ¬f4 x):=by
      refine⟨b1.size,fun b E=>⟨e7 b E,b1.block b (d4 b E)⟩,fun g ⟨⟨n,A⟩,j6⟩=> ?_⟩
      by_cases O:g∈ids
      ·have z:=d0 g O
       have F:=(aO.1 z).1
       have U:=(f0 (place ids g) (by simpa[bJ] using F)).1.resolve_left (fun i1=>j6 ⟨_,i1,z⟩)
       rw[e8 g O,bO A] at U
       obtain⟨Z,W⟩:=dy U
       have c6:=e9 _ Z W
       rw[a9 _ _ z] at c6
       rw[c6,U,bO A]
      ·have Q: ∀j,j<y.length->q j≠g:=fun j d e=>by
        rcases a3 j d with⟨_,Z,_,F⟩|⟨_,F⟩
        ·exact O (e▸F)
        ·rw[e,A] at F;simp at F
       have V:=d9 g (fun j r d=>Q j (aO.1 d).1)
       simp[sumOf,V,A,h3 g Q]
     have f8:c4=[]-> ∀b,dst a0 w' R y b->dst B.D w' H S b:=fun k3 b E=>by
      obtain⟨hd,d3⟩:=E
      rcases hd with hd|⟨g,l,_⟩|hd|⟨g,l,Y⟩
      ·exact⟨hd.1,e7 b hd.2⟩
      ·rw[k3] at l;cases l
      rotate_left
      ·refine⟨G.am.has g b Y,d3.1,fun a6 o=> ?_⟩
       rcases b2 o with⟨j,_,L⟩|⟨b9,_,L⟩
       ·exact d3.2 j L
       ·exact b9 ((G.am.one a6 g b L Y)▸l)
      ·refine⟨B.new b (fu G.kept.size hd),d3.1,fun g o=> ?_⟩
       rcases b2 o with⟨j,_,L⟩|⟨_,_,L⟩
       ·exact d3.2 j L
       ·have:=L.lt G.am
        omega
     have i4:(∀b,dst a0 w' R y b->dst B.D w' H S b)\/d5.cf=false:=by
      cases c1:c4 with
      |nil=>exact .inl (f8 c1)
      |cons a r=>
       right
       rw[c1] at a8
       simp only[Ce,kh,gl,uM] at a8
       exact a8.1
     have g3: ∀(j:Nat) n,y[j]? =some (some n)->(∀b,dst a0 w' R y b->dst B.D w' H S b)\/n.cf=false:=fun j n d=>by
      cases c1:c4 with
      |nil=>exact .inl (f8 c1)
      |cons a r=>
       right
       rw[c1] at a8
       simp only[Ce,kh,gl,uM] at a8
       have:=List.any_eq_false.1 a8.2 _ (jc d)
       simpa using this
     have k2: ∀(a:AV) (u:Value),ah w' (dst a0 w' R y) (sumOf R y) a u-> ∀g,a.refs g=true->sumOf H S (q g)=sumOf R y g:=fun a u a7 g l=>by
      obtain⟨b4,a2⟩:=ah.cn a u g a7 l
      obtain⟨Z,W⟩:=dy a2
      exact e9 g Z W
     refine⟨v,H,rfl,⟨G.kept.trans b1 (fun b E=>d4 b (G.stay b E)),⟨fun g r l=> ?_,fun c5 a6 b f5 f6=> ?_,fun g b o=> ?_,fun g u xss m cs l=> ?_⟩,fun b E=>e7 b (G.stay b E),fun g l=> ?_,fun i a a7=> ?_,c3.kd G.dK⟩,?_⟩
     ·rcases d7 g r l with⟨j,n,d,_,rfl,J⟩|⟨Q,A,J,O⟩
      ·rw[J]
       refine bF.bG (g3 j n d) (fun x M=> ?_) (b6.rows j n d)
       obtain⟨b4,a2⟩:=(b6.rows j n d).cn x M
       obtain⟨Z,W⟩:=dy a2
       exact e9 x Z W
      ·rw[J]
       refine c3.row (fun x M=> ?_) (fun b o c I=>b1.block b (b3 g b O (.out r (b,o,c) A I rfl))) (G.am.rows g r A)
       obtain⟨b4,a2⟩:=(G.am.rows g r A).cn x M
       exact⟨dy a2,fun V=>by rw[(e4 x V).2.2 g r O A] at M;cases M⟩
     ·rcases b2 f5 with⟨f2,h9,a4⟩|⟨i6,_,a4⟩<;>rcases b2 f6 with⟨f3,i0,a5⟩|⟨i7,_,a5⟩
      ·rw[<-h9,<-i0,b6.one f2 f3 b a4 a5]
      ·exact absurd a4 ((e6 _ (b3 a6 b i7 a5)).2 f2)
      ·exact absurd a5 ((e6 _ (b3 c5 b i6 a4)).2 f3)
      ·exact G.am.one c5 a6 b a4 a5
     ·rcases b2 o with⟨j,_,L⟩|⟨_,_,L⟩
      ·rcases b6.has j b L with hd|⟨b5,i5,Y⟩|hd|⟨b5,i5,Y⟩
       ·exact hd.1
       ·exact G.am.has b5 b Y
       ·exact B.new _ (fu G.kept.size hd)
       ·exact G.am.has b5 b Y
      ·exact G.am.has g b L
     ·rcases f9 g u xss m cs l with⟨j,X,d,b8,_,J,f1⟩|⟨Q,A,J,f1,O⟩
      ·rw[J,f1]
       exact(cS.bG ((g3 j _ d).imp id (by simp only[Row.cf,uM];exact fun h=>h.1)) (b6.nest j u xss m X d)).gD b8
      ·rw[J,f1]
       exact c3.nest (fun b o c I=>b1.block b (b3 g b O (.out _ (b,o,c) A I rfl))) (fun i b o c hi I=>b1.block b (b3 g b O (.aq u xss m cs i (b,o,c) A hi I rfl))) (G.am.nest g u xss m cs A)
     ·obtain⟨z,n,A⟩:=G.io g l
      by_cases V:f4 g
      ·refine⟨.inl ((e4 g V).1.resolve_left (by omega)),?_⟩
       obtain⟨j,d,d1⟩:=V
       have j4:=(aO.1 d1).1
       obtain⟨_,Z,W⟩:=f0 j (by simpa[bJ] using j4)
       have U:=d8 j Z W
       rw[a9 j g d1] at U
       exact⟨_,U⟩
      ·have F:=c3.sum g ⟨⟨n,A⟩,V⟩
       refine⟨z.imp id F.trans,?_⟩
       rw[bO A] at F
       exact dy F
     ·obtain⟨u,k6,a1⟩:=G.env i a a7
      refine⟨u,k6,c3.av (fun x M=> ?_) a1⟩
      obtain⟨b4,a2⟩:=ah.cn a u x a1 M
      exact⟨dy a2,fun V=>by rw[(e4 x V).2.1 a (jc a7)] at M;cases M⟩
     ·exact ah.bG d5 v i4 (k2 d5 v g7) g7
    ·cases h
  ·cases h
end
end Go.Rv
namespace Go.Rv
section
variable {B : ce} {s : St} {tmps : Array Value} {w : World} {ι : aX}
theorem vl {g h:Nat} (e:g≠h):beq g h=false:=by
 cases b:beq g h<;>simp_all
mutual
theorem qS {h:Nat} {t:Ty} {xs:List t.den} {S S':Nat->Prop} {σ I:Nat->Option Sum} (j: ∀b,S b->S' b) (m: ∀g,g≠h->I g=σ g)
  (n: ∀{off len:Nat} {d:Sum} {v:Value},σ h=some d->off+len<=d.len->br d off len v->ax w S' (.list t) ((xs.drop off).take len) [v])
  (p: ∀d,σ h=some d->d.len=xs.length) (q: ∀d b o c,σ h=some d->d.place=some (b,o,c)->ig w S' b o t xs):
  ∀(a:AV) (v:Value),ah w S σ a v->ah w S' I (fX h t xs a) v
 | .undef,_,_=>trivial
 | .aa t x,v,f=>ax.sub j f
 | .aM,_,f=>f
 | .ab g,v,⟨d,k,z⟩=>by
  by_cases e:g=h
  ·subst e
   simp only[fX,qR,aw]
   have:=n (off:=0) (len:=d.len) k (by simp) z
   rw[p d k] at this
   simp only[fY,lr] at this
   exact this
  ·simp only[fX,vl e,au]
   exact⟨d,(m g e).trans k,z⟩
 | .win g o l,v,⟨d,k,F,z⟩=>by
  by_cases e:g=h
  ·subst e
   simp only[fX,qR,aw]
   exact n k F z
  ·simp only[fX,vl e,au]
   exact⟨d,(m g e).trans k,F,z⟩
 | .ptr g o,v,⟨d,b,A,c,k,f⟩=>by
  by_cases e:g=h
  ·subst e
   simp only[fX,qR,aw]
   cases O:beq o 0 with
   |false=>trivial
   |true=>
    have K:=qQ O
    subst K
    exact⟨b,A,f.2,q d b A c k f.1⟩
  ·simp only[fX,vl e,au]
   exact⟨d,b,A,c,(m g e).trans k,f⟩
 | .bU g i o,v,⟨d,b,A,c,k,f⟩=>by
  by_cases e:g=h
  ·subst e
   simp only[fX,qR,aw]
   trivial
  ·simp only[fX,vl e,au]
   exact⟨d,b,A,c,(m g e).trans k,f⟩
 | .fW t x _,_,⟨b,o,cs,e,y,r,hd,E⟩=>⟨b,o,cs,e,j b y,r,ax.sub j hd,E⟩
 | .tab t xs,_,⟨b,o,e,Q⟩=>⟨b,o,e,Q.mono (aS _) (fun b D _=>⟨j b D,rfl⟩)⟩
 | .agg cs,_,⟨vs,e,f⟩=>⟨vs,e,qT j m n p q cs vs f⟩
 | .ba cs,_,⟨vs,e,f⟩=>⟨vs,e,qT j m n p q cs vs f⟩
 | .fn _ a b,_,⟨G,H,e,L,M⟩=>⟨G,H,e,qT j m n p q a G L,qT j m n p q b H M⟩
 | .raw _,_,f=>f
 | .gm _,_,⟨b,J,c,e,y,r,D,N⟩=>⟨b,J,c,e,j b y,r,D,N⟩
 | .ej c,_,⟨b,o,u,e,y,r,E,f⟩=>⟨b,o,u,e,j b y,r,E,qS j m n p q c u f⟩
theorem qT {h:Nat} {t:Ty} {xs:List t.den} {S S':Nat->Prop} {σ n:Nat->Option Sum} (f: ∀b,S b->S' b) (l: ∀g,g≠h->n g=σ g)
  (j: ∀{off len:Nat} {d:Sum} {v:Value},σ h=some d->off+len<=d.len->br d off len v->ax w S' (.list t) ((xs.drop off).take len) [v])
  (i: ∀d,σ h=some d->d.len=xs.length) (k: ∀d b o c,σ h=some d->d.place=some (b,o,c)->ig w S' b o t xs):
  ∀(a:List AV) (v:List Value),aC w S σ a v->aC w S' n (fz h t xs a) v
 |[],_,u=>u
 |a::r,_,⟨v,m,e,p,q⟩=>⟨v,m,e,qS f l j i k a v p,qT f l j i k r m q⟩
end
theorem vm {h:Nat} {t:Ty} {xs:List t.den}: ∀{cs:List AV} {j:Nat} {a:AV},(fz h t xs cs)[j]? =some a-> ∃d,cs[j]? =some d/\a=fX h t xs d
 |[],_,_,b=>by simp[fz] at b
 |c::r,0,a,b=>by grind [fz]
 |c::r,j+1,a,b=>by simp[fz] at b;simpa using vm b
theorem Cp {h:Nat} {t:Ty} {xs:List t.den}: ∀(cs:List AV),(fz h t xs cs).length=cs.length
 |[]=>rfl
 |c::r=>by simp[fz,Cp r]
theorem bF.sub {S S':Nat->Prop} {σ:Nat->Option Sum} (q: ∀b,S b->S' b) {p:Option (Nat×Nat×Nat)} {r:Row} (h:bF w S σ p r):bF w S' σ p r:=by
 cases r with
 |seq u ys=>
  cases p with
  |none=>exact h
  |some p=>
   obtain⟨b,o,c⟩:=p
   obtain⟨d,e,f,g,k,l,n⟩:=h
   refine⟨d,e,f,g,k,l,fun i x A=> ?_⟩
   obtain⟨cs,hd,v⟩:=n i x A
   exact⟨cs,ax.sub q hd,v⟩
 |box cs=>
  obtain⟨b,o,c,d,e,z,f,g⟩:=h
  refine⟨b,o,c,d,e,z,f,fun j a y=> ?_⟩
  grind [ah.mono]
 |nest t xss m cs=>
  cases p with
  |none=>exact h
  |some p=>
   obtain⟨b,o,c⟩:=p
   obtain⟨d,e,f,g,k,l,n⟩:=h
   refine⟨d,e,f,g,k,l,fun j a y=> ?_⟩
   grind [ah.mono]
theorem cS.sub {S S':Nat->Prop} {σ e:Nat->Option Sum} (d: ∀b,S b->S' b) {p:Option (Nat×Nat×Nat)} {c:Nat->Option (Nat×Nat×Nat)} {t:Ty} {xss:List (List t.den)} {m:Nat} {cs:List AV} (h:cS w S σ p c t xss m cs):cS w S' e p c t xss m cs:=
 cS.bG (.inl d) h
theorem MU (f:Inv B s tmps w ι) {h:Nat} (b2:B.k<=h) {t:Ty} {xs:List t.den} (A:s.heap[h]? =some (some (.seq t xs))):
  Inv B ⟨fz h t xs s.env,(s.heap.map (Option.map (jk h t xs))).set h none⟩ tmps w ι:=by
 have b4:h<s.heap.length:=(aO.1 A).1
 generalize a4:(s.heap.map (Option.map (jk h t xs))).set h none=n
 have U: ∀g I,n[g]? =some (some I)->g≠h/\ ∃r,s.heap[g]? =some (some r)/\I=jk h t xs r:=fun g I z=>by
  subst a4
  by_cases e:g=h
  ·simp_all
  ·refine⟨e,?_⟩
   rw[hw (fU e),ei] at z
   cases S:s.heap[g]? with
   |none=>simp_all
   |some x=>
    cases x<;>simp_all
 have b1: ∀g r,g≠h->s.heap[g]? =some (some r)->n[g]? =some (some (jk h t xs r)):=fun g r e z=>by
  grind
 have b5: ∀r:Row,(jk h t xs r).cells=r.cells:=fun r=>by cases r<;>rfl
 have b6: ∀r:Row,(jk h t xs r).len=r.len:=fun r=>by cases r<;>simp[jk,Row.len,Cp]
 have Z: ∀(g:Nat) (u:Ty) (xss:List (List u.den)) m cs,n[g]? =some (some (.nest u xss m cs))->g≠h/\ ∃J,s.heap[g]? =some (some (.nest u xss m J))/\J.length=cs.length:=fun g u xss m cs z=>by
  obtain⟨G,r,E,e⟩:=U g _ z
  cases r<;>grind [jk,Cp]
 have L: ∀{g b:Nat},aP ι n g b->g≠h/\aP ι s.heap g b:=fun {g b} o=>by
  cases o with
  |out I p W d e=>
   obtain⟨G,r,E,_⟩:=U g I W
   exact⟨G,.out r p E d e⟩
  |aq u xss m cs i p W hi d e=>
   obtain⟨G,J,E,_⟩:=Z g u xss m cs W
   exact⟨G,.aq u xss m J i p E hi d e⟩
 have a1: ∀b,aN w ι s.heap b->aN w ι n b:=fun b y=>⟨y.1,fun g o=>y.2 g (L o).2⟩
 have M: ∀b,dst B.D w ι s.heap b->dst B.D w ι n b:=fun b y=>⟨y.1,a1 b y.2⟩
 have Y: ∀p,ι h=some p->dst B.D w ι n p.1:=fun p d=>by
  refine⟨f.am.own h _ p A d,?_,fun g o=> ?_⟩
  ·have:=f.am.rows h _ A
   rw[d] at this
   exact this.lt
  ·obtain⟨G,a7⟩:=L o
   exact G (f.am.one g h p.1 a7 (.out _ p A d rfl))
 have b9: ∀g,g≠h->sumOf ι n g=sumOf ι s.heap g:=fun g e=>by
  grind [List.getElem?_set_ne,sumOf]
 have b7: ∀{off len:Nat} {l:Sum} {v:Value},sumOf ι s.heap h=some l->off+len<=l.len->br l off len v->ax w (dst B.D w ι n) (.list t) ((xs.drop off).take len) [v]:=
  fun H V a6=>Cl f.am M A Y H V a6
 have b3: ∀l,sumOf ι s.heap h=some l->l.len=xs.length:=fun l H=>by
  rw[bO A] at H
  cases H
  rfl
 have b8: ∀l b o c,sumOf ι s.heap h=some l->l.place=some (b,o,c)->ig w (dst B.D w ι n) b o t xs:=fun l b o c H d=>by
  rw[bO A] at H
  cases H
  simp only at d
  have a0:=f.am.rows h _ A
  rw[d] at a0
  refine⟨Y _ d,a0.lt,fun i x X=> ?_⟩
  obtain⟨cs,hd,S⟩:=mS f.am A d X
  grind [ax.sub]
 refine⟨f.kept,⟨fun g I z=> ?_,fun a2 a3 b a8 a9=>f.am.one a2 a3 b (L a8).2 (L a9).2,fun g b o=>f.am.has g b (L o).2,fun g u xss m cs z=>by
  obtain⟨_,J,E,V⟩:=Z g u xss m cs z
  exact(cS.sub M (f.am.nest g u xss m J E)).gD V⟩,fun b y=>a1 b (f.stay b y),fun g z=> ?_,fun i a b0=> ?_,f.dK.mono (aS _) (fun b y _=>⟨M b y,rfl⟩)⟩
 ·obtain⟨G,r,E,rfl⟩:=U g I z
  have q:=f.am.rows g r E
  cases r with
  |seq u ys=>
   cases d:ι g with
   |none=>rw[d] at q;exact q
   |some p=>
    rw[d] at q
    obtain⟨b,o,c⟩:=p
    obtain⟨K,e,F,N,O,Q,R⟩:=q
    refine⟨K,e,F,N,O,Q,fun i x X=> ?_⟩
    obtain⟨cs,hd,S⟩:=R i x X
    exact⟨cs,ax.sub M hd,S⟩
  |box cs=>
   obtain⟨b,o,c,K,e,d,F,N⟩:=q
   refine⟨b,o,c,K,e,d,F,fun j a a5=> ?_⟩
   grind [vm,qS]
  |nest u xss m cs=>
   cases d:ι g with
   |none=>
    rw[d] at q
    obtain⟨F,rfl⟩:=q
    exact⟨F,rfl⟩
   |some p=>
    rw[d] at q
    obtain⟨b,o,c⟩:=p
    obtain⟨K,e,F,O,Q,R,N⟩:=q
    refine⟨K,e,F,O,Q,R,fun j a a5=> ?_⟩
    grind [vm,qS]
 all_goals grind [Inv.io,id,Trans.trans,vm,Inv.env,qS]
theorem Cq {S:Nat->Prop} {a:AV} {v:Value} (b:ah w S (sumOf ι s.heap) a v):ah w S (sumOf ι s.heap) (mO s a) v:=by
 unfold mO
 split
 ·rename_i h
  split
  ·rename_i t xs e
   obtain⟨g,c,f⟩:=b
   have d:=dA (bk e) c
   subst d
   exact⟨_,c,by simp,f⟩
  ·exact b
 ·exact b
theorem aC.Cr {w:World} {S:Nat->Prop} {σ:Nat->Option Sum} {a x:AV} (h: ∀v,ah w S σ a v->ah w S σ x v): ∀(cs:List AV) (c:Nat) (vs:List Value),cs[c]? =some a->aC w S σ cs vs->aC w S σ (cs.set c x) vs
 |[],_,_,b,_=>by simp at b
 |y::r,0,_,b,⟨v,d,e,f,g⟩=>by
  simp only[vf,ew] at b
  subst b
  exact⟨v,d,e,h v f,g⟩
 |y::r,c+1,_,b,⟨v,d,e,f,g⟩=>⟨v,d,e,f,aC.Cr h r c d (by grind) g⟩
theorem Inv.Cs (c:Inv B s tmps w ι) {t:Nat} {a x:AV} (d:s.env[t]? =some a) (f: ∀v,ah w (dst B.D w ι s.heap) (sumOf ι s.heap) a v->ah w (dst B.D w ι s.heap) (sumOf ι s.heap) x v):Inv B {s with env:=s.env.set t x} tmps w ι:=by
 refine⟨c.kept,c.am,c.stay,c.io,fun i b e=> ?_,c.dK⟩
 grind [Inv.env]
theorem Inv.putEnv (c:Inv B s tmps w ι) {t:Nat} {a:AV} (d:s.env[t]? =some a):Inv B {s with env:=s.env.set t (mO s a)} tmps w ι:=by
 refine⟨c.kept,c.am,c.stay,c.io,fun i b e=> ?_,c.dK⟩
 grind [Inv.env,Cq]
theorem Inv.MV (k:Inv B s tmps w ι) {h c:Nat} {cs:List AV} {a x:AV} (S:s.heap[h]? =some (some (.box cs))) (a0:cs[c]? =some a) (d: ∀v,ah w (dst B.D w ι s.heap) (sumOf ι s.heap) a v->ah w (dst B.D w ι s.heap) (sumOf ι s.heap) x v):
  Inv B (s.setRow h (.box (cs.set c x))) tmps w ι:=by
 have a2:h<s.heap.length:=(aO.1 S).1
 have G:sumOf ι (s.setRow h (.box (cs.set c x))).heap=sumOf ι s.heap:=by
  grind [St.setRow,List.set,bO,Row.cells,Row.len,sumOf,List.getElem?_set_ne]
 have H: ∀g r,(s.setRow h (.box (cs.set c x))).heap[g]? =some (some r)-> ∃l,s.heap[g]? =some (some l)/\(g≠h->r=l)/\(g=h->r= .box (cs.set c x)/\l= .box cs):=fun g r n=>by
  grind [St.setRow,absurd,List.getElem?_set_ne]
 have I: ∀(g:Nat) (u:Ty) (xss:List (List u.den)) m f,(s.setRow h (.box (cs.set c x))).heap[g]? =some (some (.nest u xss m f))->s.heap[g]? =some (some (.nest u xss m f)):=fun g u xss m f n=>by
  grind
 have y: ∀{g b:Nat},aP ι (s.setRow h (.box (cs.set c x))).heap g b->aP ι s.heap g b:=fun {g b} o=>by
  cases o with
  |out r p t q e=>
   obtain⟨l,A,_⟩:=H g r t
   exact .out l p A q e
  |aq u xss m f i p t hi q e=>exact .aq u xss m f i p (I g u xss m f t) hi q e
 have J: ∀b,aN w ι s.heap b->aN w ι (s.setRow h (.box (cs.set c x))).heap b:=fun b d=>⟨d.1,fun g o=>d.2 g (y o)⟩
 have E: ∀b,dst B.D w ι s.heap b->dst B.D w ι (s.setRow h (.box (cs.set c x))).heap b:=fun b d=>⟨d.1,J b d.2⟩
 refine⟨k.kept,⟨fun g r n=> ?_,fun N O b W X=>k.am.one N O b (y W) (y X),fun g b o=>k.am.has g b (y o),fun g u xss m f n=>cS.sub E (k.am.nest g u xss m f (I g u xss m f n))⟩,fun b d=>J b (k.stay b d),fun g n=> ?_,fun i b d=> ?_,k.dK.mono (aS _) (fun b F _=>⟨E b F,rfl⟩)⟩
 ·obtain⟨l,A,Y,Q⟩:=H g r n
  rw[G]
  have U:=k.am.rows g l A
  by_cases e:g=h
  ·obtain⟨rfl,rfl⟩:=Q e
   obtain⟨b,o,K,L,M,q,R,Z⟩:=U
   refine⟨b,o,K,L,M,q,R,fun j z a1=> ?_⟩
   grind [ah.mono]
  grind [bF.sub]
 ·rw[G]
  grind [Inv.io,sumOf,St.setRow,List.set,bO,dy]
 ·obtain⟨v,V,t⟩:=k.env i b d
  rw[G]
  exact⟨v,V,ah.mono (aS _) (fun b F _=>⟨E b F,rfl⟩) _ v (fun _ _=>rfl) t⟩
theorem Inv.setCell (b:Inv B s tmps w ι) {h c:Nat} {cs:List AV} {a:AV} (f:s.heap[h]? =some (some (.box cs))) (d:cs[c]? =some a):
  Inv B (s.setRow h (.box (cs.set c (mO s a)))) tmps w ι:=b.MV f d (fun v e=>Cq e)
end
end Go.Rv
namespace Go.Rv
theorem br.one {q:Sum} {off len:Nat} {v:Value} (h:br q off len v):v.oneCell'=true:=by
 grind [br,Value.oneCell']
section
variable {B : ce} {s : St} {tmps : Array Value} {w : World} {ι : aX}
def dQ (ι:aX) (h:Nat) (q:Nat->Option (Nat×Nat×Nat)):aX:=⟨ι.out,fun x=>if x=h then q else ι.aq x⟩
def dC (q:Nat->Option (Nat×Nat×Nat)) (n b:Nat):Prop:= ∃i p,i<n/\q i=some p/\p.1=b
theorem acd {h:Nat} {r c:Row} {b:Heap} (d:b[h]? =some (some c)) (g:r.cells=c.cells) (i:r.len=c.len) (f:Nat->Option (Nat×Nat×Nat)):
  sumOf (dQ ι h f) (b.set h (some r))=sumOf ι b:=by
 funext x
 have j:h<b.length:=(aO.1 d).1
 by_cases e:x=h
 all_goals simp_all [sumOf,dQ,bh,hw,fU]
theorem Inv.shown {y:ce} {I:Nat->Prop} (z:Inv y s tmps w ι) (Q: ∀b,y.D b->B.D b/\ ¬I b) (d1: ∀b,I b->B.D b) (b4: ∀b,I b->b<w.heap.size/\ ∀g,¬aP ι s.heap g b)
  (c1:Kept B.S0 B.w0 w) (a6: ∀b,B.S0 b->aN w ι s.heap b/\ ¬I b) (d4:y.mI=B.mI) (c0:y.k=B.k) (d2:y.mv=B.mv)
  {h:Nat} {vs:List Value} (G:s.heap[h]? =some (some (.seq .val vs))) (t:Ty) (xss:List (List t.den)) (m:Nat) (cs:List AV) (d:Nat->Option (Nat×Nat×Nat)) (S:xss.length=vs.length)
  (c5: ∀i p,i<xss.length->d i=some p->I p.1)
  (c6: ∀i j a7 a8,i<xss.length->j<xss.length->d i=some a7->d j=some a8->i≠j->a7.1≠a8.1)
  (a1: ∀(j:Nat) a,cs[j]? =some a->xss[m+j]? =some []/\d (m+j)=none)
  (b8: ∀(j:Nat) a,cs[j]? =some a-> ∃v,vs[m+j]? =some v/\ah w (dst y.D w ι s.heap) (sumOf ι s.heap) a v)
  (b7: ∀(i:Nat) xs v,xss[i]? =some xs->vs[i]? =some v->(i<m\/m+cs.length<=i)->br ⟨d i,t.cells,xs.length⟩ 0 xs.length v)
  (c4: ∀(i:Nat) xs,xss[i]? =some xs->bF w (dst y.D w ι s.heap) (sumOf ι s.heap) (d i) (.seq t xs)):
  Inv B (s.setRow h (.nest t xss m cs)) tmps w (dQ ι h d)/\sumOf (dQ ι h d) (s.setRow h (.nest t xss m cs)).heap=sumOf ι s.heap:=by
 have c2:h<s.heap.length:=(aO.1 G).1
 have K:sumOf (dQ ι h d) (s.setRow h (.nest t xss m cs)).heap=sumOf ι s.heap:=acd (r:= .nest t xss m cs) G rfl S d
 have a4:(s.setRow h (.nest t xss m cs)).heap[h]? =some (some (.nest t xss m cs)):=by simp[St.setRow,c2]
 have J: ∀g,g≠h->(s.setRow h (.nest t xss m cs)).heap[g]? =s.heap[g]? :=fun g e=>by
  grind [St.setRow,List.getElem?_set_ne]
 have H: ∀{g b:Nat},aP (dQ ι h d) (s.setRow h (.nest t xss m cs)).heap g b->aP ι s.heap g b\/(g=h/\I b):=fun {g b} o=>by
  cases o with
  |out r p A l e=>
   by_cases f:g=h
   ·subst f
    exact .inl (.out _ p G l e)
   ·rw[J g f] at A
    exact .inl (.out r p A l e)
  |aq u yss n N i p A hi l e=>
   by_cases f:g=h
   ·grind [dQ]
   ·rw[J g f] at A
    simp only[dQ,aG f] at l
    exact .inl (.aq u yss n N i p A hi l e)
 have a5: ∀b,aN w ι s.heap b-> ¬I b->aN w (dQ ι h d) (s.setRow h (.nest t xss m cs)).heap b:=fun b x d3=>by
  refine⟨x.1,fun g o=> ?_⟩
  rcases H o with o|⟨_,hi⟩
  ·exact x.2 g o
  grind
 have a0: ∀b,dst y.D w ι s.heap b->dst B.D w (dQ ι h d) (s.setRow h (.nest t xss m cs)).heap b:=fun b x=>⟨(Q b x.1).1,a5 b x.2 (Q b x.1).2⟩
 have b6: ∀a v,ah w (dst y.D w ι s.heap) (sumOf ι s.heap) a v->ah w (dst B.D w (dQ ι h d) (s.setRow h (.nest t xss m cs)).heap) (sumOf (dQ ι h d) (s.setRow h (.nest t xss m cs)).heap) a v:=fun a v L=>by
  rw[K]
  grind [ah.mono]
 have a3: ∀p r,bF w (dst y.D w ι s.heap) (sumOf ι s.heap) p r->bF w (dst B.D w (dQ ι h d) (s.setRow h (.nest t xss m cs)).heap) (sumOf (dQ ι h d) (s.setRow h (.nest t xss m cs)).heap) p r:=fun p r L=>by
  grind [bF.sub]
 have q:=z.am.rows h _ G
 refine⟨⟨c1,⟨fun g r f=> ?_,fun b1 b2 b V W=> ?_,fun g b o=> ?_,fun g u yss n N f=> ?_⟩,fun b x=>a5 b (a6 b x).1 (a6 b x).2,fun g f=> ?_,fun i a b5=> ?_,z.dK.mono (aS _) (fun b x _=>⟨a0 b x,rfl⟩)⟩,K⟩
 ·by_cases e:g=h
  ·subst e
   rw[a4] at f
   cases f
   show bF w _ _ (ι g) _
   cases l:ι g with
   |none=>
    rw[l] at q
    have q:vs=[]:=q
    subst q
    have E:xss=[]:=kW S
    refine⟨E,?_⟩
    cases cs with
    |nil=>rfl
    |cons a r=>
     obtain⟨F,_⟩:=a1 0 a rfl
     simp_all
   |some p=>
    rw[l] at q
    obtain⟨b,o,c⟩:=p
    obtain⟨M,e,F,Y,b3,Z,O⟩:=q
    refine⟨M,e,F,by grind [Ty.cells],by omega,Z,fun j a b9=> ?_⟩
    obtain⟨v,L,A⟩:=b8 j a b9
    obtain⟨a9,hd,R⟩:=O (m+j) v L
    obtain⟨rfl,X⟩:=hd
    refine⟨v,?_,X,b6 a v A⟩
    have:=R 0 v rfl
    grind [Ty.cells,Nat.add_assoc]
  ·rw[J g e] at f
   exact a3 (ι g) r (z.am.rows g r f)
 ·rcases H V with V|⟨c9,i1⟩<;>rcases H W with W|⟨d0,d5⟩
  ·exact z.am.one b1 b2 b V W
  all_goals simp_all
 ·rcases H o with o|⟨_,hi⟩
  ·exact(Q b (z.am.has g b o)).1
  simp_all
 ·by_cases e:g=h
  ·subst e
   rw[a4] at f
   cases f
   have U:(dQ ι g d).aq g=d:=by simp[dQ]
   rw[U]
   refine⟨a1,fun i xs E hi=> ?_,fun i xs E=>a3 _ _ (c4 i xs E),fun i b o c c8 hi l c3 b0=> ?_,c6⟩
   ·have a2:i<vs.length:=S▸(aO.1 E).1
    have c7:=b7 i xs vs[i] E (bh a2) hi
    cases l:ι g with
    |none=>
     rw[l] at q
     have q:vs=[]:=q
     simp_all
    |some p=>
     rw[l] at q
     obtain⟨b,o,c⟩:=p
     obtain⟨M,e,F,Y,b3,Z,O⟩:=q
     obtain⟨a9,hd,R⟩:=O i vs[i] (bh a2)
     obtain⟨rfl,X⟩:=hd
     refine⟨b,o,c,M,e,vs[i],l,F,?_,c7⟩
     have:=R 0 vs[i] rfl
     grind [Ty.cells]
   ·exact(b4 _ (c5 i c8 hi c3)).2 g (.out _ _ G l b0.symm)
  ·rw[J g e] at f
   have U:(dQ ι h d).aq g=ι.aq g:=by simp[dQ,e]
   rw[U,K]
   exact cS.bG (.inl a0) (z.am.nest g u yss n N f)
 ·obtain⟨F,r,Y⟩:=z.io g (c0▸f)
  rw[K]
  grind
 ·obtain⟨v,L,A⟩:=z.env i a b5
  simp_all
def MW (B:ce) (w:World) (S I:Nat->Prop) (d:B.w0.heap.size<=w.heap.size) (hi: ∀b,I b->b<w.heap.size):ce where
 w0:=w
 S0:=S
 D:=fun b=>B.D b/\ ¬I b
 mI:=B.mI
 k:=B.k
 mv:=B.mv
 new:=fun b c=>⟨B.new b (fu d c),fun h=>oe _ (gz (hi b h) c)⟩
theorem Inv.hidden (q:Inv B s tmps w ι) {h:Nat} {t:Ty} {xss:List (List t.den)} {m:Nat} {cs:List AV} (z:s.heap[h]? =some (some (.nest t xss m cs))):
  ∃(vs:List Value) (hi: ∀b,dC (ι.aq h) xss.length b->b<w.heap.size),vs.length=xss.length/\
   (∀(i:Nat) xs v,xss[i]? =some xs->vs[i]? =some v->(i<m\/m+cs.length<=i)->br ⟨ι.aq h i,t.cells,xs.length⟩ 0 xs.length v)/\
   (∀(j:Nat) a,cs[j]? =some a-> ∃v,vs[m+j]? =some v/\ah w (dst B.D w ι s.heap) (sumOf ι s.heap) a v)/\
   Inv (MW B w (aN w ι (s.setRow h (.seq .val vs)).heap) (dC (ι.aq h) xss.length) q.kept.size hi) (s.setRow h (.seq .val vs)) tmps w ι/\
   sumOf ι (s.setRow h (.seq .val vs)).heap=sumOf ι s.heap/\
   (∀b,dst (fun b=>B.D b/\ ¬dC (ι.aq h) xss.length b) w ι (s.setRow h (.seq .val vs)).heap b↔dst B.D w ι s.heap b)/\
   (∀b,dC (ι.aq h) xss.length b->aN w ι (s.setRow h (.seq .val vs)).heap b)/\
   (∀b,aN w ι s.heap b->aN w ι (s.setRow h (.seq .val vs)).heap b):=by
 have b2:h<s.heap.length:=(aO.1 z).1
 have a5:=q.am.nest h t xss m cs z
 have N:=q.am.rows h _ z
 have U: ∀b,dC (ι.aq h) xss.length b->aP ι s.heap h b:=fun b ⟨i,p,hi,f,e⟩=> .aq t xss m cs i p z hi f e
 have hi: ∀b,dC (ι.aq h) xss.length b->b<w.heap.size:=fun b l=>(U b l).lt q.am
 have b7: ∃vs:List Value,vs.length=xss.length/\
   (∀(i:Nat) xs v,xss[i]? =some xs->vs[i]? =some v->(i<m\/m+cs.length<=i)->br ⟨ι.aq h i,t.cells,xs.length⟩ 0 xs.length v)/\
   (∀(j:Nat) a,cs[j]? =some a-> ∃v,vs[m+j]? =some v/\ah w (dst B.D w ι s.heap) (sumOf ι s.heap) a v)/\
   (∀(S:Nat->Prop) (σ:Nat->Option Sum),bF w S σ (ι h) (.seq .val vs)):=by
  cases f:ι h with
  |none=>
   rw[f] at N
   obtain⟨rfl,rfl⟩:=N
   exact⟨[],rfl,fun i xs v y=>by simp at y,fun j a E=>by simp at E,fun _ _=>rfl⟩
  |some p=>
   rw[f] at N
   obtain⟨b,o,c⟩:=p
   obtain⟨L,e,Q,a3,c2,a4,X⟩:=N
   have a8: ∀i xs v,xss[i]? =some xs->L[o+i]? =some v->(i<m\/m+cs.length<=i)->br ⟨ι.aq h i,t.cells,xs.length⟩ 0 xs.length v:=fun i xs v y H hi=>by
    grind [cS.cell]
   refine⟨(L.toList.drop o).take xss.length,by simp;omega,fun i xs v y H hi=> ?_,fun j a E=> ?_,fun S σ=>⟨L,e,Q,by grind [Ty.cells],by simp;omega,a4,fun i x y=> ?_⟩⟩
   ·grind
   ·obtain⟨v,H,_,k⟩:=X j a E
    have Z:m+j<xss.length:=(aO.1 (a5.hole j a E).1).1
    grind
   ·rw[qq] at y
    split at y
    ·rename_i Z
     rw[mD] at y
     have y:L[o+i]? =some x:=by grind
     refine⟨[x],⟨rfl,?_⟩,fun j v H=> ?_⟩
     ·by_cases b1:i<m\/m+cs.length<=i
      ·exact(a8 i _ x (bh Z) y b1).one
      ·have E:i-m<cs.length:=by omega
       obtain⟨v,H,c1,_⟩:=X (i-m) cs[i-m] (bh E)
       grind
     grind [Ty.cells]
    ·cases y
 obtain⟨vs,b0,b5,b6,c6⟩:=b7
 have b4:(s.setRow h (.seq .val vs)).heap[h]? =some (some (.seq .val vs)):=by simp[St.setRow,b2]
 have G: ∀g,g≠h->(s.setRow h (.seq .val vs)).heap[g]? =s.heap[g]? :=fun g e=>by
  grind [St.setRow,List.getElem?_set_ne]
 have K:sumOf ι (s.setRow h (.seq .val vs)).heap=sumOf ι s.heap:=by
  grind [bO,Row.cells,Row.len,Ty.cells,sumOf]
 have F: ∀{g b:Nat},aP ι (s.setRow h (.seq .val vs)).heap g b->aP ι s.heap g b/\ ¬dC (ι.aq h) xss.length b:=fun {g b} o=>by
  have V:aP ι s.heap g b->(g=h-> ∃p,ι h=some p/\p.1=b)-> ¬dC (ι.aq h) xss.length b:=fun W b3 I=>by
   have:=q.am.one g h b W (U b I)
   obtain⟨p,f,e⟩:=b3 this
   obtain⟨i,c7,c3,c5,c0⟩:=I
   grind [cS.gX]
  cases o with
  |out r p k f e=>
   by_cases d:g=h
   ·subst d
    exact⟨.out _ p z f e,V (.out _ p z f e) fun _=>⟨p,f,e⟩⟩
   ·rw[G g d] at k
    exact⟨.out r p k f e,V (.out r p k f e) fun R=>absurd R d⟩
  |aq u yss n A i p k hi f e=>
   by_cases d:g=h
   ·simp_all
   ·rw[G g d] at k
    exact⟨.aq u yss n A i p k hi f e,V (.aq u yss n A i p k hi f e) fun R=>absurd R d⟩
 have a7: ∀{g b:Nat},aP ι s.heap g b->(∃O,aP ι (s.setRow h (.seq .val vs)).heap O b)\/dC (ι.aq h) xss.length b:=fun {g b} o=>by
  cases o with
  |out r p k f e=>
   by_cases d:g=h
   ·subst d
    exact .inl ⟨g,.out _ p b4 f e⟩
   ·exact .inl ⟨g,.out r p ((G g d).trans k) f e⟩
  |aq u yss n A i p k hi f e=>
   by_cases d:g=h
   ·subst d
    rw[z] at k
    cases k
    exact .inr ⟨i,p,hi,f,e⟩
   ·exact .inl ⟨g,.aq u yss n A i p ((G g d).trans k) hi f e⟩
 have a0: ∀b,aN w ι s.heap b->aN w ι (s.setRow h (.seq .val vs)).heap b:=fun b l=>⟨l.1,fun g o=>l.2 g (F o).1⟩
 have a9: ∀b,dC (ι.aq h) xss.length b->aN w ι (s.setRow h (.seq .val vs)).heap b:=fun b l=>⟨hi b l,fun g o=>(F o).2 l⟩
 have Y: ∀b,dst (fun b=>B.D b/\ ¬dC (ι.aq h) xss.length b) w ι (s.setRow h (.seq .val vs)).heap b↔dst B.D w ι s.heap b:=fun b=>by
  constructor
  ·rintro⟨⟨hd,c4⟩,J⟩
   refine⟨hd,J.1,fun g o=> ?_⟩
   rcases a7 o with⟨O,W⟩|I
   ·exact J.2 O W
   grind
  ·rintro⟨hd,J⟩
   exact⟨⟨hd,fun I=>J.2 h (U b I)⟩,a0 b J⟩
 have M: ∀b,dst B.D w ι s.heap b->dst (fun b=>B.D b/\ ¬dC (ι.aq h) xss.length b) w ι (s.setRow h (.seq .val vs)).heap b:=fun b l=>(Y b).2 l
 refine⟨vs,hi,b0,b5,b6,⟨Kept.refl _ _,⟨fun g r d=> ?_,fun a1 a2 b b8 b9=>q.am.one a1 a2 b (F b8).1 (F b9).1,fun g b o=>⟨q.am.has g b (F o).1,(F o).2⟩,fun g u yss n A d=> ?_⟩,fun b l=>l,fun g d=> ?_,fun i a a6=> ?_,q.dK.mono (aS _) (fun b l _=>⟨M b l,rfl⟩)⟩,K,Y,a9,a0⟩
 ·by_cases e:g=h
  ·simp_all
  ·rw[G g e] at d
   rw[K]
   exact bF.sub M (q.am.rows g r d)
 ·by_cases e:g=h
  ·simp_all
  ·rw[G g e] at d
   rw[K]
   exact cS.sub M (q.am.nest g u yss n A d)
 ·obtain⟨Q,r,a3⟩:=q.io g d
  rw[K]
  refine⟨Q,?_⟩
  grind
 ·obtain⟨v,H,k⟩:=q.env i a a6
  refine⟨v,H,?_⟩
  rw[K]
  exact ah.mono (aS _) (fun b l _=>⟨M b l,rfl⟩) a v (fun _ _=>rfl) k
end
end Go.Rv
namespace Go.Rv
section
variable {B : ce} {s : St} {tmps : Array Value} {w : World} {ι : aX}
def fB (ι:aX) (h g i:Nat):aX:=⟨fun x=>if x=g then ι.aq h i else ι x,fun x j=>if x=h/\j=i then none else ι.aq x j⟩
theorem oQ {b:Type} {l:List b} {i j:Nat} {a x:b} (h:(l.set i a)[j]? =some x):(j=i/\x=a)\/(j≠i/\l[j]? =some x):=by
 grind
theorem Inv.ace (q:Inv B s tmps w ι) {h g i:Nat} {t:Ty} {xss:List (List t.den)} {xs:List t.den} {m:Nat} (L:s.heap[h]? =some (some (.nest t xss m []))) (a0:xss[i]? =some xs) (b2:s.heap[g]? =some none):
  Inv B (gp s h g i t xss xs) tmps w (fB ι h g i)/\
  ∃b o c M e v,ι h=some (b,o,c)/\w.heap[b]? =some (.cells M e (0,0))/\M[o+i]? =some v/\
   ah w (dst B.D w (fB ι h g i) (gp s h g i t xss xs).heap) (sumOf (fB ι h g i) (gp s h g i t xss xs).heap) (.ab g) v:=by
 have e2:h<s.heap.length:=(aO.1 L).1
 have e1:g<s.heap.length:=(aO.1 b2).1
 have e0:h≠g:=fun e=>by simp_all
 have b3:i<xss.length:=(aO.1 a0).1
 have H:=q.am.nest h t xss m [] L
 have Z:(gp s h g i t xss xs).heap[h]? =some (some (.nest t (xss.set i []) i [.ab g])):=by
  grind [gp,St.setRow,List.getElem?_set_ne,List.getElem?_set_self]
 have a7:(gp s h g i t xss xs).heap[g]? =some (some (.seq t xs)):=by
  grind [gp,St.setRow,List.getElem?_set_self]
 have R: ∀x,x≠h->x≠g->(gp s h g i t xss xs).heap[x]? =s.heap[x]? :=fun x a8 a9=>by
  grind [gp,St.setRow,List.getElem?_set_ne]
 have b1:(gp s h g i t xss xs).env=s.env:=rfl
 generalize e5:gp s h g i t xss xs=s' at Z a7 R b1⊢
 have W: ∀x,x≠g->(fB ι h g i) x=ι x:=fun x e=>by simp[fB,e]
 have a6:(fB ι h g i) g=ι.aq h i:=by simp[fB]
 have a4: ∀x,x≠h->(fB ι h g i).aq x=ι.aq x:=fun x e=>by grind [fB]
 have I: ∀j,j≠i->(fB ι h g i).aq h j=ι.aq h j:=fun j e=>by simp[fB,e]
 have b4:(fB ι h g i).aq h i=none:=by simp[fB]
 generalize e6:fB ι h g i=J at W a6 a4 I b4⊢
 have a5: ∀p,ι.aq h i=some p->aP ι s.heap h p.1:=fun p d=> .aq t xss m [] i p L b3 d rfl
 have e3:sumOf ι s.heap g=none:=by simp[sumOf,b2]
 have X: ∀{x b:Nat},aP J s'.heap x b->(x=g/\ ∃p,ι.aq h i=some p/\p.1=b)\/(x≠g/\aP ι s.heap x b/\(∀p,ι.aq h i=some p->p.1≠b)):=fun {x b} o=>by
  have b8: ∀{x b:Nat},aP ι s.heap x b->x≠h-> ∀p,ι.aq h i=some p->p.1≠b:=fun U Q p d e=>
   Q (q.am.one _ h _ U (e▸a5 p d))
  cases o with
  |out r p A d e=>
   by_cases f:x=g
   ·simp_all
   ·rw[W x f] at d
    by_cases k:x=h
    ·subst k
     refine .inr ⟨f,.out _ p L d e,fun a1 Y N=> ?_⟩
     grind [cS.gX]
    ·rw[R x k f] at A
     exact .inr ⟨f,.out r p A d e,b8 (.out r p A d e) k⟩
  |aq u yss n V j p A F d e=>
   by_cases f:x=g
   ·simp_all
   ·by_cases k:x=h
    ·subst k
     rw[Z] at A
     cases A
     have G:j≠i:=fun e=>by simp_all
     rw[I j G] at d
     rw[vg] at F
     exact .inr ⟨f,.aq t xss m [] j p L F d e,fun a1 Y N=>H.sep i j a1 p b3 F Y d (fU G) (N.trans e.symm)⟩
    ·rw[R x k f] at A
     rw[a4 x k] at d
     exact .inr ⟨f,.aq u yss n V j p A F d e,b8 (.aq u yss n V j p A F d e) k⟩
 have b5: ∀b,aN w ι s.heap b->aN w J s'.heap b:=fun b E=>by
  refine⟨E.1,fun x o=> ?_⟩
  rcases X o with⟨_,p,d,e⟩|⟨_,U,_⟩
  ·exact E.2 h (e▸a5 p d)
  ·exact E.2 x U
 have c9: ∀x,x≠g->sumOf J s'.heap x=sumOf ι s.heap x:=fun x e=>by
  grind [bO,Row.cells,Row.len,sumOf]
 have T:Trans w ι s.heap w J s'.heap (fun x=>x≠g):=⟨aS _,fun b E=>⟨b5 b E,rfl⟩,c9⟩
 have c8:sumOf J s'.heap g=some ⟨ι.aq h i,t.cells,xs.length⟩:=by
  rw[bO a7,a6];rfl
 have Q: ∀{a:AV} {v:Value},ah w (dst B.D w ι s.heap) (sumOf ι s.heap) a v-> ∀x,a.refs x=true->x≠g:=fun {a v} a3 x a0 e=>by
  grind [ah.cn]
 obtain⟨b,o,c,M,e,v,d,E,c5,d1⟩:=H.cell i xs a0 (by simp;omega)
 have c4:ah w (dst B.D w J s'.heap) (sumOf J s'.heap) (.ab g) v:=⟨_,c8,d1⟩
 refine⟨⟨q.kept,⟨fun x r z=> ?_,fun c1 c2 b d2 d4=> ?_,fun x b o=> ?_,fun x u yss n V z=> ?_⟩,fun b E=>b5 b (q.stay b E),fun x z=> ?_,fun j a a3=> ?_,T.kd q.dK⟩,b,o,c,M,e,v,d,E,c5,c4⟩
 ·by_cases f:x=g
  ·subst f
   rw[a7] at z
   cases z
   rw[a6]
   exact T.row (fun y l=>by simp[Row.refs] at l) (fun _ _ _ _=>rfl) (H.part i xs a0)
  ·rw[W x f]
   by_cases k:x=h
   ·subst k
    rw[Z] at z
    cases z
    have O:=q.am.rows x _ L
    rw[d] at O⊢
    obtain⟨d6,N,a2,b0,d9,c3,_⟩:=O
    rw[E] at a2
    cases a2
    refine⟨M,e,E,b0,by grind,c3,fun j a F=> ?_⟩
    cases j with
    |zero=>
     grind [br.one]
    |succ j=>simp at F
   ·rw[R x k f] at z
    have O:=q.am.rows x r z
    refine T.row (fun y l e=> ?_) (fun _ _ _ _=>rfl) O
    obtain⟨e9,e4⟩:=O.cn y l
    simp_all
 ·rcases X d2 with⟨a8,b9,S,d7⟩|⟨a8,d3,e7⟩<;>rcases X d4 with⟨a9,c0,K,d8⟩|⟨a9,d5,e8⟩
  ·omega
  ·simp_all
  ·simp_all
  ·exact q.am.one c1 c2 b d3 d5
 ·rcases X o with⟨_,p,Y,N⟩|⟨_,U,_⟩
  ·exact q.am.has h b (N▸a5 p Y)
  ·exact q.am.has x b U
 ·by_cases f:x=g
  ·simp_all
  ·rw[W x f]
   by_cases k:x=h
   ·subst k
    rw[Z] at z
    cases z
    refine⟨fun j a F=> ?_,fun j ys l F=> ?_,fun j ys l=> ?_,fun j b o c a1 F S K=> ?_,fun b6 b7 b9 c0 a2 b0 S K Q=> ?_⟩
    ·cases j<;>simp_all
    ·rcases oQ l with⟨rfl,_⟩|⟨G,l⟩
     ·grind
     ·rw[I j G]
      exact H.cell j ys l (by simp;omega)
    ·rcases oQ l with⟨rfl,rfl⟩|⟨G,l⟩
     ·rw[b4];rfl
     ·rw[I j G]
      exact T.row (fun y l=>by simp[Row.refs] at l) (fun _ _ _ _=>rfl) (H.part j ys l)
    ·have G:j≠i:=fun e=>by simp_all
     rw[I j G] at K
     exact H.gX j b o c a1 (by grind) S K
    ·have c6:b6≠i:=fun e=>by simp_all
     have c7:b7≠i:=fun e=>by simp_all
     rw[I _ c6] at S
     rw[I _ c7] at K
     exact H.sep b6 b7 b9 c0 (by grind) (by grind) S K Q
   ·rw[R x k f] at z
    rw[a4 x k]
    exact T.nest (fun _ _ _ _=>rfl) (fun _ _ _ _ _ _=>rfl) (q.am.nest x u yss n V z)
 ·grind [Inv.io,id,Trans.trans]
 ·rw[b1] at a3
  obtain⟨v,d0,A⟩:=q.env j a a3
  exact⟨v,d0,T.av (Q A) A⟩
end
end Go.Rv
namespace Go.Rv
section
variable {B : ce} {s : St} {tmps : Array Value} {w : World} {ι : aX}
def ki (ι:aX) (h g i:Nat):aX:=⟨ι.out,fun x j=>if x=h/\j=i then ι g else ι.aq x j⟩
theorem Inv.back (f:Inv B s tmps w ι) {h g i:Nat} {t:Ty} {yss:List (List t.den)} {xs:List t.den} (L:s.heap[h]? =some (some (.nest t yss i [.ab g]))) (N:s.heap[g]? =some (some (.seq t xs))) (e5:B.k<=g):
  Inv B (bI s h g i t yss xs) tmps w (ki ι h g i):=by
 have e6:h<s.heap.length:=(aO.1 L).1
 have e3:g<s.heap.length:=(aO.1 N).1
 have a4:h≠g:=fun e=>by simp_all
 have X:=f.am.nest h t yss i _ L
 obtain⟨c4,d7⟩:=X.hole 0 (.ab g) rfl
 simp only[gV] at c4 d7
 have a5:i<yss.length:=(aO.1 c4).1
 have a8:(bI s h g i t yss xs).heap[h]? =some (some (.nest t (yss.set i xs) 0 [])):=by
  grind [bI,St.aQ,List.getElem?_set_ne,List.getElem?_set_self]
 have d8:(bI s h g i t yss xs).heap[g]? =some none:=by
  grind [bI,St.aQ,List.getElem?_set_self]
 have b6: ∀x,x≠h->x≠g->(bI s h g i t yss xs).heap[x]? =(s.heap[x]?).map (Option.map (dl g)):=fun x W b2=>by
  grind [bI,St.aQ,List.getElem?_set_ne]
 have c0:(bI s h g i t yss xs).env=s.env.map (aQ g):=rfl
 generalize e8:bI s h g i t yss xs=s' at a8 d8 b6 c0⊢
 have O: ∀x,(ki ι h g i) x=ι x:=fun x=>rfl
 have b5: ∀x,x≠h->(ki ι h g i).aq x=ι.aq x:=fun x e=>by grind [ki]
 have J: ∀j,j≠i->(ki ι h g i).aq h j=ι.aq h j:=fun j e=>by simp[ki,e]
 have a6:(ki ι h g i).aq h i=ι g:=by simp[ki]
 generalize e9:ki ι h g i=a9 at O b5 J a6⊢
 have a3: ∀x r,x≠h->s'.heap[x]? =some (some r)->x≠g/\ ∃A,s.heap[x]? =some (some A)/\r=dl g A:=fun x r W D=>by
  have G:x≠g:=fun e=>by simp_all
  refine⟨G,?_⟩
  rw[b6 x W G] at D
  cases a2:s.heap[x]? with
  |none=>simp_all
  |some y=>
   cases y<;>simp_all
 have a7: ∀{x b:Nat},aP a9 s'.heap x b->(x=h/\aP ι s.heap g b)\/(x≠g/\aP ι s.heap x b):=fun {x b} o=>by
  cases o with
  |out r p R d e=>
   rw[O x] at d
   by_cases l:x=h
   ·subst l
    exact .inr ⟨a4,.out _ p L d e⟩
   ·obtain⟨G,A,H,_⟩:=a3 x r l R
    exact .inr ⟨G,.out A p H d e⟩
  |aq u b7 n c7 j p R z d e=>
   by_cases l:x=h
   ·subst l
    rw[a8] at R
    cases R
    rw[vg] at z
    by_cases E:j=i
    ·subst E
     rw[a6] at d
     exact .inl ⟨rfl,.out _ p N d e⟩
    ·rw[J j E] at d
     exact .inr ⟨a4,.aq t yss i _ j p L z d e⟩
   ·obtain⟨G,A,H,b4⟩:=a3 x _ l R
    obtain⟨b0,rfl,_⟩:=mW (h:=g) (r:=A) _ _ _ _ b4.symm
    rw[b5 x l] at d
    exact .inr ⟨G,.aq u b7 n b0 j p H z d e⟩
 have c2: ∀b,aN w ι s.heap b->aN w a9 s'.heap b:=fun b I=>by
  refine⟨I.1,fun x o=> ?_⟩
  rcases a7 o with⟨_,S⟩|⟨_,S⟩
  ·exact I.2 g S
  ·exact I.2 x S
 have d9: ∀x,x≠g->sumOf a9 s'.heap x=sumOf ι s.heap x:=fun x e=>by
  by_cases l:x=h
  ·simp_all [bO,Row.cells,Row.len]
  ·simp only[sumOf,b6 x l e,O x]
   cases a2:s.heap[x]? with
   |none=>rfl
   |some y=>
    cases y with
    |none=>rfl
    |some r=>cases r<;>simp[dl,Row.cells,Row.len]
 have T:Trans w ι s.heap w a9 s'.heap (fun x=>x≠g):=⟨aS _,fun b I=>⟨c2 b I,rfl⟩,d9⟩
 have F:=f.am.rows h _ L
 refine⟨f.kept,⟨fun x r D=> ?_,fun c8 c9 b e1 e2=> ?_,fun x b o=> ?_,fun x u b7 n c7 D=> ?_⟩,fun b I=>c2 b (f.stay b I),fun x D=> ?_,fun j a a1=> ?_,T.kd f.dK⟩
 ·rw[O x]
  by_cases l:x=h
  ·subst l
   rw[a8] at D
   cases D
   cases d:ι x with
   |none=>
    rw[d] at F
    rw[F.1] at a5
    simp at a5
   |some p=>
    rw[d] at F
    obtain⟨b,o,c⟩:=p
    obtain⟨b1,e,a0,b3,d0,b9,_⟩:=F
    exact⟨b1,e,a0,b3,by grind,b9,fun j a z=>by simp at z⟩
  ·obtain⟨G,A,H,rfl⟩:=a3 x r l D
   refine T.row (fun y q=> ?_) (fun _ _ _ _=>rfl) (vb (f.am.rows x A H))
   cases A with
   |seq u xs=>simp[dl,Row.refs] at q
   |nest u xss m cs=>exact(kf q).2
   |box cs=>exact(kf q).2
 ·rcases a7 e1 with⟨W,Y⟩|⟨W,Y⟩<;>rcases a7 e2 with⟨b2,Z⟩|⟨b2,Z⟩
  ·omega
  ·exact absurd (f.am.one _ _ b Z Y) b2
  ·exact absurd (f.am.one _ _ b Y Z) W
  ·exact f.am.one c8 c9 b Y Z
 ·rcases a7 o with⟨_,S⟩|⟨_,S⟩<;>exact f.am.has _ b S
 ·by_cases l:x=h
  ·subst l
   rw[a8] at D
   cases D
   rw[O x]
   have e7: ∀b o c U,ι x=some (b,o,c)->ι g=some U->U.1≠b:=fun b o c U d d6 e=>
    f.am.sep g x _ _ U (b,o,c) N L d6 d (fU a4) e
   have e4: ∀j V M,j≠i->j<yss.length->ι.aq x j=some V->ι g=some M->V.1≠M.1:=fun j V M E z Q K e=>
    a4 (f.am.one x g M.1 (.aq t yss i _ j V L z Q e) (.out _ M N K rfl))
   refine⟨fun j a z=>by simp at z,fun j ys q z=> ?_,fun j ys q=> ?_,fun j b o c U z Q K=> ?_,fun c5 c6 V M a0 b3 Q K d5=> ?_⟩
   ·rcases oQ q with⟨rfl,rfl⟩|⟨E,q⟩
    ·rw[a6]
     cases d:ι x with
     |none=>
      rw[d] at F
      rw[F.1] at a5
      simp at a5
     |some p=>
      rw[d] at F
      obtain⟨b,o,c⟩:=p
      obtain⟨b1,e,a0,b3,d0,b9,d1⟩:=F
      obtain⟨v,c3,_,f0,c1,e0⟩:=d1 0 (.ab g) rfl
      rw[bO N] at c1
      cases c1
      exact⟨b,o,c,b1,e,v,rfl,a0,by omega,e0⟩
    ·rw[J j E]
     exact X.cell j ys q (by simp;omega)
   ·rcases oQ q with⟨rfl,rfl⟩|⟨E,q⟩
    ·rw[a6]
     exact T.row (fun y q=>by simp[Row.refs] at q) (fun _ _ _ _=>rfl) (f.am.rows g _ N)
    ·rw[J j E]
     exact T.row (fun y q=>by simp[Row.refs] at q) (fun _ _ _ _=>rfl) (X.part j ys q)
   ·by_cases E:j=i
    ·grind
    ·rw[J j E] at K
     exact X.gX j b o c U (by grind) Q K
   ·by_cases d2:c5=i
    ·grind
    ·rw[J _ d2] at Q
     by_cases d3:c6=i
     ·grind
     ·rw[J _ d3] at K
      exact X.sep c5 c6 V M (by grind) (by grind) Q K d5
  ·obtain⟨G,A,H,b4⟩:=a3 x _ l D
   obtain⟨b0,rfl,d4⟩:=mW (h:=g) (r:=A) _ _ _ _ b4.symm
   rw[O x,b5 x l]
   exact(T.nest (fun _ _ _ _=>rfl) (fun _ _ _ _ _ _=>rfl) (f.am.nest x u b7 n b0 H)).gD d4
 ·grind [Inv.io,id,Trans.trans,dl]
 ·rw[c0,ei] at a1
  cases a2:s.env[j]? with
  |none=>simp_all
  |some b8=>
   rw[a2] at a1
   simp at a1
   obtain⟨v,c3,R⟩:=f.env j b8 a2
   refine⟨v,c3,?_⟩
   subst a1
   rcases oN g b8 with e|e
   ·grind [Trans.av,qL]
   ·rw[e];trivial
end
def kj (t:Ty) (f:Nat) (q:Option (Nat×Nat×Nat)):Option (Nat×Nat×Nat):=q.map fun p=>(p.1,p.2.1+f*t.cells,p.2.2-f)
theorem oR {t:Ty} {f:Nat} {c:Option (Nat×Nat×Nat)} {p:Nat×Nat×Nat} (h:kj t f c=some p): ∃b,c=some b/\b.1=p.1:=by
 cases c with
 |none=>cases h
 |some b=>cases h;simp_all
theorem bF.cut {w:World} {S:Nat->Prop} {σ:Nat->Option Sum} {p:Option (Nat×Nat×Nat)} {t:Ty} {xs:List t.den} {f l:Nat} (h:bF w S σ p (.seq t xs)) (y:f+l<=xs.length):
  bF w S σ (kj t f p) (.seq t ((xs.drop f).take l)):=by
 cases p with
 |none=>
  grind [kj,bF]
 |some q=>
  obtain⟨b,o,c⟩:=q
  obtain⟨d,e,j,k,r,u,m⟩:=h
  show∃d e,w.heap[b]? =some (.cells d e (0,0))/\d.size=(o+f*t.cells)+(c-f)*t.cells/\((xs.drop f).take l).length<=c-f/\c-f<=maxLen/\gW w S t ((xs.drop f).take l) d (o+f*t.cells)
  refine⟨d,e,j,?_,?_,by omega,fun i x g=> ?_⟩
  ·rw[k,kU,<-oq]
   grind
  ·grind
  ·have n:i<l:=by
    grind
   rw[List.getElem?_take_of_lt n,mD] at g
   obtain⟨cs,hd,v⟩:=m (f+i) x g
   grind
theorem br.fC {t:Ty} {d:Option (Nat×Nat×Nat)} {n f l:Nat} {v:Value} (h:br ⟨d,t.cells,n⟩ f l v):br ⟨kj t f d,t.cells,l⟩ 0 l v:=by
 cases d with
 |none=>exact⟨rfl,h.2.1,h.2.2⟩
 |some p=>
  obtain⟨b,o,c⟩:=p
  obtain⟨e,g⟩:=h
  show 0+l<=c-f/\(v= .slice (some ⟨b,o+f*t.cells+0*t.cells,none⟩) l (c-f-0)\/(0=c-f/\ ∃a,v= .slice a 0 0))
  grind
section
variable {B : ce} {s : St} {tmps : Array Value} {w : World} {ι : aX}
def kk (ι:aX) (h g i:Nat) (t:Ty) (f:Nat):aX:=⟨ι.out,fun x j=>if x=h/\j=i then kj t f (ι g) else ι.aq x j⟩
theorem Inv.acf (q:Inv B s tmps w ι) {h g i:Nat} {t:Ty} {yss:List (List t.den)} {xs:List t.den} {f l:Nat} (d5:f+l<=xs.length) (N:s.heap[h]? =some (some (.nest t yss i [.win g f l]))) (Q:s.heap[g]? =some (some (.seq t xs))) (f2:B.k<=g):
  Inv B (bI s h g i t yss ((xs.drop f).take l)) tmps w (kk ι h g i t f):=by
 have f3:h<s.heap.length:=(aO.1 N).1
 have f0:g<s.heap.length:=(aO.1 Q).1
 have a6:h≠g:=fun e=>by simp_all
 have Z:=q.am.nest h t yss i _ N
 obtain⟨c6,e2⟩:=Z.hole 0 (.win g f l) rfl
 simp only[gV] at c6 e2
 have a7:i<yss.length:=(aO.1 c6).1
 have b0:(bI s h g i t yss ((xs.drop f).take l)).heap[h]? =some (some (.nest t (yss.set i ((xs.drop f).take l)) 0 [])):=by
  grind [bI,St.aQ,List.getElem?_set_ne,List.getElem?_set_self]
 have e3:(bI s h g i t yss ((xs.drop f).take l)).heap[g]? =some none:=by
  grind [bI,St.aQ,List.getElem?_set_self]
 have b8: ∀x,x≠h->x≠g->(bI s h g i t yss ((xs.drop f).take l)).heap[x]? =(s.heap[x]?).map (Option.map (dl g)):=fun x Y b4=>by
  grind [bI,St.aQ,List.getElem?_set_ne]
 have c2:(bI s h g i t yss ((xs.drop f).take l)).env=s.env.map (aQ g):=rfl
 generalize f5:bI s h g i t yss ((xs.drop f).take l)=s' at b0 e3 b8 c2⊢
 have R: ∀x,(kk ι h g i t f) x=ι x:=fun x=>rfl
 have b7: ∀x,x≠h->(kk ι h g i t f).aq x=ι.aq x:=fun x e=>by grind [kk]
 have L: ∀j,j≠i->(kk ι h g i t f).aq h j=ι.aq h j:=fun j e=>by simp[kk,e]
 have a8:(kk ι h g i t f).aq h i=kj t f (ι g):=by simp[kk]
 generalize f6:kk ι h g i t f=b1 at R b7 L a8⊢
 have a5: ∀x r,x≠h->s'.heap[x]? =some (some r)->x≠g/\ ∃E,s.heap[x]? =some (some E)/\r=dl g E:=fun x r Y F=>by
  have I:x≠g:=fun e=>by simp_all
  refine⟨I,?_⟩
  rw[b8 x Y I] at F
  cases a4:s.heap[x]? with
  |none=>simp_all
  |some y=>
   cases y<;>simp_all
 have a9: ∀{x b:Nat},aP b1 s'.heap x b->(x=h/\aP ι s.heap g b)\/(x≠g/\aP ι s.heap x b):=fun {x b} o=>by
  cases o with
  |out r p U d e=>
   rw[R x] at d
   by_cases z:x=h
   ·subst z
    exact .inr ⟨a6,.out _ p N d e⟩
   ·obtain⟨I,E,J,_⟩:=a5 x r z U
    exact .inr ⟨I,.out E p J d e⟩
  |aq u b9 n c9 j p U D d e=>
   by_cases z:x=h
   ·subst z
    rw[b0] at U
    cases U
    rw[vg] at D
    by_cases G:j=i
    ·subst G
     rw[a8] at d
     obtain⟨e9,e1,d0⟩:=oR d
     exact .inl ⟨rfl,.out _ e9 Q e1 (d0.trans e)⟩
    ·rw[L j G] at d
     exact .inr ⟨a6,.aq t yss i _ j p N D d e⟩
   ·obtain⟨I,E,J,b6⟩:=a5 x _ z U
    obtain⟨b2,rfl,_⟩:=mW (h:=g) (r:=E) _ _ _ _ b6.symm
    rw[b7 x z] at d
    exact .inr ⟨I,.aq u b9 n b2 j p J D d e⟩
 have c4: ∀b,aN w ι s.heap b->aN w b1 s'.heap b:=fun b K=>by
  refine⟨K.1,fun x o=> ?_⟩
  rcases a9 o with⟨_,V⟩|⟨_,V⟩
  ·exact K.2 g V
  ·exact K.2 x V
 have e4: ∀x,x≠g->sumOf b1 s'.heap x=sumOf ι s.heap x:=fun x e=>by
  by_cases z:x=h
  ·simp_all [bO,Row.cells,Row.len]
  ·simp only[sumOf,b8 x z e,R x]
   cases a4:s.heap[x]? with
   |none=>rfl
   |some y=>
    cases y with
    |none=>rfl
    |some r=>cases r<;>simp[dl,Row.cells,Row.len]
 have T:Trans w ι s.heap w b1 s'.heap (fun x=>x≠g):=⟨aS _,fun b K=>⟨c4 b K,rfl⟩,e4⟩
 have H:=q.am.rows h _ N
 refine⟨q.kept,⟨fun x r F=> ?_,fun d1 d2 b e7 e8=> ?_,fun x b o=> ?_,fun x u b9 n c9 F=> ?_⟩,fun b K=>c4 b (q.stay b K),fun x F=> ?_,fun j a a3=> ?_,T.kd q.dK⟩
 ·rw[R x]
  by_cases z:x=h
  ·subst z
   rw[b0] at F
   cases F
   cases d:ι x with
   |none=>
    rw[d] at H
    rw[H.1] at a7
    simp at a7
   |some p=>
    rw[d] at H
    obtain⟨b,o,c⟩:=p
    obtain⟨b3,e,a2,b5,d3,c1,_⟩:=H
    exact⟨b3,e,a2,b5,by grind,c1,fun j a D=>by simp at D⟩
  ·obtain⟨I,E,J,rfl⟩:=a5 x r z F
   refine T.row (fun y A=> ?_) (fun _ _ _ _=>rfl) (vb (q.am.rows x E J))
   cases E with
   |seq u xs=>simp[dl,Row.refs] at A
   |nest u xss m cs=>exact(kf A).2
   |box cs=>exact(kf A).2
 ·rcases a9 e7 with⟨Y,a0⟩|⟨Y,a0⟩<;>rcases a9 e8 with⟨b4,a1⟩|⟨b4,a1⟩
  ·omega
  ·exact absurd (q.am.one _ _ b a1 a0) b4
  ·exact absurd (q.am.one _ _ b a0 a1) Y
  ·exact q.am.one d1 d2 b a0 a1
 ·rcases a9 o with⟨_,V⟩|⟨_,V⟩<;>exact q.am.has _ b V
 ·by_cases z:x=h
  ·subst z
   rw[b0] at F
   cases F
   rw[R x]
   have f4: ∀b o c W,ι x=some (b,o,c)->ι g=some W->W.1≠b:=fun b o c W d e0 e=>
    q.am.sep g x _ _ W (b,o,c) Q N e0 d (fU a6) e
   have f1: ∀j X O,j≠i->j<yss.length->ι.aq x j=some X->ι g=some O->X.1≠O.1:=fun j X O G D S M e=>
    a6 (q.am.one x g O.1 (.aq t yss i _ j X N D S e) (.out _ O Q M rfl))
   refine⟨fun j a D=>by simp at D,fun j ys A D=> ?_,fun j ys A=> ?_,fun j b o c W D S M=> ?_,fun c7 c8 X O a2 b5 S M d9=> ?_⟩
   ·rcases oQ A with⟨rfl,rfl⟩|⟨G,A⟩
    ·rw[a8]
     cases d:ι x with
     |none=>
      rw[d] at H
      rw[H.1] at a7
      simp at a7
     |some p=>
      rw[d] at H
      obtain⟨b,o,c⟩:=p
      obtain⟨b3,e,a2,b5,d3,c1,d4⟩:=H
      obtain⟨v,c5,_,f7,c3,_,e5⟩:=d4 0 (.win g f l) rfl
      rw[bO Q] at c3
      cases c3
      refine⟨b,o,c,b3,e,v,rfl,a2,by omega,?_⟩
      have e6:((xs.drop f).take l).length=l:=by grind
      rw[e6]
      exact e5.fC
    ·rw[L j G]
     exact Z.cell j ys A (by simp;omega)
   ·rcases oQ A with⟨rfl,rfl⟩|⟨G,A⟩
    ·rw[a8]
     exact T.row (fun y A=>by simp[Row.refs] at A) (fun _ _ _ _=>rfl) ((q.am.rows g _ Q).cut d5)
    ·rw[L j G]
     exact T.row (fun y A=>by simp[Row.refs] at A) (fun _ _ _ _=>rfl) (Z.part j ys A)
   ·by_cases G:j=i
    ·grind [oR]
    ·rw[L j G] at M
     exact Z.gX j b o c W (by grind) S M
   ·by_cases d6:c7=i
    ·grind [oR]
    ·rw[L _ d6] at S
     by_cases d7:c8=i
     ·grind [oR]
     ·rw[L _ d7] at M
      exact Z.sep c7 c8 X O (by grind) (by grind) S M d9
  ·obtain⟨I,E,J,b6⟩:=a5 x _ z F
   obtain⟨b2,rfl,d8⟩:=mW (h:=g) (r:=E) _ _ _ _ b6.symm
   rw[R x,b7 x z]
   exact(T.nest (fun _ _ _ _=>rfl) (fun _ _ _ _ _ _=>rfl) (q.am.nest x u b9 n b2 J)).gD d8
 ·grind [Inv.io,id,Trans.trans,dl]
 ·rw[c2,ei] at a3
  cases a4:s.env[j]? with
  |none=>simp_all
  |some c0=>
   rw[a4] at a3
   simp at a3
   obtain⟨v,c5,U⟩:=q.env j c0 a4
   refine⟨v,c5,?_⟩
   subst a3
   rcases oN g c0 with e|e
   ·grind [Trans.av,qL]
   ·rw[e];trivial
end
end Go.Rv
namespace Go.Rv
section
variable {P : Program} {T : TT} {B : ce} {s : St} {tmps : Array Value} {w : World} {ι : aX}
def St.push (s:St) (a:AV):St:={s with env:=s.env++ [a]}
def oS (s:St) (tmps:Array Value) (v:Value):Array Value:=(tmps.toList.take s.env.length++ [v]).toArray
theorem Inv.MX (h:Inv B s tmps w ι):s.env.length<=tmps.size:=by
 rcases Nat.eq_zero_or_pos s.env.length with e|e
 ·omega
 ·obtain⟨v,b,_⟩:=h.env (s.env.length-1) (s.env[s.env.length-1]'(by omega)) (bh (by omega))
  grind
theorem MY (h:Inv B s tmps w ι) {v:Value} {i:Nat} (hi:i<s.env.length):(oS s tmps v)[i]? =tmps[i]? :=by
 grind [Inv.MX,oS,List.getElem?_append_left]
theorem MZ (h:Inv B s tmps w ι) {v:Value}:(oS s tmps v)[s.env.length]? =some v:=by
 grind [Inv.MX,oS,List.getElem?_append_right]
theorem Inv.push (h:Inv B s tmps w ι) {a:AV} {v:Value} (d:ah w (dst B.D w ι s.heap) (sumOf ι s.heap) a v):Inv B (s.push a) (oS s tmps v) w ι:=by
 refine⟨h.kept,h.am,h.stay,h.io,fun i b c=> ?_,h.dK⟩
 grind [St.push,List.getElem?_append_left,Inv.env,MY,List.getElem?_append_right,List.getElem?_eq_some_iff,MZ]
theorem Inv.pop {d:St} {e:World} {f:aX} {g:ce} (h:Inv B s tmps w ι) {v:Value} (c:Inv g d (oS s tmps v) e f) {E:List AV} {a:AV} (n:d.env=E++ [a]) (k:E.length=s.env.length):
  Inv g {d with env:=E} tmps e f/\ah e (dst g.D e f d.heap) (sumOf f d.heap) a v:=by
 constructor
 ·refine⟨c.kept,c.am,c.stay,c.io,fun i b j=> ?_,c.dK⟩
  have hi:i<s.env.length:=k▸(aO.1 j).1
  obtain⟨u,m,l⟩:=c.env i b (by grind)
  grind [MY]
 ·obtain⟨u,m,l⟩:=c.env s.env.length a (by simp_all)
  grind [MZ]
theorem Inv.Ct (A:Inv B s tmps w ι) {h:Nat} {t:Ty} {xss:List (List t.den)} {m:Nat} {cs:List AV} (N:s.heap[h]? =some (some (.nest t xss m cs))) {x:Heap}
  {hi: ∀b,dC (ι.aq h) xss.length b->b<w.heap.size}
  (a5: ∀b,dst (fun b=>B.D b/\ ¬dC (ι.aq h) xss.length b) w ι x b↔dst B.D w ι s.heap b) (K: ∀b,dC (ι.aq h) xss.length b->aN w ι x b) (Q: ∀b,aN w ι s.heap b->aN w ι x b)
  {u:St} {V:Array Value} {H:World} {E:aX} (k:Inv (MW B w (aN w ι x) (dC (ι.aq h) xss.length) A.kept.size hi) u V H E)
  {vs:List Value} (b1:u.heap[h]? =some (some (.seq .val vs))) (n:List (List t.den)) (q:Nat) (F:List AV) (l:Nat->Option (Nat×Nat×Nat)) (a8:n.length=vs.length)
  (M: ∀i p,i<n.length->l i=some p->ι.aq h i=some p/\i<xss.length)
  (a3: ∀(j:Nat) a,F[j]? =some a->n[q+j]? =some []/\l (q+j)=none)
  (a4: ∀(j:Nat) a,F[j]? =some a-> ∃v,vs[q+j]? =some v/\ah H (dst (fun b=>B.D b/\ ¬dC (ι.aq h) xss.length b) H E u.heap) (sumOf E u.heap) a v)
  (a2: ∀(i:Nat) xs v,n[i]? =some xs->vs[i]? =some v->(i<q\/q+F.length<=i)->br ⟨l i,t.cells,xs.length⟩ 0 xs.length v)
  (b0: ∀(i:Nat) xs,n[i]? =some xs->(l i=none/\xs=[])\/(xss[i]? =some xs/\l i=ι.aq h i)):
  Inv B (u.setRow h (.nest t n q F)) V H (dQ E h l)/\sumOf (dQ E h l) (u.setRow h (.nest t n q F)).heap=sumOf E u.heap:=by
 have O:=A.am.nest h t xss m cs N
 have T:Trans w ι x H E u.heap (fun _=>False):=⟨k.kept.size,fun b d=>⟨k.stay b d,k.kept.block b d⟩,fun _ a6=>a6.elim⟩
 have a7: ∀i p,i<n.length->l i=some p->dC (ι.aq h) xss.length p.1:=fun i p hi L=>by
  obtain⟨y,z⟩:=M i p hi L
  exact⟨i,p,z,y,rfl⟩
 refine k.shown (B:=B) (I:=dC (ι.aq h) xss.length) (fun b d=>d) (fun b ⟨i,p,y,z,e⟩=>A.am.has h b (.aq t xss m cs i p N y z e))
  (fun b d=>⟨(k.stay b (K b d)).1,(k.stay b (K b d)).2⟩) (A.kept.trans k.kept fun b d=>Q b (A.stay b d))
  (fun b d=>⟨k.stay b (Q b (A.stay b d)),fun⟨i,p,y,z,e⟩=>(A.stay b d).2 h (.aq t xss m cs i p N y z e)⟩) rfl rfl rfl b1 t n q F l a8 a7 ?_ a3 a4 a2 ?_
 ·intro i j S U y z G a0 a9
  obtain⟨W,Y⟩:=M i S y G
  obtain⟨X,Z⟩:=M j U z a0
  exact O.sep i j S U Y Z W X a9
 ·intro i xs b2
  rcases b0 i xs b2 with⟨G,rfl⟩|⟨R,G⟩
  ·rw[G];rfl
  ·rw[G]
   have a1:bF w (dst (fun b=>B.D b/\ ¬dC (ι.aq h) xss.length b) w ι x) (sumOf ι x) (ι.aq h i) (.seq t xs):=
    bF.bG (f:=id) (r:= .seq t xs) (.inl fun b d=>(a5 b).2 d) (fun g J=>by simp[Row.refs] at J) (O.part i xs R)
   exact T.row (fun g J=>by simp[Row.refs] at J) (fun b o c L=>k.kept.block b (K b ⟨i,(b,o,c),(aO.1 R).1,L,rfl⟩)) a1
theorem acg (u:bP P T) (q:Inv B s tmps w ι) {ty:TypeId} {k:TI} (f:T ty=some k) (E:cG k.kind=false) {h g i:Nat} {t:Ty} {xss:List (List t.den)} {xs:List t.den} {m:Nat}
  (n:s.heap[h]? =some (some (.nest t xss m []))) (H:xss[i]? =some xs) (z:s.heap[g]? =some none) {p:Value} (F:ah w (dst B.D w ι s.heap) (sumOf ι s.heap) (.bU h i 0) p):
  ∃v,Inv B (gp s h g i t xss xs) tmps w (fB ι h g i)/\ah w (dst B.D w (fB ι h g i) (gp s h g i t xss xs).heap) (sumOf (fB ι h g i) (gp s h g i t xss xs).heap) (.ab g) v/\
   (loadAt ty p).run P w= .ok v w:=by
 obtain⟨R,b,o,c,M,e,v,G,S,U,x⟩:=q.ace n H z
 have f:=u ty k f
 obtain⟨Y,J,X,L,l,d,V,rfl⟩:=F
 rw[bO n] at l
 cases l
 simp only at d
 rw[G] at d
 cases d
 obtain⟨I,v1,N,O,Q⟩:=ln (β:=AV) (K:=some) (r:= .ab g) (as:=[.ab g]) (cs:=[v]) (b:=b) (o:=o+i) (off:=0) f (by simp[E]) ⟨v,[],rfl,x,rfl⟩ (by
  intro j y W
  have A:j=0:=by
   grind
  subst A
  grind [jm])
 grind [Row.cells,loadAt,sureAddr,Sem.run_bind]
theorem M0 {c:Type} (l:List c) (i:Nat) (a b:c):(l.set i a).set i b=l.set i b:=by
 simp
theorem ach (L:bP P T) (q:Inv B s tmps w ι) {ty:TypeId} {n:TI} (a8:T ty=some n) (a4:cG n.kind=false) (a7:n.size=1) {h g i:Nat} {t:Ty} {xss:List (List t.den)} {xs:List t.den} {m:Nat} {cs:List AV}
  (l:s.heap[h]? =some (some (.nest t xss m cs))) (a0:s.heap[g]? =some (some (.seq t xs))) (O:B.k<=g) (a3:cs.length=0\/(cs.length=1/\m=i)) (a2:i<xss.length)
  {z c:Value} (u:ah w (dst B.D w ι s.heap) (sumOf ι s.heap) (.bU h i 0) z) (y:ah w (dst B.D w ι s.heap) (sumOf ι s.heap) (.ab g) c):
  ∃w' A,Inv B (bI s h g i t xss xs) tmps w' A/\(storeAt ty z c).run P w= .ok () w':=by
 have f:h<s.heap.length:=(aO.1 l).1
 have a1:g≠h:=fun e=>by simp_all
 obtain⟨vs,hi,Q,a9,b0,o,V,M,N,U⟩:=q.hidden l
 have b2:c.oneCell'=true:=by
  obtain⟨b3,_,W⟩:=y
  exact W.one
 have x: ∀a v,ah w (dst B.D w ι s.heap) (sumOf ι s.heap) a v->ah w (dst (fun b=>B.D b/\ ¬dC (ι.aq h) xss.length b) w ι (s.setRow h (.seq .val vs)).heap) (sumOf ι (s.setRow h (.seq .val vs)).heap) a v:=fun a v Z=>by
  rw[V]
  grind [ah.mono]
 have F:=o.push (x _ _ y)
 have a5:((s.setRow h (.seq .val vs)).push (.ab g)).row h=some (.seq .val vs):=by
  simp[St.row,St.push,St.setRow,f]
 obtain⟨b4,w',A,S,J,a6⟩:=BZ (K:=some) (r:=((s.setRow h (.seq .val vs)).push (.ab g)).setRow h (.seq .val (vs.set i c))) L F (t:=ty) (p:= .bU h i 0) (v:= .raw c) (by
  grind [fe,eH,Ty.cells]) (x _ _ u) rfl
 cases S
 obtain⟨G,H⟩:=o.pop J (E:=s.env) (a:= .ab g) rfl rfl
 have R:({(((s.setRow h (.seq .val vs)).push (.ab g)).setRow h (.seq .val (vs.set i c))) with env:=s.env}:St).heap[h]? =some (some (.seq .val (vs.set i c))):=by
  simp[St.setRow,St.push,f]
 obtain⟨I,_⟩:=q.Ct l M N U G R (xss.set i []) i [.ab g] (fun j=>if j=i then none else if cs.length=1/\m=j then none else ι.aq h j) (by simp[Q]) (fun j p d u=>by
   simp_all)
  (fun j a d=>by
   cases j<;>simp_all)
  (fun j a d=>by
   cases j with
   |zero=>
    simp at d
    subst d
    exact⟨c,by simp_all,H⟩
   |succ j=>simp at d)
  (fun j ys v X b1 d=>by
   grind)
  (fun j ys X=>by
   grind)
 have Y:=I.back (h:=h) (g:=g) (i:=i) (t:=t) (yss:=xss.set i []) (xs:=xs) (by simp[St.setRow,St.push,f]) (by
  grind [St.setRow,St.push,List.getElem?_set_ne]) O
 grind [bI,St.setRow,List.set,St.aQ,St.push,List.map_set,List.set_set,M0]
theorem aci (O:bP P T) (y:Inv B s tmps w ι) {ty:TypeId} {u:TI} (b4:T ty=some u) (b0:cG u.kind=false) (b3:u.size=1) {h g i:Nat} {t:Ty} {xss:List (List t.den)} {xs:List t.den} {m f l:Nat} {cs:List AV}
  (o:s.heap[h]? =some (some (.nest t xss m cs))) (S:s.heap[g]? =some (some (.seq t xs))) (V:B.k<=g) (a9:cs.length=0\/(cs.length=1/\m=i)) (a8:i<xss.length)
  {G c:Value} (z:ah w (dst B.D w ι s.heap) (sumOf ι s.heap) (.bU h i 0) G) (q:ah w (dst B.D w ι s.heap) (sumOf ι s.heap) (.win g f l) c):
  ∃w' H,Inv B (bI s h g i t xss ((xs.drop f).take l)) tmps w' H/\(storeAt ty G c).run P w= .ok () w':=by
 have n:h<s.heap.length:=(aO.1 o).1
 have a7:g≠h:=fun e=>by simp_all
 obtain⟨vs,hi,X,b5,b6,x,a1,Q,U,a0⟩:=y.hidden o
 have R:f+l<=xs.length:=by
  obtain⟨a4,A,W,_⟩:=q
  rw[bO S] at A
  cases A
  exact W
 have b8:c.oneCell'=true:=by
  obtain⟨a4,_,_,a2⟩:=q
  exact a2.one
 have F: ∀a v,ah w (dst B.D w ι s.heap) (sumOf ι s.heap) a v->ah w (dst (fun b=>B.D b/\ ¬dC (ι.aq h) xss.length b) w ι (s.setRow h (.seq .val vs)).heap) (sumOf ι (s.setRow h (.seq .val vs)).heap) a v:=fun a v a6=>by
  rw[a1]
  grind [ah.mono]
 have I:=x.push (F _ _ q)
 have b1:((s.setRow h (.seq .val vs)).push (.win g f l)).row h=some (.seq .val vs):=by
  simp[St.row,St.push,St.setRow,n]
 obtain⟨b9,w',H,Z,N,b2⟩:=BZ (K:=some) (r:=((s.setRow h (.seq .val vs)).push (.win g f l)).setRow h (.seq .val (vs.set i c))) O I (t:=ty) (p:= .bU h i 0) (v:= .raw c) (by
  grind [fe,eH,Ty.cells]) (F _ _ z) rfl
 cases Z
 obtain⟨J,L⟩:=x.pop N (E:=s.env) (a:= .win g f l) rfl rfl
 have Y:({(((s.setRow h (.seq .val vs)).push (.win g f l)).setRow h (.seq .val (vs.set i c))) with env:=s.env}:St).heap[h]? =some (some (.seq .val (vs.set i c))):=by
  simp[St.setRow,St.push,n]
 obtain⟨M,_⟩:=y.Ct o Q U a0 J Y (xss.set i []) i [.win g f l] (fun j=>if j=i then none else if cs.length=1/\m=j then none else ι.aq h j) (by simp[X]) (fun j p d z=>by
   simp_all)
  (fun j a d=>by
   cases j<;>simp_all)
  (fun j a d=>by
   cases j with
   |zero=>
    simp at d
    subst d
    exact⟨c,by simp_all,L⟩
   |succ j=>simp at d)
  (fun j ys v a3 b7 d=>by
   grind)
  (fun j ys a3=>by
   grind)
 have a5:=M.acf (h:=h) (g:=g) (i:=i) (t:=t) (yss:=xss.set i []) (xs:=xs) (f:=f) (l:=l) R (by simp[St.setRow,St.push,n]) (by
  grind [St.setRow,St.push,List.getElem?_set_ne]) V
 have e:bI s h g i t xss ((xs.drop f).take l)=bI (({(((s.setRow h (.seq .val vs)).push (.win g f l)).setRow h (.seq .val (vs.set i c))) with env:=s.env}:St).setRow h (.nest t (xss.set i []) i [.win g f l])) h g i t (xss.set i []) ((xs.drop f).take l):=by
  simp only[bI,St.aQ,St.setRow,St.push,vh,List.set_set,M0]
 grind
end
end Go.Rv
namespace Go.Rv
section
variable {P : Program} {T : TT} {B : ce} {s : St} {tmps : Array Value} {w : World} {ι : aX}
theorem M1 (i:Inv B s tmps w ι) {y g:Nat} (h:s.heap[y]? =some (some (.box [.ab g]))) {vy:Value} (f:ah w (dst B.D w ι s.heap) (sumOf ι s.heap) (.ab y) vy):
  ∃v a c b o,vy= .slice a 1 c/\a=some ⟨b,o,none⟩/\w.cell? ⟨b,o,none⟩=some v/\v.oneCell'=true/\ah w (dst B.D w ι s.heap) (sumOf ι s.heap) (.ab g) v:=by
 obtain⟨r,d,q⟩:=f
 rw[bO h] at d
 cases d
 obtain⟨b,o,c,k,e,n,m,j⟩:=i.am.rows y _ h
 obtain⟨v,f,l,p⟩:=j 0 (.ab g) rfl
 grind [br,Row.len,List.length_singleton,Row.cells,jm]
theorem acj (a0:bP P T) (G:Inv B s tmps w ι) {K ty:TypeId} {z:TI} (a3:elemOf T K=some z) (b6:z.size=1) (a1:z.bytes<=128) (c3:z.zero.length=1) {h y g:Nat} {t:Ty} {xss:List (List t.den)} {xs:List t.den} {m:Nat}
  (q:s.heap[h]? =some (some (.nest t xss m []))) (c1:s.heap[y]? =some (some (.box [.ab g]))) (a5:s.heap[g]? =some (some (.seq t xs))) (a7:B.k<=g) (a8:B.k<=h) (d1:room (xss.length+1)=some ())
  {vx vy:Value} (l:ah w (dst B.D w ι s.heap) (sumOf ι s.heap) (.ab h) vx) (c0:ah w (dst B.D w ι s.heap) (sumOf ι s.heap) (.ab y) vy):
  ∃v w' A,(append_ #[K,K] ty #[vx,vy]).run P w= .ok v w'/\Inv B (bI (s.aQ h) h g xss.length t (xss++ [[]]) xs) tmps w' A/\
   ah w' (dst B.D w' A (bI (s.aQ h) h g xss.length t (xss++ [[]]) xs).heap) (sumOf A (bI (s.aQ h) h g xss.length t (xss++ [[]]) xs).heap) (.ab h) v:=by
 have I:h<s.heap.length:=(aO.1 q).1
 have H:g≠h:=fun e=>by simp_all
 obtain⟨vs,hi,a9,d4,d5,M,b5,a2,a6,b4⟩:=G.hidden q
 have b7: ∀a v,ah w (dst B.D w ι s.heap) (sumOf ι s.heap) a v->ah w (dst (fun b=>B.D b/\ ¬dC (ι.aq h) xss.length b) w ι (s.setRow h (.seq .val vs)).heap) (sumOf ι (s.setRow h (.seq .val vs)).heap) a v:=fun a v c8=>by
  rw[b5]
  grind [ah.mono]
 obtain⟨f,c4,cy,L,U,rfl,rfl,c9,b9,b8⟩:=M1 G c1 c0
 have N:=M.push (b7 _ _ b8)
 have Q:((s.setRow h (.seq .val vs)).push (.ab g)).heap[h]? =some (some (.seq .val vs)):=by
  simp[St.push,St.setRow,I]
 have J:=N.am.rows h _ Q
 have R:br ⟨ι h,Ty.cells .val,vs.length⟩ 0 vs.length vx:=by
  obtain⟨d7,b0,R⟩:=l
  rw[bO q] at b0
  grind [Row.cells,Row.len,Ty.cells]
 obtain⟨d8,w',p,d2,a4⟩:=qK (ty:=ty) (place:=ι h) (S:=dst (fun b=>B.D b/\ ¬dC (ι.aq h) xss.length b) w ι (s.setRow h (.seq .val vs)).heap) a0 a3 (u:= .val) (by simp[Ty.cells,b6]) (by omega) a1 (by simp[Ty.cells,c3]) (zs:=vs) (ys:=[f]) (by simp_all) (Cm J R)
  (vy:= .slice (some ⟨L,U,none⟩) 1 cy) ⟨_,cy,rfl,.inr ⟨L,U,rfl,fun i x l=>by
   cases i with
   |zero=>
    simp at l
    subst l
    refine⟨[f],⟨rfl,b9⟩,fun j v d=> ?_⟩
    cases j<;>simp_all
   |succ i=>simp at l⟩⟩
 obtain⟨A,Y,Z⟩:=vc N Q (.inl a8) (u:= .val) (zs:=vs) (ys:=[f]) (fun b o c n=>⟨o,c,n⟩) (fun b o c n=>by
  rw[n] at J
  obtain⟨c5,e,_,_,_,F,_⟩:=J
  exact F) a4
 have b2:aQ h (.ab g)= .ab g:=by
  grind [aQ,AV.refs]
 obtain⟨O,F⟩:=M.pop Y (E:=s.env.map (aQ h)) (a:= .ab g) (by simp[St.aQ,St.push,St.setRow,b2]) (by simp[St.setRow])
 have V:=O.push Z
 have b1:(({((((s.setRow h (.seq .val vs)).push (.ab g)).aQ h).setRow h (.seq .val (vs++ [f]))) with env:=s.env.map (aQ h)}:St).push (.ab h)).heap[h]? =some (some (.seq .val (vs++ [f]))):=by
  simp[St.setRow,St.push,St.aQ,I]
 obtain⟨W,d3⟩:=G.Ct q a2 a6 b4 V b1 (xss++ [[]]) xss.length [.ab g] (fun j=>if j<xss.length then ι.aq h j else none) (by simp[a9]) (fun j p d n=>by
   simp_all)
  (fun j a d=>by
   cases j<;>simp_all)
  (fun j a d=>by
   cases j with
   |zero=>
    simp at d
    subst d
    refine⟨f,?_,F⟩
    simp_all
   |succ j=>simp at d)
  (fun j ys v c2 d6 d=>by
   grind)
  (fun j ys c2=>by
   grind)
 have X:=W.back (h:=h) (g:=g) (i:=xss.length) (t:=t) (yss:=xss++ [[]]) (xs:=xs) (by simp[St.setRow,St.push,St.aQ,I]) (by
  simp only[St.setRow,St.push,St.aQ]
  rw[hw (fU H),hw (fU H),ei,hw (fU H),a5]
  rfl) a7
 have b3:aQ g (.ab h)= .ab h:=by
  grind [aQ,AV.refs]
 obtain⟨c6,c7⟩:=O.pop X (E:=(s.env.map (aQ h)).map (aQ g)) (a:= .ab h) (by simp[bI,St.aQ,St.push,St.setRow,b3]) (by simp)
 have d0: ∀r:Row,dl h (.seq .val vs)= .seq .val vs:=fun _=>rfl
 grind [bI,St.aQ,List.length,St.setRow,aQ,St.push,List.map_set,List.set_set]
end
end Go.Rv
namespace Go.Rv
section
variable {P : Program} {T : TT} {B : ce} {s : St} {tmps : Array Value} {w : World} {ι : aX}
theorem Inv.qU (e:Inv B s tmps w ι) {h:Nat} {vs:List Value} (l:s.heap[h]? =some (some (.seq .val vs))) (t:Ty) (m:Nat) (cs:List AV)
  (k: ∀(j:Nat) a,cs[j]? =some a-> ∃v,vs[m+j]? =some v/\ah w (dst B.D w ι s.heap) (sumOf ι s.heap) a v)
  (g: ∀(i:Nat) v,vs[i]? =some v->(i<m\/m+cs.length<=i)-> ∃a,v= .slice a 0 0):
  Inv B (s.setRow h (.nest t (replicate vs.length []) m cs)) tmps w (dQ ι h fun _=>none)/\sumOf (dQ ι h fun _=>none) (s.setRow h (.nest t (replicate vs.length []) m cs)).heap=sumOf ι s.heap:=by
 refine e.shown (B:=B) (I:=fun _=>False) (fun b d=>⟨d,fun h=>h⟩) (fun b d=>d.elim) (fun b d=>d.elim) e.kept (fun b d=>⟨e.stay b d,fun h=>h⟩) rfl rfl rfl l t (replicate vs.length []) m cs (fun _=>none) (by simp)
  (fun i p _ f=>by cases f) (fun i j q r _ _ f=>by cases f) (fun j a o=> ?_) k (fun i xs v c n hi=> ?_) (fun i xs c=> ?_)
 ·grind
 ·obtain⟨a,rfl⟩:=g i v n hi
  rw[vi] at c
  split at c
  ·cases c
   exact⟨rfl,rfl,a,rfl⟩
  ·cases c
 ·rw[vi] at c
  split at c
  ·cases c;rfl
  ·cases c
theorem ack (r:bP P T) (q:Inv B s tmps w ι) {l:TypeId} {d:TI} (y:elemOf T l=some d) {k1 k2:IntKind} {n m:Int} {b:Nat} (F:mk n m=some b)
  (G:d.size=1) (x:d.bytes<=128) (H:el .val d.zero=true) {base:Nat} (k:s.heap[base]? =some none) (t:Ty):
  ∃v w' f,(Instr.makeSlice l (.int k1 n) (.int k2 m)).run P w= .ok v w'/\Inv B (s.setRow base (.nest t (replicate b []) 0 [])) tmps w' f/\
   ah w' (dst B.D w' f (s.setRow base (.nest t (replicate b []) 0 [])).heap) (sumOf f (s.setRow base (.nest t (replicate b []) 0 [])).heap) (.ab base) v:=by
 have A:base<s.heap.length:=(aO.1 k).1
 obtain⟨v,w',f,K,g,p⟩:=ML r q y (u:= .val) (k1:=k1) (k2:=k2) F (by simp[Ty.cells,G]) (by omega) x H k
 obtain⟨o,L⟩:=(g.push p).qU (h:=base) (vs:=replicate b (Ty.zero .val)) (by simp[St.push,St.setRow,A]) t 0 [] (fun j a z=>by simp at z) (fun i v c _=>by
  rw[vi] at c
  split at c
  ·cases c;exact⟨none,rfl⟩
  ·cases c)
 obtain⟨I,J⟩:=g.pop o (E:=s.env) (a:= .ab base) rfl rfl
 have e:s.setRow base (.nest t (replicate b []) 0 [])={(((s.setRow base (.seq .val (replicate b (Ty.zero .val)))).push (.ab base)).setRow base (.nest t (replicate (replicate b (Ty.zero .val)).length []) 0 [])) with env:=s.env}:=by
  simp[St.setRow,St.push]
 grind
theorem acl (q:bP P T) (p:Inv B s tmps w ι) {k:TypeId} {g:TI} (r:elemOf T k=some g) (z:g.size=1) {base:Nat} (f:s.heap[base]? =some none) (t:Ty):
  ∃v w' b,(Instr.buildSlice k 0 #[]).run P w= .ok v w'/\Inv B (s.setRow base (.nest t [] 0 [])) tmps w' b/\
   ah w' (dst B.D w' b (s.setRow base (.nest t [] 0 [])).heap) (sumOf b (s.setRow base (.nest t [] 0 [])).heap) (.ab base) v:=by
 have y:base<s.heap.length:=(aO.1 f).1
 obtain⟨v,w',b,H,d,o⟩:=MK q p r (u:= .val) (n:=0) (l:=[]) (xs:=[]) rfl rfl (by omega) (by simp[Ty.cells,z]) (by omega) (by omega) f (vs:=[]) rfl (fun j x c=>by simp at c)
 obtain⟨m,I⟩:=(d.push o).qU (h:=base) (vs:=[]) (by simp[St.push,St.setRow,y]) t 0 [] (fun j a c=>by simp at c) (fun i v A _=>by simp at A)
 obtain⟨F,G⟩:=d.pop m (E:=s.env) (a:= .ab base) rfl rfl
 have e:s.setRow base (.nest t [] 0 [])={(((s.setRow base (.seq .val [])).push (.ab base)).setRow base (.nest t (replicate (@List.nil Value).length []) 0 [])) with env:=s.env}:=by
  simp[St.setRow,St.push]
 grind
theorem acm (m:Inv B s tmps w ι) {base:Nat} (f:s.heap[base]? =some none) {v:Value} (b:ah w (dst B.D w ι s.heap) (sumOf ι s.heap) .aM v) (t:Ty):
  ∃c,Inv B (s.setRow base (.nest t [] 0 [])) tmps w c/\
   ah w (dst B.D w c (s.setRow base (.nest t [] 0 [])).heap) (sumOf c (s.setRow base (.nest t [] 0 [])).heap) (.ab base) v:=by
 have g:base<s.heap.length:=(aO.1 f).1
 have d:=m.B1 f .val
 have l:ah w (dst B.D w (bz ι base none) (s.setRow base (.seq .val [])).heap) (sumOf (bz ι base none) (s.setRow base (.seq .val [])).heap) (.ab base) v:=by
  refine⟨_,iu g,?_⟩
  obtain⟨p,o⟩:=b
  exact⟨rfl,rfl,p,o⟩
 obtain⟨k,u⟩:=(d.push l).qU (h:=base) (vs:=[]) (by simp[St.push,St.setRow,g]) t 0 [] (fun j a n=>by simp at n) (fun i v b _=>by simp at b)
 obtain⟨q,r⟩:=d.pop k (E:=s.env) (a:= .ab base) rfl rfl
 have e:s.setRow base (.nest t [] 0 [])={(((s.setRow base (.seq .val [])).push (.ab base)).setRow base (.nest t (replicate (@List.nil Value).length []) 0 [])) with env:=s.env}:=by
  simp[St.setRow,St.push]
 grind
theorem M2 (m:bP P T) (d:Inv B s tmps w ι) {i:TypeId} {h:TI} (o:elemOf T i=some h) (t:h.size=1) {base g:Nat} (f:s.heap[base]? =some none)
  {v:Value} (y:ah w (dst B.D w ι s.heap) (sumOf ι s.heap) (.ab g) v):
  ∃k w' c,(Instr.buildSlice i 1 #[(0,v)]).run P w= .ok k w'/\Inv B (s.setRow base (.box [.ab g])) tmps w' c/\
   ah w' (dst B.D w' c (s.setRow base (.box [.ab g])).heap) (sumOf c (s.setRow base (.box [.ab g])).heap) (.ab base) k:=by
 have p:base<s.heap.length:=(aO.1 f).1
 have z:v.oneCell'=true:=by
  obtain⟨J,_,A⟩:=y
  exact A.one
 obtain⟨e,out,I,F,r,q⟩:=B4 (s:=s) m d o (u:= .val) (n:=1) (l:=[(0,.raw v)]) (xs:=[v]) (by simp[jW,qx,eH,z]) rfl (by omega) (by simp[Ty.cells,t]) (by omega) (by omega) (vs:=[(0,v)]) rfl (fun j x b=>by
  cases j with
  |zero=>simp at b;subst b;exact⟨v,rfl,rfl⟩
  |succ j=>simp at b)
 have G:out[0]? =some v:=by
  obtain⟨cs,⟨rfl,_⟩,E⟩:=r 0 v rfl
  simp_all
 refine⟨_,_,_,q,d.alloc f (.box [.ab g]) rfl out e (some (w.heap.size,0,1)) (.inr ⟨0,1,rfl⟩) fun H=> ?_,_,iu p,?_⟩
 ·refine⟨w.heap.size,0,1,out,e,rfl,qr w _,fun j a b=> ?_⟩
  cases j with
  |zero=>
   grind [Trans.av,MF]
  |succ j=>simp at b
 ·exact⟨by simp[Row.len],.inl (by simp[Row.len,Row.cells])⟩
end
end Go.Rv
namespace Go.Rv
section
variable {P : Program} {T : TT} {B : ce} {s : St} {tmps : Array Value} {w : World} {ι : aX}
theorem acn (U:bP P T) (n:Inv B s tmps w ι) {q ty:TypeId} {m:TI} (a0:elemOf T q=some m) (a9:m.size=1) (W:m.bytes<=128) (b5:m.zero.length=1) {base y g:Nat} {t:Ty} {xs:List t.den}
  (a2:s.heap[base]? =some none) (b4:s.heap[y]? =some (some (.box [.ab g]))) (b9:s.heap[g]? =some (some (.seq t xs))) (a3:B.k<=g)
  {vx vy:Value} (f:ah w (dst B.D w ι s.heap) (sumOf ι s.heap) .aM vx) (b3:ah w (dst B.D w ι s.heap) (sumOf ι s.heap) (.ab y) vy):
  ∃v w' r,(append_ #[q,q] ty #[vx,vy]).run P w= .ok v w'/\Inv B (bI s base g 0 t [[]] xs) tmps w' r/\
   ah w' (dst B.D w' r (bI s base g 0 t [[]] xs).heap) (sumOf r (bI s base g 0 t [[]] xs).heap) (.ab base) v:=by
 have J:base<s.heap.length:=(aO.1 a2).1
 have c0:g≠base:=fun e=>by simp_all
 obtain⟨d,b6,cy,z,K,rfl,rfl,b8,b2,b1⟩:=M1 n b4 b3
 obtain⟨c4,w',p,a6,a1⟩:=qK (w:=w) (ty:=ty) (place:=none) (S:=dst B.D w ι s.heap) U a0 (u:= .val) (by simp[Ty.cells,a9]) (by omega) W (by simp[Ty.cells,b5]) (zs:=[]) (ys:=[d]) (by simp[room]) (.inl ⟨rfl,f⟩)
  (vy:= .slice (some ⟨z,K,none⟩) 1 cy) ⟨_,cy,rfl,.inr ⟨z,K,rfl,fun i x f=>by
   cases i with
   |zero=>
    simp at f
    subst f
    refine⟨[d],⟨rfl,b2⟩,fun j v l=> ?_⟩
    cases j<;>simp_all
   |succ i=>simp at f⟩⟩
 rcases a1 with⟨_,a4,_⟩|⟨b,o,c,A,e,b7,a5,_⟩|⟨c,A,e,rfl,rfl,rfl,c1,Y,b0,a7⟩
 ·cases a4
 ·cases a5
 ·have Z:=(n.push b1).drew (w.drawn+1)
  obtain⟨Q,R⟩:=Z.mU (g:=base) (by grind [St.push]) .val [d] A e c b0 (by omega) Y (by
   intro i x f
   obtain⟨cs,hd,X⟩:=a7 i x (by grind)
   exact⟨cs,ax.mono (w:=w) (w':={w with drawn:=w.drawn+1}) (S:=dst B.D w ι s.heap) (S':=dst B.D {w with drawn:=w.drawn+1} ι (s.push (.ab g)).heap) (aS _) (fun b V _=>⟨V,rfl⟩) .val x cs hd,X⟩)
  obtain⟨G,M⟩:=n.pop Q (E:=s.env) (a:= .ab g) rfl rfl
  have L:=G.push R
  obtain⟨N,c2⟩:=L.qU (h:=base) (vs:=[d]) (by simp[St.push,St.setRow,J]) t 0 [.ab g] (fun j a l=>by
   cases j with
   |zero=>
    simp at l
    subst l
    exact⟨d,rfl,M⟩
   |succ j=>simp at l) (fun i v c3 hi=>by
   grind)
  have O:=N.back (h:=base) (g:=g) (i:=0) (t:=t) (yss:=[[]]) (xs:=xs) (by simp[St.setRow,St.push,J]) (by
   grind [St.setRow,St.push,List.getElem?_set_ne]) a3
  have a8:aQ g (.ab base)= .ab base:=by
   grind [aQ,AV.refs]
  obtain⟨H,I⟩:=G.pop O (E:=s.env.map (aQ g)) (a:= .ab base) (by simp[bI,St.aQ,St.push,St.setRow,a8]) (by simp)
  have e:bI s base g 0 t [[]] xs={(bI ((({((s.push (.ab g)).setRow base (.seq .val [d])) with env:=s.env}:St).push (.ab base)).setRow base (.nest t (replicate [d].length []) 0 [.ab g])) base g 0 t [[]] xs) with env:=s.env.map (aQ g)}:=by
   simp only[bI,St.aQ,St.setRow,St.push,vh,List.set_set]
  have F:=aR St.heap e
  simp only at F
  rw[<-e] at H
  rw[<-F] at I
  exact⟨_,_,_,a6,H,by simpa using I⟩
theorem Inv.settle (f:Inv B s tmps w ι) {h:Nat} {t:Ty} {xss:List (List t.den)} {m:Nat} (G:s.heap[h]? =some (some (.nest t xss m []))):Inv B (s.setRow h (.seq (.list t) xss)) tmps w ι:=by
 have a7:h<s.heap.length:=(aO.1 G).1
 have a9:(s.setRow h (.seq (.list t) xss)).heap[h]? =some (some (.seq (.list t) xss)):=by simp[St.setRow,a7]
 have I: ∀g,g≠h->(s.setRow h (.seq (.list t) xss)).heap[g]? =s.heap[g]? :=fun g e=>by
  grind [St.setRow,List.getElem?_set_ne]
 have J:sumOf ι (s.setRow h (.seq (.list t) xss)).heap=sumOf ι s.heap:=by
  grind [bO,Row.cells,Row.len,Ty.cells,sumOf]
 have F: ∀{g b:Nat},aP ι (s.setRow h (.seq (.list t) xss)).heap g b->aP ι s.heap g b/\(g=h-> ∃p,ι h=some p/\p.1=b):=fun {g b} o=>by
  cases o with
  |out r p A q e=>
   by_cases d:g=h
   ·subst d
    exact⟨.out _ p G q e,fun _=>⟨p,q,e⟩⟩
   ·rw[I g d] at A
    exact⟨.out r p A q e,fun M=>absurd M d⟩
  |aq u yss n K i p A hi q e=>
   by_cases d:g=h
   ·simp_all
   ·rw[I g d] at A
    exact⟨.aq u yss n K i p A hi q e,fun M=>absurd M d⟩
 have V: ∀b,aN w ι s.heap b->aN w ι (s.setRow h (.seq (.list t) xss)).heap b:=fun b l=>⟨l.1,fun g o=>l.2 g (F o).1⟩
 have E: ∀b,dst B.D w ι s.heap b->dst B.D w ι (s.setRow h (.seq (.list t) xss)).heap b:=fun b l=>⟨l.1,V b l.2⟩
 have R:=f.am.nest h t xss m [] G
 have a6: ∀i p,i<xss.length->ι.aq h i=some p->dst B.D w ι (s.setRow h (.seq (.list t) xss)).heap p.1:=fun i p hi q=>by
  have O:aP ι s.heap h p.1:= .aq t xss m [] i p G hi q rfl
  refine⟨f.am.has h _ O,O.lt f.am,fun g o=> ?_⟩
  obtain⟨Q,c6⟩:=F o
  have c5:=f.am.one g h _ Q O
  grind [cS.gX]
 refine⟨f.kept,⟨fun g r d=> ?_,fun Z a0 b Q X=>f.am.one Z a0 b (F Q).1 (F X).1,fun g b o=>f.am.has g b (F o).1,fun g u yss n K d=> ?_⟩,fun b l=>V b (f.stay b l),fun g d=> ?_,fun i a a4=> ?_,f.dK.mono (aS _) (fun b l _=>⟨E b l,rfl⟩)⟩
 ·by_cases e:g=h
  ·subst e
   rw[a9] at d
   cases d
   have H:=f.am.rows g _ G
   cases q:ι g with
   |none=>
    rw[q] at H
    exact H.1
   |some p=>
    rw[q] at H
    obtain⟨b,o,c⟩:=p
    obtain⟨Y,e,L,a1,a2,a3,_⟩:=H
    refine⟨Y,e,L,by grind [Ty.cells],a2,a3,fun i x N=> ?_⟩
    obtain⟨b4,c9,b6,b8,c0,v,U,S,c2,b2⟩:=R.cell _ x N (by simp;omega)
    rw[q] at U
    cases U
    rw[L] at S
    cases S
    refine⟨[v],?_,fun j y W=> ?_⟩
    ·rcases Cm (R.part _ x N) b2 with⟨rfl,a,rfl⟩|⟨b5,X,b7,b9,c1,a8,rfl,a5,b3,c3,c7,b0⟩
     ·exact⟨a,0,rfl,aS _,.inl rfl⟩
     ·refine ax.vj b3 (a6 _ _ (aO.1 N).1 a8) (jd.1 a5).1 (fun j y W=> ?_)
      obtain⟨cs,hd,c4⟩:=b0 j y W
      exact⟨cs,ax.sub E hd,fun k z c8=>by grind [jm]⟩
    grind [Ty.cells]
  ·rw[I g e] at d
   rw[J]
   exact bF.sub E (f.am.rows g r d)
 ·by_cases e:g=h
  ·simp_all
  ·rw[I g e] at d
   rw[J]
   exact cS.sub E (f.am.nest g u yss n K d)
 ·obtain⟨L,r,a1⟩:=f.io g d
  rw[J]
  grind
 ·obtain⟨v,b1,A⟩:=f.env i a a4
  refine⟨v,b1,?_⟩
  rw[J]
  exact ah.mono (aS _) (fun b l _=>⟨E b l,rfl⟩) a v (fun _ _=>rfl) A
end
end Go.Rv
namespace Go.Rv
section
variable {P : Program} {T : TT} {B : ce} {s : St} {tmps : Array Value} {w : World} {ι : aX}
def fC (ι:aX) (h f:Nat):aX:=⟨fun x=>if x=h then kj .val f (ι h) else ι x,fun x j=>if x=h then ι.aq h (j+f) else ι.aq x j⟩
theorem M3 {b:Type} {l:List b} {f n i:Nat} {x:b} (h:((l.take n).drop f)[i]? =some x):l[i+f]? =some x/\i+f<n:=by
 grind
theorem Inv.aco (q:Inv B s tmps w ι) {h:Nat} {t:Ty} {xss:List (List t.den)} {m:Nat} {cs:List AV} (N:s.heap[h]? =some (some (.nest t xss m cs))) (d3:B.k<=h)
  {f n:Nat} (d2:f<=n) (d5:n<=xss.length) (c0: ∀j,j<cs.length->m+j<f\/n<=m+j):
  Inv B (hD s h f n t xss) tmps w (fC ι h f)/\sumOf (fC ι h f) (hD s h f n t xss).heap h=some ⟨kj .val f (ι h),1,n-f⟩:=by
 have d4:h<s.heap.length:=(aO.1 N).1
 have Q:=q.am.nest h t xss m cs N
 have a3:((xss.take n).drop f).length=n-f:=by simp;omega
 have a5:(hD s h f n t xss).heap[h]? =some (some (.nest t ((xss.take n).drop f) 0 [])):=by
  grind [hD,St.setRow,St.aQ,List.getElem?_set_self]
 have a4: ∀x,x≠h->(hD s h f n t xss).heap[x]? =(s.heap[x]?).map (Option.map (dl h)):=fun x e=>by
  grind [hD,St.setRow,St.aQ,List.getElem?_set_ne]
 have b0:(hD s h f n t xss).env=s.env.map (aQ h):=rfl
 generalize d8:hD s h f n t xss=s' at a5 a4 b0⊢
 have L: ∀x,x≠h->(fC ι h f) x=ι x:=fun x e=>by simp[fC,e]
 have X:(fC ι h f) h=kj .val f (ι h):=by simp[fC]
 have a2: ∀x,x≠h->(fC ι h f).aq x=ι.aq x:=fun x e=>by grind [fC]
 have J: ∀j,(fC ι h f).aq h j=ι.aq h (j+f):=fun j=>by simp[fC]
 generalize d9:fC ι h f=G at L X a2 J⊢
 have U: ∀x r,x≠h->s'.heap[x]? =some (some r)-> ∃l,s.heap[x]? =some (some l)/\r=dl h l:=fun x r b5 E=>by
  rw[a4 x b5] at E
  cases S:s.heap[x]? with
  |none=>simp_all
  |some y=>
   cases y<;>simp_all
 have W: ∀{x b:Nat},aP G s'.heap x b->aP ι s.heap x b:=fun {x b} o=>by
  cases o with
  |out r p K g e=>
   by_cases d:x=h
   ·subst d
    rw[X] at g
    obtain⟨a6,z,H⟩:=oR g
    exact .out _ a6 N z (H.trans e)
   ·obtain⟨l,F,_⟩:=U x r d K
    rw[L x d] at g
    exact .out l p F g e
  |aq u a7 k b4 j p K A g e=>
   by_cases d:x=h
   ·subst d
    rw[a5] at K
    cases K
    rw[a3] at A
    rw[J] at g
    exact .aq t xss m cs (j+f) p N (by omega) g e
   ·obtain⟨l,F,a1⟩:=U x _ d K
    obtain⟨a0,rfl,_⟩:=mW (h:=h) (r:=l) _ _ _ _ a1.symm
    rw[a2 x d] at g
    exact .aq u a7 k a0 j p F A g e
 have b1: ∀b,aN w ι s.heap b->aN w G s'.heap b:=fun b I=>⟨I.1,fun x o=>I.2 x (W o)⟩
 have c1: ∀x,x≠h->sumOf G s'.heap x=sumOf ι s.heap x:=fun x e=>by
  simp only[sumOf,a4 x e,L x e]
  cases S:s.heap[x]? with
  |none=>rfl
  |some y=>
   cases y with
   |none=>rfl
   |some r=>cases r<;>simp[dl,Row.cells,Row.len]
 have T:Trans w ι s.heap w G s'.heap (fun x=>x≠h):=⟨aS _,fun b I=>⟨b1 b I,rfl⟩,c1⟩
 have Z:=q.am.rows h _ N
 have d7:bF w (dst B.D w G s'.heap) (sumOf G s'.heap) (G h) (.nest t ((xss.take n).drop f) 0 []):=by
  rw[X]
  cases g:ι h with
  |none=>
   rw[g] at Z
   refine⟨?_,rfl⟩
   rw[Z.1]
   simp
  |some p=>
   rw[g] at Z
   obtain⟨b,o,c⟩:=p
   obtain⟨O,e,z,H,a9,d1,_⟩:=Z
   refine⟨O,e,z,?_,by grind,by grind,fun j a A=>by simp at A⟩
   show O.size=o+f*1+(c-f)
   omega
 refine⟨⟨q.kept,⟨fun x r E=> ?_,fun b6 b7 b c6 c7=>q.am.one b6 b7 b (W c6) (W c7),fun x b o=>q.am.has x b (W o),fun x u a7 k b4 E=> ?_⟩,fun b I=>b1 b (q.stay b I),fun x E=> ?_,fun j a R=> ?_,T.kd q.dK⟩,?_⟩
 ·by_cases d:x=h
  ·simp_all
  ·obtain⟨l,F,rfl⟩:=U x r d E
   rw[L x d]
   refine T.row (fun y i=> ?_) (fun _ _ _ _=>rfl) (vb (q.am.rows x l F))
   cases l with
   |seq u xs=>simp[dl,Row.refs] at i
   |nest u xss m cs=>exact(kf i).2
   |box cs=>exact(kf i).2
 ·by_cases d:x=h
  ·subst d
   rw[a5] at E
   cases E
   rw[X]
   refine⟨fun j a A=>by simp at A,fun j ys i _=> ?_,fun j ys i=> ?_,fun j b o c c8 A Y M=> ?_,fun c3 c4 c9 d0 z H Y M d6=> ?_⟩
   ·obtain⟨i,b8⟩:=M3 i
    rw[J]
    obtain⟨b,o,c,O,e,v,g,z,H,a9⟩:=Q.cell (j+f) ys i (by
     rcases Cf (j+f) m with V|V
     ·exact .inl V
     ·rcases Cf (j+f) (m+cs.length) with b9|b9
      ·have:=c0 (j+f-m) (by omega)
       omega
      omega)
    refine⟨b,o+f*1,c-f,O,e,v,by rw[g];rfl,z,?_,a9⟩
    grind
   ·obtain⟨i,b8⟩:=M3 i
    rw[J]
    exact T.row (fun y i=>by simp[Row.refs] at i) (fun _ _ _ _=>rfl) (Q.part (j+f) ys i)
   ·rw[a3] at A
    rw[J] at M
    obtain⟨a6,z,H⟩:=oR Y
    obtain⟨b2,c5,b3⟩:=a6
    have:=Q.gX (j+f) b2 c5 b3 c8 (by omega) z M
    omega
   ·rw[a3] at z H
    rw[J] at Y M
    exact Q.sep (c3+f) (c4+f) c9 d0 (by omega) (by omega) Y M (by omega)
  ·obtain⟨l,F,a1⟩:=U x _ d E
   obtain⟨a0,rfl,V⟩:=mW (h:=h) (r:=l) _ _ _ _ a1.symm
   rw[L x d,a2 x d]
   exact(T.nest (fun _ _ _ _=>rfl) (fun _ _ _ _ _ _=>rfl) (q.am.nest x u a7 k a0 F)).gD V
 ·grind [Inv.io,id,Trans.trans,dl]
 ·rw[b0,ei] at R
  cases S:s.env[j]? with
  |none=>simp_all
  |some a8=>
   rw[S] at R
   simp at R
   obtain⟨v,c2,K⟩:=q.env j a8 S
   refine⟨v,c2,?_⟩
   subst R
   rcases oN h a8 with e|e
   ·grind [Trans.av,qL]
   ·rw[e];trivial
 simp_all [bO,Row.cells,Row.len]
theorem acp (o:bP P T) (F:Inv B s tmps w ι) {x:TypeId} {u:TI} (I:elemOf T x=some u) (R:u.size=1) {h:Nat} {t:Ty} {xss:List (List t.den)} {m:Nat} {cs:List AV}
  (q:s.heap[h]? =some (some (.nest t xss m cs))) (L:B.k<=h) {vx:Value} (W:ah w (dst B.D w ι s.heap) (sumOf ι s.heap) (.ab h) vx) {β:Type} {lo hi:Option AV} {K:Nat->Nat->Option β} {r:β}
  (H:fw (ag β) lo hi xss.length K=some r) {g d:Option Value}
  (O: ∀a,lo=some a-> ∃v,g=some v/\ah w (dst B.D w ι s.heap) (sumOf ι s.heap) a v) (J: ∀a,hi=some a-> ∃v,d=some v/\ah w (dst B.D w ι s.heap) (sumOf ι s.heap) a v)
  (Y:lo=none->g=none) (X:hi=none->d=none):
  ∃f n,K f n=some r/\((∀j,j<cs.length->m+j<f\/n<=m+j)->
   ∃v,(sliceAt x vx g d none).run P w= .ok v w/\Inv B (hD s h f n t xss) tmps w (fC ι h f)/\
    ah w (dst B.D w (fC ι h f) (hD s h f n t xss).heap) (sumOf (fC ι h f) (hD s h f n t xss).heap) (.ab h) v):=by
 obtain⟨a0,e,c,M,b⟩:=oM I
 have c:=o _ _ c
 have b:=o _ _ b
 obtain⟨f,n,y,i,l,z⟩:=oJ (P:=P) (w:=w) H O J Y X
 refine⟨f,n,y,fun Q=> ?_⟩
 obtain⟨Z,p,S⟩:=W
 have N:Z=⟨ι h,1,xss.length⟩:=by
  rw[bO q] at p
  cases p
  rfl
 subst N
 obtain⟨a,cap,rfl,G,U⟩:=S.cut i l
 obtain⟨A,E⟩:=F.aco q L i l Q
 refine⟨_,qH c M b (z cap true G),A,_,E,?_⟩
 rw[R]
 have V:br ⟨ι h,Ty.val.cells,xss.length⟩ f (n-f) (.slice (if cap=f then a else a.map (·.add (f*1))) (n-f) (cap-f)):=by
  have:=U
  rw[ix] at this
  exact this
 exact V.fC
end
end Go.Rv
namespace Go.Rv
section
variable {B : ce} {s : St} {tmps : Array Value} {w : World} {ι : aX}
theorem bc.freeze {s:St} {a:Act} {w:World} (b:bc B s a w) (h:Nat):bc B (s.freeze B.k h) a w:=by
 unfold St.freeze
 cases e:ble B.k h with
 |false=>exact b
 |true=>
  simp only[aw]
  split
  ·rename_i t xs d
   obtain⟨hd,ι,c⟩:=b
   exact⟨hd,ι,MU c (ja e) (bk d)⟩
  ·rename_i t xss m d
   obtain⟨hd,ι,c⟩:=b
   have f:=bk d
   have i:h<s.heap.length:=(aO.1 f).1
   have g:=MU (c.settle f) (ja e) (t:= .list t) (xs:=xss) (by simp[St.setRow,i])
   refine⟨hd,ι,?_⟩
   simpa[St.setRow,vh] using g
  ·exact b
theorem bc.ka {s:St} {a:Act} {w:World} (b:bc B s a w) (x:AV):bc B (s.ka B.k x) a w:=by
 unfold St.ka
 grind [bc.freeze]
theorem Inv.M4 (h:Inv B s tmps w ι) (u:Ty):Inv B {s with heap:=s.heap++ [some (.seq u [])]} tmps w (bz ι s.heap.length none):=by
 have f: ∀x,x≠s.heap.length->(s.heap++ [some (Row.seq u [])])[x]? =s.heap[x]? :=fun x c=>by
  grind
 have k:(s.heap++ [some (Row.seq u [])])[s.heap.length]? =some (some (.seq u [])):=by simp
 refine h.qD (s':={s with heap:=s.heap++ [some (.seq u [])]}) (g:=s.heap.length) (r:= .seq u []) (p:=none) (fun x=> ∃m,s.heap[x]? =some (some m)) k rfl ?_ ?_ (Kept.refl _ _) (fun _ _ _ _=>rfl) ?_ ?_ (fun x c=>c) (fun _=>rfl) ?_ ?_ (fun l d=>by cases d)
 ·intro h' e j b
  simp only at b
  rw[f h' j] at b
  exact⟨e,b,.rfl,rfl,rfl,fun _ _ _ _ i=>i,fun x c=>by
   obtain⟨l,d⟩:=(h.am.rows h' e b).cn x c
   exact dy d⟩
 all_goals grind [Inv.env,ah.cn,dy,Inv.io]
theorem bc.lj {a:Act} {w:World} (r:Row) (slot c:Nat) {s:St} (f:bc B s a w) (p: ∀ι,Inv B s a.tmps w ι-> ∃d,Inv B {s with heap:=s.heap++ [some r]} a.tmps w d/\ ∃k,sumOf d (s.heap++ [some r]) s.heap.length=some ⟨none,k,0⟩):bc B (Rv.lj r slot c s) a w:=by
 unfold Rv.lj
 split
 ·rename_i m
  obtain⟨hd,ι,i⟩:=f
  obtain⟨d,l,k,j⟩:=p ι i
  exact⟨hd,d,l.Cs (t:=slot) (a:= .aM) (x:= .ab s.heap.length) m (fun v ⟨b,g⟩=>⟨⟨none,k,0⟩,j,rfl,rfl,b,g⟩)⟩
 ·rename_i cs m
  split
  ·rename_i n
   obtain⟨hd,ι,i⟩:=f
   obtain⟨d,l,k,j⟩:=p ι i
   exact⟨hd,d,l.Cs (t:=slot) (a:= .agg cs) m (fun v ⟨vs,e,g⟩=>⟨vs,e,aC.Cr (a:= .aM) (x:= .ab s.heap.length) (fun v ⟨b,g⟩=>⟨⟨none,k,0⟩,j,rfl,rfl,b,g⟩) cs c vs n g⟩)⟩
  ·exact f
 ·rename_i h o m
  split
  ·rename_i cs y
   split
   ·rename_i n
    obtain⟨hd,ι,i⟩:=f
    have u:=bk y
    have z:=(aO.1 u).1
    obtain⟨d,q,k,j⟩:=p ι i
    have l:=q.MV (h:=h) (c:=c) (cs:=cs) (a:= .aM) (x:= .ab s.heap.length) (by grind) n (fun v ⟨b,g⟩=>⟨⟨none,k,0⟩,j,rfl,rfl,b,g⟩)
    refine⟨hd,d,?_⟩
    grind [St.setRow,List.set_append_left]
   ·exact f
  ·exact f
 ·exact f
theorem bc.acq {a:Act} {w:World} (t:Ty) (slot c:Nat) {s:St} (d:bc B s a w):bc B (Rv.lj (.seq t []) slot c s) a w:=
 d.lj _ _ _ fun ι b=>⟨bz ι s.heap.length none,b.M4 t,t.cells,by simp[sumOf,bz,Row.cells,Row.len]⟩
theorem bc.uW {a:Act} {w:World} (t:Ty) (slot c:Nat) {s:St} (g:bc B s a w):bc B (Rv.uW t slot c s) a w:=
 g.lj _ _ _ fun ι f=>by
  have d:=f.M4 .val
  obtain⟨b,m⟩:=d.qU (h:=s.heap.length) (vs:=[]) (by simp) t 0 [] (fun j a k=>by simp at k) (fun i v l _=>by simp at l)
  have e:St.setRow {s with heap:=s.heap++ [some (.seq .val [])]} s.heap.length (.nest t (replicate (@List.nil Value).length []) 0 [])={s with heap:=s.heap++ [some (.nest t [] 0 [])]}:=by
   simp[St.setRow]
  rw[e] at b
  refine⟨_,b,1,?_⟩
  simp[sumOf,dQ,bz,Row.cells,Row.len]
theorem bc.qA {a:Act} {w:World} (p:hb) {s:St} (b:bc B s a w):bc B (qA B.k p s) a w:=by
 unfold Rv.qA
 split
 ·grind [bc.uW,bc.acq]
 split
 ·split
  ·rename_i x d
   cases p.win with
   |true=>
    obtain⟨hd,ι,c⟩:=b
    exact⟨hd,ι,c.putEnv d⟩
   |false=>exact b.ka x
  ·exact b
 ·split
  ·split
   ·rename_i f
    split
    ·rename_i x d
     cases p.win with
     |true=>
      obtain⟨hd,ι,c⟩:=b
      exact⟨hd,ι,c.setCell (bk f) d⟩
     |false=>exact b.ka x
    ·exact b
   ·exact b
  ·rename_i cs d
   split
   ·rename_i x i
    cases p.win with
    |true=>
     obtain⟨hd,ι,c⟩:=b
     exact⟨hd,ι,c.Cs d (fun v ⟨vs,e,n⟩=>⟨vs,e,aC.Cr (fun v l=>Cq l) cs _ vs i n⟩)⟩
    |false=>exact b.ka x
   ·exact b
  ·split
   ·rename_i f
    split
    ·rename_i m
     split
     ·rename_i o j
      obtain⟨e,g⟩:=ke j
      cases e
      have g:o=_:=g
      subst g
      cases h:ble B.k _ with
      |true=>
       obtain⟨hd,ι,c⟩:=b
       exact⟨hd,_,c.back (bk f) (bk m) (ja h)⟩
      |false=>exact b
     ·exact b
    ·exact b
   ·exact b
  ·exact b
theorem bc.dx {a:Act} {w:World} (i:Nat): ∀(c:List hb) {s:St},bc B s a w->bc B (dx B.k i c s) a w
 |[],_,b=>b
 |p::r,s,b=>by
  unfold Rv.dx
  cases beq p.at_ i with
  |false=>exact bc.dx i r b
  |true=>exact bc.dx i r (b.qA p)
end
end Go.Rv
namespace Go.Rv
section
variable {P : Program} {B : ce} {s : St} {a : Act} {w : World} {ι : aX} {C : Ctx}
theorem bp {o:Oper} {Q:Exit->Act->World->Prop} {v:Value} {w':World} {b:St} {c:aX} {x:AV} (hd:a.defers=[]) (f:(execOp a.eval o).run P w= .ok (.value v) w')
  (e:Inv B b a.tmps w' c) (g:ah w' (dst B.D w' c b.heap) (sumOf c b.heap) x v):o.wp P a w (fun d w'=>bc B (b.put o.dst x) d w') Q:=by
 unfold wp
 rw[f,oO]
 exact⟨by cases o.dst<;>exact hd,c,e.put o.dst g a.defers⟩
theorem vn {o:Oper} {Q:Exit->Act->World->Prop} {w':World} {b:St} {c:aX} (hd:a.defers=[]) (f:(execOp a.eval o).run P w= .ok .skip w')
  (e:Inv B b a.tmps w' c):o.wp P a w (fun d w'=>bc B (b.put o.dst .undef) d w') Q:=by
 unfold wp
 rw[f,Cg]
 exact⟨by cases o.dst<;>exact hd,c,e.put o.dst (a:= .undef) (v:=undef) trivial a.defers⟩
theorem aI {b β:Type} {x:Option b} {k:b->Option β} {r:β} (h:lift (ag β) x k=some r): ∃a,x=some a/\k a=some r:=by
 cases x with
 |none=>cases h
 |some a=>exact⟨a,rfl,h⟩
theorem Cu {S:Nat->Prop} {σ:Nat->Option Sum} {f:Int->Int->Int} {g:Value->Value->Sem Value} {k:IntKind} (c: ∀n m,g (.int k n) (.int k m)=pure (.int k (f n m))):
  ∀(l:List AV) (n m:Int) (vs:List Value),lh f k n l=some m->aC w S σ l vs->(vs.foldlM g (.int k n)).run P w= .ok (.int k m) w
 |[],n,m,vs,h,b=>by
  simp[lh] at h;subst h
  have e:vs=[]:=b
  simp_all
 |x::r,n,m,vs,h,b=>by
  obtain⟨v,o,rfl,d,i⟩:=b
  cases x with
  |aa t y=>
   cases t with
   |int p=>
    simp only[lh] at h
    split at h
    ·rename_i j
     subst j
     have e:=dz d
     subst e
     simp only[List.foldlM_cons,c]
     simp only[aD,mC,eg]
     exact Cu c r _ m o h i
    ·cases h
   |_=>simp[lh] at h
  |_=>simp[lh] at h
theorem vo {S:Nat->Prop} {σ:Nat->Option Sum}: ∀(vs:List Value),aC w S σ (vs.map la) vs
 |[]=>rfl
 |v::r=>⟨v,r,rfl,My v,vo r⟩
theorem vp (c:Inv B s a.tmps w ι) {x:Option Operand} {l:Option AV} (h:evalOp s x=some l):
  (∀b,l=some b-> ∃v,x.map a.eval=some v/\ah w (dst B.D w ι s.heap) (sumOf ι s.heap) b v)/\(l=none->x.map a.eval=none):=by
 cases x with
 |none=>grind [evalOp]
 |some y=>
  simp only[evalOp] at h
  split at h
  ·rename_i b d
   simp at h;subst h
   exact⟨fun f e=>by cases e;exact⟨_,rfl,aZ c d a.defers⟩,by simp⟩
  ·cases h
theorem Cv {T:TT} (H:bP P T) {S:Nat->Prop} {σ:Nat->Option Sum} {E:List (Nat×TypeId)} {N:Array Field} (J:N.toList.map (fun x=>(x.offset,x.type))=E)
  {places:Array (Nat×Nat)} (G: ∀(i:Nat) off p o,E[i]? =some (off,p)->T p=some o->places[i]? =some (off,o.size)):
  ∀(l:List (Nat×AV)) (cs out:List AV) (vs:List (Nat×Value)) (cells:Array Value),ox T E l cs=some out->vs.length=l.length->
   (∀(j:Nat) (x:Nat×AV),l[j]? =some x-> ∃v,vs[j]? =some (x.1,v)/\ah w S σ x.2 v)->aC w S σ cs cells.toList->
   ∃A:Array Value,fill (places[·]?) cells vs=some A/\aC w S σ out A.toList
 |[],cs,out,vs,cells,h,t,_,c=>by
  simp[ox] at h;subst h
  have:vs=[]:=kW (by omega)
  subst this
  exact⟨cells,rfl,c⟩
 |(f,b)::r,cs,out,vs,cells,h,t,K,c=>by
  cases vs with
  |nil=>simp at t
  |cons y D=>
   obtain⟨v,M,am⟩:=K 0 (f,b) rfl
   simp at M
   subst M
   have L: ∀(j:Nat) (x:Nat×AV),r[j]? =some x-> ∃v,D[j]? =some (x.1,v)/\ah w S σ x.2 v:=fun j x b1=>by simpa using K (j+1) x (by grind)
   have a7:cells.size=cs.length:=by have:=c.length;omega
   simp only[ox] at h
   split at h
   ·rename_i off p V
    split at h
    ·rename_i o W
     have a9:=G f off p o V W
     split at h
     ·rename_i new
      split at h
      ·rename_i g
       simp only[aT,cb,db] at g
       obtain⟨⟨_,F⟩,q⟩:=g
       obtain⟨d,rfl,Z⟩:=am
       have b0:=Z.length
       have Y: ∃n:Array Value,(d.toArray.zipIdx.foldl (fun cs (x:Value×Nat)=>cs.setIfInBounds (off+x.2) x.1) cells)=n/\aC w S σ (overwrite cs off new) n.toList:=by
        refine⟨_,rfl,?_⟩
        have b2: ∀(d:List Value) (new:List AV) (k:Nat) (cells:Array Value) (cs:List AV),aC w S σ new d->aC w S σ cs cells.toList->k+new.length<=cs.length->
          aC w S σ (cs.take k++new++cs.drop (k+new.length)) ((d.zipIdx (k-off)).foldl (fun cs (x:Value×Nat)=>cs.setIfInBounds (off+x.2) x.1) cells).toList\/k<off:=by
         intro d
         induction d with
         |nil=>
          intro new k cells cs z c I
          have:new=[]:=by
           cases new with
           |nil=>rfl
           |cons a r=>obtain⟨_,_,e,_⟩:=z;cases e
          simp_all
         |cons u a1 a0=>
          intro new k cells cs z c I
          cases new with
          |nil=>have e:u::a1=[]:=z;cases e
          |cons x m=>
           obtain⟨v,D,e,F,q⟩:=z
           cases e
           by_cases a6:k<off
           ·omega
           ·left
            simp only[cB] at I
            have R:aC w S σ (cs.set k x) (cells.setIfInBounds k u).toList:=by
             rw[Array.toList_setIfInBounds];exact c.set k F
            have:=(a0 m (k+1) (cells.setIfInBounds k u) (cs.set k x) q R (by simp;omega)).resolve_right (by omega)
            have a2:(cs.set k x).take (k+1)++m++(cs.set k x).drop (k+1+m.length)=cs.take k++(x::m)++cs.drop (k+(m.length+1)):=by
             rw[Ch,List.drop_set_of_lt (by omega)]
             have X:k<cs.length:=by omega
             have:(List.take (k+1) cs).set k x=cs.take k++ [x]:=by
              rw[iy,bh X]
              have t:(List.take k cs).length=k:=by simp;omega
              rw[oP _ _ (by omega),t]
              simp
             grind
            grind [List.zipIdx_cons,List.length_cons]
        grind [overwrite]
       obtain⟨n,a5,U⟩:=Y
       obtain⟨A,O,Q⟩:=Cv H J G r _ out D n h (by grind) L U
       grind [Array.size,Value.cells,fill,Decidable.decide]
      ·cases h
     ·rename_i b a4
      split at h
      ·rename_i g
       simp only[aT,cb,db] at g
       obtain⟨⟨⟨_,F⟩,q⟩,O⟩:=g
       have a8:=mT (u4 q am)
       obtain⟨A,Q,a3⟩:=Cv H J G r _ out D (cells.setIfInBounds off v) h (by grind) L (by
        grind [Array.toList_setIfInBounds,aC.set])
       grind [fill]
      ·cases h
    ·cases h
   ·cases h
end
end Go.Rv
namespace Go.Rv
def kl (P:Program) (f:FuncId):Prop:= ∀args w,(callFunc f args).run P w= .ok (.enter f args) w
structure fD (P:Program) (C:Ctx):Prop where
 types:bP P C.T
 ek: ∀f,Sound P f (C.ek f)
 call: ∀f avs H,(C.ek f avs H).o.isSome=true->kl P f
 mixed:P.follows .mixedOrders=true
section
variable {P : Program} {B : ce} {s : St} {a : Act} {w : World} {ι : aX} {C : Ctx}
theorem vq (xs:Array Operand) (b:Operand->Value):xs.map b=(xs.toList.map b).toArray:=by
 grind
theorem lv {b:Type} {xs:Array b} {x y:b} (h:xs.toList=[x,y]):xs= #[x,y]:=by
 grind
theorem km {b:Type} {xs:Array b} {x:b} (h:xs.toList=[x]):xs= #[x]:=by
 grind
def qV (d:TypeDesc):AV->Prop
 | .aa (.int _) _=> ∃i,d= .int i
 | .aa .str _=>d= .string
 |_=>False
theorem acr {kt:TypeId} {c:TK} {k:AV} (b:kindOk P kt c) (h:BJ c k=true): ∃d,P.underlying kt=some d/\qV d k:=by
 unfold BJ at h
 split at h
 ·exact⟨_,b,_,rfl⟩
 ·exact⟨_,b,rfl⟩
 ·cases h
theorem acs {d:TypeDesc} {k:AV} (h:qV d k):(∃i,d= .int i)\/d= .string:=by
 unfold qV at h
 grind
theorem act {S:Nat->Prop} {σ:Nat->Option Sum} {i dst e:TypeId} (r:P.underlying i=some (.slice e)) (m:P.underlying e=some (.int .u8)) (hd:P.underlying dst=some .string)
  {d:List Int} {v:Value} (q:ah w S σ (.aa (.list (.int .u8)) d) v):(convert i dst v).run P w= .ok (.string (bytesOf d)) w:=by
 obtain⟨a,cap,k,u,g⟩:=q
 simp only[ls,and_true] at k
 subst k
 rw[run_convert_bytes_string w i dst e a d.length cap r m hd]
 rcases g with rfl|⟨b,o,rfl,_,_,g⟩
 ·cases a<;>simp_all [Conv.bytesToString,bytesOf,run_bytesToString,loadCells,loadCellsFrom]
 ·refine run_bytesToString w _ d.length cap d ?_
  have:=BB (P:=P) w ⟨b,o,none⟩ (d.map (Value.int .u8)) (fun j v f=>by
   rw[ei] at f
   cases l:d[j]? with
   |none=>simp_all
   |some n=>
    rw[l] at f
    simp only[bn,ew] at f
    subst f
    obtain⟨c,h,p⟩:=g j n l
    have h:c=[.int .u8 n]:=h
    subst h
    have t:=p 0 _ rfl
    grind [addr_add,Ty.cells])
  simp_all
theorem Cw {S:Nat->Prop} {σ:Nat->Option Sum} {β:Type} {k:AV} {u:Value} {d:TypeDesc} (o:ah w S σ k u) (hd:qV d k) {hit:Go.Fn->Option β} {z:Option β} {r:β}:
  ∀(l:List (Value×Go.Fn)) (b:List MapEntry) (i:Nat),ji (ag β) k hit z l=some r->b.map (fun e=>(e.key,e.val))=l.map (fun p=>(p.1,Value.func p.2 #[] #[]))->
   (∃n f,findNow d u b i=some (some (n,.func f #[] #[]))/\hit f=some r)\/(findNow d u b i=some none/\z=some r)
 |[],b,i,h,g=>by
  have:b=[]:=by simpa using g
  subst this
  exact .inr ⟨rfl,h⟩
 |(c,f)::l,b,i,h,g=>by
  cases b with
  |nil=>simp at g
  |cons e b=>
   simp only[dJ,ls,gA] at g
   obtain⟨⟨E,F⟩,v⟩:=g
   unfold ji at h
   split at h
   ·rename_i i1 n j m
    have t:=dz o
    subst t
    obtain⟨D,rfl⟩:=hd
    split at h
    ·rename_i A
     subst A
     cases q:(n==m) with
     |true=>
      grind [findNow,sameNow]
     |false=>
      rw[q] at h
      have:=Cw o ⟨D,rfl⟩ l b (i+1) h v
      grind [findNow,sameNow]
    ·cases h
   ·rename_i x y
    have t:=oH o
    subst t
    have hd:d= .string:=hd
    subst hd
    cases q:(x==y) with
    |true=>
     grind [findNow,sameNow]
    |false=>
     rw[q] at h
     have:=Cw (d:= .string) o rfl l b (i+1) h v
     grind [findNow,sameNow]
   ·cases h
theorem M5 {S:Nat->Prop} {σ:Nat->Option Sum} (f:Go.Fn):ah w S σ (BI f) (.func f #[] #[]):=by
 cases f with
 |func f=>exact⟨[],[],rfl,rfl,rfl⟩
 |_=>rfl
theorem M6 {T:TT} (c:bP P T): ∀(l:List Field),(∀f∈l,∃b,T f.type=some b)-> ∃pl:List (Nat×Nat),l.mapM (fun f=>(P.info? f.type).map fun i=>(f.offset,i.size))=some pl/\
   ∀(i:Nat) f b,l[i]? =some f->T f.type=some b->pl[i]? =some (f.offset,b.size)
 |[],_=>⟨[],rfl,by simp⟩
 |f::r,h=>by
  obtain⟨b,e⟩:=h f (by simp)
  obtain⟨pl,k,m⟩:=M6 c r (fun g d=>h g (by simp[d]))
  obtain⟨q,o,p,_⟩:=(c _ _ e).info
  refine⟨(f.offset,b.size)::pl,by simp_all,fun i g j d n=> ?_⟩
  cases i<;>simp_all
theorem cT (F:fD P C) (h0:C.k=B.k) (h1: ∀g,C.mv.contains g=true->B.mv g=true) {base:Nat} {o:Oper} {s':St} (i3:bc B s a w) (o6:jj C o s=true) (h:aY (ag St) C base o s some=some s') (Q:Exit->Act->World->Prop):
  o.wp P a w (fun h6 w'=>bc B s' h6 w') Q:=by
 obtain⟨hd,ι,q⟩:=i3
 have n8:Inv B s a.tmps w ι:=q
 obtain⟨a6,m8,a1,b8,b6,b7⟩:=o
 unfold aY at h
 cases m8<;>simp only at h
 case move x=>
  obtain⟨M,A,h⟩:=aI h
  cases h
  exact bp hd (by simp[execOp]) q (aZ q A a.defers)
 case assign x=>
  obtain⟨M,A,h⟩:=aI h
  have G:=aZ q A a.defers
  split at h
  ·split at h
   ·split at h
    ·rename_i d3 W u b5
     obtain⟨N,h⟩:=dP h
     cases h
     refine bp hd (v:=a.eval x) (w':=w) (by simp[execOp]) (q.B1 N u) ⟨_,iu (aO.1 N).1,?_⟩
     obtain⟨c2,a0⟩:=G
     exact⟨rfl,rfl,c2,a0⟩
    ·cases h
   ·cases h
  ·cases h
   exact bp hd (by simp[execOp]) q G
 case pick c x y=>
  obtain⟨n3,c7,h⟩:=aI h
  have i7:=aZ q c7 a.defers
  split at h
  ·rename_i g
   obtain⟨M,A,h⟩:=aI h
   obtain⟨g4,Z,h⟩:=aI h
   cases h
   have e:=oG i7
   have I:(execOp a.eval ⟨a6,.pick c x y,a1,b8,b6,b7⟩).run P w= .ok (.value (if g then a.eval x else a.eval y)) w:=by
    simp_all [eval,bool,execOp,asBool]
   refine bp hd I q ?_
   cases g
   ·exact aZ q Z a.defers
   ·exact aZ q A a.defers
  ·cases h
 case alloc e=>
  split at h
  ·rename_i L K
   have K:=F.types _ _ K
   obtain⟨h5,e4,m0,i4,z,f9,h3⟩:=K.info
   have I:(execOp a.eval ⟨a6,.alloc e,a1,b8,b6,b7⟩).run P w= .ok (.value (.pointer (some ⟨w.heap.size,0,none⟩))) (w.alloc (.cells L.zero.toArray e)):=by
    have:z.cells=L.zero.toArray:=by grind
    simp_all [execOp,Instr.alloc,zeroValue,typeInfo,newVar,newRow]
   split at h
   ·rename_i n e9 e5
    split at h
    ·split at h
     ·rename_i d3 W u b5
      split at h
      ·rename_i c8
       obtain⟨b1,b2,b9,c0,f4⟩:=c8
       obtain⟨N,h⟩:=dP h
       cases h
       obtain⟨U,V⟩:=q.mU N u (replicate n u.zero) L.zero.toArray e n (by grind) (by simp) (by grind [maxLen]) (by
        intro i x A
        have hi:=(aO.1 A).1
        simp at hi
        have m4:x=u.zero:=by simp_all
        subst m4
        have hit:i<L.zero.length:=by omega
        refine⟨[L.zero[i]],u9 (by simp_all) _,fun j v G=> ?_⟩
        grind)
       refine bp hd I U ?_
       obtain⟨c2,a0,o7⟩:=V
       have f5:base<s.heap.length:=(aO.1 N).1
       exact⟨_,w.heap.size,0,n,iu f5,rfl,by simp⟩
      ·cases h
     ·cases h
    ·cases h
   ·split at h
    ·rename_i e1
     obtain⟨N,h⟩:=dP h
     cases h
     obtain⟨U,V⟩:=q.B2 N (L.zero.map la) L.zero e (vo _) (oK (vo (w:=w) (S:=fun _=>True) (σ:=fun _=>none) _) e1)
     exact bp hd I U V
    ·cases h
  ·cases h
 case box e x=>
  obtain⟨M,A,h⟩:=aI h
  have G:=aZ q A a.defers
  have I: ∀vs:List Value,(a.eval x).cells=vs.toArray->(execOp a.eval ⟨a6,.box e x,a1,b8,b6,b7⟩).run P w= .ok (.value (.pointer (some ⟨w.heap.size,0,none⟩))) (w.alloc (.cells vs.toArray e)):=by
   simp_all [execOp,Instr.box,newVar,newRow]
  split at h
  ·rename_i cs
   split at h
   ·rename_i e1
    obtain⟨N,h⟩:=dP h
    cases h
    obtain⟨vs,a3,c1⟩:=G
    obtain⟨U,V⟩:=q.B2 N cs vs e c1 (oK c1 e1)
    exact bp hd (I vs (by have e9:a.eval x= .agg vs.toArray:=a3;rw[e9];rfl)) U V
   ·cases h
  ·split at h
   ·rename_i l4
    obtain⟨N,h⟩:=dP h
    cases h
    have D:=u4 l4 G
    obtain⟨U,V⟩:=q.B2 N [M] [a.eval x] e ⟨_,_,rfl,G,rfl⟩ (by intro v J;simp at J;subst J;exact D)
    exact bp hd (I [a.eval x] (mT D)) U V
   ·cases h
 case build t a9=>
  split at h
  ·rename_i L l K b4
   have K:=F.types _ _ K
   split at h
   ·rename_i h9 j3
    split at h
    ·rename_i e1
     obtain⟨cs,i6,h⟩:=aI h
     cases h
     have b3:=K.kind
     rw[j3] at b3
     obtain⟨h8,b5,k8⟩:=b3
     obtain⟨h5,e4,m0,i4,z,f9,h3⟩:=K.info
     obtain⟨pl,o4,o5⟩:=M6 F.types h8.toList (fun f a7=>by
      have X:(f.offset,f.type)∈h9:=by grind
      grind [List.all_eq_true,Option.isSome_iff_exists])
     obtain⟨D,E⟩:=B3 q a.defers a9.toList l b4
     obtain⟨g2,o1,l3⟩:=Cv F.types k8 (places:=pl.toArray) (fun i off n7 n6 a7 o0=>by
      grind) l _ cs _ z.cells i6 D E (by grind [vo])
     have n9:P.built t (a9.toList.map fun(p:Nat×Operand)=>(p.1,a.eval p.2))=some g2:=by
      grind [Program.built]
     refine bp hd (v:= .agg g2) (w':=w) ?_ q ⟨g2.toList,by simp,l3⟩
     simp_all [eval,run_build,execOp,aD]
    ·cases h
   ·cases h
  ·cases h
 case buildSlice t n a9=>
  split at h
  ·rename_i d3 l W b4
   split at h
   ·rename_i u b5
    split at h
    ·rename_i xs a8
     split at h
     ·rename_i c8
      obtain⟨b1,b2,b9,c0,f4⟩:=c8
      obtain⟨D,E⟩:=B3 q a.defers a9.toList l b4
      have e:(a9.map fun(p:Nat×Operand)=>(p.1,a.eval p.2))=(a9.toList.map fun(p:Nat×Operand)=>(p.1,a.eval p.2)).toArray:=by grind
      split at h
      ·cases h
       obtain⟨v,w',I,U,V⟩:=abZ F.types q W a8 b1 b2 b9 c0 f4 D E
       refine bp hd (v:=v) (w':=w') ?_ U V
       have f8:(Instr.buildSlice t n (a9.map fun(p:Nat×Operand)=>(p.1,a.eval p.2))).run P w= .ok v w':=by rw[e];exact I
       simp_all [execOp,aD]
      ·obtain⟨N,h⟩:=dP h
       cases h
       obtain⟨v,w',c3,I,U,V⟩:=MK F.types q W a8 b1 b2 b9 c0 f4 N D E
       refine bp hd (v:=v) (w':=w') ?_ U V
       have f8:(Instr.buildSlice t n (a9.map fun(p:Nat×Operand)=>(p.1,a.eval p.2))).run P w= .ok v w':=by rw[e];exact I
       simp_all [execOp,aD]
     ·cases h
    ·cases h
   ·cases h
  ·cases h
 case makeSlice t l c=>
  split at h
  ·rename_i d3 k1 n k2 m W b4 c7
   split at h
   ·rename_i u b5
    split at h
    ·rename_i c8
     obtain⟨b1,b2,b9,c0⟩:=c8
     simp only[ag] at h
     cases X:mk n m with
     |none=>grind
     |some c2=>
      simp only[X,ac] at h
      obtain⟨N,h⟩:=dP h
      cases h
      have R:=dz (aZ q b4 a.defers)
      have O:=dz (aZ q c7 a.defers)
      have f0:a.eval l= .int k1 n:=R
      have f1:a.eval c= .int k2 m:=O
      obtain⟨v,w',c3,I,U,V⟩:=ML F.types q W (k1:=k1) (k2:=k2) X b1 b2 b9 c0 N
      refine bp hd (v:=v) (w':=w') ?_ U V
      simp_all [execOp,aD]
    ·cases h
   ·cases h
  ·cases h
 case load t p=>
  obtain⟨m9,f7,h⟩:=aI h
  obtain⟨x,v,D,E,H⟩:=MC F.types q h (aZ q f7 a.defers)
  cases D
  refine bp hd (v:=v) (w':=w) ?_ q E
  have Y:(loadAt t (a.eval p)).run P w= .ok v w:=H
  simp[execOp,aD,Y]
 case store t p v=>
  obtain⟨m9,f7,h⟩:=aI h
  obtain⟨v1,G,h⟩:=aI h
  obtain⟨g3,w',c3,D,E,H⟩:=BZ F.types q h (aZ q f7 a.defers) (aZ q G a.defers)
  cases D
  refine vn hd ?_ E
  have Y:(storeAt t (a.eval p) (a.eval v)).run P w= .ok () w':=H
  simp[execOp,aD,Y]
 case nilCheck x=>
  obtain⟨M,A,h⟩:=aI h
  have G:=aZ q A a.defers
  have I: ∀b,a.eval x= .pointer (some b)->(execOp a.eval ⟨a6,.nilCheck x,a1,b8,b6,b7⟩).run P w= .ok (.value (a.eval x)) w:=by
   simp_all [execOp]
  split at h
  ·cases h
   have J:=G
   obtain⟨_,_,_,_,_,_,e⟩:=G
   exact bp hd (I _ e) q J
  ·cases h
   have J:=G
   obtain⟨_,_,_,_,_,_,_,e⟩:=G
   exact bp hd (I _ e) q J
  ·cases h
   have J:=G
   obtain⟨_,_,_,e,_⟩:=G
   exact bp hd (I _ e) q J
  ·cases h
   have J:=G
   obtain⟨_,_,e,_⟩:=G
   exact bp hd (I _ e) q J
  ·cases h
   have J:=G
   obtain⟨_,_,_,e,_⟩:=G
   exact bp hd (I _ e) q J
  ·cases h
 case binOp g1 t x y p0=>
  obtain⟨M,A,h⟩:=aI h
  obtain⟨g4,Z,h⟩:=aI h
  obtain⟨z,v,D,E,H⟩:=abN (P:=P) (w1:=w) t x y (abI F.types) (abJ F.types) h (aZ q A a.defers) (aZ q Z a.defers)
  cases D
  refine bp hd (v:=v) (w':=w) ?_ q E
  have Y:(do eqGuard g1 t x y (a.eval x) (a.eval y);binOp g1 t (a.eval x) (a.eval y):Sem Value).run P w= .ok v w:=H
  grind [Sem.run_bind,execOp,Result.andThen_ok,Sem.run_pure]
 case unOp g1 t x=>
  obtain⟨M,A,h⟩:=aI h
  obtain⟨z,v,D,E,H⟩:=abO (P:=P) (w1:=w) h (aZ q A a.defers)
  cases D
  refine bp hd (v:=v) (w':=w) ?_ q E
  simp_all [Op.unary,eval,execOp,aD]
 case convert st e8 x=>
  obtain⟨M,A,h⟩:=aI h
  split at h
  ·rename_i n0 L k n D E
   split at h
   ·rename_i g0 j8
    cases h
    have e:=dz (aZ q A a.defers)
    have e9:a.eval x= .int k n:=e
    have h2:P.underlying e8=some (.int g0):=by have:=(F.types _ _ E).kind;rw[j8] at this;exact this
    have e6: ∃d,P.underlying st=some d:=by
     have:=(F.types _ _ D).kind
     cases e5:n0.kind<;>rw[e5] at this
     ·obtain⟨d,hd,_⟩:=this;simp_all
     ·exact⟨_,this⟩
     ·obtain⟨_,hd⟩:=this;simp_all
     ·exact⟨_,this⟩
     ·exact⟨_,this⟩
     ·exact⟨_,this⟩
     ·exact⟨_,this⟩
     ·obtain⟨f,a7,_⟩:=this;simp_all
     ·exact⟨_,this⟩
     ·obtain⟨⟨e,hd⟩,_⟩:=this;simp_all
    obtain⟨d,e6⟩:=e6
    refine bp hd (v:= .int g0 (g0.wrap n)) (w':=w) ?_ q (eo _ _)
    simp_all [execOp,convert,aD,bi,Conv.intToInt]
   ·cases h
  ·rename_i o9 L ys l5 K
   split at h
   ·rename_i e l6 m1
    split at h
    ·rename_i d3 W
     split at h
     ·rename_i j7
      cases h
      have e6:P.underlying st=some (.slice e):=by have:=(F.types _ _ l5).kind;rw[l6] at this;exact this
      have h2:P.underlying e8=some .string:=by have:=(F.types _ _ K).kind;rw[m1] at this;exact this
      have m3:P.underlying e=some (.int .u8):=by have:=(F.types _ _ W).kind;rw[j7] at this;exact this
      have I:=act (P:=P) e6 m3 h2 (aZ q A a.defers)
      have f8:(convert st e8 (a.eval x)).run P w= .ok (.string (bytesOf ys)) w:=I
      refine bp hd (v:= .string (bytesOf ys)) (w':=w) ?_ q (BY _)
      simp[execOp,aD,f8]
     ·cases h
    ·cases h
   ·cases h
  ·cases h
 case lookup t x k ok=>
  obtain⟨M,A,h⟩:=aI h
  obtain⟨k1,e5,h⟩:=aI h
  split at h
  ·rename_i m6 L K _
   split at h
   ·rename_i kt et k9
    split at h
    ·rename_i o8 n4 k3 i8
     split at h
     ·rename_i k4
      have e7:P.underlying t=some (.map kt et):=by have:=(F.types _ _ K).kind;rw[k9] at this;exact this
      obtain⟨b,e0,c,G,_,_,b0,i9⟩:=aZ q A a.defers
      have J:a.eval x= .map (some b):=G
      have k5:=aZ q e5 a.defers
      obtain⟨h5,e4,_,_,z,h4,h3⟩:=(F.types _ _ i8).info
      have hd: ∃d,P.underlying kt=some d/\qV d k1:=acr (F.types _ _ k3).kind k4
      obtain⟨d,d2,g9⟩:=hd
      have e2: ∀e:Bool,(checkKey e 10000 kt (a.eval k)).run P w= .ok () w:=fun e=>by
       unfold checkKey
       simp only[aD,bi d2,eg]
       rcases acs g9 with⟨i,rfl⟩|rfl<;>rfl
      have e3:(getObj b).run P w= .ok (.map e0 c) w:=by simp[getObj,Sem.run,b0]
      rcases Cw k5 g9 m6 e0.toList 0 h i9 with⟨n,f,a7,a5⟩|⟨a7,a5⟩
      ·have d0:findNow d (a.eval k) e0.toList 0=some (some (n,.func f #[] #[])):=a7
       cases ok with
       |true=>
        cases a5
        refine bp hd (v:= .tuple #[.func f #[] #[],.bool true]) (w':=w) ?_ q ⟨[_,_],rfl,_,_,rfl,M5 f,_,_,rfl,fA _,rfl⟩
        simp[execOp,Instr.lookup,J,aD,bi e7,e3,e2,findKey,bi d2,d0]
       |false=>
        cases a5
        refine bp hd (v:= .func f #[] #[]) (w':=w) ?_ q (M5 f)
        simp[execOp,Instr.lookup,J,aD,bi e7,e3,e2,findKey,bi d2,d0]
      ·have d0:findNow d (a.eval k) e0.toList 0=some none:=a7
       cases ok with
       |true=>
        cases a5
        refine bp hd (v:= .tuple #[z,.bool false]) (w':=w) ?_ q ⟨[_,_],rfl,_,_,rfl,trivial,_,_,rfl,fA _,rfl⟩
        simp[execOp,Instr.lookup,J,aD,bi e7,e3,e2,findKey,bi d2,d0,zeroValue,typeInfo,e4,h4]
       |false=>
        cases a5
        refine bp hd (v:=z) (w':=w) ?_ q trivial
        simp[execOp,Instr.lookup,J,aD,bi e7,e3,e2,findKey,bi d2,d0,zeroValue,typeInfo,e4,h4]
     ·cases h
    ·cases h
   ·cases h
  ·cases h
 case makeFunc fn first c4=>
  cases fn<;>(try simp only at h)
  case func f=>
   split at h
   ·rename_i n1 n2 j0 j1
    cases h
    have D:=lp q a.defers first.toList n1 j0
    have E:=lp q a.defers c4.toList n2 j1
    refine bp hd (v:= .func (.func f) (first.map a.eval) (c4.map a.eval)) (w':=w) (by simp[execOp,Instr.makeFunc]) q ?_
    rw[vq,vq]
    exact⟨_,_,rfl,D,E⟩
   ·cases h
  all_goals cases h
 case slice t x lo hi m7=>
  cases m7 with
  |some m=>cases h
  |none=>
   simp only at h
   split at h
   ·rename_i b l o2 A b4 j4
    obtain⟨k6,k7⟩:=vp q b4
    obtain⟨j5,j6⟩:=vp q j4
    obtain⟨z,v,D,E,H⟩:=abT F.types q h (aZ q A a.defers) k6 j5 k7 j6
    cases D
    refine bp hd (v:=v) (w':=w) ?_ q E
    have Y:(sliceAt t (a.eval x) (lo.map a.eval) (hi.map a.eval) none).run P w= .ok v w:=H
    simp[execOp,aD,Y]
   ·cases h
 case fieldAddr t x f=>
  obtain⟨M,A,h⟩:=aI h
  obtain⟨z,v,D,E,H⟩:=abP (w:=w) F.types h (aZ q A a.defers)
  cases D
  refine bp hd (v:=v) (w':=w) ?_ q E
  have Y:(Instr.fieldAt t (a.eval x) f).run P w= .ok v w:=H
  simp[execOp,aD,Y]
 case field t x f=>
  obtain⟨M,A,h⟩:=aI h
  obtain⟨z,v,D,E,H⟩:=abQ (w:=w) F.types h (aZ q A a.defers)
  cases D
  refine bp hd (v:=v) (w':=w) ?_ q E
  have Y:(Instr.field t (a.eval x) f).run P w= .ok v w:=H
  simp[execOp,aD,Y]
 case indexAddr t x i=>
  obtain⟨M,A,h⟩:=aI h
  obtain⟨i1,hi,h⟩:=aI h
  obtain⟨z,v,D,E,H⟩:=abR F.types q h (aZ q A a.defers) (aZ q hi a.defers)
  cases D
  refine bp hd (v:=v) (w':=w) ?_ q E
  have Y:(indexAt t (a.eval x) (a.eval i)).run P w= .ok v w:=H
  simp[execOp,aD,Y]
 case index t x i=>
  split at h
  ·rename_i L b k n K A hi
   split at h
   ·rename_i a4
    simp only[ag,hB] at h
    split at h
    ·rename_i g7
     cases b0:b[Int.toNat n]? with
     |none=>grind
     |some y=>
      simp only[b0,bn,ac] at h
      cases h
      have R:=oH (aZ q A a.defers)
      have O:=dz (aZ q hi a.defers)
      have f0:a.eval x= .string b:=R
      have f1:a.eval i= .int k n:=O
      have b5:P.underlying t=some .string:=by have:=(F.types _ _ K).kind;rw[a4] at this;exact this
      refine bp hd (v:= .int .u8 y.toNat) (w':=w) ?_ q (eo _ _)
      simp_all [execOp,Instr.index,asIntOf,aD,bi]
    ·simp at h
   ·cases h
  ·rename_i L cs k n K A hi
   split at h
   ·rename_i c e k0
    obtain⟨c2,a0,h⟩:=aI h
    simp only[ag,idx] at h
    split at h
    ·rename_i g7
     cases Z:c2.2[Int.toNat n]? with
     |none=>simp_all
     |some y=>
      rw[Z] at h
      simp only[ac] at h
      cases h
      obtain⟨vs,R,c1⟩:=aZ q A a.defers
      have O:=dz (aZ q hi a.defers)
      have f1:a.eval i= .int k n:=O
      have f0:a.eval x= .agg vs.toArray:=R
      unfold Mr at a0
      split at a0
      ·rename_i d3 u W o3
       split at a0
       ·rename_i c7
        obtain⟨b1,b2,b9,c0⟩:=c7
        cases a0
        obtain⟨z,f9,m5⟩:=qF Z
        obtain⟨v,G,a5⟩:=c1.get _ _ _ _ f9
        have f5:n.toNat<c:=by grind
        have b5:P.underlying t=some (.array c e):=by have:=(F.types _ _ K).kind;rw[k0] at this;exact this
        have W:=F.types _ _ W
        refine bp hd (v:=v) (w':=w) ?_ q (iw m5 a5)
        have g8:(0:Int)<=n:=g7
        have i0:n<(c:Int):=(Int.toNat_lt g8).1 f5
        simp[execOp,f0,f1,Instr.index,asIntOf,aD,bi b5,g8,i0,run_sizeOf W,b1]
        simp[part,aD,oF W,b2,G]
       ·cases a0
      ·cases a0
    ·simp at h
   ·cases h
  ·cases h
 case extract x i=>
  obtain⟨M,A,h⟩:=aI h
  split at h
  ·rename_i cs
   obtain⟨y,Z,h⟩:=aI h
   cases h
   obtain⟨vs,a3,c1⟩:=aZ q A a.defers
   have c9:a.eval x= .tuple vs.toArray:=a3
   obtain⟨v,G,a5⟩:=c1.get _ _ i y Z
   refine bp hd (v:=v) (w':=w) ?_ q a5
   simp[execOp,c9,Instr.extract,G]
  ·cases h
 case call c=>
  obtain⟨h7,a2,g6⟩:=c
  simp only at h
  cases h7<;>(try simp only at h)
  case invoke r m=>cases h
  case value f=>
   obtain⟨n5,a7,h⟩:=aI h
   split at h
   ·rename_i g first c4
    split at h
    ·rename_i args c6
     obtain⟨d5,d6,a3,D,E⟩:=aZ q a7 a.defers
     have c9:a.eval f= .func (.func g) d5.toArray d6.toArray:=a3
     have H:=lp q a.defers a2.toList args c6
     have l8:lg C s g (first++args++c4) (first.map (fun _=>0)++g6.toList++c4.map (fun _=>0))=true:=by
      grind [jj]
     obtain⟨r,g3,j9,i5⟩:=Co F.ek h0 h1 q l8 h (vs:=d5++a2.toList.map a.eval++d6) ((D.append H).append E)
     cases j9
     have l1:kl P g:=by
      unfold eJ at h
      split at h
      ·cases h
      ·simp only at h
       split at h
       ·simp only[ag] at h
        cases a0:(C.ek g _ _).o with
        |none=>rw[a0] at h;simp at h
        |some c2=>grind [fD.call]
       ·cases h
     unfold wp
     have I:(execOp a.eval ⟨a6,.call ⟨.value f,a2,g6⟩,a1,b8,b6,b7⟩).run P w= .ok (.enter g (d5++a2.toList.map a.eval++d6).toArray) w:=by
      have e:d5.toArray++a2.map a.eval++d6.toArray=(d5++a2.toList.map a.eval++d6).toArray:=by simp_all
      simp[execOp,resolve,c9,ofValue,invoke,e,l1 _ w]
     rw[I,Ci]
     refine i5.mono fun e w' l2=> ?_
     obtain⟨v,c3,rfl,i2,J⟩:=l2
     exact⟨by cases a6<;>exact hd,c3,i2.put a6 J a.defers⟩
    ·cases h
   ·cases h
  case builtin b=>
   cases b<;>(try simp only at h)
   case len=>
    split at h
    ·rename_i x t a8 d1
     obtain⟨M,A,h⟩:=aI h
     have R:=km a8
     have O:=km d1
     subst R O
     split at h
     ·rename_i L K
      have b3:=(F.types _ _ K).kind
      have G:=aZ q A a.defers
      have l9: ∀b:ByteArray,a.eval x= .string b->L.kind= .str->(execOp a.eval ⟨a6,.call ⟨.builtin .len,#[x],#[t]⟩,a1,b8,b6,b7⟩).run P w= .ok (.value (.int .i64 b.size)) w:=by
       intro b b0 a4
       rw[a4] at b3
       simp[execOp,resolve,invoke,builtin,len_,b0,aD,bi b3,goInt]
      have l7: ∀e n d8 d9,a.eval x= .slice d8 n d9->L.kind= .slice e->(execOp a.eval ⟨a6,.call ⟨.builtin .len,#[x],#[t]⟩,a1,b8,b6,b7⟩).run P w= .ok (.value (.int .i64 n)) w:=by
       intro e n d8 d9 b0 a4
       rw[a4] at b3
       simp[execOp,resolve,invoke,builtin,len_,b0,aD,bi b3,goInt]
      split at h
      ·cases h
      ·cases h
      ·rename_i b a4
       obtain⟨n,f6,h⟩:=aI h
       cases h
       rcases ME q f6 G with⟨g5,R,O,rfl⟩|⟨l0,_⟩
       ·exact bp hd (l9 g5 O a4) q (eo _ _)
       simp_all
      ·rename_i a4 l0
       obtain⟨n,f6,h⟩:=aI h
       cases h
       rcases ME q f6 G with⟨g5,R,O,rfl⟩|⟨_,d8,d9,e⟩
       ·simp_all
       ·exact bp hd (l7 _ n d8 d9 e a4) q (eo _ _)
      ·cases h
     ·cases h
    ·cases h
   case append=>
    split at h
    ·rename_i x y t t2 a8 d1
     have R:=lv a8
     have O:=lv d1
     subst R O
     split at h
     ·rename_i m2
      subst m2
      obtain⟨M,A,h⟩:=aI h
      obtain⟨g4,Z,h⟩:=aI h
      obtain⟨z,v,g3,w',c3,D,E,H,c5⟩:=ab5 (ty:=a1) F.types h0 h1 q h (aZ q A a.defers) (aZ q Z a.defers)
      cases D
      refine bp hd (v:=v) (w':=w') ?_ H c5
      have f2:(append_ #[t,t] a1 #[a.eval x,a.eval y]).run P w= .ok v w':=E
      simp[execOp,resolve,invoke,builtin,aD,f2]
     ·cases h
    ·cases h
   case copy=>
    split at h
    ·rename_i x y t t2 a8 d1
     have R:=lv a8
     have O:=lv d1
     subst R O
     obtain⟨M,A,h⟩:=aI h
     obtain⟨g4,Z,h⟩:=aI h
     obtain⟨n,g3,w',c3,D,E,H⟩:=ab4 (t2:=t2) (ty:=a1) F.types q h (aZ q A a.defers) (aZ q Z a.defers)
     cases D
     refine bp hd (v:= .int .i64 n) (w':=w') ?_ H (eo _ _)
     have f2:(copy_ #[t,t2] a1 #[a.eval x,a.eval y]).run P w= .ok (.int .i64 n) w':=E
     simp[execOp,resolve,invoke,builtin,aD,f2]
    ·cases h
   case max=>
    split at h
    ·rename_i k n r c6
     obtain⟨m,X,h⟩:=aI h
     cases h
     have H:=lp q a.defers a2.toList _ c6
     obtain⟨v,d7,a3,c5,f3⟩:=H
     have e:=dz c5
     subst e
     simp only[co] at X
     obtain⟨d4,X,rfl⟩:=X
     have j2:=Cu (P:=P) (w:=w) (g:=max2) (fun n m=>by simp[max2,imax]) r n d4 d7 X f3
     refine bp hd (v:= .int k d4) (w':=w) ?_ q (eo _ _)
     have c9:a2.map a.eval=(Value.int k n::d7).toArray:=by rw[vq];exact aR toArray a3
     simp_all [execOp,resolve,invoke,builtin,max_,aD]
    ·cases h
   case min=>
    split at h
    ·rename_i k n r c6
     obtain⟨m,X,h⟩:=aI h
     cases h
     have H:=lp q a.defers a2.toList _ c6
     obtain⟨v,d7,a3,c5,f3⟩:=H
     have e:=dz c5
     subst e
     simp only[co] at X
     obtain⟨d4,X,rfl⟩:=X
     have j2:=Cu (P:=P) (w:=w) (g:=min2) (fun n m=>by simp[min2,bV]) r n d4 d7 X f3
     refine bp hd (v:= .int k d4) (w':=w) ?_ q (eo _ _)
     have c9:a2.map a.eval=(Value.int k n::d7).toArray:=by rw[vq];exact aR toArray a3
     simp_all [execOp,resolve,invoke,builtin,min_,aD]
    ·cases h
   all_goals cases h
 all_goals cases h
end
end Go.Rv
namespace Go.Rv
theorem ea {β:Type} {c:Bool} {x:Option β} {r:β} (h:cond c x none=some r):c=true/\x=some r:=by
 cases c<;>simp_all
section
variable {P : Program} {B : ce} {s : St} {a : Act} {w : World} {ι : aX} {C : Ctx}
theorem M7 {β:Type} {base:Nat} {x:Option β} {r:β} (h:(match s.heap[base]? with|some none=>x|_=>none)=some r):s.heap[base]? =some none/\x=some r:=by
 grind
theorem M8 {β:Type} {i n:Nat} {f:Unit->Option β} {r:β} (h:(within i n).bind f=some r):i<n/\f ()=some r:=by
 grind [within]
theorem M9 {β:Type} {cs:List AV} {m i:Nat} {k:Option β} {r:β} (b:cs.length<=1) (h:li (ag β) cs m i k=some r):(cs.length=0\/(cs.length=1/\m=i))/\k=some r:=by
 cases cs<;>grind [li,ag,same]
theorem acu {β:Type} {cs:List AV} {m f n:Nat} {k:Option β} {r:β} (h:uQ (ag β) cs m f n k=some r):(∀j,j<cs.length->m+j<f\/n<=m+j)/\k=some r:=by
 unfold uQ at h
 split at h
 ·simp_all
 ·rename_i a
  have h:(sure (blt m f||ble n m)).bind (fun _=>k)=some r:=h
  grind [blt,ble,sure,Nat.blt_eq,Nat.ble_eq]
 ·cases h
theorem acv {p:Option (Nat×Nat×Nat)} {n c:Nat} {v:Value} (b:br ⟨p,c,n⟩ 0 n v): ∃a k,v= .slice a n k:=by
 grind [br]
theorem acw (F:fD P C) (U:C.k=B.k) (f9: ∀g,C.mv.contains g=true->B.mv g=true) {base:Nat} {o:Oper} {s':St} (c1:bc B s a w) (g1:jj C o s=true) (h:oz (ag St) C base o s some=some s') (Q:Exit->Act->World->Prop):
  o.wp P a w (fun d2 w'=>bc B s' d2 w') Q:=by
 unfold oz at h
 cases d6:C.deep with
 |false=>
  grind [cT]
 |true=>
  rw[d6] at h
  simp only[aw] at h
  have f7:=c1
  obtain⟨hd,ι,d⟩:=c1
  obtain⟨d0,e9,a5,g4,g2,g3⟩:=o
  cases e9<;>simp only at h
  case load t p=>
   split at h
   ·rename_i g i off a6 N K
    split at h
    ·rename_i u xss m cs E
     replace h:=ea h
     obtain⟨j,h⟩:=h
     simp only[aT,Cj,gl,iz] at j
     obtain⟨⟨rfl,a1⟩,rfl⟩:=j
     simp only[ag] at h
     cases D:xss[i]? with
     |none=>simp_all
     |some xs=>
      rw[D] at h
      simp only[ac] at h
      replace h:=M7 h
      obtain⟨H,h⟩:=h
      cases h
      obtain⟨v,q,A,z⟩:=acg F.types d K a1 (bk E) D H (aZ d N a.defers)
      refine bp hd (v:=v) (w':=w) ?_ q A
      have J:(loadAt t (a.eval p)).run P w= .ok v w:=z
      simp[execOp,aD,J]
    grind [cT]
   grind [cT]
  case slice t x lo hi e8=>
   cases e8 with
   |some b9=>grind [cT]
   |none=>
    simp only at h
    split at h
    ·rename_i g D
     split at h
     ·rename_i u xss m cs M l r E G b6 X
      replace h:=ea h
      obtain⟨j,h⟩:=h
      simp only[aT,iz,mY] at j
      obtain⟨d8,d9⟩:=vp d b6
      obtain⟨e3,e4⟩:=vp d X
      obtain⟨f,n,Z,d5⟩:=acp F.types d G j.1 (bk E) (U▸j.2) (aZ d D a.defers) h d8 e3 d9 e4
      replace Z:=acu Z
      obtain⟨e1,Z⟩:=Z
      cases Z
      obtain⟨v,z,q,A⟩:=d5 e1
      refine bp hd (v:=v) (w':=w) ?_ q A
      have J:(sliceAt t (a.eval x) (lo.map a.eval) (hi.map a.eval) none).run P w= .ok v w:=z
      simp[execOp,aD,J]
     grind [cT]
    grind [cT]
  case store t p v=>
   split at h
   ·rename_i g i off a9 a6 N O K
    split at h
    ·rename_i u xss m cs E
     unfold BL at h
     split at h
     ·rename_i d1 xs Y
      split at h
      ·rename_i R a0
       obtain⟨e,I⟩:=ke a0
       cases e
       have I:R=xs:=I
       subst I
       replace h:=ea h
       obtain⟨j,h⟩:=h
       simp only[aT,gl,iz,mY] at j
       obtain⟨⟨⟨⟨rfl,a1⟩,b7⟩,V⟩,b3⟩:=j
       replace h:=M8 (f:=fun _=>li (ag St) cs m i (some ((bI s g a9 i u xss R).put d0 .undef))) h
       obtain⟨b4,h⟩:=h
       replace h:=M9 b3 h
       obtain⟨W,h⟩:=h
       cases h
       obtain⟨w',S,q,z⟩:=ach F.types d K a1 b7 (bk E) (bk Y) (U▸V) W b4 (aZ d N a.defers) (aZ d O a.defers)
       refine vn hd ?_ q
       have J:(storeAt t (a.eval p) (a.eval v)).run P w= .ok () w':=z
       simp[execOp,aD,J]
      ·cases h
     ·cases h
    grind [cT]
   ·rename_i g i off a9 f l a6 N O K
    split at h
    ·rename_i u xss m cs E
     unfold BM at h
     split at h
     ·rename_i d1 xs Y
      split at h
      ·rename_i R a0
       obtain⟨e,I⟩:=ke a0
       cases e
       have I:R=xs:=I
       subst I
       replace h:=ea h
       obtain⟨j,h⟩:=h
       simp only[aT,gl,iz,mY] at j
       obtain⟨⟨⟨⟨rfl,a1⟩,b7⟩,V⟩,b3⟩:=j
       replace h:=M8 (f:=fun _=>li (ag St) cs m i (some ((bI s g a9 i u xss (List.take l (List.drop f (R:List u.den)))).put d0 .undef))) h
       obtain⟨b4,h⟩:=h
       replace h:=M9 b3 h
       obtain⟨W,h⟩:=h
       cases h
       obtain⟨w',S,q,z⟩:=aci F.types d K a1 b7 (bk E) (bk Y) (U▸V) W b4 (aZ d N a.defers) (aZ d O a.defers)
       refine vn hd ?_ q
       have J:(storeAt t (a.eval p) (a.eval v)).run P w= .ok () w':=z
       simp[execOp,aD,J]
      ·cases h
     ·cases h
    grind [cT]
   grind [cT]
  case assign x=>
   split at h
   ·rename_i M D G
    split at h
    ·rename_i u c6
     replace h:=dP h
     obtain⟨H,h⟩:=h
     cases h
     obtain⟨S,q,A⟩:=acm d H (aZ d D a.defers) u
     exact bp hd (v:=a.eval x) (w':=w) (by simp[execOp]) q A
    grind [cT]
   grind [cT]
  case makeSlice t l c=>
   split at h
   ·rename_i M k1 n k2 m G b6 j
    split at h
    ·rename_i u c6
     replace h:=ea h
     obtain⟨c3,h⟩:=h
     simp only[aT,iz,mY] at c3
     obtain⟨⟨a3,a4⟩,b2⟩:=c3
     simp only[ag] at h
     cases W:mk n m with
     |none=>grind
     |some b9=>
      simp only[W,ac] at h
      replace h:=dP h
      obtain⟨H,h⟩:=h
      cases h
      have f6:a.eval l= .int k1 n:=dz (aZ d b6 a.defers)
      have d3:a.eval c= .int k2 m:=dz (aZ d j a.defers)
      obtain⟨v,w',S,z,q,A⟩:=ack F.types d G (k1:=k1) (k2:=k2) W a3 a4 b2 H u
      refine bp hd (v:=v) (w':=w') ?_ q A
      simp_all [execOp,aD]
    grind [cT]
   grind [cT]
  case buildSlice t n f0=>
   split at h
   ·rename_i M G
    split at h
    ·rename_i u c6
     split at h
     ·rename_i e2
      replace h:=ea h
      obtain⟨j,h⟩:=h
      simp only[iz] at j
      replace h:=dP h
      obtain⟨H,h⟩:=h
      cases h
      obtain⟨v,w',S,z,q,A⟩:=acl F.types d G j H u
      refine bp hd (v:=v) (w':=w') ?_ q A
      simp_all [Array.ext',execOp,aD]
     ·rename_i x e2
      split at h
      ·rename_i g D
       replace h:=ea h
       obtain⟨j,h⟩:=h
       simp only[iz] at j
       replace h:=dP h
       obtain⟨H,h⟩:=h
       cases h
       obtain⟨v,w',S,z,q,A⟩:=M2 F.types d G j H (aZ d D a.defers)
       refine bp hd (v:=v) (w':=w') ?_ q A
       have e:f0= #[(0,x)]:=by grind
       subst e
       have g0:(Instr.buildSlice t 1 #[(0,a.eval x)]).run P w= .ok v w':=z
       simp_all [execOp,aD]
      grind [cT]
     grind [cT]
    grind [cT]
   grind [cT]
  case indexAddr t x i=>
   split at h
   ·rename_i a6 g k n K D hi
    split at h
    ·rename_i u xss m cs e E b5
     split at h
     ·rename_i M G
      replace h:=ea h
      obtain⟨j,h⟩:=h
      simp only[iz] at j
      simp only[ag,ap] at h
      split at h
      ·rename_i c5
       simp only[ac] at h
       cases h
       have X:=bk E
       obtain⟨b9,a2,L⟩:=aZ d D a.defers
       rw[bO X] at a2
       cases a2
       simp only[Row.cells,Row.len] at L
       have e0:n.toNat<xss.length:=by omega
       have d3:a.eval i= .int k n:=dz (aZ d hi a.defers)
       unfold br at L
       simp only at L
       split at L
       ·rename_i b o c N
        obtain⟨f8,O|⟨d4,c0,O⟩⟩:=L
        ·have z:=u3 (w:=w) (F.types _ _ K) b5 (F.types _ _ G) b (o+0) xss.length (c-0) k n c5.1 c5.2
         have c7:a.eval x= .slice (some ⟨b,o+0,none⟩) xss.length (c-0):=by omega
         refine bp hd (v:= .pointer (some ⟨b,o+0+n.toNat*M.size,none⟩)) (w':=w) ?_ d ⟨_,b,o,c,bO X,N,e0,?_⟩
         ·have J:(indexAt t (a.eval x) (a.eval i)).run P w= .ok (.pointer (some ⟨b,o+0+n.toNat*M.size,none⟩)) w:=by simp_all
          simp[execOp,aD,J]
         ·simp[Row.cells,j]
        ·omega
       omega
      ·cases h
     ·cases h
    grind [cT]
   grind [cT]
  case call c=>
   obtain⟨f4,f3,f5⟩:=c
   simp only at h
   split at h
   ·rename_i x t b1 b8
    have a7:=km b1
    have a8:=km b8
    subst a7 a8
    split at h
    ·rename_i g a6 D K
     split at h
     ·rename_i u xss m cs e E b5
      cases h
      have X:=bk E
      obtain⟨b9,a2,L⟩:=aZ d D a.defers
      rw[bO X] at a2
      cases a2
      simp only[Row.cells,Row.len] at L
      obtain⟨c0,e7,O⟩:=acv L
      have c7:a.eval x= .slice c0 xss.length e7:=O
      have c4:=(F.types _ _ K).kind
      rw[b5] at c4
      refine bp hd (v:= .int .i64 xss.length) (w':=w) ?_ d (eo _ _)
      simp[execOp,resolve,invoke,builtin,len_,c7,aD,bi c4,goInt]
     grind [cT]
    grind [cT]
   ·rename_i x y t t2 b1 b8
    have a7:=lv b1
    have a8:=lv b8
    subst a7 a8
    split at h
    ·rename_i f1 f2 D c8
     split at h
     ·rename_i g E
      unfold BK at h
      split at h
      ·rename_i M d1 xs G Y
       replace h:=ea h
       obtain⟨j,h⟩:=h
       simp only[aT,cb,iz,mY] at j
       obtain⟨⟨⟨⟨rfl,a3⟩,a4⟩,b2⟩,V⟩:=j
       have c9:M.zero.length=1:=by have:=qJ b2;grind [Ty.cells]
       split at h
       ·replace h:=M7 h
        obtain⟨H,h⟩:=h
        cases h
        obtain⟨v,w',S,z,q,A⟩:=acn (ty:=a5) F.types d G a3 a4 c9 H (bk E) (bk Y) (U▸V) (aZ d D a.defers) (aZ d c8 a.defers)
        refine bp hd (v:=v) (w':=w') ?_ q A
        have b0:(append_ #[t,t] a5 #[a.eval x,a.eval y]).run P w= .ok v w':=z
        simp[execOp,resolve,invoke,builtin,aD,b0]
       ·rename_i d4
        split at h
        ·rename_i u xss m cs e6
         split at h
         ·rename_i R a0
          obtain⟨e,I⟩:=ke a0
          cases e
          have I:R=xs:=I
          subst I
          replace h:=ea h
          obtain⟨c2,h⟩:=h
          simp only[aT,Cj,mY] at c2
          obtain⟨rfl,d7⟩:=c2
          simp only[ag] at h
          replace h:=qM h
          obtain⟨e5,h⟩:=h
          cases h
          obtain⟨v,w',S,z,q,A⟩:=acj (ty:=a5) F.types d G a3 a4 c9 (bk e6) (bk E) (bk Y) (U▸V) (U▸d7) e5 (aZ d D a.defers) (aZ d c8 a.defers)
          refine bp hd (v:=v) (w':=w') ?_ q A
          have b0:(append_ #[t,t] a5 #[a.eval x,a.eval y]).run P w= .ok v w':=z
          simp[execOp,resolve,invoke,builtin,aD,b0]
         ·cases h
        ·cases h
       ·cases h
      ·cases h
     grind [cT]
    grind [cT]
   grind [cT]
  all_goals grind [cT]
theorem acx {o:Oper} {g:Nat} (h:hF C o s=some g): ∃t b x,o.op= .buildSlice t 1 #[(0,x)]/\elemOf C.T t=some b/\ay s x=some (.ab g)/\b.size=1:=by
 obtain⟨q,i,y,v,p,r⟩:=o
 unfold hF at h
 cases i<;>simp only at h<;>(try cases h)
 rename_i t n j
 split at h
 ·rename_i b d
  split at h
  ·rename_i u x m l
   split at h
   ·rename_i k f
    replace h:=ea h
    obtain⟨c,h⟩:=h
    cases h
    have e:j= #[(0,x)]:=by grind
    subst e
    exact⟨t,b,x,rfl,d,f,by simpa using c⟩
   ·cases h
  ·cases h
 ·cases h
theorem acy {b:Type} {p:b->Bool}: ∀{l:List b} {x:b},l.find? p=some x->x∈l/\p x=true
 |y::l,x,h=>by
  grind
theorem acz {o:Oper} {g:FuncId} {args:List AV} {types:List TypeId} (h:BN C.T s o=some (g,args,types)):
  ∃f i k t name j m off r l,o.op= .call ⟨.value f,i,k⟩/\ay s f=some (.raw (.func (.methodOf t name) #[] #[]))/\C.T t=some j/\cH s i.toList=some args/\args= .ptr m off::r/\j.kind= .kY l/\(name,g)∈l/\types=k.toList:=by
 obtain⟨H,J,L,K,G,I⟩:=o
 unfold BN at h
 split at h
 ·rename_i c z
  obtain⟨q,i,k⟩:=c
  split at h
  ·rename_i f x
   split at h
   ·rename_i v D
    split at h
    ·rename_i t name d
     split at h
     ·rename_i j m off r A u
      split at h
      ·rename_i l y
       split at h
       ·rename_i p n
        cases h
        have:=acy n
        have e:p.1=name:=by simp_all
        have E:v= .func (.methodOf t name) #[] #[]:=by
         unfold Mu at d
         split at d
         ·rename_i M F a b
          split at d
          all_goals simp_all
         ·cases d
        grind
       ·cases h
      ·cases h
     ·cases h
    ·cases h
   ·cases h
  ·cases h
 ·cases h
theorem acA {t:TypeId} {name:String} {g:FuncId} (b:qE P t name g=true) (c:Addr) (n:Nat):(method (n+1) t (.pointer (some c)) name).run P w= .ok (g,.pointer (some c)) w:=by
 unfold qE at b
 split at b
 ·rename_i i hi
  split at b
  ·rename_i m u
   split at b
   ·rename_i st f y p
    simp only[aT,iz] at b
    obtain⟨⟨hd,rfl⟩,b⟩:=b
    split at b
    ·rename_i o D
     split at b
     ·rename_i h q
      simp only[aT,iz] at b
      obtain⟨⟨x,A⟩,l⟩:=b
      have v:i.methods.find? (fun m=>m.name==name)=some m:=by simp_all
      obtain⟨z,E⟩: ∃d,P.underlying h.type=some (.struct d):=by
       grind
      obtain⟨j,k,r⟩: ∃j,P.info? h.type=some j/\j.size≠0:=by
       split at l
       ·rename_i j k
        refine⟨j,k,fun e=> ?_⟩
        simp_all
       ·cases l
      have F:(typeInfo t).run P w= .ok i w:=by simp[typeInfo,hi]
      have G:(fieldPlace c h).run P w= .ok c w:=by
       simp_all [typeInfo,fieldPlace,sizeOf,aD,Addr.add]
      simp_all [follow,aD,bi,Place.get,asAddr,receiverAt,method,eg]
     ·cases b
    ·cases b
   ·cases b
  ·cases b
 ·cases b
theorem acB {o:Oper} {p:uR} (h:uS C.T s o=some p):
  ∃t pa c b a,o.op= .store t pa c/\ay s pa=some (.bU p.h p.i p.off)/\ay s c=some a/\C.T t=some b/\s.row p.h=some (.seq p.u p.xs)/\
   ((cG b.kind=true/\a= .agg p.new/\p.new.length=b.size)\/(cG b.kind=false/\p.new=[a]/\b.size=1)):=by
 unfold uS at h
 split at h
 all_goals grind [Nat.eq_of_beq_eq_true]
theorem acC (a6:bP P C.T) (A:Inv B s a.tmps w ι) {β:Type} {o:Oper} {p:uR} (b5:uS C.T s o=some p) {K:St->Option β} {r:β} (h:uT (ag β) s p K=some r):
  ∃t pa k s' w' c7,o.op= .store t pa k/\K s'=some r/\Inv B s' a.tmps w' c7/\(storeAt t (a.eval pa) (a.eval k)).run P w= .ok () w':=by
 obtain⟨t,pa,k,a4,av,b3,X,c4,b9,Y,Q⟩:=acB b5
 obtain⟨g,i,off,u,xs,new⟩:=p
 simp only at X Y Q
 unfold uT at h
 obtain⟨M,h⟩:=ea h
 simp only[aT] at M
 obtain⟨⟨N,O⟩,a7⟩:=M
 have N:0<new.length:=ja N
 have O:off+new.length<=u.cells:=ja O
 have I:=bk Y
 obtain⟨d8,b,d,c,b6,H,V,c6⟩:=aZ A X a.defers
 have c2:=aZ A c4 a.defers
 have b7:=dA I b6
 subst b7
 simp only at H V c6
 have Z:=A.am.rows g _ I
 rw[H] at Z
 obtain⟨f,e,G,d2,d7,a9,a1⟩:=Z
 have a3:xs[i]? =some xs[i]:=bh V
 rw[a3] at h
 simp only[ag,ac] at h
 split at h
 ·rename_i a5 c1
  have c0:=a6 t a4 b9
  obtain⟨vs,L,a8,J⟩: ∃vs,aC w (dst B.D w ι s.heap) (sumOf ι s.heap) new vs/\(a.eval k).cells=vs.toArray/\vs.length=a4.size:=by
   rcases Q with⟨_,rfl,J⟩|⟨_,rfl,J⟩
   ·obtain⟨vs,l,F⟩:=c2
    have l:a.eval k= .agg vs.toArray:=l
    exact⟨vs,F,by rw[l];rfl,by rw[F.length];exact J⟩
   grind [aC,dst,sumOf,eval,oK,List.mem_singleton,mT]
  have c5:=L.length
  have F:=oK L a7
  have d6:i*u.cells+u.cells<=c*u.cells:=by
   have:(i+1)*u.cells<=c*u.cells:=ic _ (by omega)
   grind
  have d3:d+i*u.cells+off+vs.length<=f.size:=by omega
  have a0:=oL (v:=a.eval k) (o:=d+i*u.cells+off) c0 G (by simp_all) (by simp_all) (by simp_all)
  rw[a8] at a0
  simp only[List.toList_toArray] at a0
  refine⟨t,pa,k,_,_,_,b3,h,A.write I (.seq u (xs.set i a5)) rfl rfl (by simp[Row.len]) H G (f.toList.take (d+i*u.cells+off)++vs++f.toList.drop (d+i*u.cells+off+vs.length)).toArray ?_,?_⟩
  ·intro a2
   refine⟨_,e,jb w b f _ e _ G,?_,by grind,a9,?_⟩
   ·simp;omega
   ·intro j y n
    rw[od] at n
    have b1: ∀m,(f.toList.take (d+i*u.cells+off)++vs++f.toList.drop (d+i*u.cells+off+vs.length)).toArray[m]? =if d+i*u.cells+off<=m/\m<d+i*u.cells+off+vs.length then vs[m-(d+i*u.cells+off)]? else f[m]? :=by
     intro m
     have:=jn f.toList (d+i*u.cells+off) vs (by omega) m
     simp_all
    split at n
    ·rename_i U
     subst U
     have n:=fV n
     subst n
     obtain⟨x,S,d0⟩:=a1 i _ a3
     have d4:=ax.length _ _ _ S
     have W:=oI (σ:=sumOf ι s.heap) u xs[i] x S
     have b4:aC w (dst B.D w ι s.heap) (sumOf ι s.heap) (overwrite (leaves u xs[i]) off new) (x.take off++vs++x.drop (off+vs.length)):=by
      unfold overwrite
      rw[c5]
      exact((W.take off).append L).append (W.drop _)
     obtain⟨v1,v2,l,b0,b8⟩:=u6 u _ a5 [] _ c1 b4
     have c3:v2=[]:=b8
     subst c3
     rw[fZ] at l
     subst l
     refine⟨_,a2.aa b0,fun m z E=> ?_⟩
     have b2:=jn x off vs (by omega) m
     rw[b2] at E
     rw[b1]
     split at E
     all_goals grind
    ·rename_i U
     obtain⟨cs,R,c9⟩:=a1 j y n
     refine⟨cs,a2.aa R,fun m z E=> ?_⟩
     have d1:=ax.length _ _ _ R
     have d5:=(aO.1 E).1
     have q:j<i\/i<j:=by omega
     have c8:j*u.cells+u.cells<=i*u.cells\/i*u.cells+u.cells<=j*u.cells:=by
      rcases q with q|q
      ·left
       have:(j+1)*u.cells<=i*u.cells:=ic _ q
       grind
      ·right
       have:(i+1)*u.cells<=j*u.cells:=ic _ q
       grind
     grind
  simp_all [eval,storeAt,sureAddr,aD]
 ·cases h
theorem Na {T:TT} (o:bP P T) {S:Nat->Prop} {σ:Nat->Option Sum} {d:Nat} {j l:List AV} {vx vy:List Value} (t:aC w S σ j vx) (u:aC w S σ l vy):
  ∀(F:List Field) (b:Bool),(∀f∈F,f.name≠ "_")->mN T (F.map fun f=>(f.offset,f.type)) j l=some b->(Op.eqFields (d+1) vx.toArray vy.toArray F).run P w= .ok b w
 |[],b,_,h=>by
  simp_all [iA,mN,ew,Op.eqFields]
 |f::F,b,q,h=>by
  simp only[dJ,mN] at h
  split at h
  ·rename_i A k n R m H D E
   split at h
   ·rename_i v p
    split at h
    ·rename_i J
     subst J
     obtain⟨x,G,rfl⟩:=co.1 h
     have Q:=Na (d:=d) o t u F x (fun g I=>q g (bA _ I)) G
     have c:=o _ _ H
     have K:P.underlying f.type=some (.int v):=by have:=c.kind;rw[p] at this;exact this
     obtain⟨v1,y,e⟩:=t.get _ _ _ _ D
     obtain⟨v2,z,i⟩:=u.get _ _ _ _ E
     have e:=dz e
     have i:=dz i
     subst e i
     have r:cG A.kind=false:=by rw[p];rfl
     have L:(part f.type vx.toArray f.offset).run P w= .ok (.int k n) w:=by simp[part,aD,oF c,r,y]
     have M:(part f.type vy.toArray f.offset).run P w= .ok (.int k m) w:=by simp[part,aD,oF c,r,z]
     have N:=run_equalIn_int w d f.type k v n m K
     simp only[Op.eqFields]
     rw[aA (q f (bl ..))]
     simp only[aD,L,M,N,eg]
     cases O:(n==m)<;>simp_all
    ·cases h
   ·cases h
  ·cases h
theorem acD (r:bP P C.T) (j:Inv B s a.tmps w ι) {o:Oper} {b:Bool} (h:structEq C.T s o=some b):(execOp a.eval o).run P w= .ok (.value (.bool b)) w:=by
 unfold structEq at h
 split at h
 ·rename_i I t x y ty G
  split at h
  ·rename_i xs ys m v z f
   have f:=r _ _ f
   obtain⟨vx,g,J⟩:=aZ j v a.defers
   obtain⟨vy,i,K⟩:=aZ j z a.defers
   have g:a.eval x= .agg vx.toArray:=g
   have i:a.eval y= .agg vy.toArray:=i
   have l: ∀(c:List (Nat×TypeId)) (b:Bool),m.kind= .ex c->m.eq=true->mN C.T c xs ys=some b->
     (Op.equalIn 10000 t (.agg vx.toArray) (.agg vy.toArray)).run P w= .ok b w/\P.eqGuardType P.depth t=false:=fun c b e d h=>by
    have D:=f.eq d
    have k:=f.kind
    rw[e] at k
    obtain⟨F,H,E⟩:=k
    grind [BX,Bool.not_eq_true',Program.fieldsOf,List.all_eq_true,Na,run_equalIn_agg]
   split at h
   ·rename_i c e
    obtain⟨d,h⟩:=ea h
    obtain⟨A,u⟩:=l c b e d h
    simp_all [run_eql_struct,run_eqGuard_agg,execOp,aD,eg]
   ·rename_i c e
    obtain⟨d,p⟩:=ea h
    obtain⟨n,q,rfl⟩:=co.1 p
    obtain⟨A,u⟩:=l c n e d q
    simp_all [run_neq_struct,run_eqGuard_agg,execOp,aD,eg]
   ·cases h
  ·cases h
 ·cases h
theorem Cx {T:TT} {t e:TypeId} (h:qz (T t)=some e): ∃b,T t=some b/\b.kind= .slice e:=by
 unfold qz at h
 grind
theorem Cy {b:Bool} {β:Type} {f:Unit->Option β} {r:β} (h:(sure b).bind f=some r):b=true/\f ()=some r:=by
 grind [sure]
theorem acE {n:Int} {β:Type} {f:Nat->Option β} {r:β} (h:(oy n).bind f=some r): ∃q:Nat,n=(q:Int)/\0<q/\q<=1099511627776/\f q=some r:=by
 grind [oy,Int.toNat]
theorem acF {y:Operand} (h:BP y=true):y= .const (.slice none 0 0):=by
 grind [BP]
theorem Cz {a:Option AV} (h:qy a=true):a=some .aM:=by
 grind [qy]
theorem acG (k:Inv B s a.tmps w ι) {x:AV} {v:Value} (h:notNil s x=some true) (d:ah w (dst B.D w ι s.heap) (sumOf ι s.heap) x v): ∃b l c,v= .slice (some b) l c:=by
 unfold notNil at h
 split at h
 ·rename_i t xs
  simp at h
  obtain⟨i,cap,j,m,o⟩:=d
  grind
 ·rename_i g
  split at h
  ·rename_i t xs f
   simp at h
   obtain⟨q,e,p⟩:=d
   have n:=dA (bk f) e
   grind [br]
  ·cases h
 ·cases h
theorem acH {u:Ty} {zs:List Value} {z:Value} (e:el u zs=true) (o:z.cells.toList=zs) (n:Nat) (g:Array Value) (S:Nat->Prop):gW w S u (replicate n u.zero) (zeroCells z.cells n++g) 0:=by
 have m:=qJ e
 have p:z.cells.size=u.cells:=by
  grind
 have f:ax w S u u.zero z.cells.toList:=by grind [u9]
 intro i x c
 have hi:=(aO.1 c).1
 simp at hi
 have d:x=u.zero:=by simp_all
 subst d
 refine⟨z.cells.toList,f,fun j v l=> ?_⟩
 have b:j<u.cells:=by grind
 have h:i*u.cells+j<n*u.cells:=by
  have:(i+1)*u.cells<=n*u.cells:=ic _ hi
  grind
 have k:(i*u.cells+j)%u.cells=j:=by rw[Nat.mul_comm,Nat.mul_add_mod,Nat.mod_eq_of_lt b]
 grind [Value.cells,Array.getElem?_append_left,size_zeroCells,zeroCells,Array.getElem?_eq_getElem,Option.some.inj]
theorem acI {T:TT} (j:bP P T) (r:Inv B s a.tmps w ι) {t t2 ty:TypeId} {c:TI} {R:IntKind} (y:elemOf T t=some c) (L:P.underlying t2=some (.int R)) {u:Ty} {b:Nat} (Z:0<b) (I:b<=1099511627776)
  (a1:u.cells=c.size) (S:0<c.size) (V:c.bytes<=128) (m:el u c.zero=true) {base:Nat} (A:s.heap[base]? =some none) (f:Option Addr):
  ∃v w' i,(append_ #[t,t2] ty #[.slice f 0 0,.int .i64 b]).run P w= .ok v w'/\Inv B (s.setRow base (.seq u (replicate b u.zero))) a.tmps w' i/\
   ah w' (dst B.D w' i (s.setRow base (.seq u (replicate b u.zero))).heap) (sumOf i (s.setRow base (.seq u (replicate b u.zero))).heap) (.ab base) v:=by
 obtain⟨a4,e,h,F,g⟩:=oM y
 have h:=j _ _ h
 have g:=j _ _ g
 have l:P.underlying t=some (.slice e):=by have:=h.kind;rw[F] at this;exact this
 obtain⟨d,E,a0,W,z,Q,N⟩:=g.info
 have a3:=qJ m
 have K:d.size=u.cells:=by omega
 have a2:0<u.cells:=by omega
 have X:b*d.bytes<=140737488355328:=by
  have:b*d.bytes<=1099511627776*128:=fv I (by omega)
  omega
 have M:IntKind.i64.wrap (b:Int)=b:=by
  grind [IntKind.wrap,IntKind.bits,IntKind.signed,Int.bmod]
 have O:z.cells.size=u.cells:=by
  grind
 have Y:=ol w b 0 e
 have x:=om w b 0 e (by grind [maxLen])
 have G: ¬(b=0):=by omega
 have H: ¬((b:Int)<0):=by omega
 have p: ¬(9223372036854775807<(b:Int)):=by omega
 have n: ¬(281474976710656<(b:Int)*(d.bytes:Int)):=by
  omega
 have o: ¬(281474976710656<Builtin.nextslicecap b 0*d.bytes):=by
  grind [nextslicecap_zero]
 have J: ¬(b*u.cells=0):=by
  grind [Nat.mul_eq_zero]
 obtain⟨q,U⟩:=(r.drew (w.drawn+1)).mU A u (replicate b u.zero) (zeroCells z.cells b++zeroCells z.cells (grownCap w b 0 e-b)) e (grownCap w b 0 e)
  (by simp only[oo,BC,O,<-oq];grind) (by grind) x (acH m N b _ _)
 refine⟨_,_,_,?_,q,by omega⟩
 have k: ∀w1:World,(firstCells u.cells 0 (.slice f 0 0)).run P w1= .ok #[] w1:=fun w1=>by
  cases f<;>simp[firstCells,loadCells,loadCellsFrom]
 simp[append_,bi l,bi L,asInt,asIntOf,sizeOf,typeInfo,zeroValue,E,Q,lenOf,G,H,M,p,n,o,K,J,l,Question.forced,k,k,newRow,grownCap]
theorem CA {u:Ty} {S:Nat->Prop}: ∀(n:Nat) (vs:List Value),oA u n vs=true->vs.length=n*u.cells/\ ∀i,i<n-> ∃cs,ax w S u u.zero cs/\ ∀(j:Nat) v,cs[j]? =some v->vs[i*u.cells+j]? =some v
 |0,vs,h=>by
  grind [oA,List.isEmpty_iff]
 |n+1,vs,h=>by
  simp only[oA,aT] at h
  obtain⟨b,c⟩:=h
  obtain⟨e,g⟩:=CA n _ c
  have hd:=u9 (w:=w) b S
  have f:=ax.length _ _ _ hd
  rw[mH] at f
  rw[og] at e
  have l:u.cells<=vs.length:=by omega
  refine⟨by grind,fun i hi=> ?_⟩
  cases i with
  |zero=>
   grind
  |succ i=>
   obtain⟨cs,d,k⟩:=g i (by omega)
   refine⟨cs,d,fun j v m=> ?_⟩
   grind
theorem acJ {T:TT} {e:TypeId} {b:Ty×Nat} (h:BQ T e=some b): ∃c,T e=some c/\oA b.1 b.2 c.zero=true/\b.2<=1024:=by
 unfold BQ at h
 split at h
 ·rename_i c f
  split at h
  ·split at h
   ·split at h
    ·rename_i g _
     obtain⟨d,h⟩:=ea h
     cases h
     simp_all
    ·cases h
   ·cases h
  ·cases h
 ·cases h
theorem acK (A:bP P C.T) (p:Inv B s a.tmps w ι) {base:Nat} {o:Oper} {L:uU} {s':St} (d:BR C.T s o=some L) (h:uV (ag St) base o s some L=some s'):
  ∃v w' M Q x,(execOp a.eval o).run P w= .ok (.value v) w'/\Inv B Q a.tmps w' M/\ah w' (dst B.D w' M Q.heap) (sumOf M Q.heap) x v/\s'=Q.put o.dst x:=by
 unfold BR at d
 split at d
 ·rename_i e I
  obtain⟨r,Y,rfl⟩:=co.1 d
  obtain⟨F,f,a5,O⟩:=acJ Y
  have f:=A _ _ f
  obtain⟨d6,c8,d1,c6,z,d4,d5⟩:=f.info
  have a3:(execOp a.eval o).run P w= .ok (.value (.pointer (some ⟨w.heap.size,0,none⟩))) (w.alloc (.cells F.zero.toArray e)):=by
   have:z.cells=F.zero.toArray:=by grind
   simp_all [execOp,Instr.alloc,zeroValue,typeInfo,newVar,newRow]
  have h:cI (ag St) s base (.seq r.1 (replicate r.2 r.1.zero)) (fun s'=>some (s'.put o.dst (.ptr base 0)))=some s':=h
  obtain⟨N,h⟩:=dP h
  cases h
  obtain⟨V,W⟩:=p.mU N r.1 (replicate r.2 r.1.zero) F.zero.toArray e r.2 (by simpa using(CA (w:=w) (S:=fun _=>True) _ _ a5).1) (by simp) (by grind [maxLen]) (by
   intro i x g
   have hi:=(aO.1 g).1
   simp at hi
   have b8:x=r.1.zero:=by simp_all
   subst b8
   obtain⟨cs,hd,c5⟩:=(CA _ _ a5).2 i hi
   exact⟨cs,hd,fun j v m=>by simp_all⟩)
  obtain⟨L,d,d3⟩:=W
  have b5:base<s.heap.length:=(aO.1 N).1
  exact⟨_,_,_,_,.ptr base 0,a3,V,⟨_,w.heap.size,0,r.2,iu b5,rfl,by simp⟩,rfl⟩
 ·rename_i t x y ty I
  obtain⟨J,d⟩:=ea d
  have J:=acF J
  subst J
  split at d
  ·rename_i e e2 G g
   obtain⟨b,X,rfl⟩:=co.1 d
   obtain⟨rfl,h⟩:=Cy h
   cases h
   obtain⟨F,f,H⟩:=Cx G
   have f:=A _ _ f
   have a4:P.underlying t=some (.slice e):=by have:=f.kind;rw[H] at this;exact this
   obtain⟨a6,l,c,m⟩:=acG p X (aZ p g a.defers)
   have m:a.eval x= .slice (some a6) l c:=m
   refine⟨.bool false,w,ι,s,_,?_,p,fA _,rfl⟩
   grind [eqGuard,eval,execOp,Sem.run_bind,Result.andThen_ok,Lib.run_eql_slice_nil,Sem.run_pure]
  ·cases d
 ·rename_i t x hi I
  obtain⟨g,d⟩:=ea d
  have g:=Cz g
  split at d
  ·rename_i e K n G b3
   obtain⟨E,d⟩:=ea d
   cases d
   obtain⟨O,h⟩:=Cy h
   cases h
   have O:n=0:=by grind
   subst O
   obtain⟨F,f,H⟩:=Cx G
   have f:=A _ _ f
   obtain⟨b9,E⟩:=Ck.1 E
   have E:=A _ _ E
   obtain⟨q,m⟩:=aZ p g a.defers
   have m:a.eval x= .slice q 0 0:=m
   have c7:a.eval hi= .int K 0:=dz (aZ p b3 a.defers)
   have X:=(run_sliceBound (P:=P) (w:=w) (k:=K) (c:= .sliceAcap) (n:=0) (i:=0) (y:=0) (by simp[inc]) (aS 0)).2
   have a8:(Instr.sliceBounds true 0 0 none (some (.int K 0)) none).run P w= .ok (0,0,0) w:=by
    simp[Instr.sliceBounds,aD,X]
   have c9:=qH (a:=q) (len:=0) (cap:=0) f H E a8
   refine⟨.slice q 0 0,w,ι,s,.aM,?_,p,⟨q,rfl⟩,rfl⟩
   have d0:(sliceAt t (a.eval x) none (some (a.eval hi)) none).run P w= .ok (.slice q 0 0) w:=by simp_all
   simp_all [execOp,Option.map_none,bn,aD,eg]
  ·cases d
 ·rename_i c I
  obtain⟨c0,d9,c1,e0,d7,d8⟩:=o
  obtain⟨c2,c3,c4⟩:=c
  simp only at I d
  subst I
  split at d
  ·skip
   split at d
   ·rename_i x t a1 a0
    have R:=km a1
    have U:=km a0
    subst R U
    obtain⟨g,d⟩:=ea d
    have g:=Cz g
    obtain⟨e,G,rfl⟩:=co.1 d
    replace h:(sure true).bind (fun _=>some (s.put c0 (.aa (.int .i64) (0:Int))))=some s':=h
    obtain⟨_,a7⟩:=Cy h
    cases a7
    obtain⟨F,f,H⟩:=Cx G
    have f:=A _ _ f
    have a4:P.underlying t=some (.slice e):=by have:=f.kind;rw[H] at this;exact this
    obtain⟨q,m⟩:=aZ p g a.defers
    have m:a.eval x= .slice q 0 0:=m
    refine⟨.int .i64 0,w,ι,s,_,?_,p,eo _ _,rfl⟩
    simp[execOp,resolve,invoke,builtin,cap_,m,aD,bi a4,goInt]
   ·cases d
  ·skip
   split at d
   ·rename_i x y t t2 a1 a0
    have R:=lv a1
    have U:=lv a0
    subst R U
    split at d
    ·rename_i n e1 J Z
     split at d
     ·rename_i K b9 b4 E
      split at d
      ·rename_i u d2
       obtain⟨a2,d⟩:=ea d
       cases d
       simp only[aT] at a2
       obtain⟨⟨⟨⟨g,a9⟩,b0⟩,b1⟩,b2⟩:=a2
       have g:=Cz g
       obtain⟨L,rfl,Y,b6,h⟩:=acE h
       obtain⟨N,h⟩:=dP h
       cases h
       have Z:=A _ _ Z
       have b7:P.underlying t2=some (.int K):=by have:=Z.kind;rw[b4] at this;exact this
       obtain⟨q,m⟩:=aZ p g a.defers
       have m:a.eval x= .slice q 0 0:=m
       have O:a.eval y= .int .i64 (L:Int):=dz (aZ p J a.defers)
       obtain⟨v,w',M,a3,V,W⟩:=acI (ty:=c1) A p E b7 Y b6 (by simpa using a9) (by simpa using b0) (ja b1) b2 N q
       refine⟨v,w',M,_,_,?_,V,W,rfl⟩
       simp_all [execOp,resolve,invoke,builtin,aD]
      ·cases d
     ·cases d
    ·cases d
   ·cases d
  ·cases d
 ·cases d
theorem acL (j:fD P C) (Y:C.k=B.k) (a3: ∀g,C.mv.contains g=true->B.mv g=true) {base:Nat} {o:Oper} {s':St} (q:bc B s a w) (c1:jj C o s=true) (h:oB (ag St) C base o s some=some s') (Q:Exit->Act->World->Prop):
  o.wp P a w (fun K w'=>bc B s' K w') Q:=by
 unfold oB at h
 split at h
 ·rename_i g args types a1
  obtain⟨f,d,b5,t,name,c4,G,off,r,l,y,X,a7,R,S,a0,a2,rfl⟩:=acz a1
  obtain⟨U,h⟩:=ea h
  obtain⟨hd,ι,c⟩:=q
  obtain⟨A,c2,b4,b3,b1,b2⟩:=o
  simp only at y
  subst y
  have W:a.eval f= .func (.methodOf t name) #[] #[]:=aZ c X a.defers
  have i:=lp c a.defers d.toList args R
  have E:=(j.types _ _ a7).kind
  rw[a0] at E
  obtain⟨⟨b7,a8⟩,O⟩:=E
  have u:=bQ.1 O _ a2
  simp only at u
  obtain⟨I,J,Z,V⟩:=Co j.ek Y a3 c U h (vs:=d.toList.map a.eval) i
  cases Z
  have a4:kl P g:=by
   unfold eJ at h
   split at h
   ·cases h
   ·simp only at h
    split at h
    ·simp only[ag] at h
     cases z:(C.ek g _ _).o with
     |none=>rw[z] at h;simp at h
     |some I=>grind [fD.call]
    ·cases h
  obtain⟨n,m,b0⟩: ∃n m,d.toList.map a.eval= .pointer (some n)::m:=by
   rw[S] at i
   obtain⟨v,m,e,⟨c3,b,of,b6,_,_,rfl⟩,_⟩:=i
   exact⟨_,m,e⟩
  unfold wp
  have H:(execOp a.eval ⟨A,.call ⟨.value f,d,b5⟩,b4,b3,b1,b2⟩).run P w= .ok (.enter g (d.toList.map a.eval).toArray) w:=by
   have e:d.map a.eval=(.pointer (some n)::m).toArray:=by grind
   have F:=acA (w:=w) u n (P.types.size+depth-1)
   have c0:0<depth:=by decide
   have a5:P.types.size+depth-1+1=P.types.size+depth:=by omega
   rw[a5] at F
   rw[b0]
   simp[execOp,resolve,W,ofValue,invoke,e,aD,bi a8,callMethod,run_program,F,a4 _ w]
  rw[H,Ci]
  refine V.mono fun e w' a6=> ?_
  obtain⟨v,D,rfl,N,a9⟩:=a6
  exact⟨by cases A<;>exact hd,D,N.put A a9 a.defers⟩
 ·split at h
  ·rename_i p G
   obtain⟨hd,ι,c⟩:=q
   obtain⟨t,pa,c5,J,w',D,y,L,M,i⟩:=acC j.types c G h
   cases L
   refine vn hd ?_ M
   simp[execOp,y,aD,i]
  ·split at h
   ·rename_i b u
    cases h
    obtain⟨hd,ι,c⟩:=q
    exact bp hd (v:= .bool b) (w':=w) (acD j.types c u) c (fA b)
   ·split at h
    ·rename_i I z
     obtain⟨hd,ι,c⟩:=q
     obtain⟨v,w',D,J,x,H,b8,b9,rfl⟩:=acK j.types c z h
     grind [bp]
    grind [acw]
theorem Inv.blind (c:Inv B s a.tmps w ι) (ids:List Nat):Inv B (blind ids s) a.tmps w ι:=by
 refine⟨c.kept,c.am,c.stay,c.io,fun i x b=> ?_,c.dK⟩
 simp only[Rv.blind,ei] at b
 cases d:s.env[i]? with
 |none=>simp[d] at b
 |some y=>
  obtain⟨v,g,f⟩:=c.env i y d
  simp only[d,bn,ew] at b
  refine⟨v,g,?_⟩
  cases e:ids.any y.refs with
  |true=>
   rw[e] at b
   subst b
   trivial
  |false=>
   rw[e] at b
   subst b
   exact f
theorem Nb (D:fD P C) (J:C.k=B.k) (L: ∀g,C.mv.contains g=true->B.mv g=true) {base:Nat} {o:Oper} {s':St} (F:bc B s a w) (h:fy (ag St) C base o s some=some s') (Q:Exit->Act->World->Prop):
  o.wp P a w (fun u w'=>bc B s' u w') Q:=by
 unfold fy at h
 cases S:jj C o s with
 |true=>
  grind [acL]
 |false=>
  rw[S] at h
  simp only[au] at h
  split at h
  ·rename_i c t
   split at h
   ·rename_i f n
    split at h
    ·rename_i g first a1 p
     split at h
     ·rename_i args m
      unfold BS at h
      replace h:=ea h
      obtain⟨q,h⟩:=h
      obtain⟨hd,ι,j⟩:=F
      obtain⟨l,a2,Y,X,V,W⟩:=o
      obtain⟨a0,b,x⟩:=c
      simp only at t n p m h q
      subst t n
      obtain⟨d,i,H,y,z⟩:=aZ j p a.defers
      have I:a.eval f= .func (.func g) d.toArray i.toArray:=H
      have A:=lp j a.defers b.toList args m
      obtain⟨r,a4,K,G⟩:=Co D.ek J L (j.blind _) q h (vs:=d++b.toList.map a.eval++i) ((y.append A).append z)
      cases K
      have M:kl P g:=by
       unfold eJ at h
       split at h
       ·cases h
       ·simp only at h
        split at h
        ·simp only[ag] at h
         cases O:(C.ek g _ _).o with
         |none=>rw[O] at h;simp at h
         |some a3=>grind [fD.call]
        ·cases h
      unfold wp
      have R:(execOp a.eval ⟨l,.call ⟨.value f,b,x⟩,Y,X,V,W⟩).run P w= .ok (.enter g (d++b.toList.map a.eval++i).toArray) w:=by
       have e:d.toArray++b.map a.eval++i.toArray=(d++b.toList.map a.eval++i).toArray:=by simp_all
       simp[execOp,resolve,I,ofValue,invoke,e,M _ w]
      rw[R,Ci]
      refine G.mono fun e w' N=> ?_
      obtain⟨v,Z,rfl,E,U⟩:=N
      exact⟨by cases l<;>exact hd,Z,E.put l U a.defers⟩
     ·cases h
    ·cases h
   ·cases h
  ·cases h
theorem acM (l:fD P C) (D:C.k=B.k) (E: ∀g,C.mv.contains g=true->B.mv g=true) {b:List Nat} {i base:Nat} {o:Oper} {s':St} (m:bc B s a w) (c:b.contains (i+ck)=true\/jj C o s=true) (h:cm (ag St) C b i base o s some=some s') (Q:Exit->Act->World->Prop):
  o.wp P a w (fun e w'=>bc B s' e w') Q:=by
 unfold cm at h
 cases z:b.contains (i+ck) with
 |true=>
  grind [Nb]
 |false=>
  rw[z] at h c
  have c:=c.resolve_left (by simp)
  simp only[au] at h
  cases q:C.deep with
  |false=>
   grind [cT]
  |true=>
   rw[q] at h
   simp only[aw] at h
   split at h
   ·rename_i g n
    obtain⟨hd,ι,d⟩:=m
    obtain⟨t,H,x,F,u,A,p⟩:=acx n
    replace h:=dP h
    obtain⟨r,h⟩:=h
    cases h
    obtain⟨v,w',I,y,f,j⟩:=M2 l.types d u p r (aZ d A a.defers)
    refine bp hd (v:=v) (w':=w') ?_ f j
    have G:(Instr.buildSlice t 1 #[(0,a.eval x)]).run P w= .ok v w':=y
    simp_all [execOp,aD]
   grind [cT]
end
end Go.Rv
