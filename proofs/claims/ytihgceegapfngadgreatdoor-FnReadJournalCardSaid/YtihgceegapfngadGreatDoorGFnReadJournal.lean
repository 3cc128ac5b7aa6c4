/-
  Plain functions,written by program for functions of the checked code. Conditions: none.
-/
import Derived.Test.YtihgceegapfngadGreatDoorFB
set_option linter.unusedVariables false
namespace Go.Rv
def Nc4 (a:List Int):Option (((List Int))):=
 cond (decide ((((List.length a:Nat):Int))>2000)) ((inc 2000 (List.length a)).bind fun(b:Nat)=>some ((a.take b).drop 0)) (some a)
@[irreducible] def N3j (a:List Int):Option ((List Int)):=
 Nc4 a
def N7r (a:Int) (b:List Int) (c:Int):Option ((Int×Int)):=
 cond (decide (a<1)) (some (0,(IntKind.wrap .i64 (c+1)))) (cond ((((List.length b:Nat):Int))==0) (some (0,(IntKind.wrap .i64 (c+1)))) (cond (decide ((IntKind.wrap .i64 ((IntKind.wrap .i64 (c+1))-1))<(((List.length b:Nat):Int)))) ((idx b (IntKind.wrap .i64 ((IntKind.wrap .i64 (c+1))-1))).bind fun(d:Int)=>(rem (IntKind.wrap .i64 d) a).bind fun(g:Int)=>some (g,(IntKind.wrap .i64 (c+1)))) ((rem (IntKind.wrap .i64 ((IntKind.wrap .i64 (c+1))-1)) (((List.length b:Nat):Int))).bind fun(i:Int)=>(idx b i).bind fun(j:Int)=>(rem (IntKind.wrap .i64 ((IntKind.wrap .i64 ((IntKind.wrap .i64 ((IntKind.wrap .i64 (c+1))-1))*7))+3)) (((List.length b:Nat):Int))).bind fun(k:Int)=>(idx b k).bind fun(l:Int)=>(quo .i64 (IntKind.wrap .i64 ((IntKind.wrap .i64 (c+1))-1)) (((List.length b:Nat):Int))).bind fun(m:Int)=>(quo .i64 (IntKind.wrap .i64 ((IntKind.wrap .i64 ((IntKind.wrap .i64 ((IntKind.wrap .i64 ((IntKind.wrap .i64 j)*131))+(IntKind.wrap .i64 ((IntKind.wrap .i64 l)*1117))))+(IntKind.wrap .i64 ((IntKind.wrap .i64 ((IntKind.wrap .i64 (c+1))-1))*29))))+(IntKind.wrap .i64 (m*53)))) 64).bind fun(o:Int)=>(rem (ixor .i64 (IntKind.wrap .i64 ((IntKind.wrap .i64 ((IntKind.wrap .i64 ((IntKind.wrap .i64 ((IntKind.wrap .i64 j)*131))+(IntKind.wrap .i64 ((IntKind.wrap .i64 l)*1117))))+(IntKind.wrap .i64 ((IntKind.wrap .i64 ((IntKind.wrap .i64 (c+1))-1))*29))))+(IntKind.wrap .i64 (m*53)))) o) a).bind fun(p:Int)=>some (p,(IntKind.wrap .i64 (c+1))))))
@[irreducible] def N0 (a:Int) (b:List Int) (c:Int):Option (Int×Int):=
 N7r a b c
def Ncc (a:List Int) (b:Int):Option ((Int×Int)):=
 (N0 2 a b).bind fun(c:Int×Int)=>some ((c.1),(c.2))
def Ncj:Option (Unit):=
 some ()
def N7o (a b c:Int) (d:List Int) (g:Int) (i:List Int):Option ((Int×Int×(List Int))⊕(Int×(List Int))):=
 cond (decide (c≤a)) (cond (b==0) ((N0 c d g).bind fun(j:Int×Int)=>(inc (j.1) (List.length i)).bind fun(k:Nat)=>(room ((List.length ([]:List Int))+List.length ((i.drop 0).take (k-0)))).bind fun(l:Unit)=>(room ((List.length (([]:List Int)++((i.drop 0).take (k-0))))+List.length ([c]))).bind fun(m:Unit)=>(inc (j.1) (List.length i)).bind fun(o:Nat)=>(room ((List.length ((([]:List Int)++((i.drop 0).take (k-0)))++([c])))+List.length ((i.drop o).take ((List.length i)-o)))).bind fun(p:Unit)=>some (Sum.inl ((IntKind.wrap .i64 (c+1)),(j.2),(((([]:List Int)++((i.drop 0).take (k-0)))++([c]))++((i.drop o).take ((List.length i)-o)))))) ((N0 3 d g).bind fun(q:Int×Int)=>cond ((q.1)==0) ((N0 c d (q.2)).bind fun(w:Int×Int)=>(inc (w.1) (List.length i)).bind fun(y:Nat)=>(room ((List.length ([]:List Int))+List.length ((i.drop 0).take (y-0)))).bind fun(z:Unit)=>(room ((List.length (([]:List Int)++((i.drop 0).take (y-0))))+List.length ([c]))).bind fun(a0:Unit)=>(inc (w.1) (List.length i)).bind fun(a1:Nat)=>(room ((List.length ((([]:List Int)++((i.drop 0).take (y-0)))++([c])))+List.length ((i.drop a1).take ((List.length i)-a1)))).bind fun(a2:Unit)=>some (Sum.inl ((IntKind.wrap .i64 (c+1)),(w.2),(((([]:List Int)++((i.drop 0).take (y-0)))++([c]))++((i.drop a1).take ((List.length i)-a1)))))) ((inc (((List.length i:Nat):Int)) (List.length i)).bind fun(a3:Nat)=>(room ((List.length ([]:List Int))+List.length ((i.drop 0).take (a3-0)))).bind fun(a4:Unit)=>(room ((List.length (([]:List Int)++((i.drop 0).take (a3-0))))+List.length ([c]))).bind fun(a5:Unit)=>(inc (((List.length i:Nat):Int)) (List.length i)).bind fun(a6:Nat)=>(room ((List.length ((([]:List Int)++((i.drop 0).take (a3-0)))++([c])))+List.length ((i.drop a6).take ((List.length i)-a6)))).bind fun(a7:Unit)=>some (Sum.inl ((IntKind.wrap .i64 (c+1)),(q.2),(((([]:List Int)++((i.drop 0).take (a3-0)))++([c]))++((i.drop a6).take ((List.length i)-a6)))))))) (some (Sum.inr (g,i)))
def Nj7 (a b:Int) (c:List Int) (d:Int):Option ((Int×(List Int))):=
 nloop (fun(s:Int×Int×(List Int))=>((N7o a b s.1 c s.2.1 s.2.2).map (Sum.elim (fun(t:Int×Int×(List Int))=>Sum.inl (t.1,t.2.1,t.2.2)) (fun(t:Int×(List Int))=>Sum.inr t)):Option ((Int×Int×(List Int))⊕((Int×(List Int)))))) LL (1,d,([]:List Int))
def Nmz (a b:Int) (c:List Int) (d:Int):Option ((Int×(List Int))):=
 (Nj7 a b c d).map (fun(t:Int×(List Int))=>(t.1,t.2))
def Nob (a b:Int) (c:List Int) (d:Int):Option ((Int×(List Int))):=
 (Ncj).bind (fun(t:Unit)=>Nmz a b c d)
def Ncy (a:Int) (b:List Int):Option ((Int×(List Int))):=
 some (a,b)
def Nmt (a b:Int) (c:List Int) (d:Int):Option ((Int×(List Int))):=
 (Nob a b c d).bind (fun(t:Int×(List Int))=>Ncy t.1 t.2)
def Njr (a:Int) (b:List Int) (c:Int):Option ((Int×(List Int))):=
 (Ncc b c).bind (fun(t:Int×Int)=>Nmt a t.1 b t.2)
@[irreducible] def N3g (a:Int) (b:List Int) (c:Int):Option (Int×(List Int)):=
 Njr a b c
def N7y (a:Int) (b:List Int) (c:Int):Option ((Bool×Int)):=
 cond (decide (a>0)) ((N0 a b c).bind fun(d:Int×Int)=>some (((d.1)==(IntKind.wrap .i64 (a-1))),(d.2))) (some (false,c))
@[irreducible] def Np (a:Int) (b:List Int) (c:Int):Option (Bool×Int):=
 N7y a b c
def N8z (a:List Int) (b:Int):Option ((Int×Int×Int×(List Int)×(List Int))):=
 (N0 7 a b).bind fun(c:Int×Int)=>(N3g (IntKind.wrap .i64 (1+(c.1))) a (c.2)).bind fun(d:Int×(List Int))=>(mk (IntKind.wrap .i64 (1+(c.1))) (IntKind.wrap .i64 (1+(c.1)))).bind fun(g:Nat)=>(N0 2 a (d.1)).bind fun(i:Int×Int)=>some ((IntKind.wrap .i64 (1+(c.1))),(i.1),(i.2),(d.2),(List.replicate g (0:Int)))
def Nay:Option (Unit):=
 some ()
def N6x (a b c:Int) (d:List Int) (g:Int) (i j:List Int):Option ((Int×Int×(List Int))⊕(Int×(List Int))):=
 cond (decide (c<a)) ((N0 c d g).bind fun(k:Int×Int)=>cond (b==1) ((N0 2 d (k.2)).bind fun(l:Int×Int)=>cond ((l.1)==0) ((inb c (List.length i)).bind fun(m:Nat)=>(i[m]?).bind fun(o:Int)=>(inb (IntKind.wrap .i64 (c-1)) (List.length i)).bind fun(p:Nat)=>(i[p]?).bind fun(q:Int)=>(inb (IntKind.wrap .i64 (o-1)) (List.length j)).bind fun(w:Nat)=>some (Sum.inl ((IntKind.wrap .i64 (c+1)),(l.2),(j.set w q)))) ((inb c (List.length i)).bind fun(y:Nat)=>(i[y]?).bind fun(z:Int)=>(inb (k.1) (List.length i)).bind fun(a0:Nat)=>(i[a0]?).bind fun(a1:Int)=>(inb (IntKind.wrap .i64 (z-1)) (List.length j)).bind fun(a2:Nat)=>some (Sum.inl ((IntKind.wrap .i64 (c+1)),(l.2),(j.set a2 a1))))) ((inb c (List.length i)).bind fun(a3:Nat)=>(i[a3]?).bind fun(a4:Int)=>(inb (k.1) (List.length i)).bind fun(a5:Nat)=>(i[a5]?).bind fun(a6:Int)=>(inb (IntKind.wrap .i64 (a4-1)) (List.length j)).bind fun(a7:Nat)=>some (Sum.inl ((IntKind.wrap .i64 (c+1)),(k.2),(j.set a7 a6))))) (some (Sum.inr (g,j)))
def Nna (a b:Int) (c:List Int) (d:Int) (g i:List Int):Option ((Int×(List Int))):=
 nloop (fun(s:Int×Int×(List Int))=>((N6x a b s.1 c s.2.1 g s.2.2).map (Sum.elim (fun(t:Int×Int×(List Int))=>Sum.inl (t.1,t.2.1,t.2.2)) (fun(t:Int×(List Int))=>Sum.inr t)):Option ((Int×Int×(List Int))⊕((Int×(List Int)))))) LL (1,d,i)
def Nkb (a b:Int) (c:List Int) (d:Int) (g i:List Int):Option ((Int×(List Int))):=
 (Nna a b c d g i).map (fun(t:Int×(List Int))=>(t.1,t.2))
def Nmj (a b:Int) (c:List Int) (d:Int) (g i:List Int):Option ((Int×(List Int))):=
 (Nay).bind (fun(t:Unit)=>Nkb a b c d g i)
def N9t (a b:Int) (c:List Int) (d:Int) (g:List Int):Option ((Int×(List Int))):=
 (Np a c d).bind fun(i:Bool×Int)=>cond (i.1) ((N0 4 c (i.2)).bind fun(j:Int×Int)=>cond ((j.1)==0) (some ((j.2),([]:List Int))) (cond ((j.1)==1) (some ((j.2),([2,1,0]))) (cond ((j.1)==2) ((N0 b c (j.2)).bind fun(k:Int×Int)=>(inb (k.1) (List.length g)).bind fun(l:Nat)=>(room ((List.length (g.set l 0))+List.length ([0]))).bind fun(m:Unit)=>some ((k.2),((g.set l 0)++([0])))) ((N0 3 c (j.2)).bind fun(o:Int×Int)=>(inb (o.1) (List.length ([1,(IntKind.wrap .i64 (b+1)),(-1)]))).bind fun(p:Nat)=>(([1,(IntKind.wrap .i64 (b+1)),(-1)])[p]?).bind fun(q:Int)=>(inb 0 (List.length g)).bind fun(w:Nat)=>some ((o.2),(g.set w q)))))) (some ((i.2),g))
def Nji (a b c:Int) (d:List Int) (g:Int) (i j:List Int):Option ((Int×(List Int))):=
 (Nmj b c d g i j).bind (fun(t:Int×(List Int))=>N9t a b d t.1 t.2)
def Noh (a:Int) (b:List Int) (c:Int):Option ((Int×(List Int))):=
 (N8z b c).bind (fun(t:Int×Int×Int×(List Int)×(List Int))=>Nji a t.1 t.2.1 b t.2.2.1 t.2.2.2.1 t.2.2.2.2)
@[irreducible] def N34 (a:Int) (b:List Int) (c:Int):Option (Int×(List Int)):=
 Noh a b c
def Ncq (a b c:Int):Option (Bool):=
 cond (decide (a≥b)) (some (decide (a≤c))) (some false)
@[irreducible] def Na (a b c:Int):Option (Bool):=
 Ncq a b c
def N8k (a:List Int):Option (Int⊕Bool):=
 (Na (((List.length a:Nat):Int)) 1 8).bind fun(b:Bool)=>cond (!b) (some (Sum.inr false)) (some (Sum.inl (((List.length a:Nat):Int))))
def N7w:Option (Unit):=
 some ()
def N6r (a b c:Int):Option (Unit⊕Int):=
 cond (decide (c<a)) (some (Sum.inl ())) (some (Sum.inr b))
def Nb3 (a:List Int) (b c d:Int):Option ((Int×Int)⊕Bool):=
 (idx a d).bind fun(g:Int)=>(Na g 0 b).bind fun(i:Bool)=>cond (!i) (some (Sum.inr false)) ((idx a d).bind fun(j:Int)=>cond (j==(IntKind.wrap .i64 (d+1))) (some (Sum.inr false)) ((idx a d).bind fun(k:Int)=>cond (k==0) (some (Sum.inl ((IntKind.wrap .i64 (c+1)),(IntKind.wrap .i64 (d+1))))) (some (Sum.inl (c,(IntKind.wrap .i64 (d+1)))))))
def Nbm:Option (Unit):=
 some ()
def N6s (a:List Int) (b c d:Int):Option ((Int×Int)⊕Bool⊕Int):=
 cond (decide (c>0)) (cond (decide (d<b)) ((idx a (IntKind.wrap .i64 (c-1))).bind fun(g:Int)=>(Na g 0 b).bind fun(i:Bool)=>cond (!i) (some (Sum.inr (Sum.inl false))) (some (Sum.inl (g,(IntKind.wrap .i64 (d+1)))))) (some (Sum.inr (Sum.inr c)))) (some (Sum.inr (Sum.inr c)))
def Ngs (a:List Int) (b c:Int):Option (Bool⊕Int):=
 nloop (fun(s:Int×Int)=>((N6s a b s.1 s.2).map (Sum.elim (fun(t:Int×Int)=>Sum.inl (t.1,t.2)) (Sum.elim (fun(t:Bool)=>Sum.inr (Sum.inl t)) (fun(t:Int)=>Sum.inr (Sum.inr t)))):Option ((Int×Int)⊕(Bool⊕Int)))) LL (c,0)
def Nmd (a:List Int) (b c:Int):Option (Int⊕Bool):=
 (Ngs a b c).map (Sum.elim (fun(t:Bool)=>(Sum.inr t)) (fun(t:Int)=>(Sum.inl t)))
def Nnk (a:List Int) (b c:Int):Option (Int⊕Bool):=
 (Nbm).bind (fun(t:Unit)=>Nmd a b c)
def Naw (a:Int):Option (Unit⊕Bool):=
 cond (decide (a>0)) (some (Sum.inr false)) (some (Sum.inl ()))
def Nju (a:List Int) (b c:Int):Option (Unit⊕Bool):=
 (Nnk a b c).bind (Sum.elim (fun(t:Int)=>Naw t) (fun e=>some ((fun(t:Bool)=>(Sum.inr t)) e)))
def Nom (a:List Int) (b c d:Int):Option (Int⊕Bool):=
 (Nb3 a b c d).bind (Sum.elim (fun(t:Int×Int)=>(Nju a b t.2).map (Sum.elim (fun(u:Unit)=>(Sum.inl t.1)) (fun(u:Bool)=>(Sum.inr u)))) (fun e=>some ((fun(t:Bool)=>(Sum.inr t)) e)))
def Njf (a:List Int) (b c d:Int):Option (Int⊕Bool):=
 (Nom a b c d).map (Sum.elim (fun(t:Int)=>(Sum.inl t)) (fun(t:Bool)=>(Sum.inr t)))
def N9m (a:Int):Option (Int):=
 some (IntKind.wrap .i64 (a+1))
def Nkf (a:List Int) (b c d:Int):Option ((Int×Int)⊕Bool):=
 (Njf a b c d).bind (Sum.elim (fun(t:Int)=>(N9m d).map (fun(u:Int)=>(Sum.inl (t,u)))) (fun e=>some ((fun(t:Bool)=>(Sum.inr t)) e)))
def Nbj (a:List Int) (b c d:Int):Option ((Int×Int)⊕Bool⊕Int):=
 (N6r b c d).bind (Sum.elim (fun(t:Unit)=>(Nkf a b c d).map (Sum.elim (fun(t:Int×Int)=>(Sum.inl (t.1,t.2))) (fun(t:Bool)=>(Sum.inr (Sum.inl t))))) (fun e=>some ((fun(t:Int)=>(Sum.inr (Sum.inr t))) e)))
def Nma (a:List Int) (b:Int):Option (Bool⊕Int):=
 nloop (fun(s:Int×Int)=>((Nbj a b s.1 s.2).map (Sum.elim (fun(t:Int×Int)=>Sum.inl (t.1,t.2)) (Sum.elim (fun(t:Bool)=>Sum.inr (Sum.inl t)) (fun(t:Int)=>Sum.inr (Sum.inr t)))):Option ((Int×Int)⊕(Bool⊕Int)))) LL (0,0)
def Nn8 (a:List Int) (b:Int):Option (Int⊕Bool):=
 (Nma a b).map (Sum.elim (fun(t:Bool)=>(Sum.inr t)) (fun(t:Int)=>(Sum.inl t)))
def Nmq (a:List Int) (b:Int):Option (Int⊕Bool):=
 (N7w).bind (fun(t:Unit)=>Nn8 a b)
def N8y (a:Int):Option (Bool):=
 some (a==1)
def Nka (a:List Int) (b:Int):Option (Bool):=
 (Nmq a b).bind (Sum.elim (fun(t:Int)=>N8y t) (fun e=>some ((fun(t:Bool)=>t) e)))
def Np5 (a:List Int):Option (Bool):=
 (N8k a).bind (Sum.elim (fun(t:Int)=>Nka a t) (fun e=>some ((fun(t:Bool)=>t) e)))
@[irreducible] def N8 (a:List Int):Option (Bool):=
 Np5 a
def Nb2:Option (Unit):=
 some ()
def N8q:Option (Unit):=
 some ()
def N8l (a:List Int) (b:Int):Option (Unit⊕Unit):=
 cond (decide (b<(((List.length a:Nat):Int)))) (some (Sum.inl ())) (some (Sum.inr ()))
def Nba (a:List Int) (b c:Int):Option (Unit⊕Bool):=
 (idx a c).bind fun(d:Int)=>(Na d 1 b).bind fun(g:Bool)=>cond (!g) (some (Sum.inr false)) (some (Sum.inl ()))
def N7g (a:List Int) (b c:Int):Option (Int⊕Bool⊕Unit):=
 cond (decide (c<b)) ((idx a c).bind fun(d:Int)=>(idx a b).bind fun(g:Int)=>cond (d==g) (some (Sum.inr (Sum.inl false))) (some (Sum.inl (IntKind.wrap .i64 (c+1))))) (some (Sum.inr (Sum.inr ())))
def Ne1 (a:List Int) (b:Int):Option (Bool⊕Unit):=
 nloop (fun(s:Int)=>((N7g a b s).map (Sum.elim (fun(t:Int)=>Sum.inl t) (Sum.elim (fun(t:Bool)=>Sum.inr (Sum.inl t)) (fun(t:Unit)=>Sum.inr (Sum.inr t)))):Option ((Int)⊕(Bool⊕Unit)))) LL 0
def Not (a:List Int) (b:Int):Option (Unit⊕Bool):=
 (Ne1 a b).map (Sum.elim (fun(t:Bool)=>(Sum.inr t)) (fun(t:Unit)=>(Sum.inl ())))
def Nmf (a:List Int) (b c:Int):Option (Unit⊕Bool):=
 (Nba a b c).bind (Sum.elim (fun(t:Unit)=>Not a c) (fun e=>some ((fun(t:Bool)=>(Sum.inr t)) e)))
def Nor (a:List Int) (b c:Int):Option (Unit⊕Bool):=
 (Nmf a b c).map (Sum.elim (fun(t:Unit)=>(Sum.inl ())) (fun(t:Bool)=>(Sum.inr t)))
def N8e (a:Int):Option (Int):=
 some (IntKind.wrap .i64 (a+1))
def Nm3 (a:List Int) (b c:Int):Option (Int⊕Bool):=
 (Nor a b c).bind (Sum.elim (fun(t:Unit)=>(N8e c).map (fun(t:Int)=>(Sum.inl t))) (fun e=>some ((fun(t:Bool)=>(Sum.inr t)) e)))
def Ni9 (a:List Int) (b c:Int):Option (Int⊕Bool⊕Unit):=
 (N8l a c).bind (Sum.elim (fun(t:Unit)=>(Nm3 a b c).map (Sum.elim (fun(t:Int)=>(Sum.inl t)) (fun(t:Bool)=>(Sum.inr (Sum.inl t))))) (fun e=>some ((fun(t:Unit)=>(Sum.inr (Sum.inr t))) e)))
def Nlo (a:List Int) (b:Int):Option (Bool⊕Unit):=
 nloop (fun(s:Int)=>((Ni9 a b s).map (Sum.elim (fun(t:Int)=>Sum.inl t) (Sum.elim (fun(t:Bool)=>Sum.inr (Sum.inl t)) (fun(t:Unit)=>Sum.inr (Sum.inr t)))):Option ((Int)⊕(Bool⊕Unit)))) LL 0
def Nll (a:List Int) (b:Int):Option (Unit⊕Bool):=
 (Nlo a b).map (Sum.elim (fun(t:Bool)=>(Sum.inr t)) (fun(t:Unit)=>(Sum.inl ())))
def Nnc (a:List Int) (b:Int):Option (Unit⊕Bool):=
 (N8q).bind (fun(t:Unit)=>Nll a b)
def Ncp (a:List Int) (b:Int):Option (Bool):=
 (Na b 1 8).bind fun(c:Bool)=>cond c (some ((((List.length a:Nat):Int))==b)) (some false)
def Nlr (a:List Int) (b:Int):Option (Bool):=
 (Nnc a b).bind (Sum.elim (fun(t:Unit)=>Ncp a b) (fun e=>some ((fun(t:Bool)=>t) e)))
def Nm2 (a:List Int) (b:Int):Option (Bool):=
 (Nb2).bind (fun(t:Unit)=>Nlr a b)
@[irreducible] def N57 (a:List Int) (b:Int):Option (Bool):=
 Nm2 a b
def Nbq (a b:List Int):Option (((List Int))⊕(Bool×(List Int))):=
 (N8 a).bind fun(c:Bool)=>cond (!c) (some (Sum.inr (false,([]:List Int)))) ((N57 b (((List.length a:Nat):Int))).bind fun(d:Bool)=>cond (!d) (some (Sum.inr (false,([]:List Int)))) ((mk (IntKind.wrap .i64 ((((List.length a:Nat):Int))+1)) (IntKind.wrap .i64 ((((List.length a:Nat):Int))+1))).bind fun(g:Nat)=>some (Sum.inl (List.replicate g (0:Int)))))
def Nao:Option (Unit):=
 some ()
def N4s (a:List Int) (b:Int) (c:List Int):Option ((Int×(List Int))⊕((List Int))):=
 cond (decide (b<(((List.length a:Nat):Int)))) ((idx a b).bind fun(d:Int)=>(inb d (List.length c)).bind fun(g:Nat)=>some (Sum.inl ((IntKind.wrap .i64 (b+1)),(c.set g (IntKind.wrap .i64 (b+1)))))) (some (Sum.inr c))
def Nmi (a b:List Int):Option (((List Int))):=
 nloop (fun(s:Int×(List Int))=>((N4s a s.1 s.2).map (Sum.elim (fun(t:Int×(List Int))=>Sum.inl (t.1,t.2)) (fun(t:(List Int))=>Sum.inr t)):Option ((Int×(List Int))⊕(((List Int)))))) LL (0,b)
def No5 (a b:List Int):Option (((List Int))):=
 (Nmi a b).map (fun(t:(List Int))=>t)
def Now (a b:List Int):Option (((List Int))):=
 (Nao).bind (fun(t:Unit)=>No5 a b)
def N86:Option (Unit):=
 some ()
def Nas:Option (Unit):=
 some ()
def N78 (a b:List Int) (c:Int) (d g:List Int):Option ((Int×(List Int))⊕((List Int))):=
 cond (decide (c<(((List.length b:Nat):Int)))) ((idx b c).bind fun(i:Int)=>(idx a (IntKind.wrap .i64 (i-1))).bind fun(j:Int)=>(inb j (List.length d)).bind fun(k:Nat)=>(d[k]?).bind fun(l:Int)=>(room ((List.length g)+List.length ([l]))).bind fun(m:Unit)=>some (Sum.inl ((IntKind.wrap .i64 (c+1)),(g++([l]))))) (some (Sum.inr g))
def Nnr (a b c:List Int):Option (((List Int))):=
 nloop (fun(s:Int×(List Int))=>((N78 a b s.1 c s.2).map (Sum.elim (fun(t:Int×(List Int))=>Sum.inl (t.1,t.2)) (fun(t:(List Int))=>Sum.inr t)):Option ((Int×(List Int))⊕(((List Int)))))) LL (0,([]:List Int))
def Njk (a b c:List Int):Option (((List Int))):=
 (Nnr a b c).map (fun(t:(List Int))=>t)
def Nmn (a b c:List Int):Option (((List Int))):=
 (Nas).bind (fun(t:Unit)=>Njk a b c)
def N9e (a:List Int):Option ((Bool×(List Int))):=
 some (true,a)
def Nkw (a b c:List Int):Option ((Bool×(List Int))):=
 (Nmn a b c).bind (fun(t:(List Int))=>N9e t)
def Nl4 (a b c:List Int):Option ((Bool×(List Int))):=
 (N86).bind (fun(t:Unit)=>Nkw a b c)
def Nmw (a b c:List Int):Option ((Bool×(List Int))):=
 (Now b c).bind (fun(t:(List Int))=>Nl4 a b t)
def Nok (a b:List Int):Option ((Bool×(List Int))):=
 (Nbq a b).bind (Sum.elim (fun(t:(List Int))=>Nmw a b t) (fun e=>some ((fun(t:Bool×(List Int))=>t) e)))
@[irreducible] def N3i (a b:List Int):Option (Bool×(List Int)):=
 Nok a b
def Nbo (R0:Int→Int→Int→(List Int)→Int→(List Int)→Option (Int×(List Int))) (a b c:Int) (d:List Int) (g:Int) (i:List Int):Option ((Int×Int×(List Int))⊕(Int×(List Int))):=
 cond (decide (a>b)) (some (Sum.inr (g,i))) ((N0 (IntKind.wrap .i64 ((IntKind.wrap .i64 (b-a))+1)) d g).bind fun(j:Int×Int)=>(inb (IntKind.wrap .i64 ((IntKind.wrap .i64 (a+(j.1)))-1)) (List.length i)).bind fun(k:Nat)=>some (Sum.inl ((IntKind.wrap .i64 (a+(j.1))),(j.2),(i.set k c))))
def N74 (R0:Int→Int→Int→(List Int)→Int→(List Int)→Option (Int×(List Int))) (a b:Int) (c:List Int) (d:Int) (g:List Int):Option ((Int×Int×(List Int))⊕(Int×(List Int))):=
 cond (decide (b<a)) ((N0 (IntKind.wrap .i64 (a-b)) c d).bind fun(i:Int×Int)=>(R0 b (IntKind.wrap .i64 (b+(i.1))) a c (i.2) g).bind fun(j:Int×(List Int))=>some (Sum.inl ((IntKind.wrap .i64 ((IntKind.wrap .i64 (b+(i.1)))+1)),(j.1),(j.2)))) (some (Sum.inr (d,g)))
def Nli (R0:Int→Int→Int→(List Int)→Int→(List Int)→Option (Int×(List Int))) (a b:Int) (c:List Int) (d:Int) (g:List Int):Option ((Int×(List Int))):=
 nloop (fun(s:Int×Int×(List Int))=>((N74 R0 a s.1 c s.2.1 s.2.2).map (Sum.elim (fun(t:Int×Int×(List Int))=>Sum.inl (t.1,t.2.1,t.2.2)) (fun(t:Int×(List Int))=>Sum.inr t)):Option ((Int×Int×(List Int))⊕((Int×(List Int)))))) LL (b,d,g)
def Nks (R0:Int→Int→Int→(List Int)→Int→(List Int)→Option (Int×(List Int))) (a b:Int) (c:List Int) (d:Int) (g:List Int):Option ((Int×(List Int))):=
 (Nli R0 a b c d g).map (fun(t:Int×(List Int))=>(t.1,t.2))
def Nb1 (R0:Int→Int→Int→(List Int)→Int→(List Int)→Option (Int×(List Int))) (a:Int):Option (Int):=
 some (IntKind.wrap .i64 (a+1))
def N6h (R0:Int→Int→Int→(List Int)→Int→(List Int)→Option (Int×(List Int))) (a b c:Int) (d:List Int) (g:Int) (i:List Int):Option ((Int×Int×(List Int))⊕(Int×(List Int))):=
 cond (decide (c≤a)) ((N0 (IntKind.wrap .i64 ((IntKind.wrap .i64 (a-c))+1)) d g).bind fun(j:Int×Int)=>(R0 c (IntKind.wrap .i64 (c+(j.1))) b d (j.2) i).bind fun(k:Int×(List Int))=>some (Sum.inl ((IntKind.wrap .i64 ((IntKind.wrap .i64 (c+(j.1)))+1)),(k.1),(k.2)))) (some (Sum.inr (g,i)))
def Nj6 (R0:Int→Int→Int→(List Int)→Int→(List Int)→Option (Int×(List Int))) (a b c:Int) (d:List Int) (g:Int) (i:List Int):Option ((Int×(List Int))):=
 nloop (fun(s:Int×Int×(List Int))=>((N6h R0 a b s.1 d s.2.1 s.2.2).map (Sum.elim (fun(t:Int×Int×(List Int))=>Sum.inl (t.1,t.2.1,t.2.2)) (fun(t:Int×(List Int))=>Sum.inr t)):Option ((Int×Int×(List Int))⊕((Int×(List Int)))))) LL (c,g,i)
def Nl6 (R0:Int→Int→Int→(List Int)→Int→(List Int)→Option (Int×(List Int))) (a b c:Int) (d:List Int) (g:Int) (i:List Int):Option ((Int×(List Int))):=
 (Nj6 R0 a b c d g i).map (fun(t:Int×(List Int))=>(t.1,t.2))
def Npd (R0:Int→Int→Int→(List Int)→Int→(List Int)→Option (Int×(List Int))) (a b:Int) (c:List Int) (d:Int) (g:List Int):Option ((Int×(List Int))):=
 (Nb1 R0 b).bind (fun(t:Int)=>Nl6 R0 a b t c d g)
def Nlq (R0:Int→Int→Int→(List Int)→Int→(List Int)→Option (Int×(List Int))) (a b c:Int) (d:List Int) (g:Int) (i:List Int):Option ((Int×(List Int))):=
 (Nks R0 b c d g i).bind (fun(t:Int×(List Int))=>Npd R0 a b d t.1 t.2)
def Nlk (R0:Int→Int→Int→(List Int)→Int→(List Int)→Option (Int×(List Int))) (a b c:Int) (d:List Int) (g:Int) (i:List Int):Option ((Int×(List Int))⊕(Int×(List Int))):=
 (Nbo R0 a b c d g i).bind (Sum.elim (fun(t:Int×Int×(List Int))=>(Nlq R0 b t.1 a d t.2.1 t.2.2).map (fun(u:Int×(List Int))=>(Sum.inl (u.1,u.2)))) (fun e=>some ((fun(t:Int×(List Int))=>(Sum.inr t)) e)))
def Noa (R0:Int→Int→Int→(List Int)→Int→(List Int)→Option (Int×(List Int))) (a b c:Int) (d:List Int) (g:Int) (i:List Int):Option (Int×(List Int)):=
 (Nlk R0 a b c d g i).map (Sum.elim (fun(t:Int×(List Int))=>(t.1,t.2)) (fun(t:Int×(List Int))=>t))
def N3d:Nat→(Int→Int→Int→(List Int)→Int→(List Int)→Option (Int×(List Int)))
 |0=>(fun _ _ _ _ _ _=>none)
 |n+1=>(fun y0 y1 y2 y3 y4 y5=>Noa (N3d n) y0 y1 y2 y3 y4 y5)
def N1t (n:Nat):Int→Int→Int→(List Int)→Int→(List Int)→Option (Int×(List Int)):=(N3d n)
@[irreducible] def N7p (a b c:Int) (d:List Int) (g:Int) (i:List Int):Option (Int×(List Int)):=N1t RR a b c d g i
def N6u (a:Int) (b:List Int) (c:Int):Option ((Int×(List Int))):=
 (N0 3 b c).bind fun(d:Int×Int)=>cond ((d.1)==0) ((N34 a b (d.2)).bind fun(g:Int×(List Int))=>some ((g.1),(g.2))) ((N0 7 b (d.2)).bind fun(i:Int×Int)=>(mk (IntKind.wrap .i64 (1+(i.1))) (IntKind.wrap .i64 (1+(i.1)))).bind fun(j:Nat)=>(N7p 1 (IntKind.wrap .i64 (1+(i.1))) 0 b (i.2) (List.replicate j (0:Int))).bind fun(k:Int×(List Int))=>some ((k.1),(k.2)))
@[irreducible] def N1y (a:Int) (b:List Int) (c:Int):Option (Int×(List Int)):=
 N6u a b c
def N6i (a:Int) (b:List Int) (c:Int):Option ((Int×(List Int))):=
 (N34 a b c).bind fun(d:Int×(List Int))=>(N0 2 b (d.1)).bind fun(g:Int×Int)=>cond ((g.1)==0) ((N8 (d.2)).bind fun(i:Bool)=>cond i ((N3g (((List.length (d.2):Nat):Int)) b (g.2)).bind fun(j:Int×(List Int))=>(N3i (d.2) (j.2)).bind fun(k:Bool×(List Int))=>some ((j.1),(k.2))) ((N0 3 b (g.2)).bind fun(l:Int×Int)=>cond ((l.1)==0) ((N1y a b (l.2)).bind fun(m:Int×(List Int))=>some ((m.1),(m.2))) (some ((l.2),(d.2))))) ((N0 3 b (g.2)).bind fun(o:Int×Int)=>cond ((o.1)==0) ((N1y a b (o.2)).bind fun(p:Int×(List Int))=>some ((p.1),(p.2))) (some ((o.2),(d.2))))
@[irreducible] def N2e (a:Int) (b:List Int) (c:Int):Option (Int×(List Int)):=
 N6i a b c
def N6t (a b:List Int) (c:Int):Option ((Int×Int×Int×Int)):=
 (N0 8 b c).bind fun(d:Int×Int)=>(idx ([0,0,1,1,2,3,4,5]) (d.1)).bind fun(g:Int)=>(N0 60 b (d.2)).bind fun(i:Int×Int)=>(quo .i64 (i.1) 59).bind fun(j:Int)=>cond ((IntKind.wrap .i64 (g+(IntKind.wrap .i64 (j*6))))==0) ((N0 (imax (((List.length a:Nat):Int)) 1) b (i.2)).bind fun(k:Int×Int)=>(N0 (IntKind.wrap .i64 ((((List.length a:Nat):Int))+1)) b (k.2)).bind fun(l:Int×Int)=>(Np 40 b (l.2)).bind fun(m:Bool×Int)=>cond (m.1) ((N0 3 b (m.2)).bind fun(o:Int×Int)=>(inb (o.1) (List.length ([(-1),9,100]))).bind fun(p:Nat)=>(([(-1),9,100])[p]?).bind fun(q:Int)=>some ((o.2),(IntKind.wrap .i64 (g+(IntKind.wrap .i64 (j*6)))),(IntKind.wrap .i64 (1+(k.1))),q)) (some ((m.2),(IntKind.wrap .i64 (g+(IntKind.wrap .i64 (j*6)))),(IntKind.wrap .i64 (1+(k.1))),(l.1)))) (cond ((IntKind.wrap .i64 (g+(IntKind.wrap .i64 (j*6))))==1) ((N0 (IntKind.wrap .i64 ((((List.length a:Nat):Int))+1)) b (i.2)).bind fun(w:Int×Int)=>(N0 9 b (w.2)).bind fun(y:Int×Int)=>(quo .i64 (y.1) 8).bind fun(z:Int)=>(Np 40 b (y.2)).bind fun(a0:Bool×Int)=>cond (a0.1) ((N0 3 b (a0.2)).bind fun(a1:Int×Int)=>(inb (a1.1) (List.length ([(-1),9,100]))).bind fun(a2:Nat)=>(([(-1),9,100])[a2]?).bind fun(a3:Int)=>some ((a1.2),(IntKind.wrap .i64 (g+(IntKind.wrap .i64 (j*6)))),(IntKind.wrap .i64 ((w.1)+z)),a3)) (some ((a0.2),(IntKind.wrap .i64 (g+(IntKind.wrap .i64 (j*6)))),(IntKind.wrap .i64 ((w.1)+z)),0))) ((Np 40 b (i.2)).bind fun(a4:Bool×Int)=>cond (a4.1) ((N0 3 b (a4.2)).bind fun(a5:Int×Int)=>(inb (a5.1) (List.length ([(-1),9,100]))).bind fun(a6:Nat)=>(([(-1),9,100])[a6]?).bind fun(a7:Int)=>some ((a5.2),(IntKind.wrap .i64 (g+(IntKind.wrap .i64 (j*6)))),0,a7)) (some ((a4.2),(IntKind.wrap .i64 (g+(IntKind.wrap .i64 (j*6)))),0,0))))
@[irreducible] def N1h (a b:List Int) (c:Int):Option (Int×Int×Int×Int):=
 N6t a b c
def N8j:Option (Unit):=
 some ()
def N8c (a:List Int) (b:Int):Option ((Int×Int)):=
 (N0 6 a b).bind fun(c:Int×Int)=>some ((c.1),(c.2))
def N69 (a:List Int) (b:Int) (c:List Int) (d:Int) (g:List (Int×Int×Int×Unit)):Option ((Int×Int×(List (Int×Int×Int×Unit)))⊕(Int×(List (Int×Int×Int×Unit)))):=
 cond (decide (b>0)) ((N1h a c d).bind fun(i:Int×Int×Int×Int)=>(room ((List.length g)+List.length ([((i.2.1),((i.2.2.1),((i.2.2.2),())))]))).bind fun(j:Unit)=>some (Sum.inl ((IntKind.wrap .i64 (b-1)),(i.1),(g++([((i.2.1),((i.2.2.1),((i.2.2.2),())))]))))) (some (Sum.inr (d,g)))
def Nj4 (a:List Int) (b:Int) (c:List Int) (d:Int):Option ((Int×(List (Int×Int×Int×Unit)))):=
 nloop (fun(s:Int×Int×(List (Int×Int×Int×Unit)))=>((N69 a s.1 c s.2.1 s.2.2).map (Sum.elim (fun(t:Int×Int×(List (Int×Int×Int×Unit)))=>Sum.inl (t.1,t.2.1,t.2.2)) (fun(t:Int×(List (Int×Int×Int×Unit)))=>Sum.inr t)):Option ((Int×Int×(List (Int×Int×Int×Unit)))⊕((Int×(List (Int×Int×Int×Unit))))))) LL (b,d,([]:List (Int×Int×Int×Unit)))
def No0 (a:List Int) (b:Int) (c:List Int) (d:Int):Option ((Int×(List (Int×Int×Int×Unit)))):=
 (Nj4 a b c d).map (fun(t:Int×(List (Int×Int×Int×Unit)))=>(t.1,t.2))
def Nl1 (a b:List Int) (c:Int):Option ((Int×(List (Int×Int×Int×Unit)))):=
 (N8c b c).bind (fun(t:Int×Int)=>No0 a t.1 b t.2)
def Nds (a:Int) (b:List (Int×Int×Int×Unit)):Option ((Int×(List (Int×Int×Int×Unit)))):=
 some (a,b)
def Nko (a b:List Int) (c:Int):Option ((Int×(List (Int×Int×Int×Unit)))):=
 (Nl1 a b c).bind (fun(t:Int×(List (Int×Int×Int×Unit)))=>Nds t.1 t.2)
def Nhe (a b:List Int) (c:Int):Option ((Int×(List (Int×Int×Int×Unit)))):=
 (N8j).bind (fun(t:Unit)=>Nko a b c)
@[irreducible] def N2l (a b:List Int) (c:Int):Option (Int×(List (Int×Int×Int×Unit))):=
 Nhe a b c
def Nhx (R0:Int→Option ByteArray) (a:Int):Option (ByteArray):=
 cond (decide (a<10)) (some (bytesOf ([(IntKind.wrap .u8 (IntKind.wrap .i64 (48+(imax a 0))))]))) ((quo .i64 a 10).bind fun(b:Int)=>(rem a 10).bind fun(c:Int)=>(R0 b).bind fun(d:ByteArray)=>(cat d (bytesOf ([(IntKind.wrap .u8 (IntKind.wrap .i64 (48+c)))]))).bind fun(g:ByteArray)=>some g)
def N18g (R0:Int→Option ByteArray) (a:Int):Option (ByteArray):=
 Nhx R0 a
def Ndc:Nat→(Int→Option ByteArray)
 |0=>(fun _=>none)
 |n+1=>(fun y0=>N18g (Ndc n) y0)
def N6j (n:Nat):Int→Option ByteArray:=(Ndc n)
@[irreducible] def N12 (a:Int):Option (ByteArray):=N6j RR a
def N7u:Option (Unit):=
 some ()
def N98 (a b c:Int):Option (Bool):=
 cond (a==0) ((Na b 0 99).bind fun(d:Bool)=>cond d ((Na c 0 99).bind fun(g:Bool)=>some g) (some false)) (some false)
def Nc7 (a b:Int):Option (ByteArray):=
 (N12 a).bind fun(c:ByteArray)=>(cat (ByteArray.mk #[104,101,97,100,32]) c).bind fun(d:ByteArray)=>(cat d (ByteArray.mk #[32])).bind fun(g:ByteArray)=>(N12 b).bind fun(i:ByteArray)=>(cat g i).bind fun(j:ByteArray)=>some j
def Nbt (a b c:Int):Option (Bool):=
 cond (a==1) ((Na b 0 99).bind fun(d:Bool)=>cond d (some (c==0)) (some false)) (some false)
def N6a (a:Bool) (b c d:Int):Option (Unit⊕ByteArray):=
 cond a ((N12 c).bind fun(g:ByteArray)=>(cat (ByteArray.mk #[97,100,100,32]) g).bind fun(i:ByteArray)=>some (Sum.inr i)) (cond ((b==2)&&((c==0)&&((d==0)&&true))) (some (Sum.inr (ByteArray.mk #[100,114,111,112]))) (cond ((b==3)&&((c==0)&&((d==0)&&true))) (some (Sum.inr (ByteArray.mk #[116,117,114,110]))) (cond ((b==4)&&((c==0)&&((d==0)&&true))) (some (Sum.inr (ByteArray.mk #[102,108,97,116]))) (cond ((b==5)&&((c==0)&&((d==0)&&true))) (some (Sum.inr (ByteArray.mk #[98,97,99,107]))) (some (Sum.inl ()))))))
def Npa (a b c:Int):Option (Unit⊕ByteArray):=
 (Nbt a b c).bind (fun(t:Bool)=>N6a t a b c)
def Nf3 (a:Bool) (b c d:Int):Option (Unit⊕ByteArray):=
 cond a ((Nc7 c d).map (fun(t:ByteArray)=>(Sum.inr t))) (Npa b c d)
def Nnz (a b c:Int):Option (Unit⊕ByteArray):=
 (N98 a b c).bind (fun(t:Bool)=>Nf3 t a b c)
def Nlt (a b c:Int):Option (Unit⊕ByteArray):=
 (Nnz a b c).map (Sum.elim (fun(t:Unit)=>(Sum.inl ())) (fun(t:ByteArray)=>(Sum.inr t)))
def Nh7:Option (ByteArray):=
 some ByteArray.empty
def Njd (a b c:Int):Option (ByteArray):=
 (Nlt a b c).bind (Sum.elim (fun(t:Unit)=>Nh7) (fun e=>some ((fun(t:ByteArray)=>t) e)))
def Nd3 (a b c:Int):Option (ByteArray):=
 (N7u).bind (fun(t:Unit)=>Njd a b c)
@[irreducible] def Nj (a b c:Int):Option (ByteArray):=
 Nd3 a b c
def N97 (a:List Int) (b:Int):Option ((Int×(List (Int×Int×Int×Unit)))):=
 (N2e 0 a b).bind fun(c:Int×(List Int))=>(N2l (c.2) a (c.1)).bind fun(d:Int×(List (Int×Int×Int×Unit)))=>some ((d.1),(d.2))
def N8o:Option (Unit):=
 some ()
def N7c (a:Int) (b c:List (Int×Int×Int×Unit)):Option ((Int×(List (Int×Int×Int×Unit)))⊕((List (Int×Int×Int×Unit)))):=
 cond (decide (a<(((List.length c:Nat):Int)))) ((inb a (List.length c)).bind fun(d:Nat)=>(c[d]?).bind fun(g:Int×Int×Int×Unit)=>(Nj (g.1) ((g.2).1) (((g.2).2).1)).bind fun(i:ByteArray)=>cond (!(seqs i ByteArray.empty)) ((inb a (List.length c)).bind fun(j:Nat)=>(c[j]?).bind fun(k:Int×Int×Int×Unit)=>(room ((List.length b)+List.length ([((k.1),(((k.2).1),((((k.2).2).1),())))]))).bind fun(l:Unit)=>some (Sum.inl ((IntKind.wrap .i64 (a+1)),(b++([((k.1),(((k.2).1),((((k.2).2).1),())))]))))) (some (Sum.inl ((IntKind.wrap .i64 (a+1)),b)))) (some (Sum.inr b))
def Njp (a:List (Int×Int×Int×Unit)):Option (((List (Int×Int×Int×Unit)))):=
 nloop (fun(s:Int×(List (Int×Int×Int×Unit)))=>((N7c s.1 s.2 a).map (Sum.elim (fun(t:Int×(List (Int×Int×Int×Unit)))=>Sum.inl (t.1,t.2)) (fun(t:(List (Int×Int×Int×Unit)))=>Sum.inr t)):Option ((Int×(List (Int×Int×Int×Unit)))⊕(((List (Int×Int×Int×Unit))))))) LL (0,([]:List (Int×Int×Int×Unit)))
def Nkk (a:List (Int×Int×Int×Unit)):Option (((List (Int×Int×Int×Unit)))):=
 (Njp a).map (fun(t:(List (Int×Int×Int×Unit)))=>t)
def Nls (a:List (Int×Int×Int×Unit)):Option (((List (Int×Int×Int×Unit)))):=
 (N8o).bind (fun(t:Unit)=>Nkk a)
def Ndx (a:Int) (b:List (Int×Int×Int×Unit)):Option ((Int×(List (Int×Int×Int×Unit)))):=
 some (a,b)
def Nni (a:Int) (b:List (Int×Int×Int×Unit)):Option ((Int×(List (Int×Int×Int×Unit)))):=
 (Nls b).bind (fun(t:(List (Int×Int×Int×Unit)))=>Ndx a t)
def Nf9 (a:List Int) (b:Int):Option ((Int×(List (Int×Int×Int×Unit)))):=
 (N97 a b).bind (fun(t:Int×(List (Int×Int×Int×Unit)))=>Nni t.1 t.2)
@[irreducible] def N3r (a:List Int) (b:Int):Option (Int×(List (Int×Int×Int×Unit))):=
 Nf9 a b
def Nbs:Option (Unit):=
 some ()
def N99:Option (Unit):=
 some ()
def N3k (a:List (Int×Int×Int×Unit)) (b:ByteArray) (c:Int):Option ((ByteArray×Int)⊕ByteArray⊕ByteArray):=
 cond (decide (c<(((List.length a:Nat):Int)))) ((idx a c).bind fun(d:Int×Int×Int×Unit)=>(Nj (d.1) ((d.2).1) (((d.2).2).1)).bind fun(g:ByteArray)=>cond (seqs g ByteArray.empty) (some (Sum.inr (Sum.inl ByteArray.empty))) ((idx a c).bind fun(i:Int×Int×Int×Unit)=>(Nj (i.1) ((i.2).1) (((i.2).2).1)).bind fun(j:ByteArray)=>(cat b j).bind fun(k:ByteArray)=>(cat k (ByteArray.mk #[10])).bind fun(l:ByteArray)=>some (Sum.inl (l,(IntKind.wrap .i64 (c+1)))))) (some (Sum.inr (Sum.inr b)))
def Nmo (a:List (Int×Int×Int×Unit)):Option (ByteArray⊕ByteArray):=
 nloop (fun(s:ByteArray×Int)=>((N3k a s.1 s.2).map (Sum.elim (fun(t:ByteArray×Int)=>Sum.inl (t.1,t.2)) (Sum.elim (fun(t:ByteArray)=>Sum.inr (Sum.inl t)) (fun(t:ByteArray)=>Sum.inr (Sum.inr t)))):Option ((ByteArray×Int)⊕(ByteArray⊕ByteArray)))) LL (ByteArray.empty,0)
def Noc (a:List (Int×Int×Int×Unit)):Option (ByteArray⊕ByteArray):=
 (Nmo a).map (Sum.elim (fun(t:ByteArray)=>(Sum.inr t)) (fun(t:ByteArray)=>(Sum.inl t)))
def Nlj (a:List (Int×Int×Int×Unit)):Option (ByteArray⊕ByteArray):=
 (N99).bind (fun(t:Unit)=>Noc a)
def Nal (a:ByteArray):Option (ByteArray):=
 some a
def Nns (a:List (Int×Int×Int×Unit)):Option (ByteArray):=
 (Nlj a).bind (Sum.elim (fun(t:ByteArray)=>Nal t) (fun e=>some ((fun(t:ByteArray)=>t) e)))
def Ngv (a:List (Int×Int×Int×Unit)):Option (ByteArray):=
 (Nbs).bind (fun(t:Unit)=>Nns a)
@[irreducible] def N3x (a:List (Int×Int×Int×Unit)):Option (ByteArray):=
 Ngv a
def N7f (a:ByteArray) (b:List Int) (c:Int):Option ((ByteArray×Int)):=
 cond ((((ByteArray.size a:Nat):Int))==0) (some ((ByteArray.mk #[10]),c)) ((N0 (((ByteArray.size a:Nat):Int)) b c).bind fun(d:Int×Int)=>(inc (d.1) (ByteArray.size a)).bind fun(g:Nat)=>(inc (IntKind.wrap .i64 ((d.1)+1)) (ByteArray.size a)).bind fun(i:Nat)=>(N0 6 b (d.2)).bind fun(j:Int×Int)=>(idx ([ByteArray.empty,(ByteArray.mk #[48]),(ByteArray.mk #[32]),(ByteArray.mk #[10]),(ByteArray.mk #[45]),(ByteArray.mk #[98,97,99,107])]) (j.1)).bind fun(k:ByteArray)=>(cat (a.extract 0 g) k).bind fun(l:ByteArray)=>(cat l (a.extract i (ByteArray.size a))).bind fun(m:ByteArray)=>some (m,(j.2)))
@[irreducible] def N32 (a:ByteArray) (b:List Int) (c:Int):Option (ByteArray×Int):=
 N7f a b c
def N8d (a:List Int):Option (ByteArray):=
 (N3j a).bind fun(b:List Int)=>(N3r b 0).bind fun(c:Int×(List (Int×Int×Int×Unit)))=>(N3x (c.2)).bind fun(d:ByteArray)=>(N0 3 b (c.1)).bind fun(g:Int×Int)=>cond ((g.1)==0) ((N32 d b (g.2)).bind fun(i:ByteArray×Int)=>some (i.1)) (cond ((g.1)==1) ((N0 (IntKind.wrap .i64 ((((ByteArray.size d:Nat):Int))+1)) b (g.2)).bind fun(j:Int×Int)=>(inc (j.1) (ByteArray.size d)).bind fun(k:Nat)=>some (d.extract 0 k)) (some d))
@[irreducible] def N52 (a:List Int):Option (ByteArray):=
 N8d a
def N6m (x1 x2:ByteArray):Option (Int):=sidx x1 x2
def N2v (a b:ByteArray):Option ((ByteArray×ByteArray×Bool)):=
 (N6m a b).bind fun(c:Int)=>cond (decide (c≥0)) ((inc c (ByteArray.size a)).bind fun(d:Nat)=>(inc (IntKind.wrap .i64 (c+(((ByteArray.size b:Nat):Int)))) (ByteArray.size a)).bind fun(g:Nat)=>some ((a.extract 0 d),(a.extract g (ByteArray.size a)),true)) (some (a,ByteArray.empty,false))
@[irreducible] def N2d (a b:ByteArray):Option (ByteArray×ByteArray×Bool):=
 N2v a b
def N3z (a b:ByteArray):Option ((ByteArray×ByteArray×Bool)):=
 (N2d a b).bind fun(c:ByteArray×ByteArray×Bool)=>some ((c.1),(c.2.1),(c.2.2))
@[irreducible] def N1a (a b:ByteArray):Option (ByteArray×ByteArray×Bool):=
 N3z a b
def Nb6 (a b:ByteArray):Option (Int):=
 (N6m a b).bind fun(c:Int)=>some c
@[irreducible] def N62 (a b:ByteArray):Option (Int):=
 Nb6 a b
def Na4 (a b:ByteArray) (c:Int):Option ((Int×(List ByteArray))⊕(Nat×(List ByteArray))):=
 cond (c==0) (some (Sum.inr ((List.length ([]:List ByteArray)),([]:List ByteArray)))) (cond (seqs b ByteArray.empty) (none) (cond (decide (c<0)) (none) ((mk (imin c (IntKind.wrap .i64 ((((ByteArray.size a:Nat):Int))+1))) (imin c (IntKind.wrap .i64 ((((ByteArray.size a:Nat):Int))+1)))).bind fun(d:Nat)=>some (Sum.inl ((IntKind.wrap .i64 ((imin c (IntKind.wrap .i64 ((((ByteArray.size a:Nat):Int))+1)))-1)),(List.replicate d ByteArray.empty))))))
def N3l (a b:ByteArray) (c d g:Int) (i:List ByteArray):Option ((ByteArray×Int×(List ByteArray))⊕(ByteArray×Int×(List ByteArray))):=
 cond (decide (g<d)) ((N62 a b).bind fun(j:Int)=>cond (decide (j<0)) (some (Sum.inr (a,g,i))) ((inc (IntKind.wrap .i64 (j+c)) (ByteArray.size a)).bind fun(k:Nat)=>(inb g (List.length i)).bind fun(l:Nat)=>(inc (IntKind.wrap .i64 (j+(((ByteArray.size b:Nat):Int)))) (ByteArray.size a)).bind fun(m:Nat)=>some (Sum.inl ((a.extract m (ByteArray.size a)),(IntKind.wrap .i64 (g+1)),(i.set l (a.extract 0 k)))))) (some (Sum.inr (a,g,i)))
def Nkq (a b:ByteArray) (c d:Int) (g:List ByteArray):Option ((ByteArray×Int×(List ByteArray))):=
 nloop (fun(s:ByteArray×Int×(List ByteArray))=>((N3l s.1 b c d s.2.1 s.2.2).map (Sum.elim (fun(t:ByteArray×Int×(List ByteArray))=>Sum.inl (t.1,t.2.1,t.2.2)) (fun(t:ByteArray×Int×(List ByteArray))=>Sum.inr t)):Option ((ByteArray×Int×(List ByteArray))⊕((ByteArray×Int×(List ByteArray)))))) LL (a,0,g)
def Non (a b:ByteArray) (c d:Int) (g:List ByteArray):Option ((ByteArray×Int×(List ByteArray))):=
 (Nkq a b c d g).map (fun(t:ByteArray×Int×(List ByteArray))=>(t.1,t.2.1,t.2.2))
def N6v (a:ByteArray) (b:Int) (c:List ByteArray):Option ((Nat×(List ByteArray))):=
 (inb b (List.length c)).bind fun(d:Nat)=>(inc (IntKind.wrap .i64 (b+1)) (List.length (c.set d a))).bind fun(g:Nat)=>some ((g-0),(c.set d a))
def Nld (a b:ByteArray) (c d:Int) (g:List ByteArray):Option ((Nat×(List ByteArray))):=
 (Non a b c d g).bind (fun(t:ByteArray×Int×(List ByteArray))=>N6v t.1 t.2.1 t.2.2)
def Nd1 (a b:ByteArray) (c d:Int):Option ((Nat×(List ByteArray))):=
 (Na4 a b d).bind (Sum.elim (fun(t:Int×(List ByteArray))=>Nld a b c t.1 t.2) (fun e=>some ((fun(t:Nat×(List ByteArray))=>t) e)))
@[irreducible] def N5g (a b:ByteArray) (c d:Int):Option (Nat×(List ByteArray)):=
 Nd1 a b c d
def N71 (a b:ByteArray) (c:Int):Option ((Nat×(List ByteArray))):=
 (N5g a b 0 c).bind fun(d:Nat×(List ByteArray))=>some ((d.1),(d.2))
@[irreducible] def N3s (a b:ByteArray) (c:Int):Option (Nat×(List ByteArray)):=
 N71 a b c
def Ncg:Option (Unit):=
 some ()
def Nan:Option ((ByteArray×ByteArray×ByteArray×ByteArray×ByteArray×ByteArray)):=
 (same (List.length tabW) 6).bind fun(a:Unit)=>some ((tabW.getD 0 ByteArray.empty),(tabW.getD 1 ByteArray.empty),(tabW.getD 2 ByteArray.empty),(tabW.getD 3 ByteArray.empty),(tabW.getD 4 ByteArray.empty),(tabW.getD 5 ByteArray.empty))
def N6n (a b c d g i j:ByteArray) (k:Int):Option (Int⊕Int⊕Unit):=
 cond (decide (k<6)) ((idx [b,c,d,g,i,j] k).bind fun(l:ByteArray)=>cond (seqs l a) (some (Sum.inr (Sum.inl k))) (some (Sum.inl (IntKind.wrap .i64 (k+1))))) (some (Sum.inr (Sum.inr ())))
def Nkr (a b c d g i j:ByteArray):Option (Int⊕Unit):=
 nloop (fun(s:Int)=>((N6n a b c d g i j s).map (Sum.elim (fun(t:Int)=>Sum.inl t) (Sum.elim (fun(t:Int)=>Sum.inr (Sum.inl t)) (fun(t:Unit)=>Sum.inr (Sum.inr t)))):Option ((Int)⊕(Int⊕Unit)))) LL 0
def Nmu (a b c d g i j:ByteArray):Option (Unit⊕Int):=
 (Nkr a b c d g i j).map (Sum.elim (fun(t:Int)=>(Sum.inr t)) (fun(t:Unit)=>(Sum.inl ())))
def Nk7 (a:ByteArray):Option (Unit⊕Int):=
 (Nan).bind (fun(t:ByteArray×ByteArray×ByteArray×ByteArray×ByteArray×ByteArray)=>Nmu a t.1 t.2.1 t.2.2.1 t.2.2.2.1 t.2.2.2.2.1 t.2.2.2.2.2)
def Naz:Option (Int):=
 some (-1)
def Np1 (a:ByteArray):Option (Int):=
 (Nk7 a).bind (Sum.elim (fun(t:Unit)=>Naz) (fun e=>some ((fun(t:Int)=>t) e)))
def Ncx (a:ByteArray):Option (Int):=
 (Ncg).bind (fun(t:Unit)=>Np1 a)
@[irreducible] def Nh (a:ByteArray):Option (Int):=
 Ncx a
def N7e (x1:ByteArray):Option (Int×Bool):=atoiS x1
def N7h (a:Int):Option (Int):=
 cond (a==0) (some 2) (cond (a==1) (some 1) (some 0))
@[irreducible] def Nl (a:Int):Option (Int):=
 N7h a
def Nc9 (a b c:Int):Option (Bool):=
 (Nl a).bind fun(d:Int)=>cond (decide (d>0)) (cond (decide (d>1)) (some true) (some (c==0))) (cond (b==0) (cond (decide (d>1)) (some true) (some (c==0))) (some false))
@[irreducible] def N3b (a b c:Int):Option (Bool):=
 Nc9 a b c
def Nac (a b c:Int):Option (Bool):=
 cond (decide (a≥0)) (cond (decide (a<6)) ((N3b a b c).bind fun(d:Bool)=>cond d (cond (decide (b≥0)) (cond (decide (b≤99)) (cond (decide (c≥0)) (some (decide (c≤99))) (some false)) (some false)) (some false)) (some false)) (some false)) (some false)
@[irreducible] def N4t (a b c:Int):Option (Bool):=
 Nac a b c
def Nn0 (x1:Int):Option (ByteArray):=itoaS x1
def N8v (a b c:Int):Option (ByteArray⊕ByteArray):=
 (N4t a b c).bind fun(d:Bool)=>cond (!d) (some (Sum.inr ByteArray.empty)) ((same (List.length tabW) 6).bind fun(g:Unit)=>(idx tabW a).bind fun(i:ByteArray)=>some (Sum.inl i))
def N4p (a b c:Int):Option (((List Int)×Int)):=
 (Nl a).bind fun(d:Int)=>(inc d (List.length ([b,c]))).bind fun(g:Nat)=>some (((([b,c]).take g).drop 0),(((List.length ((([b,c]).take g).drop 0):Nat):Int)))
def N65 (a:ByteArray) (b:List Int) (c d:Int):Option ((ByteArray×Int)⊕ByteArray):=
 cond (decide (d<c)) ((idx b d).bind fun(g:Int)=>(Nn0 g).bind fun(i:ByteArray)=>(cat (ByteArray.mk #[32]) i).bind fun(j:ByteArray)=>(cat a j).bind fun(k:ByteArray)=>some (Sum.inl (k,(IntKind.wrap .i64 (d+1))))) (some (Sum.inr a))
def N9r (a:ByteArray) (b:List Int) (c:Int):Option (ByteArray):=
 nloop (fun(s:ByteArray×Int)=>((N65 s.1 b c s.2).map (Sum.elim (fun(t:ByteArray×Int)=>Sum.inl (t.1,t.2)) (fun(t:ByteArray)=>Sum.inr t)):Option ((ByteArray×Int)⊕(ByteArray)))) LL (a,0)
def Nav (a:ByteArray) (b:List Int) (c:Int):Option (ByteArray):=
 (N9r a b c).map (fun(t:ByteArray)=>t)
def N8u (a:ByteArray) (b c d:Int):Option (ByteArray):=
 (N4p b c d).bind (fun(t:(List Int)×Int)=>Nav a t.1 t.2)
def N50 (a:ByteArray):Option (ByteArray):=
 some a
def Nc8 (a:ByteArray) (b c d:Int):Option (ByteArray):=
 (N8u a b c d).bind (fun(t:ByteArray)=>N50 t)
def Nea (a b c:Int):Option (ByteArray):=
 (N8v a b c).bind (Sum.elim (fun(t:ByteArray)=>Nc8 t a b c) (fun e=>some ((fun(t:ByteArray)=>t) e)))
@[irreducible] def N3 (a b c:Int):Option (ByteArray):=
 Nea a b c
def N70 (a:ByteArray):Option ((Bool×Int×Int×Int)):=
 (N3s a (ByteArray.mk #[32]) 3).bind fun(b:Nat×(List ByteArray))=>(inb 0 (b.1)).bind fun(c:Nat)=>((b.2)[(0+c)]?).bind fun(d:ByteArray)=>(Nh d).bind fun(g:Int)=>cond (decide (((((b.1):Nat):Int))>1)) ((inb 1 (b.1)).bind fun(i:Nat)=>((b.2)[(0+i)]?).bind fun(j:ByteArray)=>(N7e j).bind fun(k:Int×Bool)=>cond (decide (((((b.1):Nat):Int))>2)) ((inb 2 (b.1)).bind fun(l:Nat)=>((b.2)[(0+l)]?).bind fun(m:ByteArray)=>(N7e m).bind fun(o:Int×Bool)=>cond (seqs a ByteArray.empty) (some (false,0,0,0)) ((N3 g (k.1) (o.1)).bind fun(p:ByteArray)=>cond (!(seqs p a)) (some (false,0,0,0)) (some (true,g,(k.1),(o.1))))) (cond (seqs a ByteArray.empty) (some (false,0,0,0)) ((N3 g (k.1) 0).bind fun(q:ByteArray)=>cond (!(seqs q a)) (some (false,0,0,0)) (some (true,g,(k.1),0))))) (cond (decide (((((b.1):Nat):Int))>2)) ((inb 2 (b.1)).bind fun(w:Nat)=>((b.2)[(0+w)]?).bind fun(y:ByteArray)=>(N7e y).bind fun(z:Int×Bool)=>cond (seqs a ByteArray.empty) (some (false,0,0,0)) ((N3 g 0 (z.1)).bind fun(a0:ByteArray)=>cond (!(seqs a0 a)) (some (false,0,0,0)) (some (true,g,0,(z.1))))) (cond (seqs a ByteArray.empty) (some (false,0,0,0)) ((N3 g 0 0).bind fun(a1:ByteArray)=>cond (!(seqs a1 a)) (some (false,0,0,0)) (some (true,g,0,0)))))
@[irreducible] def N2a (a:ByteArray):Option (Bool×Int×Int×Int):=
 N70 a
def Nbl:Option (Unit):=
 some ()
def N3m (a:ByteArray) (b:Int) (c:List (Int×Int×Int×Unit)):Option ((Int×(List (Int×Int×Int×Unit)))⊕(Int×(List (Int×Int×Int×Unit)))):=
 (inc b (ByteArray.size a)).bind fun(d:Nat)=>(N1a (a.extract d (ByteArray.size a)) (ByteArray.mk #[10])).bind fun(g:ByteArray×ByteArray×Bool)=>(N2a (g.1)).bind fun(i:Bool×Int×Int×Int)=>cond (!(g.2.2)) (some (Sum.inr (b,c))) (cond (!(i.1)) (some (Sum.inr (b,c))) ((room ((List.length c)+List.length ([((i.2.1),((i.2.2.1),((i.2.2.2),())))]))).bind fun(j:Unit)=>some (Sum.inl ((IntKind.wrap .i64 (b+(IntKind.wrap .i64 ((((ByteArray.size (g.1):Nat):Int))+1)))),(c++([((i.2.1),((i.2.2.1),((i.2.2.2),())))]))))))
def Njw (a:ByteArray):Option ((Int×(List (Int×Int×Int×Unit)))):=
 nloop (fun(s:Int×(List (Int×Int×Int×Unit)))=>((N3m a s.1 s.2).map (Sum.elim (fun(t:Int×(List (Int×Int×Int×Unit)))=>Sum.inl (t.1,t.2)) (fun(t:Int×(List (Int×Int×Int×Unit)))=>Sum.inr t)):Option ((Int×(List (Int×Int×Int×Unit)))⊕((Int×(List (Int×Int×Int×Unit))))))) LL (0,([]:List (Int×Int×Int×Unit)))
def Nk6 (a:ByteArray):Option ((Int×(List (Int×Int×Int×Unit)))):=
 (Njw a).map (fun(t:Int×(List (Int×Int×Int×Unit)))=>t)
def Nh2 (a:ByteArray):Option ((Int×(List (Int×Int×Int×Unit)))):=
 (Nbl).bind (fun(t:Unit)=>Nk6 a)
@[irreducible] def N1l (a:ByteArray):Option (Int×(List (Int×Int×Int×Unit))):=
 Nh2 a
def N9y:Option (Unit):=
 some ()
def N87:Option (Unit):=
 some ()
def N41 (a:ByteArray) (b c d:Int) (g:List ByteArray):Option ((Int×Int×(List ByteArray))⊕(Int×(List ByteArray))):=
 cond (decide (d<(((ByteArray.size a:Nat):Int)))) ((bidx a d).bind fun(i:Int)=>cond (i==b) ((inc d (ByteArray.size a)).bind fun(j:Nat)=>(inc c j).bind fun(k:Nat)=>(room ((List.length g)+List.length ([(a.extract k j)]))).bind fun(l:Unit)=>some (Sum.inl ((IntKind.wrap .i64 (d+1)),(IntKind.wrap .i64 (d+1)),(g++([(a.extract k j)]))))) (some (Sum.inl (c,(IntKind.wrap .i64 (d+1)),g)))) (some (Sum.inr (c,g)))
def Nlf (a:ByteArray) (b:Int):Option ((Int×(List ByteArray))):=
 nloop (fun(s:Int×Int×(List ByteArray))=>((N41 a b s.1 s.2.1 s.2.2).map (Sum.elim (fun(t:Int×Int×(List ByteArray))=>Sum.inl (t.1,t.2.1,t.2.2)) (fun(t:Int×(List ByteArray))=>Sum.inr t)):Option ((Int×Int×(List ByteArray))⊕((Int×(List ByteArray)))))) LL (0,0,([]:List ByteArray))
def Nkj (a:ByteArray) (b:Int):Option ((Int×(List ByteArray))):=
 (Nlf a b).map (fun(t:Int×(List ByteArray))=>(t.1,t.2))
def Nln (a:ByteArray) (b:Int):Option ((Int×(List ByteArray))):=
 (N87).bind (fun(t:Unit)=>Nkj a b)
def Nc3 (a:ByteArray) (b:Int) (c:List ByteArray):Option (((List ByteArray))):=
 (inc b (ByteArray.size a)).bind fun(d:Nat)=>(room ((List.length c)+List.length ([(a.extract d (ByteArray.size a))]))).bind fun(g:Unit)=>some (c++([(a.extract d (ByteArray.size a))]))
def Nki (a:ByteArray) (b:Int):Option (((List ByteArray))):=
 (Nln a b).bind (fun(t:Int×(List ByteArray))=>Nc3 a t.1 t.2)
def Ng9 (a:ByteArray) (b:Int):Option (((List ByteArray))):=
 (N9y).bind (fun(t:Unit)=>Nki a b)
@[irreducible] def N3w (a:ByteArray) (b:Int):Option ((List ByteArray)):=
 Ng9 a b
def Nbg (a:ByteArray):Option (Unit⊕Int):=
 (Na (((ByteArray.size a:Nat):Int)) 1 6).bind fun(b:Bool)=>cond (!b) (some (Sum.inr (-1))) (cond (decide ((((ByteArray.size a:Nat):Int))>1)) ((bidx a 0).bind fun(c:Int)=>cond (c==48) (some (Sum.inr (-1))) (some (Sum.inl ()))) (some (Sum.inl ())))
def Nbu:Option (Unit):=
 some ()
def N5k (a:ByteArray) (b c:Int):Option ((Int×Int)⊕Int⊕Int):=
 cond (decide (c<(((ByteArray.size a:Nat):Int)))) ((bidx a c).bind fun(d:Int)=>cond (decide (d<48)) (some (Sum.inr (Sum.inl (-1)))) ((bidx a c).bind fun(g:Int)=>cond (decide (g>57)) (some (Sum.inr (Sum.inl (-1)))) ((bidx a c).bind fun(i:Int)=>some (Sum.inl ((IntKind.wrap .i64 ((IntKind.wrap .i64 (10*b))+(IntKind.wrap .i64 (IntKind.wrap .u8 (i-48))))),(IntKind.wrap .i64 (c+1))))))) (some (Sum.inr (Sum.inr b)))
def Njo (a:ByteArray):Option (Int⊕Int):=
 nloop (fun(s:Int×Int)=>((N5k a s.1 s.2).map (Sum.elim (fun(t:Int×Int)=>Sum.inl (t.1,t.2)) (Sum.elim (fun(t:Int)=>Sum.inr (Sum.inl t)) (fun(t:Int)=>Sum.inr (Sum.inr t)))):Option ((Int×Int)⊕(Int⊕Int)))) LL (0,0)
def Nn3 (a:ByteArray):Option (Int⊕Int):=
 (Njo a).map (Sum.elim (fun(t:Int)=>(Sum.inr t)) (fun(t:Int)=>(Sum.inl t)))
def Njy (a:ByteArray):Option (Int⊕Int):=
 (Nbu).bind (fun(t:Unit)=>Nn3 a)
def Nck (a:Int):Option (Int):=
 some a
def Nhf (a:ByteArray):Option (Int):=
 (Njy a).bind (Sum.elim (fun(t:Int)=>Nck t) (fun e=>some ((fun(t:Int)=>t) e)))
def Nhg (a:ByteArray):Option (Int):=
 (Nbg a).bind (Sum.elim (fun(t:Unit)=>Nhf a) (fun e=>some ((fun(t:Int)=>t) e)))
@[irreducible] def N11 (a:ByteArray):Option (Int):=
 Nhg a
def Nb0 (a:ByteArray):Option (((List ByteArray)×(List (Int×Int×Int×Unit)))):=
 (N3w a 32).bind fun(b:List ByteArray)=>some (b,([(2,(0,(0,()))),(3,(0,(0,()))),(4,(0,(0,()))),(5,(0,(0,())))]))
def Ncm (a:List ByteArray):Option (Bool):=
 some ((((List.length a:Nat):Int))==3)
def Na6 (a:List ByteArray) (b:List (Int×Int×Int×Unit)):Option (((List (Int×Int×Int×Unit)))):=
 (inb 1 (List.length a)).bind fun(c:Nat)=>(a[c]?).bind fun(d:ByteArray)=>(inb 2 (List.length a)).bind fun(g:Nat)=>(a[g]?).bind fun(i:ByteArray)=>(N11 d).bind fun(j:Int)=>(N11 i).bind fun(k:Int)=>(room ((List.length b)+List.length ([(0,(j,(k,())))]))).bind fun(l:Unit)=>some (b++([(0,(j,(k,())))]))
def N80:Option (Unit):=
 some ()
def Nmv (a:Bool) (b:List ByteArray) (c:List (Int×Int×Int×Unit)):Option (((List (Int×Int×Int×Unit)))):=
 cond a ((Na6 b c).map (fun(t:(List (Int×Int×Int×Unit)))=>t)) ((N80).map (fun(t:Unit)=>c))
def Nnq (a:List ByteArray) (b:List (Int×Int×Int×Unit)):Option (((List (Int×Int×Int×Unit)))):=
 (Ncm a).bind (fun(t:Bool)=>Nmv t a b)
def N75 (a:List ByteArray) (b:List (Int×Int×Int×Unit)):Option (((List (Int×Int×Int×Unit)))):=
 cond ((((List.length a:Nat):Int))==2) ((inb 1 (List.length a)).bind fun(c:Nat)=>(a[c]?).bind fun(d:ByteArray)=>(N11 d).bind fun(g:Int)=>(room ((List.length b)+List.length ([(1,(g,(0,())))]))).bind fun(i:Unit)=>some (b++([(1,(g,(0,())))]))) (some b)
def N8n:Option (Unit):=
 some ()
def N58 (a:ByteArray) (b:Int) (c:List (Int×Int×Int×Unit)):Option (Int⊕(Bool×Int×Int×Int)⊕Unit):=
 cond (decide (b<(((List.length c:Nat):Int)))) (cond (!(seqs a ByteArray.empty)) ((inb b (List.length c)).bind fun(d:Nat)=>(c[d]?).bind fun(g:Int×Int×Int×Unit)=>(Nj (g.1) ((g.2).1) (((g.2).2).1)).bind fun(i:ByteArray)=>cond (seqs i a) ((inb b (List.length c)).bind fun(j:Nat)=>(c[j]?).bind fun(k:Int×Int×Int×Unit)=>some (Sum.inr (Sum.inl (true,(k.1),((k.2).1),(((k.2).2).1))))) (some (Sum.inl (IntKind.wrap .i64 (b+1))))) (some (Sum.inl (IntKind.wrap .i64 (b+1))))) (some (Sum.inr (Sum.inr ())))
def Njj (a:ByteArray) (b:List (Int×Int×Int×Unit)):Option ((Bool×Int×Int×Int)⊕Unit):=
 nloop (fun(s:Int)=>((N58 a s b).map (Sum.elim (fun(t:Int)=>Sum.inl t) (Sum.elim (fun(t:Bool×Int×Int×Int)=>Sum.inr (Sum.inl t)) (fun(t:Unit)=>Sum.inr (Sum.inr t)))):Option ((Int)⊕((Bool×Int×Int×Int)⊕Unit)))) LL 0
def Nos (a:ByteArray) (b:List (Int×Int×Int×Unit)):Option (Unit⊕(Bool×Int×Int×Int)):=
 (Njj a b).map (Sum.elim (fun(t:Bool×Int×Int×Int)=>(Sum.inr t)) (fun(t:Unit)=>(Sum.inl ())))
def Nl7 (a:ByteArray) (b:List (Int×Int×Int×Unit)):Option (Unit⊕(Bool×Int×Int×Int)):=
 (N8n).bind (fun(t:Unit)=>Nos a b)
def Nce:Option ((Bool×Int×Int×Int)):=
 some (false,0,0,0)
def Nga (a:ByteArray) (b:List (Int×Int×Int×Unit)):Option ((Bool×Int×Int×Int)):=
 (Nl7 a b).bind (Sum.elim (fun(t:Unit)=>Nce) (fun e=>some ((fun(t:Bool×Int×Int×Int)=>t) e)))
def Nin (a:ByteArray) (b:List ByteArray) (c:List (Int×Int×Int×Unit)):Option ((Bool×Int×Int×Int)):=
 (N75 b c).bind (fun(t:(List (Int×Int×Int×Unit)))=>Nga a t)
def Nog (a:ByteArray) (b:List ByteArray) (c:List (Int×Int×Int×Unit)):Option ((Bool×Int×Int×Int)):=
 (Nnq b c).bind (fun(t:(List (Int×Int×Int×Unit)))=>Nin a b t)
def Nfw (a:ByteArray):Option ((Bool×Int×Int×Int)):=
 (Nb0 a).bind (fun(t:(List ByteArray)×(List (Int×Int×Int×Unit)))=>Nog a t.1 t.2)
@[irreducible] def N2u (a:ByteArray):Option (Bool×Int×Int×Int):=
 Nfw a
def N9d:Option (Unit):=
 some ()
def N9k:Option (Unit):=
 some ()
def N2k (a:ByteArray) (b c:Int) (d:List (Int×Int×Int×Unit)):Option ((Int×Int×(List (Int×Int×Int×Unit)))⊕(Int×(List (Int×Int×Int×Unit)))⊕(Int×(List (Int×Int×Int×Unit)))):=
 cond (decide (c<(((ByteArray.size a:Nat):Int)))) ((bidx a c).bind fun(g:Int)=>cond (g==10) ((inc c (ByteArray.size a)).bind fun(i:Nat)=>(inc b i).bind fun(j:Nat)=>(N2u (a.extract j i)).bind fun(k:Bool×Int×Int×Int)=>cond (!(k.1)) (some (Sum.inr (Sum.inl (b,d)))) ((room ((List.length d)+List.length ([((k.2.1),((k.2.2.1),((k.2.2.2),())))]))).bind fun(l:Unit)=>some (Sum.inl ((IntKind.wrap .i64 (c+1)),(IntKind.wrap .i64 (c+1)),(d++([((k.2.1),((k.2.2.1),((k.2.2.2),())))])))))) (some (Sum.inl (b,(IntKind.wrap .i64 (c+1)),d)))) (some (Sum.inr (Sum.inr (b,d))))
def Nnj (a:ByteArray):Option ((Int×(List (Int×Int×Int×Unit)))⊕(Int×(List (Int×Int×Int×Unit)))):=
 nloop (fun(s:Int×Int×(List (Int×Int×Int×Unit)))=>((N2k a s.1 s.2.1 s.2.2).map (Sum.elim (fun(t:Int×Int×(List (Int×Int×Int×Unit)))=>Sum.inl (t.1,t.2.1,t.2.2)) (Sum.elim (fun(t:Int×(List (Int×Int×Int×Unit)))=>Sum.inr (Sum.inl t)) (fun(t:Int×(List (Int×Int×Int×Unit)))=>Sum.inr (Sum.inr t)))):Option ((Int×Int×(List (Int×Int×Int×Unit)))⊕((Int×(List (Int×Int×Int×Unit)))⊕(Int×(List (Int×Int×Int×Unit))))))) LL (0,0,([]:List (Int×Int×Int×Unit)))
def Noe (a:ByteArray):Option ((Int×(List (Int×Int×Int×Unit)))⊕(Int×(List (Int×Int×Int×Unit)))):=
 (Nnj a).map (Sum.elim (fun(t:Int×(List (Int×Int×Int×Unit)))=>(Sum.inr t)) (fun(t:Int×(List (Int×Int×Int×Unit)))=>(Sum.inl (t.1,t.2))))
def Nl5 (a:ByteArray):Option ((Int×(List (Int×Int×Int×Unit)))⊕(Int×(List (Int×Int×Int×Unit)))):=
 (N9k).bind (fun(t:Unit)=>Noe a)
def N8t (a:Int) (b:List (Int×Int×Int×Unit)):Option ((Int×(List (Int×Int×Int×Unit)))):=
 some (a,b)
def Njg (a:ByteArray):Option ((Int×(List (Int×Int×Int×Unit)))):=
 (Nl5 a).bind (Sum.elim (fun(t:Int×(List (Int×Int×Int×Unit)))=>N8t t.1 t.2) (fun e=>some ((fun(t:Int×(List (Int×Int×Int×Unit)))=>t) e)))
def Ngq (a:ByteArray):Option ((Int×(List (Int×Int×Int×Unit)))):=
 (N9d).bind (fun(t:Unit)=>Njg a)
@[irreducible] def N37 (a:ByteArray):Option (Int×(List (Int×Int×Int×Unit))):=
 Ngq a
def Ncr (a b:List (Int×Int×Int×Unit)):Option (Unit⊕Bool):=
 cond ((((List.length a:Nat):Int)) !=(((List.length b:Nat):Int))) (some (Sum.inr false)) (some (Sum.inl ()))
def N9b:Option (Unit):=
 some ()
def N5e (a b:List (Int×Int×Int×Unit)) (c:Int):Option (Int⊕Bool⊕Unit):=
 cond (decide (c<(((List.length a:Nat):Int)))) ((idx a c).bind fun(d:Int×Int×Int×Unit)=>(idx b c).bind fun(g:Int×Int×Int×Unit)=>cond (!(((d.1)==(g.1))&&((((d.2).1)==((g.2).1))&&(((((d.2).2).1)==(((g.2).2).1))&&true)))) (some (Sum.inr (Sum.inl false))) (some (Sum.inl (IntKind.wrap .i64 (c+1))))) (some (Sum.inr (Sum.inr ())))
def Npe (a b:List (Int×Int×Int×Unit)):Option (Bool⊕Unit):=
 nloop (fun(s:Int)=>((N5e a b s).map (Sum.elim (fun(t:Int)=>Sum.inl t) (Sum.elim (fun(t:Bool)=>Sum.inr (Sum.inl t)) (fun(t:Unit)=>Sum.inr (Sum.inr t)))):Option ((Int)⊕(Bool⊕Unit)))) LL 0
def Nja (a b:List (Int×Int×Int×Unit)):Option (Unit⊕Bool):=
 (Npe a b).map (Sum.elim (fun(t:Bool)=>(Sum.inr t)) (fun(t:Unit)=>(Sum.inl ())))
def Njx (a b:List (Int×Int×Int×Unit)):Option (Unit⊕Bool):=
 (N9b).bind (fun(t:Unit)=>Nja a b)
def N90:Option (Bool):=
 some true
def Nnl (a b:List (Int×Int×Int×Unit)):Option (Bool):=
 (Njx a b).bind (Sum.elim (fun(t:Unit)=>N90) (fun e=>some ((fun(t:Bool)=>t) e)))
def Ni4 (a b:List (Int×Int×Int×Unit)):Option (Bool):=
 (Ncr a b).bind (Sum.elim (fun(t:Unit)=>Nnl a b) (fun e=>some ((fun(t:Bool)=>t) e)))
@[irreducible] def N2j (a b:List (Int×Int×Int×Unit)):Option (Bool):=
 Ni4 a b
def N7j (a:List Int):Option ((Bool×(List Int))):=
 (N8 a).bind fun(b:Bool)=>cond (!b) (some (false,([]:List Int))) ((room ((List.length ([]:List Int))+List.length a)).bind fun(c:Unit)=>some (true,(([]:List Int)++a)))
@[irreducible] def N38 (a:List Int):Option (Bool×(List Int)):=
 N7j a
def N9z:Option (Unit):=
 some ()
def N9h:Option (Unit):=
 some ()
def N40 (a:Int) (b:List (List Int)):Option (Int⊕Bool⊕Unit):=
 cond (decide (a<(((List.length b:Nat):Int)))) ((idx b a).bind fun(c:List Int)=>(N8 c).bind fun(d:Bool)=>cond (!d) (some (Sum.inr (Sum.inl false))) (some (Sum.inl (IntKind.wrap .i64 (a+1))))) (some (Sum.inr (Sum.inr ())))
def Nnd (a:List (List Int)):Option (Bool⊕Unit):=
 nloop (fun(s:Int)=>((N40 s a).map (Sum.elim (fun(t:Int)=>Sum.inl t) (Sum.elim (fun(t:Bool)=>Sum.inr (Sum.inl t)) (fun(t:Unit)=>Sum.inr (Sum.inr t)))):Option ((Int)⊕(Bool⊕Unit)))) LL 0
def Nms (a:List (List Int)):Option (Unit⊕Bool):=
 (Nnd a).map (Sum.elim (fun(t:Bool)=>(Sum.inr t)) (fun(t:Unit)=>(Sum.inl ())))
def Nlb (a:List (List Int)):Option (Unit⊕Bool):=
 (N9h).bind (fun(t:Unit)=>Nms a)
def Nag (a:List Int) (b:List (List Int)):Option (Bool):=
 (N8 a).bind fun(c:Bool)=>cond c (some (decide ((((List.length b:Nat):Int))≤8))) (some false)
def Nop (a:List Int) (b:List (List Int)):Option (Bool):=
 (Nlb b).bind (Sum.elim (fun(t:Unit)=>Nag a b) (fun e=>some ((fun(t:Bool)=>t) e)))
def Nhc (a:List Int) (b:List (List Int)):Option (Bool):=
 (N9z).bind (fun(t:Unit)=>Nop a b)
@[irreducible] def N14 (a:List Int) (b:List (List Int)):Option (Bool):=
 Nhc a b
def N9i (a:List Int):Option (((List Int))):=
 (room ((List.length ([]:List Int))+List.length a)).bind fun(b:Unit)=>some (([]:List Int)++a)
def N9o:Option (Unit):=
 some ()
def N5o (a:Int) (b c:List (List Int)):Option ((Int×(List (List Int)))⊕((List (List Int)))):=
 cond (decide (a<(((List.length b:Nat):Int)))) ((idx b a).bind fun(d:List Int)=>(room (List.length d)).bind fun(g:Unit)=>(room (List.length c+1)).bind fun(i:Unit)=>some (Sum.inl ((IntKind.wrap .i64 (a+1)),((c++ [[]]).set (List.length c) d)))) (some (Sum.inr c))
def Nkx (a:List (List Int)):Option (((List (List Int)))):=
 nloop (fun(s:Int×(List (List Int)))=>((N5o s.1 a s.2).map (Sum.elim (fun(t:Int×(List (List Int)))=>Sum.inl (t.1,t.2)) (fun(t:(List (List Int)))=>Sum.inr t)):Option ((Int×(List (List Int)))⊕(((List (List Int))))))) LL (0,([]:List (List Int)))
def Nk8 (a:List (List Int)):Option (((List (List Int)))):=
 (Nkx a).map (fun(t:(List (List Int)))=>t)
def Nnb (a:List (List Int)):Option (((List (List Int)))):=
 (N9o).bind (fun(t:Unit)=>Nk8 a)
def Nc0 (a:List Int) (b:List (List Int)):Option (((List Int)×(List (List Int)))):=
 some (a,b)
def Nku (a:List (List Int)) (b:List Int):Option (((List Int)×(List (List Int)))):=
 (Nnb a).bind (fun(t:(List (List Int)))=>Nc0 b t)
def Nhu (a:List Int) (b:List (List Int)):Option (((List Int)×(List (List Int)))):=
 (N9i a).bind (fun(t:(List Int))=>Nku b t)
@[irreducible] def N42 (a:List Int) (b:List (List Int)):Option ((List Int)×(List (List Int))):=
 Nhu a b
def Naf (a:List Int):Option (Int):=
 some (((List.length a:Nat):Int))
def Nbr (a:Int):Option (Int):=
 some (IntKind.wrap .i64 (a-1))
def N2r (a:List Int) (b c:Int) (d:List Int):Option ((Int×(List Int))⊕((List Int))):=
 cond (decide (c≥0)) ((N8 a).bind fun(g:Bool)=>cond g ((idx a c).bind fun(i:Int)=>cond (i==0) ((room ((List.length d)+List.length ([0]))).bind fun(j:Unit)=>some (Sum.inl ((IntKind.wrap .i64 (c-1)),(d++([0]))))) ((idx a c).bind fun(k:Int)=>(room ((List.length d)+List.length ([(IntKind.wrap .i64 ((IntKind.wrap .i64 (b+1))-k))]))).bind fun(l:Unit)=>some (Sum.inl ((IntKind.wrap .i64 (c-1)),(d++([(IntKind.wrap .i64 ((IntKind.wrap .i64 (b+1))-k))])))))) (some (Sum.inr d))) (some (Sum.inr d))
def Nkv (a:List Int) (b c:Int):Option (((List Int))):=
 nloop (fun(s:Int×(List Int))=>((N2r a b s.1 s.2).map (Sum.elim (fun(t:Int×(List Int))=>Sum.inl (t.1,t.2)) (fun(t:(List Int))=>Sum.inr t)):Option ((Int×(List Int))⊕(((List Int)))))) LL (c,([]:List Int))
def Nlg (a:List Int) (b c:Int):Option (((List Int))):=
 (Nkv a b c).map (fun(t:(List Int))=>t)
def Nmx (a:List Int) (b:Int):Option (((List Int))):=
 (Nbr b).bind (fun(t:Int)=>Nlg a b t)
def Nad (a:List Int):Option (((List Int))):=
 some a
def Nmp (a:List Int) (b:Int):Option (((List Int))):=
 (Nmx a b).bind (fun(t:(List Int))=>Nad t)
def Nh5 (a:List Int):Option (((List Int))):=
 (Naf a).bind (fun(t:Int)=>Nmp a t)
@[irreducible] def N1i (a:List Int):Option ((List Int)):=
 Nh5 a
def N9l:Option (Unit):=
 some ()
def Na1:Option (Unit):=
 some ()
def N39 (a:List Int) (b:Int):Option (Int⊕Int⊕Unit):=
 cond (decide (b<(((List.length a:Nat):Int)))) ((N8 a).bind fun(c:Bool)=>cond c ((idx a b).bind fun(d:Int)=>cond (d==0) (some (Sum.inr (Sum.inl (IntKind.wrap .i64 (b+1))))) (some (Sum.inl (IntKind.wrap .i64 (b+1))))) (some (Sum.inr (Sum.inr ())))) (some (Sum.inr (Sum.inr ())))
def Nm1 (a:List Int):Option (Int⊕Unit):=
 nloop (fun(s:Int)=>((N39 a s).map (Sum.elim (fun(t:Int)=>Sum.inl t) (Sum.elim (fun(t:Int)=>Sum.inr (Sum.inl t)) (fun(t:Unit)=>Sum.inr (Sum.inr t)))):Option ((Int)⊕(Int⊕Unit)))) LL 0
def Nkc (a:List Int):Option (Unit⊕Int):=
 (Nm1 a).map (Sum.elim (fun(t:Int)=>(Sum.inr t)) (fun(t:Unit)=>(Sum.inl ())))
def Nm9 (a:List Int):Option (Unit⊕Int):=
 (Na1).bind (fun(t:Unit)=>Nkc a)
def Nbx:Option (Int):=
 some (-1)
def Nlc (a:List Int):Option (Int):=
 (Nm9 a).bind (Sum.elim (fun(t:Unit)=>Nbx) (fun e=>some ((fun(t:Int)=>t) e)))
def Nnu (a:List Int):Option (Int):=
 (N9l).bind (fun(t:Unit)=>Nlc a)
@[irreducible] def N4q (a:List Int):Option (Int):=
 Nnu a
def Nb9 (R0:(List Int)→Int→Option ((List Int))):Option (Unit):=
 some ()
def N82 (R0:(List Int)→Int→Option ((List Int))):Option (Unit):=
 some ()
def N5t (R0:(List Int)→Int→Option ((List Int))) (a:List Int) (b c:Int) (d:List Int):Option ((Int×(List Int))⊕((List Int))):=
 cond (decide (c<b)) ((idx a (IntKind.wrap .i64 (c-1))).bind fun(g:Int)=>cond (g==b) ((R0 a c).bind fun(i:List Int)=>(room ((List.length d)+List.length i)).bind fun(j:Unit)=>some (Sum.inl ((IntKind.wrap .i64 (c+1)),(d++i)))) (some (Sum.inl ((IntKind.wrap .i64 (c+1)),d)))) (some (Sum.inr d))
def Nk0 (R0:(List Int)→Int→Option ((List Int))) (a:List Int) (b:Int):Option (((List Int))):=
 nloop (fun(s:Int×(List Int))=>((N5t R0 a b s.1 s.2).map (Sum.elim (fun(t:Int×(List Int))=>Sum.inl (t.1,t.2)) (fun(t:(List Int))=>Sum.inr t)):Option ((Int×(List Int))⊕(((List Int)))))) LL (1,([]:List Int))
def No9 (R0:(List Int)→Int→Option ((List Int))) (a:List Int) (b:Int):Option (((List Int))):=
 (Nk0 R0 a b).map (fun(t:(List Int))=>t)
def Njh (R0:(List Int)→Int→Option ((List Int))) (a:List Int) (b:Int):Option (((List Int))):=
 (N82 R0).bind (fun(t:Unit)=>No9 R0 a b)
def Nbv (R0:(List Int)→Int→Option ((List Int))) (a:Int) (b:List Int):Option (((List Int))):=
 (room ((List.length b)+List.length ([a]))).bind fun(c:Unit)=>some (b++([a]))
def Nci (R0:(List Int)→Int→Option ((List Int))) (a:Int):Option (Int):=
 some (IntKind.wrap .i64 (a+1))
def N56 (R0:(List Int)→Int→Option ((List Int))) (a:List Int) (b c:Int) (d:List Int):Option ((Int×(List Int))⊕((List Int))):=
 cond (decide (c≤(((List.length a:Nat):Int)))) ((idx a (IntKind.wrap .i64 (c-1))).bind fun(g:Int)=>cond (g==b) ((R0 a c).bind fun(i:List Int)=>(room ((List.length d)+List.length i)).bind fun(j:Unit)=>some (Sum.inl ((IntKind.wrap .i64 (c+1)),(d++i)))) (some (Sum.inl ((IntKind.wrap .i64 (c+1)),d)))) (some (Sum.inr d))
def Nme (R0:(List Int)→Int→Option ((List Int))) (a:List Int) (b c:Int) (d:List Int):Option (((List Int))):=
 nloop (fun(s:Int×(List Int))=>((N56 R0 a b s.1 s.2).map (Sum.elim (fun(t:Int×(List Int))=>Sum.inl (t.1,t.2)) (fun(t:(List Int))=>Sum.inr t)):Option ((Int×(List Int))⊕(((List Int)))))) LL (c,d)
def Nlz (R0:(List Int)→Int→Option ((List Int))) (a:List Int) (b c:Int) (d:List Int):Option (((List Int))):=
 (Nme R0 a b c d).map (fun(t:(List Int))=>t)
def Np0 (R0:(List Int)→Int→Option ((List Int))) (a:List Int) (b:Int) (c:List Int):Option (((List Int))):=
 (Nci R0 b).bind (fun(t:Int)=>Nlz R0 a b t c)
def N9s (R0:(List Int)→Int→Option ((List Int))) (a:List Int):Option (((List Int))):=
 some a
def Np4 (R0:(List Int)→Int→Option ((List Int))) (a:List Int) (b:Int) (c:List Int):Option (((List Int))):=
 (Np0 R0 a b c).bind (fun(t:(List Int))=>N9s R0 t)
def Nle (R0:(List Int)→Int→Option ((List Int))) (a:List Int) (b:Int) (c:List Int):Option (((List Int))):=
 (Nbv R0 b c).bind (fun(t:(List Int))=>Np4 R0 a b t)
def Njn (R0:(List Int)→Int→Option ((List Int))) (a:List Int) (b:Int):Option (((List Int))):=
 (Njh R0 a b).bind (fun(t:(List Int))=>Nle R0 a b t)
def Np2 (R0:(List Int)→Int→Option ((List Int))) (a:List Int) (b:Int):Option (((List Int))):=
 (Nb9 R0).bind (fun(t:Unit)=>Njn R0 a b)
def Nf5 (R0:(List Int)→Int→Option ((List Int))) (a:List Int) (b:Int):Option ((List Int)):=
 Np2 R0 a b
def N43:Nat→((List Int)→Int→Option ((List Int)))
 |0=>(fun _ _=>none)
 |n+1=>(fun y0 y1=>Nf5 (N43 n) y0 y1)
def Nc (n:Nat):(List Int)→Int→Option ((List Int)):=(N43 n)
@[irreducible] def N7b (a:List Int) (b:Int):Option ((List Int)):=Nc RR a b
def Na9 (a:List Int):Option (((List Int))):=
 (N8 a).bind fun(b:Bool)=>cond (!b) (some ([]:List Int)) ((N4q a).bind fun(c:Int)=>(N7b a c).bind fun(d:List Int)=>some d)
@[irreducible] def N4i (a:List Int):Option ((List Int)):=
 Na9 a
def N8p (a:List Int):Option (((List Int))):=
 (N4i a).bind fun(b:List Int)=>(N3i a b).bind fun(c:Bool×(List Int))=>some (c.2)
@[irreducible] def N2s (a:List Int):Option ((List Int)):=
 N8p a
def N6b (a:List Int) (b c d:Int):Option ((Nat×(List Int))):=
 (room ((List.length ([]:List Int))+List.length a)).bind fun(g:Unit)=>cond (b==0) ((Na c 1 (((List.length a:Nat):Int))).bind fun(i:Bool)=>cond i ((inb (IntKind.wrap .i64 (c-1)) (List.length (([]:List Int)++a))).bind fun(j:Nat)=>some ((List.length ((([]:List Int)++a).set j d)),((([]:List Int)++a).set j d))) (cond ((b==1)&&((c==c)&&((d==0)&&true))) ((room ((List.length (([]:List Int)++a))+List.length ([c]))).bind fun(k:Unit)=>some ((List.length ((([]:List Int)++a)++([c]))),((([]:List Int)++a)++([c])))) (cond ((b==2)&&((c==0)&&((d==0)&&true))) ((inc (IntKind.wrap .i64 ((((List.length (([]:List Int)++a):Nat):Int))-1)) (List.length (([]:List Int)++a))).bind fun(l:Nat)=>some ((l-0),(([]:List Int)++a))) (cond ((b==3)&&((c==0)&&((d==0)&&true))) ((N1i a).bind fun(m:List Int)=>some ((List.length m),m)) (cond ((b==4)&&((c==0)&&((d==0)&&true))) ((N2s a).bind fun(o:List Int)=>some ((List.length o),o)) (some ((List.length ([]:List Int)),([]:List Int)))))))) (cond ((b==1)&&((c==c)&&((d==0)&&true))) ((room ((List.length (([]:List Int)++a))+List.length ([c]))).bind fun(p:Unit)=>some ((List.length ((([]:List Int)++a)++([c]))),((([]:List Int)++a)++([c])))) (cond ((b==2)&&((c==0)&&((d==0)&&true))) ((inc (IntKind.wrap .i64 ((((List.length (([]:List Int)++a):Nat):Int))-1)) (List.length (([]:List Int)++a))).bind fun(q:Nat)=>some ((q-0),(([]:List Int)++a))) (cond ((b==3)&&((c==0)&&((d==0)&&true))) ((N1i a).bind fun(w:List Int)=>some ((List.length w),w)) (cond ((b==4)&&((c==0)&&((d==0)&&true))) ((N2s a).bind fun(y:List Int)=>some ((List.length y),y)) (some ((List.length ([]:List Int)),([]:List Int)))))))
@[irreducible] def N1u (a:List Int) (b c d:Int):Option (Nat×(List Int)):=
 N6b a b c d
def Nbf (a:List Int) (b:List (List Int)) (c d g:Int):Option ((Nat×Bool×(List Int)×(List Int)×(List (List Int)))⊕(Bool×(List Int)×(List (List Int)))):=
 (N14 a b).bind fun(i:Bool)=>cond (!i) (some (Sum.inr (false,([]:List Int),([]:List (List Int))))) ((N42 a b).bind fun(j:(List Int)×(List (List Int)))=>cond ((c==5)&&((d==0)&&((g==0)&&true))) (cond (decide ((((List.length b:Nat):Int))>0)) ((inb (IntKind.wrap .i64 ((((List.length (j.2):Nat):Int))-1)) (List.length (j.2))).bind fun(k:Nat)=>(((j.2))[k]?).bind fun(l:List Int)=>(inc (IntKind.wrap .i64 ((((List.length (j.2):Nat):Int))-1)) (List.length (((j.2)).set k []))).bind fun(m:Nat)=>(sure (Nat.blt k 0||Nat.ble m k)).bind fun(o:Unit)=>some (Sum.inr (true,l,(((((j.2)).set k []).take m).drop 0)))) ((N1u a c d g).bind fun(p:Nat×(List Int))=>some (Sum.inl ((p.1),(((((p.1):Nat):Int))==(((List.length a:Nat):Int))),(p.2),(j.1),(j.2))))) ((N1u a c d g).bind fun(q:Nat×(List Int))=>some (Sum.inl ((q.1),(((((q.1):Nat):Int))==(((List.length a:Nat):Int))),(q.2),(j.1),(j.2)))))
def N8g:Option (Unit):=
 some ()
def N31 (a:Nat) (b:Bool) (c:Int) (d g:List Int):Option ((Bool×Int)⊕Bool):=
 cond (decide (c<(((a:Nat):Int)))) (cond b ((inb c a).bind fun(i:Nat)=>(g[(0+i)]?).bind fun(j:Int)=>(idx d c).bind fun(k:Int)=>some (Sum.inl ((j==k),(IntKind.wrap .i64 (c+1))))) (some (Sum.inr b))) (some (Sum.inr b))
def Nfu (a:Nat) (b:Bool) (c d:List Int):Option (Bool):=
 nloop (fun(s:Bool×Int)=>((N31 a s.1 s.2 c d).map (Sum.elim (fun(t:Bool×Int)=>Sum.inl (t.1,t.2)) (fun(t:Bool)=>Sum.inr t)):Option ((Bool×Int)⊕(Bool)))) LL (b,0)
def Noy (a:Nat) (b:Bool) (c d:List Int):Option (Bool):=
 (Nfu a b c d).map (fun(t:Bool)=>t)
def Noq (a:Nat) (b:Bool) (c d:List Int):Option (Bool):=
 (N8g).bind (fun(t:Unit)=>Noy a b c d)
def N9j (a:Nat) (b:Bool) (c d:List Int) (g:List (List Int)):Option ((Bool×(List Int)×(List (List Int)))):=
 cond b (some (false,d,g)) ((N8 ((c.drop 0).take a)).bind fun(i:Bool)=>cond (!i) (some (false,d,g)) ((room (List.length g+1)).bind fun(j:Unit)=>cond (decide ((((List.length ((g++ [[]]).set (List.length g) d):Nat):Int))>8)) ((inc 1 (List.length ((g++ [[]]).set (List.length g) d))).bind fun(k:Nat)=>(room ((List.length ([]:List Int))+List.length ((c.drop 0).take a))).bind fun(l:Unit)=>some (true,(([]:List Int)++((c.drop 0).take a)),((((g++ [[]]).set (List.length g) d).take (List.length ((g++ [[]]).set (List.length g) d))).drop k))) ((room ((List.length ([]:List Int))+List.length ((c.drop 0).take a))).bind fun(m:Unit)=>some (true,(([]:List Int)++((c.drop 0).take a)),((g++ [[]]).set (List.length g) d)))))
def Ne3 (a:Nat) (b:Bool) (c d g:List Int) (i:List (List Int)):Option ((Bool×(List Int)×(List (List Int)))):=
 (Noq a b c d).bind (fun(t:Bool)=>N9j a t d g i)
def Ndw (a:List Int) (b:List (List Int)) (c d g:Int):Option ((Bool×(List Int)×(List (List Int)))):=
 (Nbf a b c d g).bind (Sum.elim (fun(t:Nat×Bool×(List Int)×(List Int)×(List (List Int)))=>Ne3 t.1 t.2.1 a t.2.2.1 t.2.2.2.1 t.2.2.2.2) (fun e=>some ((fun(t:Bool×(List Int)×(List (List Int)))=>t) e)))
@[irreducible] def N3o (a:List Int) (b:List (List Int)) (c d g:Int):Option (Bool×(List Int)×(List (List Int))):=
 Ndw a b c d g
def Na3 (a:List Int) (b:Int):Option ((Int×(List Int))):=
 (N2e 0 a b).bind fun(c:Int×(List Int))=>(N38 (c.2)).bind fun(d:Bool×(List Int))=>some ((c.1),(d.2))
def Nap (a:List Int) (b:Int):Option ((Int×Int)):=
 (N0 6 a b).bind fun(c:Int×Int)=>some ((c.1),(c.2))
def N6d (a:Int) (b:List Int) (c:Int) (d:List Int) (g:List (List Int)):Option ((Int×Int×(List Int)×(List (List Int)))⊕(Int×(List Int)×(List (List Int)))):=
 cond (decide (a>0)) ((N1h d b c).bind fun(i:Int×Int×Int×Int)=>(N3o d g (i.2.1) (i.2.2.1) (i.2.2.2)).bind fun(j:Bool×(List Int)×(List (List Int)))=>cond (j.1) (some (Sum.inl ((IntKind.wrap .i64 (a-1)),(i.1),(j.2.1),(j.2.2)))) (some (Sum.inl ((IntKind.wrap .i64 (a-1)),(i.1),d,g)))) (some (Sum.inr (c,d,g)))
def Nmk (a:Int) (b:List Int) (c:Int) (d:List Int):Option ((Int×(List Int)×(List (List Int)))):=
 nloop (fun(s:Int×Int×(List Int)×(List (List Int)))=>((N6d s.1 b s.2.1 s.2.2.1 s.2.2.2).map (Sum.elim (fun(t:Int×Int×(List Int)×(List (List Int)))=>Sum.inl (t.1,t.2.1,t.2.2.1,t.2.2.2)) (fun(t:Int×(List Int)×(List (List Int)))=>Sum.inr t)):Option ((Int×Int×(List Int)×(List (List Int)))⊕((Int×(List Int)×(List (List Int))))))) LL (a,c,d,([]:List (List Int)))
def Np3 (a:Int) (b:List Int) (c:Int) (d:List Int):Option ((Int×(List Int)×(List (List Int)))):=
 (Nmk a b c d).map (fun(t:Int×(List Int)×(List (List Int)))=>(t.1,t.2.1,t.2.2))
def Nkg (a:List Int) (b:Int) (c:List Int):Option ((Int×(List Int)×(List (List Int)))):=
 (Nap a b).bind (fun(t:Int×Int)=>Np3 t.1 a t.2 c)
def N7z (a:Int) (b:List Int) (c:Int) (d:List Int) (g:List (List Int)):Option ((Int×(List Int)×(List (List Int)))):=
 (Np a b c).bind fun(i:Bool×Int)=>cond (i.1) ((N0 3 b (i.2)).bind fun(j:Int×Int)=>cond ((j.1)==0) (some ((j.2),([1]),g)) (cond ((j.1)==1) ((room (List.length g+1)).bind fun(k:Unit)=>some ((j.2),d,((g++ [[]]).set (List.length g) ([]:List Int)))) (some ((j.2),([]:List Int),([]:List (List Int)))))) (some ((i.2),d,g))
def Nlx (a:Int) (b:List Int) (c:Int) (d:List Int):Option ((Int×(List Int)×(List (List Int)))):=
 (Nkg b c d).bind (fun(t:Int×(List Int)×(List (List Int)))=>N7z a b t.1 t.2.1 t.2.2)
def Nih (a:Int) (b:List Int) (c:Int):Option ((Int×(List Int)×(List (List Int)))):=
 (Na3 b c).bind (fun(t:Int×(List Int))=>Nlx a b t.1 t.2)
@[irreducible] def N45 (a:Int) (b:List Int) (c:Int):Option (Int×(List Int)×(List (List Int))):=
 Nih a b c
def Na8 (a:List Int):Option (((List Int)×(List (Int×Int×Int×Unit))×(List (List Int)))):=
 (N3j a).bind fun(b:List Int)=>(N45 12 b 0).bind fun(c:Int×(List Int)×(List (List Int)))=>(Np 30 b (c.1)).bind fun(d:Bool×Int)=>cond (d.1) ((mk 41 41).bind fun(g:Nat)=>some ((c.2.1),(List.replicate g ((0:Int),((0:Int),((0:Int),())))),(c.2.2))) ((N2l (c.2.1) b (d.2)).bind fun(i:Int×(List (Int×Int×Int×Unit)))=>some ((c.2.1),(i.2),(c.2.2)))
@[irreducible] def N4e (a:List Int):Option ((List Int)×(List (Int×Int×Int×Unit))×(List (List Int))):=
 Na8 a
def Nbi:Option (Unit):=
 some ()
def N85 (a:List Int):Option (Int):=
 some (((List.length a:Nat):Int))
def N5b (a:List Int) (b c d:Int):Option ((Int×Int)⊕Bool⊕Int):=
 cond (decide (d<c)) ((idx a d).bind fun(g:Int)=>cond (decide (g<0)) (some (Sum.inr (Sum.inl false))) (cond (decide (g>(((List.length a:Nat):Int)))) (some (Sum.inr (Sum.inl false))) (cond (g==0) (some (Sum.inl ((IntKind.wrap .i64 (b+1)),(IntKind.wrap .i64 (d+1))))) (some (Sum.inl (b,(IntKind.wrap .i64 (d+1)))))))) (some (Sum.inr (Sum.inr b)))
def Nje (a:List Int) (b:Int):Option (Bool⊕Int):=
 nloop (fun(s:Int×Int)=>((N5b a s.1 b s.2).map (Sum.elim (fun(t:Int×Int)=>Sum.inl (t.1,t.2)) (Sum.elim (fun(t:Bool)=>Sum.inr (Sum.inl t)) (fun(t:Int)=>Sum.inr (Sum.inr t)))):Option ((Int×Int)⊕(Bool⊕Int)))) LL (0,0)
def No8 (a:List Int) (b:Int):Option (Int⊕Bool):=
 (Nje a b).map (Sum.elim (fun(t:Bool)=>(Sum.inr t)) (fun(t:Int)=>(Sum.inl t)))
def Nkm (a:List Int):Option (Int⊕Bool):=
 (N85 a).bind (fun(t:Int)=>No8 a t)
def Na7 (a:Int):Option (Bool):=
 some (a==1)
def Njq (a:List Int):Option (Bool):=
 (Nkm a).bind (Sum.elim (fun(t:Int)=>Na7 t) (fun e=>some ((fun(t:Bool)=>t) e)))
def Nl2 (a:List Int):Option (Bool):=
 (Nbi).bind (fun(t:Unit)=>Njq a)
@[irreducible] def N4l (a:List Int):Option (Bool):=
 Nl2 a
def Na5 (a:List Int) (b c:Int):Option ((Bool×Int×Int)):=
 (idx a (IntKind.wrap .i64 (b-1))).bind fun(d:Int)=>cond (d==0) (some (false,b,c)) (some (true,d,(IntKind.wrap .i64 (c+1))))
@[irreducible] def N2z (a:List Int) (b c:Int):Option (Bool×Int×Int):=
 Na5 a b c
def N7x:Option (Unit):=
 some ()
def N6g (a:List Int) (b c:Int):Option ((Int×Int)⊕(Int×Bool)⊕(Int×Int)):=
 (N2z a b c).bind fun(d:Bool×Int×Int)=>cond (d.1) (cond (decide ((d.2.2)≥(((List.length a:Nat):Int)))) (some (Sum.inr (Sum.inl (0,false)))) (some (Sum.inl ((d.2.1),(d.2.2))))) (some (Sum.inr (Sum.inr ((d.2.1),(d.2.2)))))
def Nmh (a:List Int) (b:Int):Option ((Int×Bool)⊕(Int×Int)):=
 nloop (fun(s:Int×Int)=>((N6g a s.1 s.2).map (Sum.elim (fun(t:Int×Int)=>Sum.inl (t.1,t.2)) (Sum.elim (fun(t:Int×Bool)=>Sum.inr (Sum.inl t)) (fun(t:Int×Int)=>Sum.inr (Sum.inr t)))):Option ((Int×Int)⊕((Int×Bool)⊕(Int×Int))))) LL (b,0)
def Nmg (a:List Int) (b:Int):Option ((Int×Int)⊕(Int×Bool)):=
 (Nmh a b).map (Sum.elim (fun(t:Int×Bool)=>(Sum.inr t)) (fun(t:Int×Int)=>(Sum.inl (t.1,t.2))))
def Nb4 (a:Int):Option ((Int×Bool)):=
 some (a,true)
def Nj8 (a:List Int) (b:Int):Option ((Int×Bool)):=
 (Nmg a b).bind (Sum.elim (fun(t:Int×Int)=>Nb4 t.2) (fun e=>some ((fun(t:Int×Bool)=>t) e)))
def Nm4 (a:List Int) (b:Int):Option ((Int×Bool)):=
 (N7x).bind (fun(t:Unit)=>Nj8 a b)
@[irreducible] def N4k (a:List Int) (b:Int):Option (Int×Bool):=
 Nm4 a b
def Nak (a:List Int):Option (Unit⊕Bool):=
 cond (decide ((((List.length a:Nat):Int))<1)) (some (Sum.inr false)) (cond (decide ((((List.length a:Nat):Int))>8)) (some (Sum.inr false)) ((N4l a).bind fun(b:Bool)=>cond (!b) (some (Sum.inr false)) (some (Sum.inl ()))))
def Nbc (a:List Int):Option (Int):=
 some (((List.length a:Nat):Int))
def N5x (a:List Int) (b c:Int):Option (Int⊕Bool⊕Unit):=
 cond (decide (c<b)) ((N4k a (IntKind.wrap .i64 (c+1))).bind fun(d:Int×Bool)=>cond (!(d.2)) (some (Sum.inr (Sum.inl false))) (some (Sum.inl (IntKind.wrap .i64 (c+1))))) (some (Sum.inr (Sum.inr ())))
def Noi (a:List Int) (b:Int):Option (Bool⊕Unit):=
 nloop (fun(s:Int)=>((N5x a b s).map (Sum.elim (fun(t:Int)=>Sum.inl t) (Sum.elim (fun(t:Bool)=>Sum.inr (Sum.inl t)) (fun(t:Unit)=>Sum.inr (Sum.inr t)))):Option ((Int)⊕(Bool⊕Unit)))) LL 0
def Nkd (a:List Int) (b:Int):Option (Unit⊕Bool):=
 (Noi a b).map (Sum.elim (fun(t:Bool)=>(Sum.inr t)) (fun(t:Unit)=>(Sum.inl ())))
def Nj1 (a:List Int):Option (Unit⊕Bool):=
 (Nbc a).bind (fun(t:Int)=>Nkd a t)
def Ng7:Option (Bool):=
 some true
def Nmr (a:List Int):Option (Bool):=
 (Nj1 a).bind (Sum.elim (fun(t:Unit)=>Ng7) (fun e=>some ((fun(t:Bool)=>t) e)))
def Nml (a:List Int):Option (Bool):=
 (Nak a).bind (Sum.elim (fun(t:Unit)=>Nmr a) (fun e=>some ((fun(t:Bool)=>t) e)))
@[irreducible] def Nb (a:List Int):Option (Bool):=
 Nml a
def N84 (a:List Int) (b:List (List Int)):Option (Unit⊕Bool):=
 (Nb a).bind fun(c:Bool)=>cond (!c) (some (Sum.inr false)) (cond (decide ((((List.length b:Nat):Int))>8)) (some (Sum.inr false)) (some (Sum.inl ())))
def Ncd (a:List (List Int)):Option (Int):=
 some (((List.length a:Nat):Int))
def N3y (a:List (List Int)) (b c:Int):Option (Int⊕Bool⊕Unit):=
 cond (decide (c<b)) ((idx a c).bind fun(d:List Int)=>(Nb d).bind fun(g:Bool)=>cond (!g) (some (Sum.inr (Sum.inl false))) (some (Sum.inl (IntKind.wrap .i64 (c+1))))) (some (Sum.inr (Sum.inr ())))
def Nk3 (a:List (List Int)) (b:Int):Option (Bool⊕Unit):=
 nloop (fun(s:Int)=>((N3y a b s).map (Sum.elim (fun(t:Int)=>Sum.inl t) (Sum.elim (fun(t:Bool)=>Sum.inr (Sum.inl t)) (fun(t:Unit)=>Sum.inr (Sum.inr t)))):Option ((Int)⊕(Bool⊕Unit)))) LL 0
def Nod (a:List (List Int)) (b:Int):Option (Unit⊕Bool):=
 (Nk3 a b).map (Sum.elim (fun(t:Bool)=>(Sum.inr t)) (fun(t:Unit)=>(Sum.inl ())))
def Nnt (a:List (List Int)):Option (Unit⊕Bool):=
 (Ncd a).bind (fun(t:Int)=>Nod a t)
def Nf0:Option (Bool):=
 some true
def Nkz (a:List (List Int)):Option (Bool):=
 (Nnt a).bind (Sum.elim (fun(t:Unit)=>Nf0) (fun e=>some ((fun(t:Bool)=>t) e)))
def Ndj (a:List Int) (b:List (List Int)):Option (Bool):=
 (N84 a b).bind (Sum.elim (fun(t:Unit)=>Nkz b) (fun e=>some ((fun(t:Bool)=>t) e)))
@[irreducible] def N28 (a:List Int) (b:List (List Int)):Option (Bool):=
 Ndj a b
def N36 (x1:List Int):Option (List Int):=cloneD x1
def N9w (a:List Int):Option (((List Int))):=
 (N36 a).bind fun(b:List Int)=>some b
def Nc1 (a:List (List Int)):Option (Int):=
 some (((List.length a:Nat):Int))
def N5u (a:List (List Int)) (b c:Int) (d:List (List Int)):Option ((Int×(List (List Int)))⊕((List (List Int)))):=
 cond (decide (c<b)) ((idx a c).bind fun(g:List Int)=>(N36 g).bind fun(i:List Int)=>(room (List.length d+1)).bind fun(j:Unit)=>some (Sum.inl ((IntKind.wrap .i64 (c+1)),((d++ [[]]).set (List.length d) i)))) (some (Sum.inr d))
def Njz (a:List (List Int)) (b:Int):Option (((List (List Int)))):=
 nloop (fun(s:Int×(List (List Int)))=>((N5u a b s.1 s.2).map (Sum.elim (fun(t:Int×(List (List Int)))=>Sum.inl (t.1,t.2)) (fun(t:(List (List Int)))=>Sum.inr t)):Option ((Int×(List (List Int)))⊕(((List (List Int))))))) LL (0,([]:List (List Int)))
def Njb (a:List (List Int)) (b:Int):Option (((List (List Int)))):=
 (Njz a b).map (fun(t:(List (List Int)))=>t)
def Nnx (a:List (List Int)):Option (((List (List Int)))):=
 (Nc1 a).bind (fun(t:Int)=>Njb a t)
def N93 (a:List Int) (b:List (List Int)):Option (((List Int)×(List (List Int)))):=
 some (a,b)
def Nly (a:List (List Int)) (b:List Int):Option (((List Int)×(List (List Int)))):=
 (Nnx a).bind (fun(t:(List (List Int)))=>N93 b t)
def Nim (a:List Int) (b:List (List Int)):Option (((List Int)×(List (List Int)))):=
 (N9w a).bind (fun(t:(List Int))=>Nly b t)
@[irreducible] def Nf (a:List Int) (b:List (List Int)):Option ((List Int)×(List (List Int))):=
 Nim a b
def N7l (a:List Int) (b:List (List Int)):Option ((Bool×(List Int)×(List (List Int)))):=
 cond (decide ((IntKind.wrap .i64 ((((List.length b:Nat):Int))-1))<0)) ((Nf a ([]:List (List Int))).bind fun(c:(List Int)×(List (List Int)))=>some (false,(c.1),(c.2))) ((idx b (IntKind.wrap .i64 ((((List.length b:Nat):Int))-1))).bind fun(d:List Int)=>(inc (IntKind.wrap .i64 ((((List.length b:Nat):Int))-1)) (List.length b)).bind fun(g:Nat)=>(Nf d ((b.take g).drop 0)).bind fun(i:(List Int)×(List (List Int)))=>some (true,(i.1),(i.2)))
@[irreducible] def N3a (a:List Int) (b:List (List Int)):Option (Bool×(List Int)×(List (List Int))):=
 N7l a b
def N6w (a:List Int) (b:Int):Option (Bool):=
 (Nb a).bind fun(c:Bool)=>cond c (cond (decide (b≥1)) (some (decide (b≤(((List.length a:Nat):Int))))) (some false)) (some false)
@[irreducible] def N44 (a:List Int) (b:Int):Option (Bool):=
 N6w a b
def N96 (a:Int):Option (((List Int))):=
 (mk a a).bind fun(b:Nat)=>some (List.replicate b (0:Int))
def N95 (a:List Int):Option (Int):=
 some (((List.length a:Nat):Int))
def N5c (a b c:Int) (d:List Int):Option ((Int×(List Int))⊕((List Int))):=
 cond (decide (c<b)) ((inb c (List.length d)).bind fun(g:Nat)=>some (Sum.inl ((IntKind.wrap .i64 (c+1)),(d.set g (IntKind.wrap .i64 (a-c)))))) (some (Sum.inr d))
def Nn7 (a b:Int) (c:List Int):Option (((List Int))):=
 nloop (fun(s:Int×(List Int))=>((N5c a b s.1 s.2).map (Sum.elim (fun(t:Int×(List Int))=>Sum.inl (t.1,t.2)) (fun(t:(List Int))=>Sum.inr t)):Option ((Int×(List Int))⊕(((List Int)))))) LL (0,c)
def Nmb (a b:Int) (c:List Int):Option (((List Int))):=
 (Nn7 a b c).map (fun(t:(List Int))=>t)
def Nn6 (a:Int) (b:List Int):Option (((List Int))):=
 (N95 b).bind (fun(t:Int)=>Nmb a t b)
def Naq (a:List Int):Option (((List Int))):=
 some a
def Nnp (a:Int) (b:List Int):Option (((List Int))):=
 (Nn6 a b).bind (fun(t:(List Int))=>Naq t)
def Neg (a:Int):Option (((List Int))):=
 (N96 a).bind (fun(t:(List Int))=>Nnp a t)
@[irreducible] def N3h (a:Int):Option ((List Int)):=
 Neg a
def N8x (a:List Int) (b:Int):Option (Unit⊕Bool):=
 cond (decide (b<1)) (some (Sum.inr false)) (cond (decide (b>8)) (some (Sum.inr false)) (cond ((((List.length a:Nat):Int)) !=b) (some (Sum.inr false)) (some (Sum.inl ()))))
def N9a (a:List Int):Option (Int):=
 some (((List.length a:Nat):Int))
def N77 (a:Int) (b:List Int) (c d:Int) (g:List Bool):Option ((Int×(List Bool))⊕Bool⊕Unit):=
 cond (decide (d<c)) ((idx b d).bind fun(i:Int)=>cond (decide (i<1)) (some (Sum.inr (Sum.inl false))) (cond (decide (i>a)) (some (Sum.inr (Sum.inl false))) ((same (List.length g) 9).bind fun(j:Unit)=>(inb i 9).bind fun(k:Nat)=>(g[k]?).bind fun(l:Bool)=>cond l (some (Sum.inr (Sum.inl false))) ((same (List.length g) 9).bind fun(m:Unit)=>(inb i 9).bind fun(o:Nat)=>some (Sum.inl ((IntKind.wrap .i64 (d+1)),(g.set o true))))))) (some (Sum.inr (Sum.inr ())))
def Nj2 (a:Int) (b:List Int) (c:Int):Option (Bool⊕Unit):=
 nloop (fun(s:Int×(List Bool))=>((N77 a b c s.1 s.2).map (Sum.elim (fun(t:Int×(List Bool))=>Sum.inl (t.1,t.2)) (Sum.elim (fun(t:Bool)=>Sum.inr (Sum.inl t)) (fun(t:Unit)=>Sum.inr (Sum.inr t)))):Option ((Int×(List Bool))⊕(Bool⊕Unit)))) LL (0,(List.replicate 9 false))
def Npb (a:Int) (b:List Int) (c:Int):Option (Unit⊕Bool):=
 (Nj2 a b c).map (Sum.elim (fun(t:Bool)=>(Sum.inr t)) (fun(t:Unit)=>(Sum.inl ())))
def Nn2 (a:List Int) (b:Int):Option (Unit⊕Bool):=
 (N9a a).bind (fun(t:Int)=>Npb b a t)
def Nca:Option (Bool):=
 some true
def Nox (a:List Int) (b:Int):Option (Bool):=
 (Nn2 a b).bind (Sum.elim (fun(t:Unit)=>Nca) (fun e=>some ((fun(t:Bool)=>t) e)))
def Nl9 (a:List Int) (b:Int):Option (Bool):=
 (N8x a b).bind (Sum.elim (fun(t:Unit)=>Nox a b) (fun e=>some ((fun(t:Bool)=>t) e)))
@[irreducible] def N54 (a:List Int) (b:Int):Option (Bool):=
 Nl9 a b
def Nby (a:List Int):Option (((List Int))):=
 (mk (IntKind.wrap .i64 ((((List.length a:Nat):Int))+1)) (IntKind.wrap .i64 ((((List.length a:Nat):Int))+1))).bind fun(b:Nat)=>some (List.replicate b (0:Int))
def Nb5 (a:List Int):Option (Int):=
 some (((List.length a:Nat):Int))
def N4o (a:List Int) (b c:Int) (d:List Int):Option ((Int×(List Int))⊕((List Int))):=
 cond (decide (c<b)) ((idx a c).bind fun(g:Int)=>(inb g (List.length d)).bind fun(i:Nat)=>some (Sum.inl ((IntKind.wrap .i64 (c+1)),(d.set i (IntKind.wrap .i64 (c+1)))))) (some (Sum.inr d))
def Nny (a:List Int) (b:Int) (c:List Int):Option (((List Int))):=
 nloop (fun(s:Int×(List Int))=>((N4o a b s.1 s.2).map (Sum.elim (fun(t:Int×(List Int))=>Sum.inl (t.1,t.2)) (fun(t:(List Int))=>Sum.inr t)):Option ((Int×(List Int))⊕(((List Int)))))) LL (0,c)
def Noj (a:List Int) (b:Int) (c:List Int):Option (((List Int))):=
 (Nny a b c).map (fun(t:(List Int))=>t)
def Nno (a b:List Int):Option (((List Int))):=
 (Nb5 a).bind (fun(t:Int)=>Noj a t b)
def N9n (a:List Int):Option (((List Int))):=
 some a
def Nng (a b:List Int):Option (((List Int))):=
 (Nno a b).bind (fun(t:(List Int))=>N9n t)
def Nk2 (a:List Int):Option (((List Int))):=
 (Nby a).bind (fun(t:(List Int))=>Nng a t)
@[irreducible] def N47 (a:List Int):Option ((List Int)):=
 Nk2 a
def N94 (a:Int) (b:List Int):Option (Int):=
 (inb a (List.length b)).bind fun(c:Nat)=>(b[c]?).bind fun(d:Int)=>some d
@[irreducible] def N4z (a:Int) (b:List Int):Option (Int):=
 N94 a b
def Ncl (a:List Int):Option (((List Int))):=
 (mk (((List.length a:Nat):Int)) (((List.length a:Nat):Int))).bind fun(b:Nat)=>some (List.replicate b (0:Int))
def Nb7 (a:List Int):Option (Int):=
 some (((List.length a:Nat):Int))
def N6c (a b:List Int) (c d:Int) (g i:List Int):Option ((Int×(List Int))⊕((List Int))):=
 cond (decide (d<c)) ((idx b d).bind fun(j:Int)=>(idx a (IntKind.wrap .i64 (j-1))).bind fun(k:Int)=>(N4z k g).bind fun(l:Int)=>(inb d (List.length i)).bind fun(m:Nat)=>some (Sum.inl ((IntKind.wrap .i64 (d+1)),(i.set m l)))) (some (Sum.inr i))
def Npf (a b:List Int) (c:Int) (d g:List Int):Option (((List Int))):=
 nloop (fun(s:Int×(List Int))=>((N6c a b c s.1 d s.2).map (Sum.elim (fun(t:Int×(List Int))=>Sum.inl (t.1,t.2)) (fun(t:(List Int))=>Sum.inr t)):Option ((Int×(List Int))⊕(((List Int)))))) LL (0,g)
def Nl8 (a b:List Int) (c:Int) (d g:List Int):Option (((List Int))):=
 (Npf a b c d g).map (fun(t:(List Int))=>t)
def Np9 (a b c d:List Int):Option (((List Int))):=
 (Nb7 b).bind (fun(t:Int)=>Nl8 a b t c d)
def Ncf (a:List Int):Option (((List Int))):=
 some a
def Np8 (a b c d:List Int):Option (((List Int))):=
 (Np9 a b c d).bind (fun(t:(List Int))=>Ncf t)
def Npc (a b c:List Int):Option (((List Int))):=
 (Ncl b).bind (fun(t:(List Int))=>Np8 a b c t)
@[irreducible] def N6l (a b c:List Int):Option ((List Int)):=
 Npc a b c
def Nco (a b:List Int):Option ((Bool×(List Int))):=
 (Nb a).bind fun(c:Bool)=>cond (!c) (some (false,([]:List Int))) ((N54 b (((List.length a:Nat):Int))).bind fun(d:Bool)=>cond (!d) (some (false,([]:List Int))) ((N47 b).bind fun(g:List Int)=>(N6l a b g).bind fun(i:List Int)=>some (true,i)))
@[irreducible] def N33 (a b:List Int):Option (Bool×(List Int)):=
 Nco a b
def N7i (a:List Int):Option (((List Int))):=
 (Nb a).bind fun(b:Bool)=>cond (!b) (some ([]:List Int)) ((N3h (((List.length a:Nat):Int))).bind fun(c:List Int)=>(N33 a c).bind fun(d:Bool×(List Int))=>some (d.2))
@[irreducible] def N2w (a:List Int):Option ((List Int)):=
 N7i a
def N7s (a:List Int):Option (Unit⊕Int):=
 (Nb a).bind fun(b:Bool)=>cond (!b) (some (Sum.inr (-1))) (some (Sum.inl ()))
def N6e (a:List Int) (b c:Int):Option ((Int×Int)⊕(Int×Int)):=
 (N2z a b c).bind fun(d:Bool×Int×Int)=>cond (d.1) (some (Sum.inl ((d.2.1),(d.2.2)))) (some (Sum.inr ((d.2.1),(d.2.2))))
def Nk1 (a:List Int):Option ((Int×Int)):=
 nloop (fun(s:Int×Int)=>((N6e a s.1 s.2).map (Sum.elim (fun(t:Int×Int)=>Sum.inl (t.1,t.2)) (fun(t:Int×Int)=>Sum.inr t)):Option ((Int×Int)⊕((Int×Int))))) LL (1,0)
def Nlv (a:List Int):Option ((Int×Int)):=
 (Nk1 a).map (fun(t:Int×Int)=>(t.1,t.2))
def Nbz (a:Int):Option (Int):=
 some a
def Nl3 (a:List Int):Option (Int):=
 (Nlv a).bind (fun(t:Int×Int)=>Nbz t.1)
def Nn4 (a:List Int):Option (Int):=
 (N7s a).bind (Sum.elim (fun(t:Unit)=>Nl3 a) (fun e=>some ((fun(t:Int)=>t) e)))
@[irreducible] def N59 (a:List Int):Option (Int):=
 Nn4 a
def Ndf (a:Int):Option (Int):=
 (shl .u64 1 (IntKind.wrap .i64 (a-1))).bind fun(b:Int)=>some b
@[irreducible] def N3v (a:Int):Option (Int):=
 Ndf a
def N9x:Option (Unit):=
 some ()
def N8h (a:List Int):Option (Int):=
 some (((List.length a:Nat):Int))
def N53 (a:List Int) (b c d g:Int):Option ((Int×Int)⊕Int):=
 cond (decide (g<d)) ((idx a g).bind fun(i:Int)=>cond (i==b) ((N3v (IntKind.wrap .i64 (g+1))).bind fun(j:Int)=>some (Sum.inl ((ior .u64 c j),(IntKind.wrap .i64 (g+1))))) (some (Sum.inl (c,(IntKind.wrap .i64 (g+1)))))) (some (Sum.inr c))
def Nmy (a:List Int) (b c:Int):Option (Int):=
 nloop (fun(s:Int×Int)=>((N53 a b s.1 c s.2).map (Sum.elim (fun(t:Int×Int)=>Sum.inl (t.1,t.2)) (fun(t:Int)=>Sum.inr t)):Option ((Int×Int)⊕(Int)))) LL (0,0)
def Nm7 (a:List Int) (b c:Int):Option (Int):=
 (Nmy a b c).map (fun(t:Int)=>t)
def Noz (a:List Int) (b:Int):Option (Int):=
 (N8h a).bind (fun(t:Int)=>Nm7 a b t)
def Nda (a:Int):Option (Int):=
 some a
def Nl0 (a:List Int) (b:Int):Option (Int):=
 (Noz a b).bind (fun(t:Int)=>Nda t)
def Nfd (a:List Int) (b:Int):Option (Int):=
 (N9x).bind (fun(t:Unit)=>Nl0 a b)
@[irreducible] def N30 (a:List Int) (b:Int):Option (Int):=
 Nfd a b
def Nfc (a:Int):Option (Int):=
 (N3v a).bind fun(b:Int)=>some (IntKind.wrap .u64 (b-1))
@[irreducible] def N3f (a:Int):Option (Int):=
 Nfc a
def N7a (a:List Int) (b:Int):Option ((Int×Int)):=
 (N30 a b).bind fun(c:Int)=>(N3f b).bind fun(d:Int)=>(N3f b).bind fun(g:Int)=>some ((iand .u64 c d),(iandn .u64 c g))
@[irreducible] def N3t (a:List Int) (b:Int):Option (Int×Int):=
 N7a a b
def Ng8 (a:Int):Option (Int):=
 (shr .u64 a 1).bind fun(b:Int)=>some (IntKind.wrap .u64 ((iand .u64 b 6148914691236517205)+(iand .u64 a 6148914691236517205)))
def Nfr (a:Int):Option (Int):=
 (shr .u64 a 2).bind fun(b:Int)=>some (IntKind.wrap .u64 ((iand .u64 b 3689348814741910323)+(iand .u64 a 3689348814741910323)))
def Nhk (a:Int):Option (Int):=
 (shr .u64 a 4).bind fun(b:Int)=>some (iand .u64 (IntKind.wrap .u64 (b+a)) 1085102592571150095)
def Nii (a:Int):Option (Int):=
 (shr .u64 a 8).bind fun(b:Int)=>some (IntKind.wrap .u64 (a+b))
def Nfa (a:Int):Option (Int):=
 (shr .u64 a 16).bind fun(b:Int)=>some (IntKind.wrap .u64 (a+b))
def Nfl (a:Int):Option (Int):=
 (shr .u64 a 32).bind fun(b:Int)=>some (IntKind.wrap .u64 (a+b))
def Nh8 (a:Int):Option (Int):=
 some (iand .i64 (IntKind.wrap .i64 a) 127)
def Nex (a:Int):Option (Int):=
 some a
def N155 (a:Int):Option (Int):=
 (Nh8 a).bind (fun(t:Int)=>Nex t)
def N15b (a:Int):Option (Int):=
 (Nfl a).bind (fun(t:Int)=>N155 t)
def Nto (a:Int):Option (Int):=
 (Nfa a).bind (fun(t:Int)=>N15b t)
def N10u (a:Int):Option (Int):=
 (Nii a).bind (fun(t:Int)=>Nto t)
def N16f (a:Int):Option (Int):=
 (Nhk a).bind (fun(t:Int)=>N10u t)
def N11q (a:Int):Option (Int):=
 (Nfr a).bind (fun(t:Int)=>N16f t)
def Nqb (a:Int):Option (Int):=
 (Ng8 a).bind (fun(t:Int)=>N11q t)
@[irreducible] def N8b (a:Int):Option (Int):=
 Nqb a
def Nip (a:Int):Option (Int):=
 (N8b a).bind fun(b:Int)=>some b
@[irreducible] def Nc6 (a:Int):Option (Int):=
 Nip a
def Ne8 (a:Int):Option (Int):=
 (Nc6 a).bind fun(b:Int)=>some b
@[irreducible] def Nbk (a:Int):Option (Int):=
 Ne8 a
def Nfs (a:Int):Option (Int):=
 cond (a==0) (some 64) ((shr .u64 (IntKind.wrap .u64 ((iand .u64 a (IntKind.wrap .u64 (0-a)))*285870213051353865)) 58).bind fun(b:Int)=>(same (List.length tab1) 64).bind fun(c:Unit)=>(idx tab1 b).bind fun(d:Int)=>some (IntKind.wrap .i64 d))
@[irreducible] def N9f (a:Int):Option (Int):=
 Nfs a
def Ndo (a:Int):Option (Int):=
 (N9f a).bind fun(b:Int)=>some b
@[irreducible] def Nab (a:Int):Option (Int):=
 Ndo a
def Ngl (a:Int):Option (((List Int))):=
 (Nbk a).bind fun(b:Int)=>(mk 0 b).bind fun(c:Nat)=>some (List.replicate c (0:Int))
def Ngc:Option (Unit):=
 some ()
def Ney (a:Int) (b:List Int):Option ((Int×(List Int))⊕((List Int))):=
 cond (a !=0) ((Nab a).bind fun(c:Int)=>(room ((List.length b)+List.length ([(IntKind.wrap .i64 (c+1))]))).bind fun(d:Unit)=>some (Sum.inl ((iand .u64 a (IntKind.wrap .u64 (a-1))),(b++([(IntKind.wrap .i64 (c+1))]))))) (some (Sum.inr b))
def Nzy (a:Int) (b:List Int):Option (((List Int))):=
 nloop (fun(s:Int×(List Int))=>((Ney s.1 s.2).map (Sum.elim (fun(t:Int×(List Int))=>Sum.inl (t.1,t.2)) (fun(t:(List Int))=>Sum.inr t)):Option ((Int×(List Int))⊕(((List Int)))))) LL (a,b)
def N16v (a:Int) (b:List Int):Option (((List Int))):=
 (Nzy a b).map (fun(t:(List Int))=>t)
def N126 (a:Int) (b:List Int):Option (((List Int))):=
 (Ngc).bind (fun(t:Unit)=>N16v a b)
def Ndl (a:List Int):Option (((List Int))):=
 some a
def Nza (a:Int) (b:List Int):Option (((List Int))):=
 (N126 a b).bind (fun(t:(List Int))=>Ndl t)
def N154 (a:Int):Option (((List Int))):=
 (Ngl a).bind (fun(t:(List Int))=>Nza a t)
@[irreducible] def N5y (a:Int):Option ((List Int)):=
 N154 a
def N6k (R0 R1:(List Int)→Int→(List Int)→Option ((List Int))) (a:List Int) (b:Int) (c:List Int):Option (((List Int))):=
 (N3t a b).bind fun(d:Int×Int)=>(R1 a (d.1) c).bind fun(g:List Int)=>(room ((List.length g)+List.length ([b]))).bind fun(i:Unit)=>(R1 a (d.2) (g++([b]))).bind fun(j:List Int)=>some j
def N18b (R0 R1:(List Int)→Int→(List Int)→Option ((List Int))) (a:List Int) (b:Int) (c:List Int):Option ((List Int)):=
 N6k R0 R1 a b c
def N88 (R0 R1:(List Int)→Int→(List Int)→Option ((List Int))):Option (Unit):=
 some ()
def N9c (R0 R1:(List Int)→Int→(List Int)→Option ((List Int))) (a:Int):Option ((Int×(List Int))):=
 (N5y a).bind fun(b:List Int)=>some ((((List.length b:Nat):Int)),b)
def N5w (R0 R1:(List Int)→Int→(List Int)→Option ((List Int))) (a:List Int) (b c:Int) (d g:List Int):Option ((Int×(List Int))⊕((List Int))):=
 cond (decide (c<b)) ((inb c (List.length g)).bind fun(i:Nat)=>(g[i]?).bind fun(j:Int)=>(R0 a j d).bind fun(k:List Int)=>some (Sum.inl ((IntKind.wrap .i64 (c+1)),k))) (some (Sum.inr d))
def No6 (R0 R1:(List Int)→Int→(List Int)→Option ((List Int))) (a:List Int) (b:Int) (c d:List Int):Option (((List Int))):=
 nloop (fun(s:Int×(List Int))=>((N5w R0 R1 a b s.1 s.2 d).map (Sum.elim (fun(t:Int×(List Int))=>Sum.inl (t.1,t.2)) (fun(t:(List Int))=>Sum.inr t)):Option ((Int×(List Int))⊕(((List Int)))))) LL (0,c)
def Nkp (R0 R1:(List Int)→Int→(List Int)→Option ((List Int))) (a:List Int) (b:Int) (c d:List Int):Option (((List Int))):=
 (No6 R0 R1 a b c d).map (fun(t:(List Int))=>t)
def Nn1 (R0 R1:(List Int)→Int→(List Int)→Option ((List Int))) (a:List Int) (b:Int) (c:List Int):Option (((List Int))):=
 (N9c R0 R1 b).bind (fun(t:Int×(List Int))=>Nkp R0 R1 a t.1 c t.2)
def Na2 (R0 R1:(List Int)→Int→(List Int)→Option ((List Int))) (a:List Int):Option (((List Int))):=
 some a
def Nm5 (R0 R1:(List Int)→Int→(List Int)→Option ((List Int))) (a:List Int) (b:Int) (c:List Int):Option (((List Int))):=
 (Nn1 R0 R1 a b c).bind (fun(t:(List Int))=>Na2 R0 R1 t)
def Nnf (R0 R1:(List Int)→Int→(List Int)→Option ((List Int))) (a:List Int) (b:Int) (c:List Int):Option (((List Int))):=
 (N88 R0 R1).bind (fun(t:Unit)=>Nm5 R0 R1 a b c)
def Nai (R0 R1:(List Int)→Int→(List Int)→Option ((List Int))) (a:List Int) (b:Int) (c:List Int):Option ((List Int)):=
 Nnf R0 R1 a b c
def N5:Nat→((List Int)→Int→(List Int)→Option ((List Int)))×((List Int)→Int→(List Int)→Option ((List Int)))
 |0=>((fun _ _ _=>none),(fun _ _ _=>none))
 |n+1=>((fun y0 y1 y2=>N18b (N5 n).1 (N5 n).2 y0 y1 y2),(fun y0 y1 y2=>Nai (N5 n).1 (N5 n).2 y0 y1 y2))
def Nm (n:Nat):(List Int)→Int→(List Int)→Option ((List Int)):=(N5 n).1
@[irreducible] def N7d (a:List Int) (b:Int) (c:List Int):Option ((List Int)):=Nm RR a b c
def N27 (n:Nat):(List Int)→Int→(List Int)→Option ((List Int)):=(N5 n).2
@[irreducible] def No7 (a:List Int) (b:Int) (c:List Int):Option ((List Int)):=N27 RR a b c
def N7k (a:List Int):Option (((List Int))):=
 (Nb a).bind fun(b:Bool)=>cond (!b) (some ([]:List Int)) ((N59 a).bind fun(c:Int)=>(mk 0 (((List.length a:Nat):Int))).bind fun(d:Nat)=>(N7d a c (List.replicate d (0:Int))).bind fun(g:List Int)=>some g)
@[irreducible] def N2x (a:List Int):Option ((List Int)):=
 N7k a
def N73 (a:List Int):Option (((List Int))):=
 (N2x a).bind fun(b:List Int)=>(N33 a b).bind fun(c:Bool×(List Int))=>some (c.2)
@[irreducible] def N3e (a:List Int):Option ((List Int)):=
 N73 a
def N6o (a:List Int) (b c d:Int):Option (((List Int))):=
 cond (b==0) ((N44 a c).bind fun(g:Bool)=>cond (!g) (some ([]:List Int)) ((N36 a).bind fun(i:List Int)=>(inb (IntKind.wrap .i64 (c-1)) (List.length i)).bind fun(j:Nat)=>some (i.set j d))) (cond (b==1) ((N36 a).bind fun(k:List Int)=>(room ((List.length k)+List.length ([c]))).bind fun(l:Unit)=>some (k++([c]))) (cond (b==2) ((inc (IntKind.wrap .i64 ((((List.length a:Nat):Int))-1)) (List.length a)).bind fun(m:Nat)=>(N36 ((a.take m).drop 0)).bind fun(o:List Int)=>some o) (cond (b==3) ((N2w a).bind fun(p:List Int)=>some p) (cond (b==4) ((N3e a).bind fun(q:List Int)=>some q) (some ([]:List Int))))))
@[irreducible] def N35 (a:List Int) (b c d:Int):Option ((List Int)):=
 N6o a b c d
def Nae (a b:List Int):Option (Unit⊕Bool):=
 cond ((((List.length a:Nat):Int)) !=(((List.length b:Nat):Int))) (some (Sum.inr false)) (some (Sum.inl ()))
def N91 (a:List Int):Option (Int):=
 some (((List.length a:Nat):Int))
def N3u (a b:List Int) (c d:Int):Option (Int⊕Bool⊕Unit):=
 cond (decide (d<c)) ((idx a d).bind fun(g:Int)=>(idx b d).bind fun(i:Int)=>cond (g !=i) (some (Sum.inr (Sum.inl false))) (some (Sum.inl (IntKind.wrap .i64 (d+1))))) (some (Sum.inr (Sum.inr ())))
def Nkl (a b:List Int) (c:Int):Option (Bool⊕Unit):=
 nloop (fun(s:Int)=>((N3u a b c s).map (Sum.elim (fun(t:Int)=>Sum.inl t) (Sum.elim (fun(t:Bool)=>Sum.inr (Sum.inl t)) (fun(t:Unit)=>Sum.inr (Sum.inr t)))):Option ((Int)⊕(Bool⊕Unit)))) LL 0
def Nk5 (a b:List Int) (c:Int):Option (Unit⊕Bool):=
 (Nkl a b c).map (Sum.elim (fun(t:Bool)=>(Sum.inr t)) (fun(t:Unit)=>(Sum.inl ())))
def Njm (a b:List Int):Option (Unit⊕Bool):=
 (N91 a).bind (fun(t:Int)=>Nk5 a b t)
def Nes:Option (Bool):=
 some true
def Nlw (a b:List Int):Option (Bool):=
 (Njm a b).bind (Sum.elim (fun(t:Unit)=>Nes) (fun e=>some ((fun(t:Bool)=>t) e)))
def Nfi (a b:List Int):Option (Bool):=
 (Nae a b).bind (Sum.elim (fun(t:Unit)=>Nlw a b) (fun e=>some ((fun(t:Bool)=>t) e)))
@[irreducible] def N3n (a b:List Int):Option (Bool):=
 Nfi a b
def Nfn (x1:List (List Int)):Option (List (List Int)):=cloneD x1
def N6q (a:List Int) (b:List (List Int)) (c d g:Int):Option ((Bool×(List Int)×(List (List Int)))):=
 (N35 a c d g).bind fun(i:List Int)=>(Nb i).bind fun(j:Bool)=>cond (!j) ((Nf a b).bind fun(k:(List Int)×(List (List Int)))=>some (false,(k.1),(k.2))) ((N3n i a).bind fun(l:Bool)=>cond l ((Nf a b).bind fun(m:(List Int)×(List (List Int)))=>some (false,(m.1),(m.2))) ((Nfn b).bind fun(o:List (List Int))=>(room ((List.length o)+List.length ([a]))).bind fun(p:Unit)=>(inc (imax 0 (IntKind.wrap .i64 ((((List.length (o++([a])):Nat):Int))-8))) (List.length (o++([a])))).bind fun(q:Nat)=>(Nf i (((o++([a])).drop q).take ((List.length (o++([a])))-q))).bind fun(w:(List Int)×(List (List Int)))=>some (true,(w.1),(w.2))))
@[irreducible] def N3c (a:List Int) (b:List (List Int)) (c d g:Int):Option (Bool×(List Int)×(List (List Int))):=
 N6q a b c d g
def N6f (a:List Int) (b:List (List Int)) (c d g:Int):Option ((Bool×(List Int)×(List (List Int)))):=
 (N28 a b).bind fun(i:Bool)=>cond (!i) (some (false,([]:List Int),([]:List (List Int)))) ((N3b c d g).bind fun(j:Bool)=>cond (!j) ((Nf a b).bind fun(k:(List Int)×(List (List Int)))=>some (false,(k.1),(k.2))) (cond (c==5) ((N3a a b).bind fun(l:Bool×(List Int)×(List (List Int)))=>some ((l.1),(l.2.1),(l.2.2))) ((N3c a b c d g).bind fun(m:Bool×(List Int)×(List (List Int)))=>some ((m.1),(m.2.1),(m.2.2)))))
@[irreducible] def N2t (a:List Int) (b:List (List Int)) (c d g:Int):Option (Bool×(List Int)×(List (List Int))):=
 N6f a b c d g
def N76 (a:List Int) (b:List (List Int)) (c:ByteArray):Option ((ByteArray×(List Int)×(List (List Int)))):=
 (N28 a b).bind fun(d:Bool)=>cond (!d) (some (ByteArray.empty,([]:List Int),([]:List (List Int)))) ((N2a c).bind fun(g:Bool×Int×Int×Int)=>cond (!(g.1)) ((Nf a b).bind fun(i:(List Int)×(List (List Int)))=>none) ((N2t a b (g.2.1) (g.2.2.1) (g.2.2.2)).bind fun(j:Bool×(List Int)×(List (List Int)))=>cond (!(j.1)) (some ((ByteArray.mk #[110,111,116]),(j.2.1),(j.2.2))) (some ((ByteArray.mk #[111,107]),(j.2.1),(j.2.2)))))
@[irreducible] def N1v (a:List Int) (b:List (List Int)) (c:ByteArray):Option (ByteArray×(List Int)×(List (List Int))):=
 N76 a b c
def N81 (a:List Int) (b:List (List Int)) (c:List (Int×Int×Int×Unit)):Option (((List Int)×(List (List Int)))⊕(Int×(List Int)×(List (List Int)))):=
 (N28 a b).bind fun(d:Bool)=>cond (!d) (some (Sum.inr (0,([]:List Int),([]:List (List Int))))) (cond (decide ((((List.length c:Nat):Int))>40)) (some (Sum.inr (0,([]:List Int),([]:List (List Int))))) ((Nf a b).bind fun(g:(List Int)×(List (List Int)))=>some (Sum.inl ((g.1),(g.2)))))
def Nbb (a:List (Int×Int×Int×Unit)):Option (Int):=
 some (((List.length a:Nat):Int))
def N5f (a:Int) (b:List (Int×Int×Int×Unit)) (c d:Int) (g:List Int) (i:List (List Int)):Option ((Int×Int×(List Int)×(List (List Int)))⊕(Int×(List Int)×(List (List Int)))):=
 cond (decide (d<c)) ((idx b d).bind fun(j:Int×Int×Int×Unit)=>(N2t g i (j.1) ((j.2).1) (((j.2).2).1)).bind fun(k:Bool×(List Int)×(List (List Int)))=>cond (k.1) (some (Sum.inl ((IntKind.wrap .i64 (a+1)),(IntKind.wrap .i64 (d+1)),(k.2.1),(k.2.2)))) (some (Sum.inl (a,(IntKind.wrap .i64 (d+1)),g,i)))) (some (Sum.inr (a,g,i)))
def Noo (a:List (Int×Int×Int×Unit)) (b:Int) (c:List Int) (d:List (List Int)):Option ((Int×(List Int)×(List (List Int)))):=
 nloop (fun(s:Int×Int×(List Int)×(List (List Int)))=>((N5f s.1 a b s.2.1 s.2.2.1 s.2.2.2).map (Sum.elim (fun(t:Int×Int×(List Int)×(List (List Int)))=>Sum.inl (t.1,t.2.1,t.2.2.1,t.2.2.2)) (fun(t:Int×(List Int)×(List (List Int)))=>Sum.inr t)):Option ((Int×Int×(List Int)×(List (List Int)))⊕((Int×(List Int)×(List (List Int))))))) LL (0,0,c,d)
def Nkn (a:List (Int×Int×Int×Unit)) (b:Int) (c:List Int) (d:List (List Int)):Option ((Int×(List Int)×(List (List Int)))):=
 (Noo a b c d).map (fun(t:Int×(List Int)×(List (List Int)))=>(t.1,t.2.1,t.2.2))
def Nm0 (a:List (Int×Int×Int×Unit)) (b:List Int) (c:List (List Int)):Option ((Int×(List Int)×(List (List Int)))):=
 (Nbb a).bind (fun(t:Int)=>Nkn a t b c)
def N9q (a:Int) (b:List Int) (c:List (List Int)):Option ((Int×(List Int)×(List (List Int)))):=
 some (a,b,c)
def Nkt (a:List (Int×Int×Int×Unit)) (b:List Int) (c:List (List Int)):Option ((Int×(List Int)×(List (List Int)))):=
 (Nm0 a b c).bind (fun(t:Int×(List Int)×(List (List Int)))=>N9q t.1 t.2.1 t.2.2)
def Ne0 (a:List Int) (b:List (List Int)) (c:List (Int×Int×Int×Unit)):Option ((Int×(List Int)×(List (List Int)))):=
 (N81 a b c).bind (Sum.elim (fun(t:(List Int)×(List (List Int)))=>Nkt c t.1 t.2) (fun e=>some ((fun(t:Int×(List Int)×(List (List Int)))=>t) e)))
@[irreducible] def N2b (a:List Int) (b:List (List Int)) (c:List (Int×Int×Int×Unit)):Option (Int×(List Int)×(List (List Int))):=
 Ne0 a b c
def N8i (x1:List (Int×Int×Int×Unit)):Option (ByteArray):=jtext (fun d:Int×Int×Int×Unit=>N3 d.1 d.2.1 d.2.2.1) x1 ByteArray.empty
def N9g:Option (Bool):=
 (Nb ([0])).bind fun(a:Bool)=>cond a ((Nb ([1])).bind fun(b:Bool)=>some (!b)) (some false)
@[irreducible] def N2h:Option (Bool):=
 N9g
def Nbe (a b:List Int):Option (Unit⊕Bool):=
 cond ((((List.length a:Nat):Int)) !=(((List.length b:Nat):Int))) (some (Sum.inr false)) (some (Sum.inl ()))
def N8a:Option (Unit):=
 some ()
def N5h (a b:List Int) (c:Int):Option (Int⊕Bool⊕Unit):=
 cond (decide (c<(((List.length a:Nat):Int)))) ((idx a c).bind fun(d:Int)=>(idx b c).bind fun(g:Int)=>cond (d !=g) (some (Sum.inr (Sum.inl false))) (some (Sum.inl (IntKind.wrap .i64 (c+1))))) (some (Sum.inr (Sum.inr ())))
def Nmc (a b:List Int):Option (Bool⊕Unit):=
 nloop (fun(s:Int)=>((N5h a b s).map (Sum.elim (fun(t:Int)=>Sum.inl t) (Sum.elim (fun(t:Bool)=>Sum.inr (Sum.inl t)) (fun(t:Unit)=>Sum.inr (Sum.inr t)))):Option ((Int)⊕(Bool⊕Unit)))) LL 0
def Np7 (a b:List Int):Option (Unit⊕Bool):=
 (Nmc a b).map (Sum.elim (fun(t:Bool)=>(Sum.inr t)) (fun(t:Unit)=>(Sum.inl ())))
def Nj0 (a b:List Int):Option (Unit⊕Bool):=
 (N8a).bind (fun(t:Unit)=>Np7 a b)
def Naj:Option (Bool):=
 some true
def Njt (a b:List Int):Option (Bool):=
 (Nj0 a b).bind (Sum.elim (fun(t:Unit)=>Naj) (fun e=>some ((fun(t:Bool)=>t) e)))
def Ndz (a b:List Int):Option (Bool):=
 (Nbe a b).bind (Sum.elim (fun(t:Unit)=>Njt a b) (fun e=>some ((fun(t:Bool)=>t) e)))
@[irreducible] def N2m (a b:List Int):Option (Bool):=
 Ndz a b
def Nah (a b:List (List Int)):Option (Unit⊕Bool):=
 cond ((((List.length a:Nat):Int)) !=(((List.length b:Nat):Int))) (some (Sum.inr false)) (some (Sum.inl ()))
def N9v:Option (Unit):=
 some ()
def N46 (a b:List (List Int)) (c:Int):Option (Int⊕Bool⊕Unit):=
 cond (decide (c<(((List.length a:Nat):Int)))) ((idx a c).bind fun(d:List Int)=>(idx b c).bind fun(g:List Int)=>(N2m d g).bind fun(i:Bool)=>cond (!i) (some (Sum.inr (Sum.inl false))) (some (Sum.inl (IntKind.wrap .i64 (c+1))))) (some (Sum.inr (Sum.inr ())))
def Nof (a b:List (List Int)):Option (Bool⊕Unit):=
 nloop (fun(s:Int)=>((N46 a b s).map (Sum.elim (fun(t:Int)=>Sum.inl t) (Sum.elim (fun(t:Bool)=>Sum.inr (Sum.inl t)) (fun(t:Unit)=>Sum.inr (Sum.inr t)))):Option ((Int)⊕(Bool⊕Unit)))) LL 0
def Nlm (a b:List (List Int)):Option (Unit⊕Bool):=
 (Nof a b).map (Sum.elim (fun(t:Bool)=>(Sum.inr t)) (fun(t:Unit)=>(Sum.inl ())))
def Nnn (a b:List (List Int)):Option (Unit⊕Bool):=
 (N9v).bind (fun(t:Unit)=>Nlm a b)
def Na0:Option (Bool):=
 some true
def Nmm (a b:List (List Int)):Option (Bool):=
 (Nnn a b).bind (Sum.elim (fun(t:Unit)=>Na0) (fun e=>some ((fun(t:Bool)=>t) e)))
def Nhp (a b:List (List Int)):Option (Bool):=
 (Nah a b).bind (Sum.elim (fun(t:Unit)=>Nmm a b) (fun e=>some ((fun(t:Bool)=>t) e)))
@[irreducible] def N2y (a b:List (List Int)):Option (Bool):=
 Nhp a b
def Ncb (a:List Int) (b:List (List Int)) (c:List Int) (d:List (List Int)):Option (Bool):=
 (N2m a c).bind fun(g:Bool)=>cond g ((N2y b d).bind fun(i:Bool)=>some i) (some false)
@[irreducible] def N4w (a:List Int) (b:List (List Int)) (c:List Int) (d:List (List Int)):Option (Bool):=
 Ncb a b c d
def Nc5 (a b:List Int):Option ((ByteArray×Int×(List (Int×Int×Int×Unit)))⊕Bool):=
 cond (decide ((((List.length a:Nat):Int))>1048576)) (some (Sum.inr true)) (cond (decide ((((List.length b:Nat):Int))>1048576)) (some (Sum.inr true)) ((N52 a).bind fun(c:ByteArray)=>(N1l c).bind fun(d:Int×(List (Int×Int×Int×Unit)))=>(N37 c).bind fun(g:Int×(List (Int×Int×Int×Unit)))=>(N2j (d.2) (g.2)).bind fun(i:Bool)=>cond (!i) (some (Sum.inr false)) (cond ((d.1) !=(g.1)) (some (Sum.inr false)) (some (Sum.inl (c,(d.1),(d.2)))))))
def N9p:Option (Unit):=
 some ()
def N4v (a:ByteArray) (b:Int) (c:List (Int×Int×Int×Unit)):Option (Int⊕Bool⊕Unit):=
 cond (decide (b≤(((ByteArray.size a:Nat):Int)))) ((inc b (ByteArray.size a)).bind fun(d:Nat)=>(N1l (a.extract 0 d)).bind fun(g:Int×(List (Int×Int×Int×Unit)))=>cond (decide ((((List.length (g.2):Nat):Int))>(((List.length c:Nat):Int)))) (some (Sum.inr (Sum.inl false))) ((inc (imin (((List.length (g.2):Nat):Int)) (((List.length c:Nat):Int))) (List.length c)).bind fun(i:Nat)=>(N2j (g.2) ((c.drop 0).take (i-0))).bind fun(j:Bool)=>cond (!j) (some (Sum.inr (Sum.inl false))) (cond (decide ((g.1)>b)) (some (Sum.inr (Sum.inl false))) (some (Sum.inl (IntKind.wrap .i64 (b+1))))))) (some (Sum.inr (Sum.inr ())))
def Nnw (a:ByteArray) (b:List (Int×Int×Int×Unit)):Option (Bool⊕Unit):=
 nloop (fun(s:Int)=>((N4v a s b).map (Sum.elim (fun(t:Int)=>Sum.inl t) (Sum.elim (fun(t:Bool)=>Sum.inr (Sum.inl t)) (fun(t:Unit)=>Sum.inr (Sum.inr t)))):Option ((Int)⊕(Bool⊕Unit)))) LL 0
def Njl (a:ByteArray) (b:List (Int×Int×Int×Unit)):Option (Unit⊕Bool):=
 (Nnw a b).map (Sum.elim (fun(t:Bool)=>(Sum.inr t)) (fun(t:Unit)=>(Sum.inl ())))
def Ndt (a:ByteArray) (b:List (Int×Int×Int×Unit)):Option (Unit⊕Bool):=
 (N9p).bind (fun(t:Unit)=>Njl a b)
def Nbw (a:List Int):Option (((List Int)×(List (List Int)))):=
 (N4e a).bind fun(b:(List Int)×(List (Int×Int×Int×Unit))×(List (List Int)))=>some ((b.1),(b.2.2))
def Nbn:Option (Unit):=
 some ()
def N2i (a:Int) (b:List (Int×Int×Int×Unit)) (c:List Int) (d:List (List Int)) (g:List Int) (i:List (List Int)):Option ((Int×(List Int)×(List (List Int)))⊕Bool⊕((List Int)×(List (List Int)))):=
 cond (decide (a<(((List.length b:Nat):Int)))) ((N14 c d).bind fun(j:Bool)=>cond j ((inb a (List.length b)).bind fun(k:Nat)=>(b[k]?).bind fun(l:Int×Int×Int×Unit)=>(N3 (l.1) ((l.2).1) (((l.2).2).1)).bind fun(m:ByteArray)=>(N1v g i m).bind fun(o:ByteArray×(List Int)×(List (List Int)))=>cond (!(seqs (o.1) (ByteArray.mk #[111,107]))) (cond (!(seqs (o.1) (ByteArray.mk #[110,111,116]))) (some (Sum.inr (Sum.inl false))) (some (Sum.inl ((IntKind.wrap .i64 (a+1)),(o.2.1),(o.2.2))))) (some (Sum.inl ((IntKind.wrap .i64 (a+1)),(o.2.1),(o.2.2))))) (some (Sum.inr (Sum.inr (g,i))))) (some (Sum.inr (Sum.inr (g,i))))
def Nk4 (a:List (Int×Int×Int×Unit)) (b:List Int) (c:List (List Int)):Option (Bool⊕((List Int)×(List (List Int)))):=
 nloop (fun(s:Int×(List Int)×(List (List Int)))=>((N2i s.1 a b c s.2.1 s.2.2).map (Sum.elim (fun(t:Int×(List Int)×(List (List Int)))=>Sum.inl (t.1,t.2.1,t.2.2)) (Sum.elim (fun(t:Bool)=>Sum.inr (Sum.inl t)) (fun(t:(List Int)×(List (List Int)))=>Sum.inr (Sum.inr t)))):Option ((Int×(List Int)×(List (List Int)))⊕(Bool⊕((List Int)×(List (List Int))))))) LL (0,b,c)
def Npg (a:List (Int×Int×Int×Unit)) (b:List Int) (c:List (List Int)):Option (((List Int)×(List (List Int)))⊕Bool):=
 (Nk4 a b c).map (Sum.elim (fun(t:Bool)=>(Sum.inr t)) (fun(t:(List Int)×(List (List Int)))=>(Sum.inl (t.1,t.2))))
def Ndn (a:List (Int×Int×Int×Unit)) (b:List Int) (c:List (List Int)):Option (((List Int)×(List (List Int)))⊕Bool):=
 (Nbn).bind (fun(t:Unit)=>Npg a b c)
def N8m (a:ByteArray) (b:Int) (c:List (Int×Int×Int×Unit)) (d:List Int) (g:List (List Int)) (i:List Int) (j:List (List Int)):Option (Bool):=
 (N2b d g c).bind fun(k:Int×(List Int)×(List (List Int)))=>cond (decide (b≤(((ByteArray.size a:Nat):Int)))) ((inc b (ByteArray.size a)).bind fun(l:Nat)=>(N8i c).bind fun(m:ByteArray)=>cond (seqs m (a.extract 0 l)) ((N14 d g).bind fun(o:Bool)=>cond (!o) ((N2h).bind fun(p:Bool)=>some p) (cond (decide ((((List.length c:Nat):Int))>40)) ((N2h).bind fun(q:Bool)=>some q) ((N4w i j (k.2.1) (k.2.2)).bind fun(w:Bool)=>cond w ((N2h).bind fun(y:Bool)=>some y) (some false)))) (some false)) (some false)
def Nm8 (a:ByteArray) (b:Int) (c:List (Int×Int×Int×Unit)) (d:List Int) (g:List (List Int)):Option (Bool):=
 (Ndn c d g).bind (Sum.elim (fun(t:(List Int)×(List (List Int)))=>N8m a b c d g t.1 t.2) (fun e=>some ((fun(t:Bool)=>t) e)))
def Nj5 (a:List Int) (b:ByteArray) (c:Int) (d:List (Int×Int×Int×Unit)):Option (Bool):=
 (Nbw a).bind (fun(t:(List Int)×(List (List Int)))=>Nm8 b c d t.1 t.2)
def Nlh (a:List Int) (b:ByteArray) (c:Int) (d:List (Int×Int×Int×Unit)):Option (Bool):=
 (Ndt b d).bind (Sum.elim (fun(t:Unit)=>Nj5 a b c d) (fun e=>some ((fun(t:Bool)=>t) e)))
def Ne2 (a b:List Int):Option (Bool):=
 (Nc5 a b).bind (Sum.elim (fun(t:ByteArray×Int×(List (Int×Int×Int×Unit)))=>Nlh b t.1 t.2.1 t.2.2) (fun e=>some ((fun(t:Bool)=>t) e)))
@[irreducible] def N2n (a b:List Int):Option (Bool):=
 Ne2 a b
end Go.Rv
