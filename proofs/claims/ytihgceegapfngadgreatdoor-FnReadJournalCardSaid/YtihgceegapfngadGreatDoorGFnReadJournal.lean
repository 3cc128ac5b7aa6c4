/-
  Plain functions,written by program for functions of the checked code. Conditions: none.
-/
import Derived.Test.YtihgceegapfngadGreatDoorFB
set_option linter.unusedVariables false
namespace Go.Rv
def Nbw (a:List Int):Option (((List Int))):=
 cond (decide ((((List.length a:Nat):Int))>2000)) ((inc 2000 (List.length a)).bind fun(b:Nat)=>some ((a.take b).drop 0)) (some a)
@[irreducible] def N3r (a:List Int):Option ((List Int)):=
 Nbw a
def N9j (a:Int) (b:List Int) (c:Int):Option ((Int×Int)):=
 cond (decide (a<1)) (some (0,(IntKind.wrap .i64 (c+1)))) (cond ((((List.length b:Nat):Int))==0) (some (0,(IntKind.wrap .i64 (c+1)))) (cond (decide ((IntKind.wrap .i64 ((IntKind.wrap .i64 (c+1))-1))<(((List.length b:Nat):Int)))) ((idx b (IntKind.wrap .i64 ((IntKind.wrap .i64 (c+1))-1))).bind fun(d:Int)=>(rem (IntKind.wrap .i64 d) a).bind fun(g:Int)=>some (g,(IntKind.wrap .i64 (c+1)))) ((rem (IntKind.wrap .i64 ((IntKind.wrap .i64 (c+1))-1)) (((List.length b:Nat):Int))).bind fun(i:Int)=>(idx b i).bind fun(j:Int)=>(rem (IntKind.wrap .i64 ((IntKind.wrap .i64 ((IntKind.wrap .i64 ((IntKind.wrap .i64 (c+1))-1))*7))+3)) (((List.length b:Nat):Int))).bind fun(k:Int)=>(idx b k).bind fun(l:Int)=>(quo .i64 (IntKind.wrap .i64 ((IntKind.wrap .i64 (c+1))-1)) (((List.length b:Nat):Int))).bind fun(m:Int)=>(quo .i64 (IntKind.wrap .i64 ((IntKind.wrap .i64 ((IntKind.wrap .i64 ((IntKind.wrap .i64 ((IntKind.wrap .i64 j)*131))+(IntKind.wrap .i64 ((IntKind.wrap .i64 l)*1117))))+(IntKind.wrap .i64 ((IntKind.wrap .i64 ((IntKind.wrap .i64 (c+1))-1))*29))))+(IntKind.wrap .i64 (m*53)))) 64).bind fun(o:Int)=>(rem (ixor .i64 (IntKind.wrap .i64 ((IntKind.wrap .i64 ((IntKind.wrap .i64 ((IntKind.wrap .i64 ((IntKind.wrap .i64 j)*131))+(IntKind.wrap .i64 ((IntKind.wrap .i64 l)*1117))))+(IntKind.wrap .i64 ((IntKind.wrap .i64 ((IntKind.wrap .i64 (c+1))-1))*29))))+(IntKind.wrap .i64 (m*53)))) o) a).bind fun(p:Int)=>some (p,(IntKind.wrap .i64 (c+1))))))
@[irreducible] def N0 (a:Int) (b:List Int) (c:Int):Option (Int×Int):=
 N9j a b c
def N9z (a:List Int) (b:Int):Option ((Int×Int)):=
 (N0 2 a b).bind fun(c:Int×Int)=>some ((c.1),(c.2))
def N8g:Option (Unit):=
 some ()
def N6h (a b c:Int) (d:List Int) (g:Int) (i:List Int):Option ((Int×Int×(List Int))⊕(Int×(List Int))):=
 cond (decide (c≤a)) (cond (b==0) ((N0 c d g).bind fun(j:Int×Int)=>(inc (j.1) (List.length i)).bind fun(k:Nat)=>(room ((List.length ([]:List Int))+List.length ((i.drop 0).take (k-0)))).bind fun(l:Unit)=>(room ((List.length (([]:List Int)++((i.drop 0).take (k-0))))+List.length ([c]))).bind fun(m:Unit)=>(inc (j.1) (List.length i)).bind fun(o:Nat)=>(room ((List.length ((([]:List Int)++((i.drop 0).take (k-0)))++([c])))+List.length ((i.drop o).take ((List.length i)-o)))).bind fun(p:Unit)=>some (Sum.inl ((IntKind.wrap .i64 (c+1)),(j.2),(((([]:List Int)++((i.drop 0).take (k-0)))++([c]))++((i.drop o).take ((List.length i)-o)))))) ((N0 3 d g).bind fun(q:Int×Int)=>cond ((q.1)==0) ((N0 c d (q.2)).bind fun(w:Int×Int)=>(inc (w.1) (List.length i)).bind fun(y:Nat)=>(room ((List.length ([]:List Int))+List.length ((i.drop 0).take (y-0)))).bind fun(z:Unit)=>(room ((List.length (([]:List Int)++((i.drop 0).take (y-0))))+List.length ([c]))).bind fun(a0:Unit)=>(inc (w.1) (List.length i)).bind fun(a1:Nat)=>(room ((List.length ((([]:List Int)++((i.drop 0).take (y-0)))++([c])))+List.length ((i.drop a1).take ((List.length i)-a1)))).bind fun(a2:Unit)=>some (Sum.inl ((IntKind.wrap .i64 (c+1)),(w.2),(((([]:List Int)++((i.drop 0).take (y-0)))++([c]))++((i.drop a1).take ((List.length i)-a1)))))) ((inc (((List.length i:Nat):Int)) (List.length i)).bind fun(a3:Nat)=>(room ((List.length ([]:List Int))+List.length ((i.drop 0).take (a3-0)))).bind fun(a4:Unit)=>(room ((List.length (([]:List Int)++((i.drop 0).take (a3-0))))+List.length ([c]))).bind fun(a5:Unit)=>(inc (((List.length i:Nat):Int)) (List.length i)).bind fun(a6:Nat)=>(room ((List.length ((([]:List Int)++((i.drop 0).take (a3-0)))++([c])))+List.length ((i.drop a6).take ((List.length i)-a6)))).bind fun(a7:Unit)=>some (Sum.inl ((IntKind.wrap .i64 (c+1)),(q.2),(((([]:List Int)++((i.drop 0).take (a3-0)))++([c]))++((i.drop a6).take ((List.length i)-a6)))))))) (some (Sum.inr (g,i)))
def Nmx (a b:Int) (c:List Int) (d:Int):Option ((Int×(List Int))):=
 nloop (fun(s:Int×Int×(List Int))=>((N6h a b s.1 c s.2.1 s.2.2).map (Sum.elim (fun(t:Int×Int×(List Int))=>Sum.inl (t.1,t.2.1,t.2.2)) (fun(t:Int×(List Int))=>Sum.inr t)):Option ((Int×Int×(List Int))⊕((Int×(List Int)))))) LL (1,d,([]:List Int))
def Npa (a b:Int) (c:List Int) (d:Int):Option ((Int×(List Int))):=
 (Nmx a b c d).map (fun(t:Int×(List Int))=>(t.1,t.2))
def Noy (a b:Int) (c:List Int) (d:Int):Option ((Int×(List Int))):=
 (N8g).bind (fun(t:Unit)=>Npa a b c d)
def Nf8 (a:Int) (b:List Int):Option ((Int×(List Int))):=
 some (a,b)
def Njl (a b:Int) (c:List Int) (d:Int):Option ((Int×(List Int))):=
 (Noy a b c d).bind (fun(t:Int×(List Int))=>Nf8 t.1 t.2)
def Nkk (a:Int) (b:List Int) (c:Int):Option ((Int×(List Int))):=
 (N9z b c).bind (fun(t:Int×Int)=>Njl a t.1 b t.2)
@[irreducible] def N3h (a:Int) (b:List Int) (c:Int):Option (Int×(List Int)):=
 Nkk a b c
def N9u (a:Int) (b:List Int) (c:Int):Option ((Bool×Int)):=
 cond (decide (a>0)) ((N0 a b c).bind fun(d:Int×Int)=>some (((d.1)==(IntKind.wrap .i64 (a-1))),(d.2))) (some (false,c))
@[irreducible] def Nl (a:Int) (b:List Int) (c:Int):Option (Bool×Int):=
 N9u a b c
def Nco (a:List Int) (b:Int):Option ((Int×Int×Int×(List Int)×(List Int))):=
 (N0 7 a b).bind fun(c:Int×Int)=>(N3h (IntKind.wrap .i64 (1+(c.1))) a (c.2)).bind fun(d:Int×(List Int))=>(mk (IntKind.wrap .i64 (1+(c.1))) (IntKind.wrap .i64 (1+(c.1)))).bind fun(g:Nat)=>(N0 2 a (d.1)).bind fun(i:Int×Int)=>some ((IntKind.wrap .i64 (1+(c.1))),(i.1),(i.2),(d.2),(List.replicate g (0:Int)))
def Nbg:Option (Unit):=
 some ()
def N6w (a b c:Int) (d:List Int) (g:Int) (i j:List Int):Option ((Int×Int×(List Int))⊕(Int×(List Int))):=
 cond (decide (c<a)) ((N0 c d g).bind fun(k:Int×Int)=>cond (b==1) ((N0 2 d (k.2)).bind fun(l:Int×Int)=>cond ((l.1)==0) ((inb c (List.length i)).bind fun(m:Nat)=>(i[m]?).bind fun(o:Int)=>(inb (IntKind.wrap .i64 (c-1)) (List.length i)).bind fun(p:Nat)=>(i[p]?).bind fun(q:Int)=>(inb (IntKind.wrap .i64 (o-1)) (List.length j)).bind fun(w:Nat)=>some (Sum.inl ((IntKind.wrap .i64 (c+1)),(l.2),(j.set w q)))) ((inb c (List.length i)).bind fun(y:Nat)=>(i[y]?).bind fun(z:Int)=>(inb (k.1) (List.length i)).bind fun(a0:Nat)=>(i[a0]?).bind fun(a1:Int)=>(inb (IntKind.wrap .i64 (z-1)) (List.length j)).bind fun(a2:Nat)=>some (Sum.inl ((IntKind.wrap .i64 (c+1)),(l.2),(j.set a2 a1))))) ((inb c (List.length i)).bind fun(a3:Nat)=>(i[a3]?).bind fun(a4:Int)=>(inb (k.1) (List.length i)).bind fun(a5:Nat)=>(i[a5]?).bind fun(a6:Int)=>(inb (IntKind.wrap .i64 (a4-1)) (List.length j)).bind fun(a7:Nat)=>some (Sum.inl ((IntKind.wrap .i64 (c+1)),(k.2),(j.set a7 a6))))) (some (Sum.inr (g,j)))
def Nm2 (a b:Int) (c:List Int) (d:Int) (g i:List Int):Option ((Int×(List Int))):=
 nloop (fun(s:Int×Int×(List Int))=>((N6w a b s.1 c s.2.1 g s.2.2).map (Sum.elim (fun(t:Int×Int×(List Int))=>Sum.inl (t.1,t.2.1,t.2.2)) (fun(t:Int×(List Int))=>Sum.inr t)):Option ((Int×Int×(List Int))⊕((Int×(List Int)))))) LL (1,d,i)
def Nlq (a b:Int) (c:List Int) (d:Int) (g i:List Int):Option ((Int×(List Int))):=
 (Nm2 a b c d g i).map (fun(t:Int×(List Int))=>(t.1,t.2))
def Nl8 (a b:Int) (c:List Int) (d:Int) (g i:List Int):Option ((Int×(List Int))):=
 (Nbg).bind (fun(t:Unit)=>Nlq a b c d g i)
def Nbc (a b:Int) (c:List Int) (d:Int) (g:List Int):Option ((Int×(List Int))):=
 (Nl a c d).bind fun(i:Bool×Int)=>cond (i.1) ((N0 4 c (i.2)).bind fun(j:Int×Int)=>cond ((j.1)==0) (some ((j.2),([]:List Int))) (cond ((j.1)==1) (some ((j.2),([2,1,0]))) (cond ((j.1)==2) ((N0 b c (j.2)).bind fun(k:Int×Int)=>(inb (k.1) (List.length g)).bind fun(l:Nat)=>(room ((List.length (g.set l 0))+List.length ([0]))).bind fun(m:Unit)=>some ((k.2),((g.set l 0)++([0])))) ((N0 3 c (j.2)).bind fun(o:Int×Int)=>(inb (o.1) (List.length ([1,(IntKind.wrap .i64 (b+1)),(-1)]))).bind fun(p:Nat)=>(([1,(IntKind.wrap .i64 (b+1)),(-1)])[p]?).bind fun(q:Int)=>(inb 0 (List.length g)).bind fun(w:Nat)=>some ((o.2),(g.set w q)))))) (some ((i.2),g))
def Nn9 (a b c:Int) (d:List Int) (g:Int) (i j:List Int):Option ((Int×(List Int))):=
 (Nl8 b c d g i j).bind (fun(t:Int×(List Int))=>Nbc a b d t.1 t.2)
def No1 (a:Int) (b:List Int) (c:Int):Option ((Int×(List Int))):=
 (Nco b c).bind (fun(t:Int×Int×Int×(List Int)×(List Int))=>Nn9 a t.1 t.2.1 b t.2.2.1 t.2.2.2.1 t.2.2.2.2)
@[irreducible] def N3m (a:Int) (b:List Int) (c:Int):Option (Int×(List Int)):=
 No1 a b c
def N9h (a b c:Int):Option (Bool):=
 cond (decide (a≥b)) (some (decide (a≤c))) (some false)
@[irreducible] def N7 (a b c:Int):Option (Bool):=
 N9h a b c
def N8q (a:List Int):Option (Int⊕Bool):=
 (N7 (((List.length a:Nat):Int)) 1 8).bind fun(b:Bool)=>cond (!b) (some (Sum.inr false)) (some (Sum.inl (((List.length a:Nat):Int))))
def Na4:Option (Unit):=
 some ()
def N7h (a b c:Int):Option (Unit⊕Int):=
 cond (decide (c<a)) (some (Sum.inl ())) (some (Sum.inr b))
def Nbu (a:List Int) (b c d:Int):Option ((Int×Int)⊕Bool):=
 (idx a d).bind fun(g:Int)=>(N7 g 0 b).bind fun(i:Bool)=>cond (!i) (some (Sum.inr false)) ((idx a d).bind fun(j:Int)=>cond (j==(IntKind.wrap .i64 (d+1))) (some (Sum.inr false)) ((idx a d).bind fun(k:Int)=>cond (k==0) (some (Sum.inl ((IntKind.wrap .i64 (c+1)),(IntKind.wrap .i64 (d+1))))) (some (Sum.inl (c,(IntKind.wrap .i64 (d+1)))))))
def Nas:Option (Unit):=
 some ()
def N7f (a:List Int) (b c d:Int):Option ((Int×Int)⊕Bool⊕Int):=
 cond (decide (c>0)) (cond (decide (d<b)) ((idx a (IntKind.wrap .i64 (c-1))).bind fun(g:Int)=>(N7 g 0 b).bind fun(i:Bool)=>cond (!i) (some (Sum.inr (Sum.inl false))) (some (Sum.inl (g,(IntKind.wrap .i64 (d+1)))))) (some (Sum.inr (Sum.inr c)))) (some (Sum.inr (Sum.inr c)))
def Ni2 (a:List Int) (b c:Int):Option (Bool⊕Int):=
 nloop (fun(s:Int×Int)=>((N7f a b s.1 s.2).map (Sum.elim (fun(t:Int×Int)=>Sum.inl (t.1,t.2)) (Sum.elim (fun(t:Bool)=>Sum.inr (Sum.inl t)) (fun(t:Int)=>Sum.inr (Sum.inr t)))):Option ((Int×Int)⊕(Bool⊕Int)))) LL (c,0)
def Nmh (a:List Int) (b c:Int):Option (Int⊕Bool):=
 (Ni2 a b c).map (Sum.elim (fun(t:Bool)=>(Sum.inr t)) (fun(t:Int)=>(Sum.inl t)))
def Nns (a:List Int) (b c:Int):Option (Int⊕Bool):=
 (Nas).bind (fun(t:Unit)=>Nmh a b c)
def N9l (a:Int):Option (Unit⊕Bool):=
 cond (decide (a>0)) (some (Sum.inr false)) (some (Sum.inl ()))
def Njd (a:List Int) (b c:Int):Option (Unit⊕Bool):=
 (Nns a b c).bind (Sum.elim (fun(t:Int)=>N9l t) (fun e=>some ((fun(t:Bool)=>(Sum.inr t)) e)))
def Npd (a:List Int) (b c d:Int):Option (Int⊕Bool):=
 (Nbu a b c d).bind (Sum.elim (fun(t:Int×Int)=>(Njd a b t.2).map (Sum.elim (fun(u:Unit)=>(Sum.inl t.1)) (fun(u:Bool)=>(Sum.inr u)))) (fun e=>some ((fun(t:Bool)=>(Sum.inr t)) e)))
def Noh (a:List Int) (b c d:Int):Option (Int⊕Bool):=
 (Npd a b c d).map (Sum.elim (fun(t:Int)=>(Sum.inl t)) (fun(t:Bool)=>(Sum.inr t)))
def N7x (a:Int):Option (Int):=
 some (IntKind.wrap .i64 (a+1))
def Nno (a:List Int) (b c d:Int):Option ((Int×Int)⊕Bool):=
 (Noh a b c d).bind (Sum.elim (fun(t:Int)=>(N7x d).map (fun(u:Int)=>(Sum.inl (t,u)))) (fun e=>some ((fun(t:Bool)=>(Sum.inr t)) e)))
def N8z (a:List Int) (b c d:Int):Option ((Int×Int)⊕Bool⊕Int):=
 (N7h b c d).bind (Sum.elim (fun(t:Unit)=>(Nno a b c d).map (Sum.elim (fun(t:Int×Int)=>(Sum.inl (t.1,t.2))) (fun(t:Bool)=>(Sum.inr (Sum.inl t))))) (fun e=>some ((fun(t:Int)=>(Sum.inr (Sum.inr t))) e)))
def Njv (a:List Int) (b:Int):Option (Bool⊕Int):=
 nloop (fun(s:Int×Int)=>((N8z a b s.1 s.2).map (Sum.elim (fun(t:Int×Int)=>Sum.inl (t.1,t.2)) (Sum.elim (fun(t:Bool)=>Sum.inr (Sum.inl t)) (fun(t:Int)=>Sum.inr (Sum.inr t)))):Option ((Int×Int)⊕(Bool⊕Int)))) LL (0,0)
def Nnb (a:List Int) (b:Int):Option (Int⊕Bool):=
 (Njv a b).map (Sum.elim (fun(t:Bool)=>(Sum.inr t)) (fun(t:Int)=>(Sum.inl t)))
def Njx (a:List Int) (b:Int):Option (Int⊕Bool):=
 (Na4).bind (fun(t:Unit)=>Nnb a b)
def Nc6 (a:Int):Option (Bool):=
 some (a==1)
def Nm0 (a:List Int) (b:Int):Option (Bool):=
 (Njx a b).bind (Sum.elim (fun(t:Int)=>Nc6 t) (fun e=>some ((fun(t:Bool)=>t) e)))
def Njg (a:List Int):Option (Bool):=
 (N8q a).bind (Sum.elim (fun(t:Int)=>Nm0 a t) (fun e=>some ((fun(t:Bool)=>t) e)))
@[irreducible] def N9 (a:List Int):Option (Bool):=
 Njg a
def Nar:Option (Unit):=
 some ()
def N8j:Option (Unit):=
 some ()
def N7v (a:List Int) (b:Int):Option (Unit⊕Unit):=
 cond (decide (b<(((List.length a:Nat):Int)))) (some (Sum.inl ())) (some (Sum.inr ()))
def N8e (a:List Int) (b c:Int):Option (Unit⊕Bool):=
 (idx a c).bind fun(d:Int)=>(N7 d 1 b).bind fun(g:Bool)=>cond (!g) (some (Sum.inr false)) (some (Sum.inl ()))
def N71 (a:List Int) (b c:Int):Option (Int⊕Bool⊕Unit):=
 cond (decide (c<b)) ((idx a c).bind fun(d:Int)=>(idx a b).bind fun(g:Int)=>cond (d==g) (some (Sum.inr (Sum.inl false))) (some (Sum.inl (IntKind.wrap .i64 (c+1))))) (some (Sum.inr (Sum.inr ())))
def Nf5 (a:List Int) (b:Int):Option (Bool⊕Unit):=
 nloop (fun(s:Int)=>((N71 a b s).map (Sum.elim (fun(t:Int)=>Sum.inl t) (Sum.elim (fun(t:Bool)=>Sum.inr (Sum.inl t)) (fun(t:Unit)=>Sum.inr (Sum.inr t)))):Option ((Int)⊕(Bool⊕Unit)))) LL 0
def Nos (a:List Int) (b:Int):Option (Unit⊕Bool):=
 (Nf5 a b).map (Sum.elim (fun(t:Bool)=>(Sum.inr t)) (fun(t:Unit)=>(Sum.inl ())))
def Nnj (a:List Int) (b c:Int):Option (Unit⊕Bool):=
 (N8e a b c).bind (Sum.elim (fun(t:Unit)=>Nos a c) (fun e=>some ((fun(t:Bool)=>(Sum.inr t)) e)))
def Nju (a:List Int) (b c:Int):Option (Unit⊕Bool):=
 (Nnj a b c).map (Sum.elim (fun(t:Unit)=>(Sum.inl ())) (fun(t:Bool)=>(Sum.inr t)))
def N90 (a:Int):Option (Int):=
 some (IntKind.wrap .i64 (a+1))
def Np1 (a:List Int) (b c:Int):Option (Int⊕Bool):=
 (Nju a b c).bind (Sum.elim (fun(t:Unit)=>(N90 c).map (fun(t:Int)=>(Sum.inl t))) (fun e=>some ((fun(t:Bool)=>(Sum.inr t)) e)))
def Nfu (a:List Int) (b c:Int):Option (Int⊕Bool⊕Unit):=
 (N7v a c).bind (Sum.elim (fun(t:Unit)=>(Np1 a b c).map (Sum.elim (fun(t:Int)=>(Sum.inl t)) (fun(t:Bool)=>(Sum.inr (Sum.inl t))))) (fun e=>some ((fun(t:Unit)=>(Sum.inr (Sum.inr t))) e)))
def Njm (a:List Int) (b:Int):Option (Bool⊕Unit):=
 nloop (fun(s:Int)=>((Nfu a b s).map (Sum.elim (fun(t:Int)=>Sum.inl t) (Sum.elim (fun(t:Bool)=>Sum.inr (Sum.inl t)) (fun(t:Unit)=>Sum.inr (Sum.inr t)))):Option ((Int)⊕(Bool⊕Unit)))) LL 0
def Nom (a:List Int) (b:Int):Option (Unit⊕Bool):=
 (Njm a b).map (Sum.elim (fun(t:Bool)=>(Sum.inr t)) (fun(t:Unit)=>(Sum.inl ())))
def Nki (a:List Int) (b:Int):Option (Unit⊕Bool):=
 (N8j).bind (fun(t:Unit)=>Nom a b)
def Nc8 (a:List Int) (b:Int):Option (Bool):=
 (N7 b 1 8).bind fun(c:Bool)=>cond c (some ((((List.length a:Nat):Int))==b)) (some false)
def Nm3 (a:List Int) (b:Int):Option (Bool):=
 (Nki a b).bind (Sum.elim (fun(t:Unit)=>Nc8 a b) (fun e=>some ((fun(t:Bool)=>t) e)))
def Np6 (a:List Int) (b:Int):Option (Bool):=
 (Nar).bind (fun(t:Unit)=>Nm3 a b)
@[irreducible] def N4j (a:List Int) (b:Int):Option (Bool):=
 Np6 a b
def Ncq (a b:List Int):Option (((List Int))⊕(Bool×(List Int))):=
 (N9 a).bind fun(c:Bool)=>cond (!c) (some (Sum.inr (false,([]:List Int)))) ((N4j b (((List.length a:Nat):Int))).bind fun(d:Bool)=>cond (!d) (some (Sum.inr (false,([]:List Int)))) ((mk (IntKind.wrap .i64 ((((List.length a:Nat):Int))+1)) (IntKind.wrap .i64 ((((List.length a:Nat):Int))+1))).bind fun(g:Nat)=>some (Sum.inl (List.replicate g (0:Int)))))
def N9v:Option (Unit):=
 some ()
def N5y (a:List Int) (b:Int) (c:List Int):Option ((Int×(List Int))⊕((List Int))):=
 cond (decide (b<(((List.length a:Nat):Int)))) ((idx a b).bind fun(d:Int)=>(inb d (List.length c)).bind fun(g:Nat)=>some (Sum.inl ((IntKind.wrap .i64 (b+1)),(c.set g (IntKind.wrap .i64 (b+1)))))) (some (Sum.inr c))
def Nor (a b:List Int):Option (((List Int))):=
 nloop (fun(s:Int×(List Int))=>((N5y a s.1 s.2).map (Sum.elim (fun(t:Int×(List Int))=>Sum.inl (t.1,t.2)) (fun(t:(List Int))=>Sum.inr t)):Option ((Int×(List Int))⊕(((List Int)))))) LL (0,b)
def Nkf (a b:List Int):Option (((List Int))):=
 (Nor a b).map (fun(t:(List Int))=>t)
def Nk0 (a b:List Int):Option (((List Int))):=
 (N9v).bind (fun(t:Unit)=>Nkf a b)
def Nc0:Option (Unit):=
 some ()
def Nbd:Option (Unit):=
 some ()
def N74 (a b:List Int) (c:Int) (d g:List Int):Option ((Int×(List Int))⊕((List Int))):=
 cond (decide (c<(((List.length b:Nat):Int)))) ((idx b c).bind fun(i:Int)=>(idx a (IntKind.wrap .i64 (i-1))).bind fun(j:Int)=>(inb j (List.length d)).bind fun(k:Nat)=>(d[k]?).bind fun(l:Int)=>(room ((List.length g)+List.length ([l]))).bind fun(m:Unit)=>some (Sum.inl ((IntKind.wrap .i64 (c+1)),(g++([l]))))) (some (Sum.inr g))
def Nmo (a b c:List Int):Option (((List Int))):=
 nloop (fun(s:Int×(List Int))=>((N74 a b s.1 c s.2).map (Sum.elim (fun(t:Int×(List Int))=>Sum.inl (t.1,t.2)) (fun(t:(List Int))=>Sum.inr t)):Option ((Int×(List Int))⊕(((List Int)))))) LL (0,([]:List Int))
def Nmc (a b c:List Int):Option (((List Int))):=
 (Nmo a b c).map (fun(t:(List Int))=>t)
def Nml (a b c:List Int):Option (((List Int))):=
 (Nbd).bind (fun(t:Unit)=>Nmc a b c)
def N98 (a:List Int):Option ((Bool×(List Int))):=
 some (true,a)
def Nmi (a b c:List Int):Option ((Bool×(List Int))):=
 (Nml a b c).bind (fun(t:(List Int))=>N98 t)
def Nl3 (a b c:List Int):Option ((Bool×(List Int))):=
 (Nc0).bind (fun(t:Unit)=>Nmi a b c)
def Nna (a b c:List Int):Option ((Bool×(List Int))):=
 (Nk0 b c).bind (fun(t:(List Int))=>Nl3 a b t)
def Nmu (a b:List Int):Option ((Bool×(List Int))):=
 (Ncq a b).bind (Sum.elim (fun(t:(List Int))=>Nna a b t) (fun e=>some ((fun(t:Bool×(List Int))=>t) e)))
@[irreducible] def N42 (a b:List Int):Option (Bool×(List Int)):=
 Nmu a b
def Nch (R0:Int→Int→Int→(List Int)→Int→(List Int)→Option (Int×(List Int))) (a b c:Int) (d:List Int) (g:Int) (i:List Int):Option ((Int×Int×(List Int))⊕(Int×(List Int))):=
 cond (decide (a>b)) (some (Sum.inr (g,i))) ((N0 (IntKind.wrap .i64 ((IntKind.wrap .i64 (b-a))+1)) d g).bind fun(j:Int×Int)=>(inb (IntKind.wrap .i64 ((IntKind.wrap .i64 (a+(j.1)))-1)) (List.length i)).bind fun(k:Nat)=>some (Sum.inl ((IntKind.wrap .i64 (a+(j.1))),(j.2),(i.set k c))))
def N6k (R0:Int→Int→Int→(List Int)→Int→(List Int)→Option (Int×(List Int))) (a b:Int) (c:List Int) (d:Int) (g:List Int):Option ((Int×Int×(List Int))⊕(Int×(List Int))):=
 cond (decide (b<a)) ((N0 (IntKind.wrap .i64 (a-b)) c d).bind fun(i:Int×Int)=>(R0 b (IntKind.wrap .i64 (b+(i.1))) a c (i.2) g).bind fun(j:Int×(List Int))=>some (Sum.inl ((IntKind.wrap .i64 ((IntKind.wrap .i64 (b+(i.1)))+1)),(j.1),(j.2)))) (some (Sum.inr (d,g)))
def Nmp (R0:Int→Int→Int→(List Int)→Int→(List Int)→Option (Int×(List Int))) (a b:Int) (c:List Int) (d:Int) (g:List Int):Option ((Int×(List Int))):=
 nloop (fun(s:Int×Int×(List Int))=>((N6k R0 a s.1 c s.2.1 s.2.2).map (Sum.elim (fun(t:Int×Int×(List Int))=>Sum.inl (t.1,t.2.1,t.2.2)) (fun(t:Int×(List Int))=>Sum.inr t)):Option ((Int×Int×(List Int))⊕((Int×(List Int)))))) LL (b,d,g)
def Np8 (R0:Int→Int→Int→(List Int)→Int→(List Int)→Option (Int×(List Int))) (a b:Int) (c:List Int) (d:Int) (g:List Int):Option ((Int×(List Int))):=
 (Nmp R0 a b c d g).map (fun(t:Int×(List Int))=>(t.1,t.2))
def Na2 (R0:Int→Int→Int→(List Int)→Int→(List Int)→Option (Int×(List Int))) (a:Int):Option (Int):=
 some (IntKind.wrap .i64 (a+1))
def N6z (R0:Int→Int→Int→(List Int)→Int→(List Int)→Option (Int×(List Int))) (a b c:Int) (d:List Int) (g:Int) (i:List Int):Option ((Int×Int×(List Int))⊕(Int×(List Int))):=
 cond (decide (c≤a)) ((N0 (IntKind.wrap .i64 ((IntKind.wrap .i64 (a-c))+1)) d g).bind fun(j:Int×Int)=>(R0 c (IntKind.wrap .i64 (c+(j.1))) b d (j.2) i).bind fun(k:Int×(List Int))=>some (Sum.inl ((IntKind.wrap .i64 ((IntKind.wrap .i64 (c+(j.1)))+1)),(k.1),(k.2)))) (some (Sum.inr (g,i)))
def No8 (R0:Int→Int→Int→(List Int)→Int→(List Int)→Option (Int×(List Int))) (a b c:Int) (d:List Int) (g:Int) (i:List Int):Option ((Int×(List Int))):=
 nloop (fun(s:Int×Int×(List Int))=>((N6z R0 a b s.1 d s.2.1 s.2.2).map (Sum.elim (fun(t:Int×Int×(List Int))=>Sum.inl (t.1,t.2.1,t.2.2)) (fun(t:Int×(List Int))=>Sum.inr t)):Option ((Int×Int×(List Int))⊕((Int×(List Int)))))) LL (c,g,i)
def Nmw (R0:Int→Int→Int→(List Int)→Int→(List Int)→Option (Int×(List Int))) (a b c:Int) (d:List Int) (g:Int) (i:List Int):Option ((Int×(List Int))):=
 (No8 R0 a b c d g i).map (fun(t:Int×(List Int))=>(t.1,t.2))
def Njo (R0:Int→Int→Int→(List Int)→Int→(List Int)→Option (Int×(List Int))) (a b:Int) (c:List Int) (d:Int) (g:List Int):Option ((Int×(List Int))):=
 (Na2 R0 b).bind (fun(t:Int)=>Nmw R0 a b t c d g)
def No2 (R0:Int→Int→Int→(List Int)→Int→(List Int)→Option (Int×(List Int))) (a b c:Int) (d:List Int) (g:Int) (i:List Int):Option ((Int×(List Int))):=
 (Np8 R0 b c d g i).bind (fun(t:Int×(List Int))=>Njo R0 a b d t.1 t.2)
def Njh (R0:Int→Int→Int→(List Int)→Int→(List Int)→Option (Int×(List Int))) (a b c:Int) (d:List Int) (g:Int) (i:List Int):Option ((Int×(List Int))⊕(Int×(List Int))):=
 (Nch R0 a b c d g i).bind (Sum.elim (fun(t:Int×Int×(List Int))=>(No2 R0 b t.1 a d t.2.1 t.2.2).map (fun(u:Int×(List Int))=>(Sum.inl (u.1,u.2)))) (fun e=>some ((fun(t:Int×(List Int))=>(Sum.inr t)) e)))
def Nnh (R0:Int→Int→Int→(List Int)→Int→(List Int)→Option (Int×(List Int))) (a b c:Int) (d:List Int) (g:Int) (i:List Int):Option (Int×(List Int)):=
 (Njh R0 a b c d g i).map (Sum.elim (fun(t:Int×(List Int))=>(t.1,t.2)) (fun(t:Int×(List Int))=>t))
def N3l:Nat→(Int→Int→Int→(List Int)→Int→(List Int)→Option (Int×(List Int)))
 |0=>(fun _ _ _ _ _ _=>none)
 |n+1=>(fun y0 y1 y2 y3 y4 y5=>Nnh (N3l n) y0 y1 y2 y3 y4 y5)
def N1d (n:Nat):Int→Int→Int→(List Int)→Int→(List Int)→Option (Int×(List Int)):=(N3l n)
@[irreducible] def N7i (a b c:Int) (d:List Int) (g:Int) (i:List Int):Option (Int×(List Int)):=N1d RR a b c d g i
def N78 (a:Int) (b:List Int) (c:Int):Option ((Int×(List Int))):=
 (N0 3 b c).bind fun(d:Int×Int)=>cond ((d.1)==0) ((N3m a b (d.2)).bind fun(g:Int×(List Int))=>some ((g.1),(g.2))) ((N0 7 b (d.2)).bind fun(i:Int×Int)=>(mk (IntKind.wrap .i64 (1+(i.1))) (IntKind.wrap .i64 (1+(i.1)))).bind fun(j:Nat)=>(N7i 1 (IntKind.wrap .i64 (1+(i.1))) 0 b (i.2) (List.replicate j (0:Int))).bind fun(k:Int×(List Int))=>some ((k.1),(k.2)))
@[irreducible] def N1x (a:Int) (b:List Int) (c:Int):Option (Int×(List Int)):=
 N78 a b c
def N6x (a:Int) (b:List Int) (c:Int):Option ((Int×(List Int))):=
 (N3m a b c).bind fun(d:Int×(List Int))=>(N0 2 b (d.1)).bind fun(g:Int×Int)=>cond ((g.1)==0) ((N9 (d.2)).bind fun(i:Bool)=>cond i ((N3h (((List.length (d.2):Nat):Int)) b (g.2)).bind fun(j:Int×(List Int))=>(N42 (d.2) (j.2)).bind fun(k:Bool×(List Int))=>some ((j.1),(k.2))) ((N0 3 b (g.2)).bind fun(l:Int×Int)=>cond ((l.1)==0) ((N1x a b (l.2)).bind fun(m:Int×(List Int))=>some ((m.1),(m.2))) (some ((l.2),(d.2))))) ((N0 3 b (g.2)).bind fun(o:Int×Int)=>cond ((o.1)==0) ((N1x a b (o.2)).bind fun(p:Int×(List Int))=>some ((p.1),(p.2))) (some ((o.2),(d.2))))
@[irreducible] def N2u (a:Int) (b:List Int) (c:Int):Option (Int×(List Int)):=
 N6x a b c
def N6e (a b:List Int) (c:Int):Option ((Int×Int×Int×Int)):=
 (N0 8 b c).bind fun(d:Int×Int)=>(idx ([0,0,1,1,2,3,4,5]) (d.1)).bind fun(g:Int)=>(N0 60 b (d.2)).bind fun(i:Int×Int)=>(quo .i64 (i.1) 59).bind fun(j:Int)=>cond ((IntKind.wrap .i64 (g+(IntKind.wrap .i64 (j*6))))==0) ((N0 (imax (((List.length a:Nat):Int)) 1) b (i.2)).bind fun(k:Int×Int)=>(N0 (IntKind.wrap .i64 ((((List.length a:Nat):Int))+1)) b (k.2)).bind fun(l:Int×Int)=>(Nl 40 b (l.2)).bind fun(m:Bool×Int)=>cond (m.1) ((N0 3 b (m.2)).bind fun(o:Int×Int)=>(inb (o.1) (List.length ([(-1),9,100]))).bind fun(p:Nat)=>(([(-1),9,100])[p]?).bind fun(q:Int)=>some ((o.2),(IntKind.wrap .i64 (g+(IntKind.wrap .i64 (j*6)))),(IntKind.wrap .i64 (1+(k.1))),q)) (some ((m.2),(IntKind.wrap .i64 (g+(IntKind.wrap .i64 (j*6)))),(IntKind.wrap .i64 (1+(k.1))),(l.1)))) (cond ((IntKind.wrap .i64 (g+(IntKind.wrap .i64 (j*6))))==1) ((N0 (IntKind.wrap .i64 ((((List.length a:Nat):Int))+1)) b (i.2)).bind fun(w:Int×Int)=>(N0 9 b (w.2)).bind fun(y:Int×Int)=>(quo .i64 (y.1) 8).bind fun(z:Int)=>(Nl 40 b (y.2)).bind fun(a0:Bool×Int)=>cond (a0.1) ((N0 3 b (a0.2)).bind fun(a1:Int×Int)=>(inb (a1.1) (List.length ([(-1),9,100]))).bind fun(a2:Nat)=>(([(-1),9,100])[a2]?).bind fun(a3:Int)=>some ((a1.2),(IntKind.wrap .i64 (g+(IntKind.wrap .i64 (j*6)))),(IntKind.wrap .i64 ((w.1)+z)),a3)) (some ((a0.2),(IntKind.wrap .i64 (g+(IntKind.wrap .i64 (j*6)))),(IntKind.wrap .i64 ((w.1)+z)),0))) ((Nl 40 b (i.2)).bind fun(a4:Bool×Int)=>cond (a4.1) ((N0 3 b (a4.2)).bind fun(a5:Int×Int)=>(inb (a5.1) (List.length ([(-1),9,100]))).bind fun(a6:Nat)=>(([(-1),9,100])[a6]?).bind fun(a7:Int)=>some ((a5.2),(IntKind.wrap .i64 (g+(IntKind.wrap .i64 (j*6)))),0,a7)) (some ((a4.2),(IntKind.wrap .i64 (g+(IntKind.wrap .i64 (j*6)))),0,0))))
@[irreducible] def N1m (a b:List Int) (c:Int):Option (Int×Int×Int×Int):=
 N6e a b c
def Nbs:Option (Unit):=
 some ()
def Nap (a:List Int) (b:Int):Option ((Int×Int)):=
 (N0 6 a b).bind fun(c:Int×Int)=>some ((c.1),(c.2))
def N6v (a:List Int) (b:Int) (c:List Int) (d:Int) (g:List (Int×Int×Int×Unit)):Option ((Int×Int×(List (Int×Int×Int×Unit)))⊕(Int×(List (Int×Int×Int×Unit)))):=
 cond (decide (b>0)) ((N1m a c d).bind fun(i:Int×Int×Int×Int)=>(room ((List.length g)+List.length ([((i.2.1),((i.2.2.1),((i.2.2.2),())))]))).bind fun(j:Unit)=>some (Sum.inl ((IntKind.wrap .i64 (b-1)),(i.1),(g++([((i.2.1),((i.2.2.1),((i.2.2.2),())))]))))) (some (Sum.inr (d,g)))
def Nk7 (a:List Int) (b:Int) (c:List Int) (d:Int):Option ((Int×(List (Int×Int×Int×Unit)))):=
 nloop (fun(s:Int×Int×(List (Int×Int×Int×Unit)))=>((N6v a s.1 c s.2.1 s.2.2).map (Sum.elim (fun(t:Int×Int×(List (Int×Int×Int×Unit)))=>Sum.inl (t.1,t.2.1,t.2.2)) (fun(t:Int×(List (Int×Int×Int×Unit)))=>Sum.inr t)):Option ((Int×Int×(List (Int×Int×Int×Unit)))⊕((Int×(List (Int×Int×Int×Unit))))))) LL (b,d,([]:List (Int×Int×Int×Unit)))
def Nn2 (a:List Int) (b:Int) (c:List Int) (d:Int):Option ((Int×(List (Int×Int×Int×Unit)))):=
 (Nk7 a b c d).map (fun(t:Int×(List (Int×Int×Int×Unit)))=>(t.1,t.2))
def Nmf (a b:List Int) (c:Int):Option ((Int×(List (Int×Int×Int×Unit)))):=
 (Nap b c).bind (fun(t:Int×Int)=>Nn2 a t.1 b t.2)
def Nct (a:Int) (b:List (Int×Int×Int×Unit)):Option ((Int×(List (Int×Int×Int×Unit)))):=
 some (a,b)
def Nnz (a b:List Int) (c:Int):Option ((Int×(List (Int×Int×Int×Unit)))):=
 (Nmf a b c).bind (fun(t:Int×(List (Int×Int×Int×Unit)))=>Nct t.1 t.2)
def Ncx (a b:List Int) (c:Int):Option ((Int×(List (Int×Int×Int×Unit)))):=
 (Nbs).bind (fun(t:Unit)=>Nnz a b c)
@[irreducible] def N2p (a b:List Int) (c:Int):Option (Int×(List (Int×Int×Int×Unit))):=
 Ncx a b c
def Ngt (R0:Int→Option ByteArray) (a:Int):Option (ByteArray):=
 cond (decide (a<10)) (some (bytesOf ([(IntKind.wrap .u8 (IntKind.wrap .i64 (48+(imax a 0))))]))) ((quo .i64 a 10).bind fun(b:Int)=>(rem a 10).bind fun(c:Int)=>(R0 b).bind fun(d:ByteArray)=>(cat d (bytesOf ([(IntKind.wrap .u8 (IntKind.wrap .i64 (48+c)))]))).bind fun(g:ByteArray)=>some g)
def Nz7 (R0:Int→Option ByteArray) (a:Int):Option (ByteArray):=
 Ngt R0 a
def Nhr:Nat→(Int→Option ByteArray)
 |0=>(fun _=>none)
 |n+1=>(fun y0=>Nz7 (Nhr n) y0)
def N7l (n:Nat):Int→Option ByteArray:=(Nhr n)
@[irreducible] def Nu (a:Int):Option (ByteArray):=N7l RR a
def Nbp:Option (Unit):=
 some ()
def Ncf (a b c:Int):Option (Bool):=
 cond (a==0) ((N7 b 0 99).bind fun(d:Bool)=>cond d ((N7 c 0 99).bind fun(g:Bool)=>some g) (some false)) (some false)
def N9i (a b:Int):Option (ByteArray):=
 (Nu a).bind fun(c:ByteArray)=>(cat (ByteArray.mk #[104,101,97,100,32]) c).bind fun(d:ByteArray)=>(cat d (ByteArray.mk #[32])).bind fun(g:ByteArray)=>(Nu b).bind fun(i:ByteArray)=>(cat g i).bind fun(j:ByteArray)=>some j
def Nai (a b c:Int):Option (Bool):=
 cond (a==1) ((N7 b 0 99).bind fun(d:Bool)=>cond d (some (c==0)) (some false)) (some false)
def N6c (a:Bool) (b c d:Int):Option (Unit⊕ByteArray):=
 cond a ((Nu c).bind fun(g:ByteArray)=>(cat (ByteArray.mk #[97,100,100,32]) g).bind fun(i:ByteArray)=>some (Sum.inr i)) (cond ((b==2)&&((c==0)&&((d==0)&&true))) (some (Sum.inr (ByteArray.mk #[100,114,111,112]))) (cond ((b==3)&&((c==0)&&((d==0)&&true))) (some (Sum.inr (ByteArray.mk #[116,117,114,110]))) (cond ((b==4)&&((c==0)&&((d==0)&&true))) (some (Sum.inr (ByteArray.mk #[102,108,97,116]))) (cond ((b==5)&&((c==0)&&((d==0)&&true))) (some (Sum.inr (ByteArray.mk #[98,97,99,107]))) (some (Sum.inl ()))))))
def Njp (a b c:Int):Option (Unit⊕ByteArray):=
 (Nai a b c).bind (fun(t:Bool)=>N6c t a b c)
def Neh (a:Bool) (b c d:Int):Option (Unit⊕ByteArray):=
 cond a ((N9i c d).map (fun(t:ByteArray)=>(Sum.inr t))) (Njp b c d)
def Nk4 (a b c:Int):Option (Unit⊕ByteArray):=
 (Ncf a b c).bind (fun(t:Bool)=>Neh t a b c)
def Np7 (a b c:Int):Option (Unit⊕ByteArray):=
 (Nk4 a b c).map (Sum.elim (fun(t:Unit)=>(Sum.inl ())) (fun(t:ByteArray)=>(Sum.inr t)))
def Neo:Option (ByteArray):=
 some ByteArray.empty
def Nn3 (a b c:Int):Option (ByteArray):=
 (Np7 a b c).bind (Sum.elim (fun(t:Unit)=>Neo) (fun e=>some ((fun(t:ByteArray)=>t) e)))
def Ngq (a b c:Int):Option (ByteArray):=
 (Nbp).bind (fun(t:Unit)=>Nn3 a b c)
@[irreducible] def Ng (a b c:Int):Option (ByteArray):=
 Ngq a b c
def Nb1 (a:List Int) (b:Int):Option ((Int×(List (Int×Int×Int×Unit)))):=
 (N2u 0 a b).bind fun(c:Int×(List Int))=>(N2p (c.2) a (c.1)).bind fun(d:Int×(List (Int×Int×Int×Unit)))=>some ((d.1),(d.2))
def Nbt:Option (Unit):=
 some ()
def N6p (a:Int) (b c:List (Int×Int×Int×Unit)):Option ((Int×(List (Int×Int×Int×Unit)))⊕((List (Int×Int×Int×Unit)))):=
 cond (decide (a<(((List.length c:Nat):Int)))) ((inb a (List.length c)).bind fun(d:Nat)=>(c[d]?).bind fun(g:Int×Int×Int×Unit)=>(Ng (g.1) ((g.2).1) (((g.2).2).1)).bind fun(i:ByteArray)=>cond (!(seqs i ByteArray.empty)) ((inb a (List.length c)).bind fun(j:Nat)=>(c[j]?).bind fun(k:Int×Int×Int×Unit)=>(room ((List.length b)+List.length ([((k.1),(((k.2).1),((((k.2).2).1),())))]))).bind fun(l:Unit)=>some (Sum.inl ((IntKind.wrap .i64 (a+1)),(b++([((k.1),(((k.2).1),((((k.2).2).1),())))]))))) (some (Sum.inl ((IntKind.wrap .i64 (a+1)),b)))) (some (Sum.inr b))
def Noe (a:List (Int×Int×Int×Unit)):Option (((List (Int×Int×Int×Unit)))):=
 nloop (fun(s:Int×(List (Int×Int×Int×Unit)))=>((N6p s.1 s.2 a).map (Sum.elim (fun(t:Int×(List (Int×Int×Int×Unit)))=>Sum.inl (t.1,t.2)) (fun(t:(List (Int×Int×Int×Unit)))=>Sum.inr t)):Option ((Int×(List (Int×Int×Int×Unit)))⊕(((List (Int×Int×Int×Unit))))))) LL (0,([]:List (Int×Int×Int×Unit)))
def Nms (a:List (Int×Int×Int×Unit)):Option (((List (Int×Int×Int×Unit)))):=
 (Noe a).map (fun(t:(List (Int×Int×Int×Unit)))=>t)
def Nop (a:List (Int×Int×Int×Unit)):Option (((List (Int×Int×Int×Unit)))):=
 (Nbt).bind (fun(t:Unit)=>Nms a)
def Nih (a:Int) (b:List (Int×Int×Int×Unit)):Option ((Int×(List (Int×Int×Int×Unit)))):=
 some (a,b)
def Njf (a:Int) (b:List (Int×Int×Int×Unit)):Option ((Int×(List (Int×Int×Int×Unit)))):=
 (Nop b).bind (fun(t:(List (Int×Int×Int×Unit)))=>Nih a t)
def Nd6 (a:List Int) (b:Int):Option ((Int×(List (Int×Int×Int×Unit)))):=
 (Nb1 a b).bind (fun(t:Int×(List (Int×Int×Int×Unit)))=>Njf t.1 t.2)
@[irreducible] def N33 (a:List Int) (b:Int):Option (Int×(List (Int×Int×Int×Unit))):=
 Nd6 a b
def Nbe:Option (Unit):=
 some ()
def N88:Option (Unit):=
 some ()
def N31 (a:List (Int×Int×Int×Unit)) (b:ByteArray) (c:Int):Option ((ByteArray×Int)⊕ByteArray⊕ByteArray):=
 cond (decide (c<(((List.length a:Nat):Int)))) ((idx a c).bind fun(d:Int×Int×Int×Unit)=>(Ng (d.1) ((d.2).1) (((d.2).2).1)).bind fun(g:ByteArray)=>cond (seqs g ByteArray.empty) (some (Sum.inr (Sum.inl ByteArray.empty))) ((idx a c).bind fun(i:Int×Int×Int×Unit)=>(Ng (i.1) ((i.2).1) (((i.2).2).1)).bind fun(j:ByteArray)=>(cat b j).bind fun(k:ByteArray)=>(cat k (ByteArray.mk #[10])).bind fun(l:ByteArray)=>some (Sum.inl (l,(IntKind.wrap .i64 (c+1)))))) (some (Sum.inr (Sum.inr b)))
def Nle (a:List (Int×Int×Int×Unit)):Option (ByteArray⊕ByteArray):=
 nloop (fun(s:ByteArray×Int)=>((N31 a s.1 s.2).map (Sum.elim (fun(t:ByteArray×Int)=>Sum.inl (t.1,t.2)) (Sum.elim (fun(t:ByteArray)=>Sum.inr (Sum.inl t)) (fun(t:ByteArray)=>Sum.inr (Sum.inr t)))):Option ((ByteArray×Int)⊕(ByteArray⊕ByteArray)))) LL (ByteArray.empty,0)
def Nn0 (a:List (Int×Int×Int×Unit)):Option (ByteArray⊕ByteArray):=
 (Nle a).map (Sum.elim (fun(t:ByteArray)=>(Sum.inr t)) (fun(t:ByteArray)=>(Sum.inl t)))
def Nku (a:List (Int×Int×Int×Unit)):Option (ByteArray⊕ByteArray):=
 (N88).bind (fun(t:Unit)=>Nn0 a)
def Ncn (a:ByteArray):Option (ByteArray):=
 some a
def Nlv (a:List (Int×Int×Int×Unit)):Option (ByteArray):=
 (Nku a).bind (Sum.elim (fun(t:ByteArray)=>Ncn t) (fun e=>some ((fun(t:ByteArray)=>t) e)))
def Ngl (a:List (Int×Int×Int×Unit)):Option (ByteArray):=
 (Nbe).bind (fun(t:Unit)=>Nlv a)
@[irreducible] def N2z (a:List (Int×Int×Int×Unit)):Option (ByteArray):=
 Ngl a
def N7c (a:ByteArray) (b:List Int) (c:Int):Option ((ByteArray×Int)):=
 cond ((((ByteArray.size a:Nat):Int))==0) (some ((ByteArray.mk #[10]),c)) ((N0 (((ByteArray.size a:Nat):Int)) b c).bind fun(d:Int×Int)=>(inc (d.1) (ByteArray.size a)).bind fun(g:Nat)=>(inc (IntKind.wrap .i64 ((d.1)+1)) (ByteArray.size a)).bind fun(i:Nat)=>(N0 6 b (d.2)).bind fun(j:Int×Int)=>(idx ([ByteArray.empty,(ByteArray.mk #[48]),(ByteArray.mk #[32]),(ByteArray.mk #[10]),(ByteArray.mk #[45]),(ByteArray.mk #[98,97,99,107])]) (j.1)).bind fun(k:ByteArray)=>(cat (a.extract 0 g) k).bind fun(l:ByteArray)=>(cat l (a.extract i (ByteArray.size a))).bind fun(m:ByteArray)=>some (m,(j.2)))
@[irreducible] def N2y (a:ByteArray) (b:List Int) (c:Int):Option (ByteArray×Int):=
 N7c a b c
def Nbf (a:List Int):Option (ByteArray):=
 (N3r a).bind fun(b:List Int)=>(N33 b 0).bind fun(c:Int×(List (Int×Int×Int×Unit)))=>(N2z (c.2)).bind fun(d:ByteArray)=>(N0 3 b (c.1)).bind fun(g:Int×Int)=>cond ((g.1)==0) ((N2y d b (g.2)).bind fun(i:ByteArray×Int)=>some (i.1)) (cond ((g.1)==1) ((N0 (IntKind.wrap .i64 ((((ByteArray.size d:Nat):Int))+1)) b (g.2)).bind fun(j:Int×Int)=>(inc (j.1) (ByteArray.size d)).bind fun(k:Nat)=>some (d.extract 0 k)) (some d))
@[irreducible] def N4b (a:List Int):Option (ByteArray):=
 Nbf a
def N7d (x1 x2:ByteArray):Option (Int):=sidx x1 x2
def N45 (a b:ByteArray):Option ((ByteArray×ByteArray×Bool)):=
 (N7d a b).bind fun(c:Int)=>cond (decide (c≥0)) ((inc c (ByteArray.size a)).bind fun(d:Nat)=>(inc (IntKind.wrap .i64 (c+(((ByteArray.size b:Nat):Int)))) (ByteArray.size a)).bind fun(g:Nat)=>some ((a.extract 0 d),(a.extract g (ByteArray.size a)),true)) (some (a,ByteArray.empty,false))
@[irreducible] def N2s (a b:ByteArray):Option (ByteArray×ByteArray×Bool):=
 N45 a b
def N3a (a b:ByteArray):Option ((ByteArray×ByteArray×Bool)):=
 (N2s a b).bind fun(c:ByteArray×ByteArray×Bool)=>some ((c.1),(c.2.1),(c.2.2))
@[irreducible] def N1b (a b:ByteArray):Option (ByteArray×ByteArray×Bool):=
 N3a a b
def N7t (a b:ByteArray):Option (Int):=
 (N7d a b).bind fun(c:Int)=>some c
@[irreducible] def N46 (a b:ByteArray):Option (Int):=
 N7t a b
def Nbl (a b:ByteArray) (c:Int):Option ((Int×(List ByteArray))⊕(Nat×(List ByteArray))):=
 cond (c==0) (some (Sum.inr ((List.length ([]:List ByteArray)),([]:List ByteArray)))) (cond (seqs b ByteArray.empty) (none) (cond (decide (c<0)) (none) ((mk (imin c (IntKind.wrap .i64 ((((ByteArray.size a:Nat):Int))+1))) (imin c (IntKind.wrap .i64 ((((ByteArray.size a:Nat):Int))+1)))).bind fun(d:Nat)=>some (Sum.inl ((IntKind.wrap .i64 ((imin c (IntKind.wrap .i64 ((((ByteArray.size a:Nat):Int))+1)))-1)),(List.replicate d ByteArray.empty))))))
def N3i (a b:ByteArray) (c d g:Int) (i:List ByteArray):Option ((ByteArray×Int×(List ByteArray))⊕(ByteArray×Int×(List ByteArray))):=
 cond (decide (g<d)) ((N46 a b).bind fun(j:Int)=>cond (decide (j<0)) (some (Sum.inr (a,g,i))) ((inc (IntKind.wrap .i64 (j+c)) (ByteArray.size a)).bind fun(k:Nat)=>(inb g (List.length i)).bind fun(l:Nat)=>(inc (IntKind.wrap .i64 (j+(((ByteArray.size b:Nat):Int)))) (ByteArray.size a)).bind fun(m:Nat)=>some (Sum.inl ((a.extract m (ByteArray.size a)),(IntKind.wrap .i64 (g+1)),(i.set l (a.extract 0 k)))))) (some (Sum.inr (a,g,i)))
def Nod (a b:ByteArray) (c d:Int) (g:List ByteArray):Option ((ByteArray×Int×(List ByteArray))):=
 nloop (fun(s:ByteArray×Int×(List ByteArray))=>((N3i s.1 b c d s.2.1 s.2.2).map (Sum.elim (fun(t:ByteArray×Int×(List ByteArray))=>Sum.inl (t.1,t.2.1,t.2.2)) (fun(t:ByteArray×Int×(List ByteArray))=>Sum.inr t)):Option ((ByteArray×Int×(List ByteArray))⊕((ByteArray×Int×(List ByteArray)))))) LL (a,0,g)
def Nly (a b:ByteArray) (c d:Int) (g:List ByteArray):Option ((ByteArray×Int×(List ByteArray))):=
 (Nod a b c d g).map (fun(t:ByteArray×Int×(List ByteArray))=>(t.1,t.2.1,t.2.2))
def N6y (a:ByteArray) (b:Int) (c:List ByteArray):Option ((Nat×(List ByteArray))):=
 (inb b (List.length c)).bind fun(d:Nat)=>(inc (IntKind.wrap .i64 (b+1)) (List.length (c.set d a))).bind fun(g:Nat)=>some ((g-0),(c.set d a))
def Nl7 (a b:ByteArray) (c d:Int) (g:List ByteArray):Option ((Nat×(List ByteArray))):=
 (Nly a b c d g).bind (fun(t:ByteArray×Int×(List ByteArray))=>N6y t.1 t.2.1 t.2.2)
def Ngf (a b:ByteArray) (c d:Int):Option ((Nat×(List ByteArray))):=
 (Nbl a b d).bind (Sum.elim (fun(t:Int×(List ByteArray))=>Nl7 a b c t.1 t.2) (fun e=>some ((fun(t:Nat×(List ByteArray))=>t) e)))
@[irreducible] def N4u (a b:ByteArray) (c d:Int):Option (Nat×(List ByteArray)):=
 Ngf a b c d
def N7j (a b:ByteArray) (c:Int):Option ((Nat×(List ByteArray))):=
 (N4u a b 0 c).bind fun(d:Nat×(List ByteArray))=>some ((d.1),(d.2))
@[irreducible] def N3x (a b:ByteArray) (c:Int):Option (Nat×(List ByteArray)):=
 N7j a b c
def N93:Option (Unit):=
 some ()
def Nb0:Option ((ByteArray×ByteArray×ByteArray×ByteArray×ByteArray×ByteArray)):=
 (same (List.length tabW) 6).bind fun(a:Unit)=>some ((tabW.getD 0 ByteArray.empty),(tabW.getD 1 ByteArray.empty),(tabW.getD 2 ByteArray.empty),(tabW.getD 3 ByteArray.empty),(tabW.getD 4 ByteArray.empty),(tabW.getD 5 ByteArray.empty))
def N6i (a b c d g i j:ByteArray) (k:Int):Option (Int⊕Int⊕Unit):=
 cond (decide (k<6)) ((idx [b,c,d,g,i,j] k).bind fun(l:ByteArray)=>cond (seqs l a) (some (Sum.inr (Sum.inl k))) (some (Sum.inl (IntKind.wrap .i64 (k+1))))) (some (Sum.inr (Sum.inr ())))
def Nou (a b c d g i j:ByteArray):Option (Int⊕Unit):=
 nloop (fun(s:Int)=>((N6i a b c d g i j s).map (Sum.elim (fun(t:Int)=>Sum.inl t) (Sum.elim (fun(t:Int)=>Sum.inr (Sum.inl t)) (fun(t:Unit)=>Sum.inr (Sum.inr t)))):Option ((Int)⊕(Int⊕Unit)))) LL 0
def Nn4 (a b c d g i j:ByteArray):Option (Unit⊕Int):=
 (Nou a b c d g i j).map (Sum.elim (fun(t:Int)=>(Sum.inr t)) (fun(t:Unit)=>(Sum.inl ())))
def Nje (a:ByteArray):Option (Unit⊕Int):=
 (Nb0).bind (fun(t:ByteArray×ByteArray×ByteArray×ByteArray×ByteArray×ByteArray)=>Nn4 a t.1 t.2.1 t.2.2.1 t.2.2.2.1 t.2.2.2.2.1 t.2.2.2.2.2)
def N7u:Option (Int):=
 some (-1)
def Np3 (a:ByteArray):Option (Int):=
 (Nje a).bind (Sum.elim (fun(t:Unit)=>N7u) (fun e=>some ((fun(t:Int)=>t) e)))
def Nhu (a:ByteArray):Option (Int):=
 (N93).bind (fun(t:Unit)=>Np3 a)
@[irreducible] def Nk (a:ByteArray):Option (Int):=
 Nhu a
def N6s (x1:ByteArray):Option (Int×Bool):=atoiS x1
def N6o (a:Int):Option (Int):=
 cond (a==0) (some 2) (cond (a==1) (some 1) (some 0))
@[irreducible] def Np (a:Int):Option (Int):=
 N6o a
def N7q (a b c:Int):Option (Bool):=
 (Np a).bind fun(d:Int)=>cond (decide (d>0)) (cond (decide (d>1)) (some true) (some (c==0))) (cond (b==0) (cond (decide (d>1)) (some true) (some (c==0))) (some false))
@[irreducible] def N36 (a b c:Int):Option (Bool):=
 N7q a b c
def Nbo (a b c:Int):Option (Bool):=
 cond (decide (a≥0)) (cond (decide (a<6)) ((N36 a b c).bind fun(d:Bool)=>cond d (cond (decide (b≥0)) (cond (decide (b≤99)) (cond (decide (c≥0)) (some (decide (c≤99))) (some false)) (some false)) (some false)) (some false)) (some false)) (some false)
@[irreducible] def N62 (a b c:Int):Option (Bool):=
 Nbo a b c
def Nl0 (x1:Int):Option (ByteArray):=itoaS x1
def Nao (a b c:Int):Option (ByteArray⊕ByteArray):=
 (N62 a b c).bind fun(d:Bool)=>cond (!d) (some (Sum.inr ByteArray.empty)) ((same (List.length tabW) 6).bind fun(g:Unit)=>(idx tabW a).bind fun(i:ByteArray)=>some (Sum.inl i))
def N4r (a b c:Int):Option (((List Int)×Int)):=
 (Np a).bind fun(d:Int)=>(inc d (List.length ([b,c]))).bind fun(g:Nat)=>some (((([b,c]).take g).drop 0),(((List.length ((([b,c]).take g).drop 0):Nat):Int)))
def N5k (a:ByteArray) (b:List Int) (c d:Int):Option ((ByteArray×Int)⊕ByteArray):=
 cond (decide (d<c)) ((idx b d).bind fun(g:Int)=>(Nl0 g).bind fun(i:ByteArray)=>(cat (ByteArray.mk #[32]) i).bind fun(j:ByteArray)=>(cat a j).bind fun(k:ByteArray)=>some (Sum.inl (k,(IntKind.wrap .i64 (d+1))))) (some (Sum.inr a))
def N99 (a:ByteArray) (b:List Int) (c:Int):Option (ByteArray):=
 nloop (fun(s:ByteArray×Int)=>((N5k s.1 b c s.2).map (Sum.elim (fun(t:ByteArray×Int)=>Sum.inl (t.1,t.2)) (fun(t:ByteArray)=>Sum.inr t)):Option ((ByteArray×Int)⊕(ByteArray)))) LL (a,0)
def Nad (a:ByteArray) (b:List Int) (c:Int):Option (ByteArray):=
 (N99 a b c).map (fun(t:ByteArray)=>t)
def N81 (a:ByteArray) (b c d:Int):Option (ByteArray):=
 (N4r b c d).bind (fun(t:(List Int)×Int)=>Nad a t.1 t.2)
def N5a (a:ByteArray):Option (ByteArray):=
 some a
def Na0 (a:ByteArray) (b c d:Int):Option (ByteArray):=
 (N81 a b c d).bind (fun(t:ByteArray)=>N5a t)
def Nhl (a b c:Int):Option (ByteArray):=
 (Nao a b c).bind (Sum.elim (fun(t:ByteArray)=>Na0 t a b c) (fun e=>some ((fun(t:ByteArray)=>t) e)))
@[irreducible] def N3 (a b c:Int):Option (ByteArray):=
 Nhl a b c
def N6f (a:ByteArray):Option ((Bool×Int×Int×Int)):=
 (N3x a (ByteArray.mk #[32]) 3).bind fun(b:Nat×(List ByteArray))=>(inb 0 (b.1)).bind fun(c:Nat)=>((b.2)[(0+c)]?).bind fun(d:ByteArray)=>(Nk d).bind fun(g:Int)=>cond (decide (((((b.1):Nat):Int))>1)) ((inb 1 (b.1)).bind fun(i:Nat)=>((b.2)[(0+i)]?).bind fun(j:ByteArray)=>(N6s j).bind fun(k:Int×Bool)=>cond (decide (((((b.1):Nat):Int))>2)) ((inb 2 (b.1)).bind fun(l:Nat)=>((b.2)[(0+l)]?).bind fun(m:ByteArray)=>(N6s m).bind fun(o:Int×Bool)=>cond (seqs a ByteArray.empty) (some (false,0,0,0)) ((N3 g (k.1) (o.1)).bind fun(p:ByteArray)=>cond (!(seqs p a)) (some (false,0,0,0)) (some (true,g,(k.1),(o.1))))) (cond (seqs a ByteArray.empty) (some (false,0,0,0)) ((N3 g (k.1) 0).bind fun(q:ByteArray)=>cond (!(seqs q a)) (some (false,0,0,0)) (some (true,g,(k.1),0))))) (cond (decide (((((b.1):Nat):Int))>2)) ((inb 2 (b.1)).bind fun(w:Nat)=>((b.2)[(0+w)]?).bind fun(y:ByteArray)=>(N6s y).bind fun(z:Int×Bool)=>cond (seqs a ByteArray.empty) (some (false,0,0,0)) ((N3 g 0 (z.1)).bind fun(a0:ByteArray)=>cond (!(seqs a0 a)) (some (false,0,0,0)) (some (true,g,0,(z.1))))) (cond (seqs a ByteArray.empty) (some (false,0,0,0)) ((N3 g 0 0).bind fun(a1:ByteArray)=>cond (!(seqs a1 a)) (some (false,0,0,0)) (some (true,g,0,0)))))
@[irreducible] def N1f (a:ByteArray):Option (Bool×Int×Int×Int):=
 N6f a
def Nbk:Option (Unit):=
 some ()
def N3u (a:ByteArray) (b:Int) (c:List (Int×Int×Int×Unit)):Option ((Int×(List (Int×Int×Int×Unit)))⊕(Int×(List (Int×Int×Int×Unit)))):=
 (inc b (ByteArray.size a)).bind fun(d:Nat)=>(N1b (a.extract d (ByteArray.size a)) (ByteArray.mk #[10])).bind fun(g:ByteArray×ByteArray×Bool)=>(N1f (g.1)).bind fun(i:Bool×Int×Int×Int)=>cond (!(g.2.2)) (some (Sum.inr (b,c))) (cond (!(i.1)) (some (Sum.inr (b,c))) ((room ((List.length c)+List.length ([((i.2.1),((i.2.2.1),((i.2.2.2),())))]))).bind fun(j:Unit)=>some (Sum.inl ((IntKind.wrap .i64 (b+(IntKind.wrap .i64 ((((ByteArray.size (g.1):Nat):Int))+1)))),(c++([((i.2.1),((i.2.2.1),((i.2.2.2),())))]))))))
def Nnm (a:ByteArray):Option ((Int×(List (Int×Int×Int×Unit)))):=
 nloop (fun(s:Int×(List (Int×Int×Int×Unit)))=>((N3u a s.1 s.2).map (Sum.elim (fun(t:Int×(List (Int×Int×Int×Unit)))=>Sum.inl (t.1,t.2)) (fun(t:Int×(List (Int×Int×Int×Unit)))=>Sum.inr t)):Option ((Int×(List (Int×Int×Int×Unit)))⊕((Int×(List (Int×Int×Int×Unit))))))) LL (0,([]:List (Int×Int×Int×Unit)))
def Nk3 (a:ByteArray):Option ((Int×(List (Int×Int×Int×Unit)))):=
 (Nnm a).map (fun(t:Int×(List (Int×Int×Int×Unit)))=>t)
def Nhx (a:ByteArray):Option ((Int×(List (Int×Int×Int×Unit)))):=
 (Nbk).bind (fun(t:Unit)=>Nk3 a)
@[irreducible] def N29 (a:ByteArray):Option (Int×(List (Int×Int×Int×Unit))):=
 Nhx a
def Nau:Option (Unit):=
 some ()
def N87:Option (Unit):=
 some ()
def N3c (a:ByteArray) (b c d:Int) (g:List ByteArray):Option ((Int×Int×(List ByteArray))⊕(Int×(List ByteArray))):=
 cond (decide (d<(((ByteArray.size a:Nat):Int)))) ((bidx a d).bind fun(i:Int)=>cond (i==b) ((inc d (ByteArray.size a)).bind fun(j:Nat)=>(inc c j).bind fun(k:Nat)=>(room ((List.length g)+List.length ([(a.extract k j)]))).bind fun(l:Unit)=>some (Sum.inl ((IntKind.wrap .i64 (d+1)),(IntKind.wrap .i64 (d+1)),(g++([(a.extract k j)]))))) (some (Sum.inl (c,(IntKind.wrap .i64 (d+1)),g)))) (some (Sum.inr (c,g)))
def Nnw (a:ByteArray) (b:Int):Option ((Int×(List ByteArray))):=
 nloop (fun(s:Int×Int×(List ByteArray))=>((N3c a b s.1 s.2.1 s.2.2).map (Sum.elim (fun(t:Int×Int×(List ByteArray))=>Sum.inl (t.1,t.2.1,t.2.2)) (fun(t:Int×(List ByteArray))=>Sum.inr t)):Option ((Int×Int×(List ByteArray))⊕((Int×(List ByteArray)))))) LL (0,0,([]:List ByteArray))
def No5 (a:ByteArray) (b:Int):Option ((Int×(List ByteArray))):=
 (Nnw a b).map (fun(t:Int×(List ByteArray))=>(t.1,t.2))
def Np5 (a:ByteArray) (b:Int):Option ((Int×(List ByteArray))):=
 (N87).bind (fun(t:Unit)=>No5 a b)
def N9s (a:ByteArray) (b:Int) (c:List ByteArray):Option (((List ByteArray))):=
 (inc b (ByteArray.size a)).bind fun(d:Nat)=>(room ((List.length c)+List.length ([(a.extract d (ByteArray.size a))]))).bind fun(g:Unit)=>some (c++([(a.extract d (ByteArray.size a))]))
def Nmq (a:ByteArray) (b:Int):Option (((List ByteArray))):=
 (Np5 a b).bind (fun(t:Int×(List ByteArray))=>N9s a t.1 t.2)
def Ngc (a:ByteArray) (b:Int):Option (((List ByteArray))):=
 (Nau).bind (fun(t:Unit)=>Nmq a b)
@[irreducible] def N35 (a:ByteArray) (b:Int):Option ((List ByteArray)):=
 Ngc a b
def N9c (a:ByteArray):Option (Unit⊕Int):=
 (N7 (((ByteArray.size a:Nat):Int)) 1 6).bind fun(b:Bool)=>cond (!b) (some (Sum.inr (-1))) (cond (decide ((((ByteArray.size a:Nat):Int))>1)) ((bidx a 0).bind fun(c:Int)=>cond (c==48) (some (Sum.inr (-1))) (some (Sum.inl ()))) (some (Sum.inl ())))
def Nca:Option (Unit):=
 some ()
def N67 (a:ByteArray) (b c:Int):Option ((Int×Int)⊕Int⊕Int):=
 cond (decide (c<(((ByteArray.size a:Nat):Int)))) ((bidx a c).bind fun(d:Int)=>cond (decide (d<48)) (some (Sum.inr (Sum.inl (-1)))) ((bidx a c).bind fun(g:Int)=>cond (decide (g>57)) (some (Sum.inr (Sum.inl (-1)))) ((bidx a c).bind fun(i:Int)=>some (Sum.inl ((IntKind.wrap .i64 ((IntKind.wrap .i64 (10*b))+(IntKind.wrap .i64 (IntKind.wrap .u8 (i-48))))),(IntKind.wrap .i64 (c+1))))))) (some (Sum.inr (Sum.inr b)))
def Nlm (a:ByteArray):Option (Int⊕Int):=
 nloop (fun(s:Int×Int)=>((N67 a s.1 s.2).map (Sum.elim (fun(t:Int×Int)=>Sum.inl (t.1,t.2)) (Sum.elim (fun(t:Int)=>Sum.inr (Sum.inl t)) (fun(t:Int)=>Sum.inr (Sum.inr t)))):Option ((Int×Int)⊕(Int⊕Int)))) LL (0,0)
def No6 (a:ByteArray):Option (Int⊕Int):=
 (Nlm a).map (Sum.elim (fun(t:Int)=>(Sum.inr t)) (fun(t:Int)=>(Sum.inl t)))
def Nmv (a:ByteArray):Option (Int⊕Int):=
 (Nca).bind (fun(t:Unit)=>No6 a)
def Nbv (a:Int):Option (Int):=
 some a
def Nhc (a:ByteArray):Option (Int):=
 (Nmv a).bind (Sum.elim (fun(t:Int)=>Nbv t) (fun e=>some ((fun(t:Int)=>t) e)))
def Ngo (a:ByteArray):Option (Int):=
 (N9c a).bind (Sum.elim (fun(t:Unit)=>Nhc a) (fun e=>some ((fun(t:Int)=>t) e)))
@[irreducible] def Nt (a:ByteArray):Option (Int):=
 Ngo a
def Nc5 (a:ByteArray):Option (((List ByteArray)×(List (Int×Int×Int×Unit)))):=
 (N35 a 32).bind fun(b:List ByteArray)=>some (b,([(2,(0,(0,()))),(3,(0,(0,()))),(4,(0,(0,()))),(5,(0,(0,())))]))
def N8f (a:List ByteArray):Option (Bool):=
 some ((((List.length a:Nat):Int))==3)
def Nby (a:List ByteArray) (b:List (Int×Int×Int×Unit)):Option (((List (Int×Int×Int×Unit)))):=
 (inb 1 (List.length a)).bind fun(c:Nat)=>(a[c]?).bind fun(d:ByteArray)=>(inb 2 (List.length a)).bind fun(g:Nat)=>(a[g]?).bind fun(i:ByteArray)=>(Nt d).bind fun(j:Int)=>(Nt i).bind fun(k:Int)=>(room ((List.length b)+List.length ([(0,(j,(k,())))]))).bind fun(l:Unit)=>some (b++([(0,(j,(k,())))]))
def N8n:Option (Unit):=
 some ()
def Nn1 (a:Bool) (b:List ByteArray) (c:List (Int×Int×Int×Unit)):Option (((List (Int×Int×Int×Unit)))):=
 cond a ((Nby b c).map (fun(t:(List (Int×Int×Int×Unit)))=>t)) ((N8n).map (fun(t:Unit)=>c))
def Nnd (a:List ByteArray) (b:List (Int×Int×Int×Unit)):Option (((List (Int×Int×Int×Unit)))):=
 (N8f a).bind (fun(t:Bool)=>Nn1 t a b)
def N7a (a:List ByteArray) (b:List (Int×Int×Int×Unit)):Option (((List (Int×Int×Int×Unit)))):=
 cond ((((List.length a:Nat):Int))==2) ((inb 1 (List.length a)).bind fun(c:Nat)=>(a[c]?).bind fun(d:ByteArray)=>(Nt d).bind fun(g:Int)=>(room ((List.length b)+List.length ([(1,(g,(0,())))]))).bind fun(i:Unit)=>some (b++([(1,(g,(0,())))]))) (some b)
def N97:Option (Unit):=
 some ()
def N4g (a:ByteArray) (b:Int) (c:List (Int×Int×Int×Unit)):Option (Int⊕(Bool×Int×Int×Int)⊕Unit):=
 cond (decide (b<(((List.length c:Nat):Int)))) (cond (!(seqs a ByteArray.empty)) ((inb b (List.length c)).bind fun(d:Nat)=>(c[d]?).bind fun(g:Int×Int×Int×Unit)=>(Ng (g.1) ((g.2).1) (((g.2).2).1)).bind fun(i:ByteArray)=>cond (seqs i a) ((inb b (List.length c)).bind fun(j:Nat)=>(c[j]?).bind fun(k:Int×Int×Int×Unit)=>some (Sum.inr (Sum.inl (true,(k.1),((k.2).1),(((k.2).2).1))))) (some (Sum.inl (IntKind.wrap .i64 (b+1))))) (some (Sum.inl (IntKind.wrap .i64 (b+1))))) (some (Sum.inr (Sum.inr ())))
def Njw (a:ByteArray) (b:List (Int×Int×Int×Unit)):Option ((Bool×Int×Int×Int)⊕Unit):=
 nloop (fun(s:Int)=>((N4g a s b).map (Sum.elim (fun(t:Int)=>Sum.inl t) (Sum.elim (fun(t:Bool×Int×Int×Int)=>Sum.inr (Sum.inl t)) (fun(t:Unit)=>Sum.inr (Sum.inr t)))):Option ((Int)⊕((Bool×Int×Int×Int)⊕Unit)))) LL 0
def No4 (a:ByteArray) (b:List (Int×Int×Int×Unit)):Option (Unit⊕(Bool×Int×Int×Int)):=
 (Njw a b).map (Sum.elim (fun(t:Bool×Int×Int×Int)=>(Sum.inr t)) (fun(t:Unit)=>(Sum.inl ())))
def Nk9 (a:ByteArray) (b:List (Int×Int×Int×Unit)):Option (Unit⊕(Bool×Int×Int×Int)):=
 (N97).bind (fun(t:Unit)=>No4 a b)
def Nav:Option ((Bool×Int×Int×Int)):=
 some (false,0,0,0)
def Nei (a:ByteArray) (b:List (Int×Int×Int×Unit)):Option ((Bool×Int×Int×Int)):=
 (Nk9 a b).bind (Sum.elim (fun(t:Unit)=>Nav) (fun e=>some ((fun(t:Bool×Int×Int×Int)=>t) e)))
def Niy (a:ByteArray) (b:List ByteArray) (c:List (Int×Int×Int×Unit)):Option ((Bool×Int×Int×Int)):=
 (N7a b c).bind (fun(t:(List (Int×Int×Int×Unit)))=>Nei a t)
def Nlg (a:ByteArray) (b:List ByteArray) (c:List (Int×Int×Int×Unit)):Option ((Bool×Int×Int×Int)):=
 (Nnd b c).bind (fun(t:(List (Int×Int×Int×Unit)))=>Niy a b t)
def Nea (a:ByteArray):Option ((Bool×Int×Int×Int)):=
 (Nc5 a).bind (fun(t:(List ByteArray)×(List (Int×Int×Int×Unit)))=>Nlg a t.1 t.2)
@[irreducible] def N2o (a:ByteArray):Option (Bool×Int×Int×Int):=
 Nea a
def Ncc:Option (Unit):=
 some ()
def N82:Option (Unit):=
 some ()
def N2d (a:ByteArray) (b c:Int) (d:List (Int×Int×Int×Unit)):Option ((Int×Int×(List (Int×Int×Int×Unit)))⊕(Int×(List (Int×Int×Int×Unit)))⊕(Int×(List (Int×Int×Int×Unit)))):=
 cond (decide (c<(((ByteArray.size a:Nat):Int)))) ((bidx a c).bind fun(g:Int)=>cond (g==10) ((inc c (ByteArray.size a)).bind fun(i:Nat)=>(inc b i).bind fun(j:Nat)=>(N2o (a.extract j i)).bind fun(k:Bool×Int×Int×Int)=>cond (!(k.1)) (some (Sum.inr (Sum.inl (b,d)))) ((room ((List.length d)+List.length ([((k.2.1),((k.2.2.1),((k.2.2.2),())))]))).bind fun(l:Unit)=>some (Sum.inl ((IntKind.wrap .i64 (c+1)),(IntKind.wrap .i64 (c+1)),(d++([((k.2.1),((k.2.2.1),((k.2.2.2),())))])))))) (some (Sum.inl (b,(IntKind.wrap .i64 (c+1)),d)))) (some (Sum.inr (Sum.inr (b,d))))
def Nlo (a:ByteArray):Option ((Int×(List (Int×Int×Int×Unit)))⊕(Int×(List (Int×Int×Int×Unit)))):=
 nloop (fun(s:Int×Int×(List (Int×Int×Int×Unit)))=>((N2d a s.1 s.2.1 s.2.2).map (Sum.elim (fun(t:Int×Int×(List (Int×Int×Int×Unit)))=>Sum.inl (t.1,t.2.1,t.2.2)) (Sum.elim (fun(t:Int×(List (Int×Int×Int×Unit)))=>Sum.inr (Sum.inl t)) (fun(t:Int×(List (Int×Int×Int×Unit)))=>Sum.inr (Sum.inr t)))):Option ((Int×Int×(List (Int×Int×Int×Unit)))⊕((Int×(List (Int×Int×Int×Unit)))⊕(Int×(List (Int×Int×Int×Unit))))))) LL (0,0,([]:List (Int×Int×Int×Unit)))
def Nlp (a:ByteArray):Option ((Int×(List (Int×Int×Int×Unit)))⊕(Int×(List (Int×Int×Int×Unit)))):=
 (Nlo a).map (Sum.elim (fun(t:Int×(List (Int×Int×Int×Unit)))=>(Sum.inr t)) (fun(t:Int×(List (Int×Int×Int×Unit)))=>(Sum.inl (t.1,t.2))))
def Njy (a:ByteArray):Option ((Int×(List (Int×Int×Int×Unit)))⊕(Int×(List (Int×Int×Int×Unit)))):=
 (N82).bind (fun(t:Unit)=>Nlp a)
def N8l (a:Int) (b:List (Int×Int×Int×Unit)):Option ((Int×(List (Int×Int×Int×Unit)))):=
 some (a,b)
def Noa (a:ByteArray):Option ((Int×(List (Int×Int×Int×Unit)))):=
 (Njy a).bind (Sum.elim (fun(t:Int×(List (Int×Int×Int×Unit)))=>N8l t.1 t.2) (fun e=>some ((fun(t:Int×(List (Int×Int×Int×Unit)))=>t) e)))
def Ngm (a:ByteArray):Option ((Int×(List (Int×Int×Int×Unit)))):=
 (Ncc).bind (fun(t:Unit)=>Noa a)
@[irreducible] def N41 (a:ByteArray):Option (Int×(List (Int×Int×Int×Unit))):=
 Ngm a
def Ncm (a b:List (Int×Int×Int×Unit)):Option (Unit⊕Bool):=
 cond ((((List.length a:Nat):Int)) !=(((List.length b:Nat):Int))) (some (Sum.inr false)) (some (Sum.inl ()))
def Ncb:Option (Unit):=
 some ()
def N5q (a b:List (Int×Int×Int×Unit)) (c:Int):Option (Int⊕Bool⊕Unit):=
 cond (decide (c<(((List.length a:Nat):Int)))) ((idx a c).bind fun(d:Int×Int×Int×Unit)=>(idx b c).bind fun(g:Int×Int×Int×Unit)=>cond (!(((d.1)==(g.1))&&((((d.2).1)==((g.2).1))&&(((((d.2).2).1)==(((g.2).2).1))&&true)))) (some (Sum.inr (Sum.inl false))) (some (Sum.inl (IntKind.wrap .i64 (c+1))))) (some (Sum.inr (Sum.inr ())))
def Nla (a b:List (Int×Int×Int×Unit)):Option (Bool⊕Unit):=
 nloop (fun(s:Int)=>((N5q a b s).map (Sum.elim (fun(t:Int)=>Sum.inl t) (Sum.elim (fun(t:Bool)=>Sum.inr (Sum.inl t)) (fun(t:Unit)=>Sum.inr (Sum.inr t)))):Option ((Int)⊕(Bool⊕Unit)))) LL 0
def Nob (a b:List (Int×Int×Int×Unit)):Option (Unit⊕Bool):=
 (Nla a b).map (Sum.elim (fun(t:Bool)=>(Sum.inr t)) (fun(t:Unit)=>(Sum.inl ())))
def Nkl (a b:List (Int×Int×Int×Unit)):Option (Unit⊕Bool):=
 (Ncb).bind (fun(t:Unit)=>Nob a b)
def Nbx:Option (Bool):=
 some true
def Nk5 (a b:List (Int×Int×Int×Unit)):Option (Bool):=
 (Nkl a b).bind (Sum.elim (fun(t:Unit)=>Nbx) (fun e=>some ((fun(t:Bool)=>t) e)))
def Ni0 (a b:List (Int×Int×Int×Unit)):Option (Bool):=
 (Ncm a b).bind (Sum.elim (fun(t:Unit)=>Nk5 a b) (fun e=>some ((fun(t:Bool)=>t) e)))
@[irreducible] def N2i (a b:List (Int×Int×Int×Unit)):Option (Bool):=
 Ni0 a b
def N6d (a:List Int):Option ((Bool×(List Int))):=
 (N9 a).bind fun(b:Bool)=>cond (!b) (some (false,([]:List Int))) ((room ((List.length ([]:List Int))+List.length a)).bind fun(c:Unit)=>some (true,(([]:List Int)++a)))
@[irreducible] def N3v (a:List Int):Option (Bool×(List Int)):=
 N6d a
def N9a:Option (Unit):=
 some ()
def Na6:Option (Unit):=
 some ()
def N37 (a:Int) (b:List (List Int)):Option (Int⊕Bool⊕Unit):=
 cond (decide (a<(((List.length b:Nat):Int)))) ((idx b a).bind fun(c:List Int)=>(N9 c).bind fun(d:Bool)=>cond (!d) (some (Sum.inr (Sum.inl false))) (some (Sum.inl (IntKind.wrap .i64 (a+1))))) (some (Sum.inr (Sum.inr ())))
def Nnv (a:List (List Int)):Option (Bool⊕Unit):=
 nloop (fun(s:Int)=>((N37 s a).map (Sum.elim (fun(t:Int)=>Sum.inl t) (Sum.elim (fun(t:Bool)=>Sum.inr (Sum.inl t)) (fun(t:Unit)=>Sum.inr (Sum.inr t)))):Option ((Int)⊕(Bool⊕Unit)))) LL 0
def Nmz (a:List (List Int)):Option (Unit⊕Bool):=
 (Nnv a).map (Sum.elim (fun(t:Bool)=>(Sum.inr t)) (fun(t:Unit)=>(Sum.inl ())))
def Nnl (a:List (List Int)):Option (Unit⊕Bool):=
 (Na6).bind (fun(t:Unit)=>Nmz a)
def Ncj (a:List Int) (b:List (List Int)):Option (Bool):=
 (N9 a).bind fun(c:Bool)=>cond c (some (decide ((((List.length b:Nat):Int))≤8))) (some false)
def Nka (a:List Int) (b:List (List Int)):Option (Bool):=
 (Nnl b).bind (Sum.elim (fun(t:Unit)=>Ncj a b) (fun e=>some ((fun(t:Bool)=>t) e)))
def Ngb (a:List Int) (b:List (List Int)):Option (Bool):=
 (N9a).bind (fun(t:Unit)=>Nka a b)
@[irreducible] def N13 (a:List Int) (b:List (List Int)):Option (Bool):=
 Ngb a b
def N9q (a:List Int):Option (((List Int))):=
 (room ((List.length ([]:List Int))+List.length a)).bind fun(b:Unit)=>some (([]:List Int)++a)
def N9t:Option (Unit):=
 some ()
def N50 (a:Int) (b c:List (List Int)):Option ((Int×(List (List Int)))⊕((List (List Int)))):=
 cond (decide (a<(((List.length b:Nat):Int)))) ((idx b a).bind fun(d:List Int)=>(room (List.length d)).bind fun(g:Unit)=>(room (List.length c+1)).bind fun(i:Unit)=>some (Sum.inl ((IntKind.wrap .i64 (a+1)),((c++ [[]]).set (List.length c) d)))) (some (Sum.inr c))
def Nll (a:List (List Int)):Option (((List (List Int)))):=
 nloop (fun(s:Int×(List (List Int)))=>((N50 s.1 a s.2).map (Sum.elim (fun(t:Int×(List (List Int)))=>Sum.inl (t.1,t.2)) (fun(t:(List (List Int)))=>Sum.inr t)):Option ((Int×(List (List Int)))⊕(((List (List Int))))))) LL (0,([]:List (List Int)))
def Nol (a:List (List Int)):Option (((List (List Int)))):=
 (Nll a).map (fun(t:(List (List Int)))=>t)
def Nln (a:List (List Int)):Option (((List (List Int)))):=
 (N9t).bind (fun(t:Unit)=>Nol a)
def Ncd (a:List Int) (b:List (List Int)):Option (((List Int)×(List (List Int)))):=
 some (a,b)
def Now (a:List (List Int)) (b:List Int):Option (((List Int)×(List (List Int)))):=
 (Nln a).bind (fun(t:(List (List Int)))=>Ncd b t)
def Nh7 (a:List Int) (b:List (List Int)):Option (((List Int)×(List (List Int)))):=
 (N9q a).bind (fun(t:(List Int))=>Now b t)
@[irreducible] def N3n (a:List Int) (b:List (List Int)):Option ((List Int)×(List (List Int))):=
 Nh7 a b
def Nbh (a:List Int):Option (Int):=
 some (((List.length a:Nat):Int))
def Na9 (a:Int):Option (Int):=
 some (IntKind.wrap .i64 (a-1))
def N2f (a:List Int) (b c:Int) (d:List Int):Option ((Int×(List Int))⊕((List Int))):=
 cond (decide (c≥0)) ((N9 a).bind fun(g:Bool)=>cond g ((idx a c).bind fun(i:Int)=>cond (i==0) ((room ((List.length d)+List.length ([0]))).bind fun(j:Unit)=>some (Sum.inl ((IntKind.wrap .i64 (c-1)),(d++([0]))))) ((idx a c).bind fun(k:Int)=>(room ((List.length d)+List.length ([(IntKind.wrap .i64 ((IntKind.wrap .i64 (b+1))-k))]))).bind fun(l:Unit)=>some (Sum.inl ((IntKind.wrap .i64 (c-1)),(d++([(IntKind.wrap .i64 ((IntKind.wrap .i64 (b+1))-k))])))))) (some (Sum.inr d))) (some (Sum.inr d))
def Nnp (a:List Int) (b c:Int):Option (((List Int))):=
 nloop (fun(s:Int×(List Int))=>((N2f a b s.1 s.2).map (Sum.elim (fun(t:Int×(List Int))=>Sum.inl (t.1,t.2)) (fun(t:(List Int))=>Sum.inr t)):Option ((Int×(List Int))⊕(((List Int)))))) LL (c,([]:List Int))
def Nlh (a:List Int) (b c:Int):Option (((List Int))):=
 (Nnp a b c).map (fun(t:(List Int))=>t)
def Nm8 (a:List Int) (b:Int):Option (((List Int))):=
 (Na9 b).bind (fun(t:Int)=>Nlh a b t)
def Na7 (a:List Int):Option (((List Int))):=
 some a
def Nk8 (a:List Int) (b:Int):Option (((List Int))):=
 (Nm8 a b).bind (fun(t:(List Int))=>Na7 t)
def Nf2 (a:List Int):Option (((List Int))):=
 (Nbh a).bind (fun(t:Int)=>Nk8 a t)
@[irreducible] def N1v (a:List Int):Option ((List Int)):=
 Nf2 a
def N9b:Option (Unit):=
 some ()
def Nb2:Option (Unit):=
 some ()
def N39 (a:List Int) (b:Int):Option (Int⊕Int⊕Unit):=
 cond (decide (b<(((List.length a:Nat):Int)))) ((N9 a).bind fun(c:Bool)=>cond c ((idx a b).bind fun(d:Int)=>cond (d==0) (some (Sum.inr (Sum.inl (IntKind.wrap .i64 (b+1))))) (some (Sum.inl (IntKind.wrap .i64 (b+1))))) (some (Sum.inr (Sum.inr ())))) (some (Sum.inr (Sum.inr ())))
def Nkj (a:List Int):Option (Int⊕Unit):=
 nloop (fun(s:Int)=>((N39 a s).map (Sum.elim (fun(t:Int)=>Sum.inl t) (Sum.elim (fun(t:Int)=>Sum.inr (Sum.inl t)) (fun(t:Unit)=>Sum.inr (Sum.inr t)))):Option ((Int)⊕(Int⊕Unit)))) LL 0
def Nmd (a:List Int):Option (Unit⊕Int):=
 (Nkj a).map (Sum.elim (fun(t:Int)=>(Sum.inr t)) (fun(t:Unit)=>(Sum.inl ())))
def Nj5 (a:List Int):Option (Unit⊕Int):=
 (Nb2).bind (fun(t:Unit)=>Nmd a)
def Ncp:Option (Int):=
 some (-1)
def Nof (a:List Int):Option (Int):=
 (Nj5 a).bind (Sum.elim (fun(t:Unit)=>Ncp) (fun e=>some ((fun(t:Int)=>t) e)))
def Nk2 (a:List Int):Option (Int):=
 (N9b).bind (fun(t:Unit)=>Nof a)
@[irreducible] def N4p (a:List Int):Option (Int):=
 Nk2 a
def Nce (R0:(List Int)→Int→Option ((List Int))):Option (Unit):=
 some ()
def N8r (R0:(List Int)→Int→Option ((List Int))):Option (Unit):=
 some ()
def N5d (R0:(List Int)→Int→Option ((List Int))) (a:List Int) (b c:Int) (d:List Int):Option ((Int×(List Int))⊕((List Int))):=
 cond (decide (c<b)) ((idx a (IntKind.wrap .i64 (c-1))).bind fun(g:Int)=>cond (g==b) ((R0 a c).bind fun(i:List Int)=>(room ((List.length d)+List.length i)).bind fun(j:Unit)=>some (Sum.inl ((IntKind.wrap .i64 (c+1)),(d++i)))) (some (Sum.inl ((IntKind.wrap .i64 (c+1)),d)))) (some (Sum.inr d))
def Nkq (R0:(List Int)→Int→Option ((List Int))) (a:List Int) (b:Int):Option (((List Int))):=
 nloop (fun(s:Int×(List Int))=>((N5d R0 a b s.1 s.2).map (Sum.elim (fun(t:Int×(List Int))=>Sum.inl (t.1,t.2)) (fun(t:(List Int))=>Sum.inr t)):Option ((Int×(List Int))⊕(((List Int)))))) LL (1,([]:List Int))
def Nl5 (R0:(List Int)→Int→Option ((List Int))) (a:List Int) (b:Int):Option (((List Int))):=
 (Nkq R0 a b).map (fun(t:(List Int))=>t)
def Nm7 (R0:(List Int)→Int→Option ((List Int))) (a:List Int) (b:Int):Option (((List Int))):=
 (N8r R0).bind (fun(t:Unit)=>Nl5 R0 a b)
def Ncr (R0:(List Int)→Int→Option ((List Int))) (a:Int) (b:List Int):Option (((List Int))):=
 (room ((List.length b)+List.length ([a]))).bind fun(c:Unit)=>some (b++([a]))
def Naw (R0:(List Int)→Int→Option ((List Int))) (a:Int):Option (Int):=
 some (IntKind.wrap .i64 (a+1))
def N63 (R0:(List Int)→Int→Option ((List Int))) (a:List Int) (b c:Int) (d:List Int):Option ((Int×(List Int))⊕((List Int))):=
 cond (decide (c≤(((List.length a:Nat):Int)))) ((idx a (IntKind.wrap .i64 (c-1))).bind fun(g:Int)=>cond (g==b) ((R0 a c).bind fun(i:List Int)=>(room ((List.length d)+List.length i)).bind fun(j:Unit)=>some (Sum.inl ((IntKind.wrap .i64 (c+1)),(d++i)))) (some (Sum.inl ((IntKind.wrap .i64 (c+1)),d)))) (some (Sum.inr d))
def Nkt (R0:(List Int)→Int→Option ((List Int))) (a:List Int) (b c:Int) (d:List Int):Option (((List Int))):=
 nloop (fun(s:Int×(List Int))=>((N63 R0 a b s.1 s.2).map (Sum.elim (fun(t:Int×(List Int))=>Sum.inl (t.1,t.2)) (fun(t:(List Int))=>Sum.inr t)):Option ((Int×(List Int))⊕(((List Int)))))) LL (c,d)
def Njj (R0:(List Int)→Int→Option ((List Int))) (a:List Int) (b c:Int) (d:List Int):Option (((List Int))):=
 (Nkt R0 a b c d).map (fun(t:(List Int))=>t)
def Not (R0:(List Int)→Int→Option ((List Int))) (a:List Int) (b:Int) (c:List Int):Option (((List Int))):=
 (Naw R0 b).bind (fun(t:Int)=>Njj R0 a b t c)
def N9p (R0:(List Int)→Int→Option ((List Int))) (a:List Int):Option (((List Int))):=
 some a
def Np4 (R0:(List Int)→Int→Option ((List Int))) (a:List Int) (b:Int) (c:List Int):Option (((List Int))):=
 (Not R0 a b c).bind (fun(t:(List Int))=>N9p R0 t)
def No7 (R0:(List Int)→Int→Option ((List Int))) (a:List Int) (b:Int) (c:List Int):Option (((List Int))):=
 (Ncr R0 b c).bind (fun(t:(List Int))=>Np4 R0 a b t)
def Nkd (R0:(List Int)→Int→Option ((List Int))) (a:List Int) (b:Int):Option (((List Int))):=
 (Nm7 R0 a b).bind (fun(t:(List Int))=>No7 R0 a b t)
def Nne (R0:(List Int)→Int→Option ((List Int))) (a:List Int) (b:Int):Option (((List Int))):=
 (Nce R0).bind (fun(t:Unit)=>Nkd R0 a b)
def Nh3 (R0:(List Int)→Int→Option ((List Int))) (a:List Int) (b:Int):Option ((List Int)):=
 Nne R0 a b
def N3b:Nat→((List Int)→Int→Option ((List Int)))
 |0=>(fun _ _=>none)
 |n+1=>(fun y0 y1=>Nh3 (N3b n) y0 y1)
def Nd (n:Nat):(List Int)→Int→Option ((List Int)):=(N3b n)
@[irreducible] def N6j (a:List Int) (b:Int):Option ((List Int)):=Nd RR a b
def Nck (a:List Int):Option (((List Int))):=
 (N9 a).bind fun(b:Bool)=>cond (!b) (some ([]:List Int)) ((N4p a).bind fun(c:Int)=>(N6j a c).bind fun(d:List Int)=>some d)
@[irreducible] def N4c (a:List Int):Option ((List Int)):=
 Nck a
def Nag (a:List Int):Option (((List Int))):=
 (N4c a).bind fun(b:List Int)=>(N42 a b).bind fun(c:Bool×(List Int))=>some (c.2)
@[irreducible] def N2n (a:List Int):Option ((List Int)):=
 Nag a
def N7o (a:List Int) (b c d:Int):Option ((Nat×(List Int))):=
 (room ((List.length ([]:List Int))+List.length a)).bind fun(g:Unit)=>cond (b==0) ((N7 c 1 (((List.length a:Nat):Int))).bind fun(i:Bool)=>cond i ((inb (IntKind.wrap .i64 (c-1)) (List.length (([]:List Int)++a))).bind fun(j:Nat)=>some ((List.length ((([]:List Int)++a).set j d)),((([]:List Int)++a).set j d))) (cond ((b==1)&&((c==c)&&((d==0)&&true))) ((room ((List.length (([]:List Int)++a))+List.length ([c]))).bind fun(k:Unit)=>some ((List.length ((([]:List Int)++a)++([c]))),((([]:List Int)++a)++([c])))) (cond ((b==2)&&((c==0)&&((d==0)&&true))) ((inc (IntKind.wrap .i64 ((((List.length (([]:List Int)++a):Nat):Int))-1)) (List.length (([]:List Int)++a))).bind fun(l:Nat)=>some ((l-0),(([]:List Int)++a))) (cond ((b==3)&&((c==0)&&((d==0)&&true))) ((N1v a).bind fun(m:List Int)=>some ((List.length m),m)) (cond ((b==4)&&((c==0)&&((d==0)&&true))) ((N2n a).bind fun(o:List Int)=>some ((List.length o),o)) (some ((List.length ([]:List Int)),([]:List Int)))))))) (cond ((b==1)&&((c==c)&&((d==0)&&true))) ((room ((List.length (([]:List Int)++a))+List.length ([c]))).bind fun(p:Unit)=>some ((List.length ((([]:List Int)++a)++([c]))),((([]:List Int)++a)++([c])))) (cond ((b==2)&&((c==0)&&((d==0)&&true))) ((inc (IntKind.wrap .i64 ((((List.length (([]:List Int)++a):Nat):Int))-1)) (List.length (([]:List Int)++a))).bind fun(q:Nat)=>some ((q-0),(([]:List Int)++a))) (cond ((b==3)&&((c==0)&&((d==0)&&true))) ((N1v a).bind fun(w:List Int)=>some ((List.length w),w)) (cond ((b==4)&&((c==0)&&((d==0)&&true))) ((N2n a).bind fun(y:List Int)=>some ((List.length y),y)) (some ((List.length ([]:List Int)),([]:List Int)))))))
@[irreducible] def N1n (a:List Int) (b c d:Int):Option (Nat×(List Int)):=
 N7o a b c d
def Naz (a:List Int) (b:List (List Int)) (c d g:Int):Option ((Nat×Bool×(List Int)×(List Int)×(List (List Int)))⊕(Bool×(List Int)×(List (List Int)))):=
 (N13 a b).bind fun(i:Bool)=>cond (!i) (some (Sum.inr (false,([]:List Int),([]:List (List Int))))) ((N3n a b).bind fun(j:(List Int)×(List (List Int)))=>cond ((c==5)&&((d==0)&&((g==0)&&true))) (cond (decide ((((List.length b:Nat):Int))>0)) ((inb (IntKind.wrap .i64 ((((List.length (j.2):Nat):Int))-1)) (List.length (j.2))).bind fun(k:Nat)=>(((j.2))[k]?).bind fun(l:List Int)=>(inc (IntKind.wrap .i64 ((((List.length (j.2):Nat):Int))-1)) (List.length (((j.2)).set k []))).bind fun(m:Nat)=>(sure (Nat.blt k 0||Nat.ble m k)).bind fun(o:Unit)=>some (Sum.inr (true,l,(((((j.2)).set k []).take m).drop 0)))) ((N1n a c d g).bind fun(p:Nat×(List Int))=>some (Sum.inl ((p.1),(((((p.1):Nat):Int))==(((List.length a:Nat):Int))),(p.2),(j.1),(j.2))))) ((N1n a c d g).bind fun(q:Nat×(List Int))=>some (Sum.inl ((q.1),(((((q.1):Nat):Int))==(((List.length a:Nat):Int))),(q.2),(j.1),(j.2)))))
def Nb7:Option (Unit):=
 some ()
def N30 (a:Nat) (b:Bool) (c:Int) (d g:List Int):Option ((Bool×Int)⊕Bool):=
 cond (decide (c<(((a:Nat):Int)))) (cond b ((inb c a).bind fun(i:Nat)=>(g[(0+i)]?).bind fun(j:Int)=>(idx d c).bind fun(k:Int)=>some (Sum.inl ((j==k),(IntKind.wrap .i64 (c+1))))) (some (Sum.inr b))) (some (Sum.inr b))
def Ncw (a:Nat) (b:Bool) (c d:List Int):Option (Bool):=
 nloop (fun(s:Bool×Int)=>((N30 a s.1 s.2 c d).map (Sum.elim (fun(t:Bool×Int)=>Sum.inl (t.1,t.2)) (fun(t:Bool)=>Sum.inr t)):Option ((Bool×Int)⊕(Bool)))) LL (b,0)
def Noc (a:Nat) (b:Bool) (c d:List Int):Option (Bool):=
 (Ncw a b c d).map (fun(t:Bool)=>t)
def Nnn (a:Nat) (b:Bool) (c d:List Int):Option (Bool):=
 (Nb7).bind (fun(t:Unit)=>Noc a b c d)
def Naa (a:Nat) (b:Bool) (c d:List Int) (g:List (List Int)):Option ((Bool×(List Int)×(List (List Int)))):=
 cond b (some (false,d,g)) ((N9 ((c.drop 0).take a)).bind fun(i:Bool)=>cond (!i) (some (false,d,g)) ((room (List.length g+1)).bind fun(j:Unit)=>cond (decide ((((List.length ((g++ [[]]).set (List.length g) d):Nat):Int))>8)) ((inc 1 (List.length ((g++ [[]]).set (List.length g) d))).bind fun(k:Nat)=>(room ((List.length ([]:List Int))+List.length ((c.drop 0).take a))).bind fun(l:Unit)=>some (true,(([]:List Int)++((c.drop 0).take a)),((((g++ [[]]).set (List.length g) d).take (List.length ((g++ [[]]).set (List.length g) d))).drop k))) ((room ((List.length ([]:List Int))+List.length ((c.drop 0).take a))).bind fun(m:Unit)=>some (true,(([]:List Int)++((c.drop 0).take a)),((g++ [[]]).set (List.length g) d)))))
def Ndx (a:Nat) (b:Bool) (c d g:List Int) (i:List (List Int)):Option ((Bool×(List Int)×(List (List Int)))):=
 (Nnn a b c d).bind (fun(t:Bool)=>Naa a t d g i)
def Niv (a:List Int) (b:List (List Int)) (c d g:Int):Option ((Bool×(List Int)×(List (List Int)))):=
 (Naz a b c d g).bind (Sum.elim (fun(t:Nat×Bool×(List Int)×(List Int)×(List (List Int)))=>Ndx t.1 t.2.1 a t.2.2.1 t.2.2.2.1 t.2.2.2.2) (fun e=>some ((fun(t:Bool×(List Int)×(List (List Int)))=>t) e)))
@[irreducible] def N3f (a:List Int) (b:List (List Int)) (c d g:Int):Option (Bool×(List Int)×(List (List Int))):=
 Niv a b c d g
def N95 (a:List Int) (b:Int):Option ((Int×(List Int))):=
 (N2u 0 a b).bind fun(c:Int×(List Int))=>(N3v (c.2)).bind fun(d:Bool×(List Int))=>some ((c.1),(d.2))
def Nal (a:List Int) (b:Int):Option ((Int×Int)):=
 (N0 6 a b).bind fun(c:Int×Int)=>some ((c.1),(c.2))
def N7m (a:Int) (b:List Int) (c:Int) (d:List Int) (g:List (List Int)):Option ((Int×Int×(List Int)×(List (List Int)))⊕(Int×(List Int)×(List (List Int)))):=
 cond (decide (a>0)) ((N1m d b c).bind fun(i:Int×Int×Int×Int)=>(N3f d g (i.2.1) (i.2.2.1) (i.2.2.2)).bind fun(j:Bool×(List Int)×(List (List Int)))=>cond (j.1) (some (Sum.inl ((IntKind.wrap .i64 (a-1)),(i.1),(j.2.1),(j.2.2)))) (some (Sum.inl ((IntKind.wrap .i64 (a-1)),(i.1),d,g)))) (some (Sum.inr (c,d,g)))
def Np0 (a:Int) (b:List Int) (c:Int) (d:List Int):Option ((Int×(List Int)×(List (List Int)))):=
 nloop (fun(s:Int×Int×(List Int)×(List (List Int)))=>((N7m s.1 b s.2.1 s.2.2.1 s.2.2.2).map (Sum.elim (fun(t:Int×Int×(List Int)×(List (List Int)))=>Sum.inl (t.1,t.2.1,t.2.2.1,t.2.2.2)) (fun(t:Int×(List Int)×(List (List Int)))=>Sum.inr t)):Option ((Int×Int×(List Int)×(List (List Int)))⊕((Int×(List Int)×(List (List Int))))))) LL (a,c,d,([]:List (List Int)))
def Nj9 (a:Int) (b:List Int) (c:Int) (d:List Int):Option ((Int×(List Int)×(List (List Int)))):=
 (Np0 a b c d).map (fun(t:Int×(List Int)×(List (List Int)))=>(t.1,t.2.1,t.2.2))
def Nl6 (a:List Int) (b:Int) (c:List Int):Option ((Int×(List Int)×(List (List Int)))):=
 (Nal a b).bind (fun(t:Int×Int)=>Nj9 t.1 a t.2 c)
def N91 (a:Int) (b:List Int) (c:Int) (d:List Int) (g:List (List Int)):Option ((Int×(List Int)×(List (List Int)))):=
 (Nl a b c).bind fun(i:Bool×Int)=>cond (i.1) ((N0 3 b (i.2)).bind fun(j:Int×Int)=>cond ((j.1)==0) (some ((j.2),([1]),g)) (cond ((j.1)==1) ((room (List.length g+1)).bind fun(k:Unit)=>some ((j.2),d,((g++ [[]]).set (List.length g) ([]:List Int)))) (some ((j.2),([]:List Int),([]:List (List Int)))))) (some ((i.2),d,g))
def No9 (a:Int) (b:List Int) (c:Int) (d:List Int):Option ((Int×(List Int)×(List (List Int)))):=
 (Nl6 b c d).bind (fun(t:Int×(List Int)×(List (List Int)))=>N91 a b t.1 t.2.1 t.2.2)
def Ndw (a:Int) (b:List Int) (c:Int):Option ((Int×(List Int)×(List (List Int)))):=
 (N95 b c).bind (fun(t:Int×(List Int))=>No9 a b t.1 t.2)
@[irreducible] def N2w (a:Int) (b:List Int) (c:Int):Option (Int×(List Int)×(List (List Int))):=
 Ndw a b c
def N9e (a:List Int):Option (((List Int)×(List (Int×Int×Int×Unit))×(List (List Int)))):=
 (N3r a).bind fun(b:List Int)=>(N2w 12 b 0).bind fun(c:Int×(List Int)×(List (List Int)))=>(Nl 30 b (c.1)).bind fun(d:Bool×Int)=>cond (d.1) ((mk 41 41).bind fun(g:Nat)=>some ((c.2.1),(List.replicate g ((0:Int),((0:Int),((0:Int),())))),(c.2.2))) ((N2p (c.2.1) b (d.2)).bind fun(i:Int×(List (Int×Int×Int×Unit)))=>some ((c.2.1),(i.2),(c.2.2)))
@[irreducible] def N4w (a:List Int):Option ((List Int)×(List (Int×Int×Int×Unit))×(List (List Int))):=
 N9e a
def N94:Option (Unit):=
 some ()
def N7r (a:List Int):Option (Int):=
 some (((List.length a:Nat):Int))
def N5i (a:List Int) (b c d:Int):Option ((Int×Int)⊕Bool⊕Int):=
 cond (decide (d<c)) ((idx a d).bind fun(g:Int)=>cond (decide (g<0)) (some (Sum.inr (Sum.inl false))) (cond (decide (g>(((List.length a:Nat):Int)))) (some (Sum.inr (Sum.inl false))) (cond (g==0) (some (Sum.inl ((IntKind.wrap .i64 (b+1)),(IntKind.wrap .i64 (d+1))))) (some (Sum.inl (b,(IntKind.wrap .i64 (d+1)))))))) (some (Sum.inr (Sum.inr b)))
def Nko (a:List Int) (b:Int):Option (Bool⊕Int):=
 nloop (fun(s:Int×Int)=>((N5i a s.1 b s.2).map (Sum.elim (fun(t:Int×Int)=>Sum.inl (t.1,t.2)) (Sum.elim (fun(t:Bool)=>Sum.inr (Sum.inl t)) (fun(t:Int)=>Sum.inr (Sum.inr t)))):Option ((Int×Int)⊕(Bool⊕Int)))) LL (0,0)
def Nld (a:List Int) (b:Int):Option (Int⊕Bool):=
 (Nko a b).map (Sum.elim (fun(t:Bool)=>(Sum.inr t)) (fun(t:Int)=>(Sum.inl t)))
def Nnf (a:List Int):Option (Int⊕Bool):=
 (N7r a).bind (fun(t:Int)=>Nld a t)
def Nc7 (a:Int):Option (Bool):=
 some (a==1)
def Nlu (a:List Int):Option (Bool):=
 (Nnf a).bind (Sum.elim (fun(t:Int)=>Nc7 t) (fun e=>some ((fun(t:Bool)=>t) e)))
def Nkw (a:List Int):Option (Bool):=
 (N94).bind (fun(t:Unit)=>Nlu a)
@[irreducible] def N5j (a:List Int):Option (Bool):=
 Nkw a
def N89 (a:List Int) (b c:Int):Option ((Bool×Int×Int)):=
 (idx a (IntKind.wrap .i64 (b-1))).bind fun(d:Int)=>cond (d==0) (some (false,b,c)) (some (true,d,(IntKind.wrap .i64 (c+1))))
@[irreducible] def N43 (a:List Int) (b c:Int):Option (Bool×Int×Int):=
 N89 a b c
def Nb5:Option (Unit):=
 some ()
def N6q (a:List Int) (b c:Int):Option ((Int×Int)⊕(Int×Bool)⊕(Int×Int)):=
 (N43 a b c).bind fun(d:Bool×Int×Int)=>cond (d.1) (cond (decide ((d.2.2)≥(((List.length a:Nat):Int)))) (some (Sum.inr (Sum.inl (0,false)))) (some (Sum.inl ((d.2.1),(d.2.2))))) (some (Sum.inr (Sum.inr ((d.2.1),(d.2.2)))))
def Nm6 (a:List Int) (b:Int):Option ((Int×Bool)⊕(Int×Int)):=
 nloop (fun(s:Int×Int)=>((N6q a s.1 s.2).map (Sum.elim (fun(t:Int×Int)=>Sum.inl (t.1,t.2)) (Sum.elim (fun(t:Int×Bool)=>Sum.inr (Sum.inl t)) (fun(t:Int×Int)=>Sum.inr (Sum.inr t)))):Option ((Int×Int)⊕((Int×Bool)⊕(Int×Int))))) LL (b,0)
def Nli (a:List Int) (b:Int):Option ((Int×Int)⊕(Int×Bool)):=
 (Nm6 a b).map (Sum.elim (fun(t:Int×Bool)=>(Sum.inr t)) (fun(t:Int×Int)=>(Sum.inl (t.1,t.2))))
def Nac (a:Int):Option ((Int×Bool)):=
 some (a,true)
def Nls (a:List Int) (b:Int):Option ((Int×Bool)):=
 (Nli a b).bind (Sum.elim (fun(t:Int×Int)=>Nac t.2) (fun e=>some ((fun(t:Int×Bool)=>t) e)))
def Njt (a:List Int) (b:Int):Option ((Int×Bool)):=
 (Nb5).bind (fun(t:Unit)=>Nls a b)
@[irreducible] def N4q (a:List Int) (b:Int):Option (Int×Bool):=
 Njt a b
def Naf (a:List Int):Option (Unit⊕Bool):=
 cond (decide ((((List.length a:Nat):Int))<1)) (some (Sum.inr false)) (cond (decide ((((List.length a:Nat):Int))>8)) (some (Sum.inr false)) ((N5j a).bind fun(b:Bool)=>cond (!b) (some (Sum.inr false)) (some (Sum.inl ()))))
def Naj (a:List Int):Option (Int):=
 some (((List.length a:Nat):Int))
def N4t (a:List Int) (b c:Int):Option (Int⊕Bool⊕Unit):=
 cond (decide (c<b)) ((N4q a (IntKind.wrap .i64 (c+1))).bind fun(d:Int×Bool)=>cond (!(d.2)) (some (Sum.inr (Sum.inl false))) (some (Sum.inl (IntKind.wrap .i64 (c+1))))) (some (Sum.inr (Sum.inr ())))
def Nmg (a:List Int) (b:Int):Option (Bool⊕Unit):=
 nloop (fun(s:Int)=>((N4t a b s).map (Sum.elim (fun(t:Int)=>Sum.inl t) (Sum.elim (fun(t:Bool)=>Sum.inr (Sum.inl t)) (fun(t:Unit)=>Sum.inr (Sum.inr t)))):Option ((Int)⊕(Bool⊕Unit)))) LL 0
def Nlk (a:List Int) (b:Int):Option (Unit⊕Bool):=
 (Nmg a b).map (Sum.elim (fun(t:Bool)=>(Sum.inr t)) (fun(t:Unit)=>(Sum.inl ())))
def Nj2 (a:List Int):Option (Unit⊕Bool):=
 (Naj a).bind (fun(t:Int)=>Nlk a t)
def Ngj:Option (Bool):=
 some true
def Nl2 (a:List Int):Option (Bool):=
 (Nj2 a).bind (Sum.elim (fun(t:Unit)=>Ngj) (fun e=>some ((fun(t:Bool)=>t) e)))
def Nj1 (a:List Int):Option (Bool):=
 (Naf a).bind (Sum.elim (fun(t:Unit)=>Nl2 a) (fun e=>some ((fun(t:Bool)=>t) e)))
@[irreducible] def Na (a:List Int):Option (Bool):=
 Nj1 a
def N9y (a:List Int) (b:List (List Int)):Option (Unit⊕Bool):=
 (Na a).bind fun(c:Bool)=>cond (!c) (some (Sum.inr false)) (cond (decide ((((List.length b:Nat):Int))>8)) (some (Sum.inr false)) (some (Sum.inl ())))
def Nam (a:List (List Int)):Option (Int):=
 some (((List.length a:Nat):Int))
def N44 (a:List (List Int)) (b c:Int):Option (Int⊕Bool⊕Unit):=
 cond (decide (c<b)) ((idx a c).bind fun(d:List Int)=>(Na d).bind fun(g:Bool)=>cond (!g) (some (Sum.inr (Sum.inl false))) (some (Sum.inl (IntKind.wrap .i64 (c+1))))) (some (Sum.inr (Sum.inr ())))
def Nlz (a:List (List Int)) (b:Int):Option (Bool⊕Unit):=
 nloop (fun(s:Int)=>((N44 a b s).map (Sum.elim (fun(t:Int)=>Sum.inl t) (Sum.elim (fun(t:Bool)=>Sum.inr (Sum.inl t)) (fun(t:Unit)=>Sum.inr (Sum.inr t)))):Option ((Int)⊕(Bool⊕Unit)))) LL 0
def Noj (a:List (List Int)) (b:Int):Option (Unit⊕Bool):=
 (Nlz a b).map (Sum.elim (fun(t:Bool)=>(Sum.inr t)) (fun(t:Unit)=>(Sum.inl ())))
def Nnc (a:List (List Int)):Option (Unit⊕Bool):=
 (Nam a).bind (fun(t:Int)=>Noj a t)
def Ngr:Option (Bool):=
 some true
def Noo (a:List (List Int)):Option (Bool):=
 (Nnc a).bind (Sum.elim (fun(t:Unit)=>Ngr) (fun e=>some ((fun(t:Bool)=>t) e)))
def Nec (a:List Int) (b:List (List Int)):Option (Bool):=
 (N9y a b).bind (Sum.elim (fun(t:Unit)=>Noo b) (fun e=>some ((fun(t:Bool)=>t) e)))
@[irreducible] def N27 (a:List Int) (b:List (List Int)):Option (Bool):=
 Nec a b
def N3q (x1:List Int):Option (List Int):=cloneD x1
def Nak (a:List Int):Option (((List Int))):=
 (N3q a).bind fun(b:List Int)=>some b
def N8p (a:List (List Int)):Option (Int):=
 some (((List.length a:Nat):Int))
def N66 (a:List (List Int)) (b c:Int) (d:List (List Int)):Option ((Int×(List (List Int)))⊕((List (List Int)))):=
 cond (decide (c<b)) ((idx a c).bind fun(g:List Int)=>(N3q g).bind fun(i:List Int)=>(room (List.length d+1)).bind fun(j:Unit)=>some (Sum.inl ((IntKind.wrap .i64 (c+1)),((d++ [[]]).set (List.length d) i)))) (some (Sum.inr d))
def Npe (a:List (List Int)) (b:Int):Option (((List (List Int)))):=
 nloop (fun(s:Int×(List (List Int)))=>((N66 a b s.1 s.2).map (Sum.elim (fun(t:Int×(List (List Int)))=>Sum.inl (t.1,t.2)) (fun(t:(List (List Int)))=>Sum.inr t)):Option ((Int×(List (List Int)))⊕(((List (List Int))))))) LL (0,([]:List (List Int)))
def Nmj (a:List (List Int)) (b:Int):Option (((List (List Int)))):=
 (Npe a b).map (fun(t:(List (List Int)))=>t)
def Nmt (a:List (List Int)):Option (((List (List Int)))):=
 (N8p a).bind (fun(t:Int)=>Nmj a t)
def Nab (a:List Int) (b:List (List Int)):Option (((List Int)×(List (List Int)))):=
 some (a,b)
def Nlw (a:List (List Int)) (b:List Int):Option (((List Int)×(List (List Int)))):=
 (Nmt a).bind (fun(t:(List (List Int)))=>Nab b t)
def Nek (a:List Int) (b:List (List Int)):Option (((List Int)×(List (List Int)))):=
 (Nak a).bind (fun(t:(List Int))=>Nlw b t)
@[irreducible] def Nc (a:List Int) (b:List (List Int)):Option ((List Int)×(List (List Int))):=
 Nek a b
def N6r (a:List Int) (b:List (List Int)):Option ((Bool×(List Int)×(List (List Int)))):=
 cond (decide ((IntKind.wrap .i64 ((((List.length b:Nat):Int))-1))<0)) ((Nc a ([]:List (List Int))).bind fun(c:(List Int)×(List (List Int)))=>some (false,(c.1),(c.2))) ((idx b (IntKind.wrap .i64 ((((List.length b:Nat):Int))-1))).bind fun(d:List Int)=>(inc (IntKind.wrap .i64 ((((List.length b:Nat):Int))-1)) (List.length b)).bind fun(g:Nat)=>(Nc d ((b.take g).drop 0)).bind fun(i:(List Int)×(List (List Int)))=>some (true,(i.1),(i.2)))
@[irreducible] def N3z (a:List Int) (b:List (List Int)):Option (Bool×(List Int)×(List (List Int))):=
 N6r a b
def N7g (a:List Int) (b:Int):Option (Bool):=
 (Na a).bind fun(c:Bool)=>cond c (cond (decide (b≥1)) (some (decide (b≤(((List.length a:Nat):Int))))) (some false)) (some false)
@[irreducible] def N40 (a:List Int) (b:Int):Option (Bool):=
 N7g a b
def Nah (a:Int):Option (((List Int))):=
 (mk a a).bind fun(b:Nat)=>some (List.replicate b (0:Int))
def N9k (a:List Int):Option (Int):=
 some (((List.length a:Nat):Int))
def N61 (a b c:Int) (d:List Int):Option ((Int×(List Int))⊕((List Int))):=
 cond (decide (c<b)) ((inb c (List.length d)).bind fun(g:Nat)=>some (Sum.inl ((IntKind.wrap .i64 (c+1)),(d.set g (IntKind.wrap .i64 (a-c)))))) (some (Sum.inr d))
def No3 (a b:Int) (c:List Int):Option (((List Int))):=
 nloop (fun(s:Int×(List Int))=>((N61 a b s.1 s.2).map (Sum.elim (fun(t:Int×(List Int))=>Sum.inl (t.1,t.2)) (fun(t:(List Int))=>Sum.inr t)):Option ((Int×(List Int))⊕(((List Int)))))) LL (0,c)
def Nkg (a b:Int) (c:List Int):Option (((List Int))):=
 (No3 a b c).map (fun(t:(List Int))=>t)
def No0 (a:Int) (b:List Int):Option (((List Int))):=
 (N9k b).bind (fun(t:Int)=>Nkg a t b)
def N9m (a:List Int):Option (((List Int))):=
 some a
def Npb (a:Int) (b:List Int):Option (((List Int))):=
 (No0 a b).bind (fun(t:(List Int))=>N9m t)
def Ngz (a:Int):Option (((List Int))):=
 (Nah a).bind (fun(t:(List Int))=>Npb a t)
@[irreducible] def N3p (a:Int):Option ((List Int)):=
 Ngz a
def N9d (a:List Int) (b:Int):Option (Unit⊕Bool):=
 cond (decide (b<1)) (some (Sum.inr false)) (cond (decide (b>8)) (some (Sum.inr false)) (cond ((((List.length a:Nat):Int)) !=b) (some (Sum.inr false)) (some (Sum.inl ()))))
def Nbn (a:List Int):Option (Int):=
 some (((List.length a:Nat):Int))
def N6u (a:Int) (b:List Int) (c d:Int) (g:List Bool):Option ((Int×(List Bool))⊕Bool⊕Unit):=
 cond (decide (d<c)) ((idx b d).bind fun(i:Int)=>cond (decide (i<1)) (some (Sum.inr (Sum.inl false))) (cond (decide (i>a)) (some (Sum.inr (Sum.inl false))) ((same (List.length g) 9).bind fun(j:Unit)=>(inb i 9).bind fun(k:Nat)=>(g[k]?).bind fun(l:Bool)=>cond l (some (Sum.inr (Sum.inl false))) ((same (List.length g) 9).bind fun(m:Unit)=>(inb i 9).bind fun(o:Nat)=>some (Sum.inl ((IntKind.wrap .i64 (d+1)),(g.set o true))))))) (some (Sum.inr (Sum.inr ())))
def Noq (a:Int) (b:List Int) (c:Int):Option (Bool⊕Unit):=
 nloop (fun(s:Int×(List Bool))=>((N6u a b c s.1 s.2).map (Sum.elim (fun(t:Int×(List Bool))=>Sum.inl (t.1,t.2)) (Sum.elim (fun(t:Bool)=>Sum.inr (Sum.inl t)) (fun(t:Unit)=>Sum.inr (Sum.inr t)))):Option ((Int×(List Bool))⊕(Bool⊕Unit)))) LL (0,(List.replicate 9 false))
def Nj8 (a:Int) (b:List Int) (c:Int):Option (Unit⊕Bool):=
 (Noq a b c).map (Sum.elim (fun(t:Bool)=>(Sum.inr t)) (fun(t:Unit)=>(Sum.inl ())))
def Nnt (a:List Int) (b:Int):Option (Unit⊕Bool):=
 (Nbn a).bind (fun(t:Int)=>Nj8 b a t)
def Nc4:Option (Bool):=
 some true
def Nmb (a:List Int) (b:Int):Option (Bool):=
 (Nnt a b).bind (Sum.elim (fun(t:Unit)=>Nc4) (fun e=>some ((fun(t:Bool)=>t) e)))
def Nj0 (a:List Int) (b:Int):Option (Bool):=
 (N9d a b).bind (Sum.elim (fun(t:Unit)=>Nmb a b) (fun e=>some ((fun(t:Bool)=>t) e)))
@[irreducible] def N60 (a:List Int) (b:Int):Option (Bool):=
 Nj0 a b
def Nay (a:List Int):Option (((List Int))):=
 (mk (IntKind.wrap .i64 ((((List.length a:Nat):Int))+1)) (IntKind.wrap .i64 ((((List.length a:Nat):Int))+1))).bind fun(b:Nat)=>some (List.replicate b (0:Int))
def Nc1 (a:List Int):Option (Int):=
 some (((List.length a:Nat):Int))
def N56 (a:List Int) (b c:Int) (d:List Int):Option ((Int×(List Int))⊕((List Int))):=
 cond (decide (c<b)) ((idx a c).bind fun(g:Int)=>(inb g (List.length d)).bind fun(i:Nat)=>some (Sum.inl ((IntKind.wrap .i64 (c+1)),(d.set i (IntKind.wrap .i64 (c+1)))))) (some (Sum.inr d))
def Nlr (a:List Int) (b:Int) (c:List Int):Option (((List Int))):=
 nloop (fun(s:Int×(List Int))=>((N56 a b s.1 s.2).map (Sum.elim (fun(t:Int×(List Int))=>Sum.inl (t.1,t.2)) (fun(t:(List Int))=>Sum.inr t)):Option ((Int×(List Int))⊕(((List Int)))))) LL (0,c)
def Nkb (a:List Int) (b:Int) (c:List Int):Option (((List Int))):=
 (Nlr a b c).map (fun(t:(List Int))=>t)
def Nl4 (a b:List Int):Option (((List Int))):=
 (Nc1 a).bind (fun(t:Int)=>Nkb a t b)
def N8w (a:List Int):Option (((List Int))):=
 some a
def Njq (a b:List Int):Option (((List Int))):=
 (Nl4 a b).bind (fun(t:(List Int))=>N8w t)
def Nke (a:List Int):Option (((List Int))):=
 (Nay a).bind (fun(t:(List Int))=>Njq a t)
@[irreducible] def N5v (a:List Int):Option ((List Int)):=
 Nke a
def N9n (a:Int) (b:List Int):Option (Int):=
 (inb a (List.length b)).bind fun(c:Nat)=>(b[c]?).bind fun(d:Int)=>some d
@[irreducible] def N5t (a:Int) (b:List Int):Option (Int):=
 N9n a b
def N8i (a:List Int):Option (((List Int))):=
 (mk (((List.length a:Nat):Int)) (((List.length a:Nat):Int))).bind fun(b:Nat)=>some (List.replicate b (0:Int))
def N9o (a:List Int):Option (Int):=
 some (((List.length a:Nat):Int))
def N6a (a b:List Int) (c d:Int) (g i:List Int):Option ((Int×(List Int))⊕((List Int))):=
 cond (decide (d<c)) ((idx b d).bind fun(j:Int)=>(idx a (IntKind.wrap .i64 (j-1))).bind fun(k:Int)=>(N5t k g).bind fun(l:Int)=>(inb d (List.length i)).bind fun(m:Nat)=>some (Sum.inl ((IntKind.wrap .i64 (d+1)),(i.set m l)))) (some (Sum.inr i))
def Nn8 (a b:List Int) (c:Int) (d g:List Int):Option (((List Int))):=
 nloop (fun(s:Int×(List Int))=>((N6a a b c s.1 d s.2).map (Sum.elim (fun(t:Int×(List Int))=>Sum.inl (t.1,t.2)) (fun(t:(List Int))=>Sum.inr t)):Option ((Int×(List Int))⊕(((List Int)))))) LL (0,g)
def Non (a b:List Int) (c:Int) (d g:List Int):Option (((List Int))):=
 (Nn8 a b c d g).map (fun(t:(List Int))=>t)
def Nkn (a b c d:List Int):Option (((List Int))):=
 (N9o b).bind (fun(t:Int)=>Non a b t c d)
def N9f (a:List Int):Option (((List Int))):=
 some a
def Nlf (a b c d:List Int):Option (((List Int))):=
 (Nkn a b c d).bind (fun(t:(List Int))=>N9f t)
def Njk (a b c:List Int):Option (((List Int))):=
 (N8i b).bind (fun(t:(List Int))=>Nlf a b c t)
@[irreducible] def N75 (a b c:List Int):Option ((List Int)):=
 Njk a b c
def Na3 (a b:List Int):Option ((Bool×(List Int))):=
 (Na a).bind fun(c:Bool)=>cond (!c) (some (false,([]:List Int))) ((N60 b (((List.length a:Nat):Int))).bind fun(d:Bool)=>cond (!d) (some (false,([]:List Int))) ((N5v b).bind fun(g:List Int)=>(N75 a b g).bind fun(i:List Int)=>some (true,i)))
@[irreducible] def N38 (a b:List Int):Option (Bool×(List Int)):=
 Na3 a b
def N6b (a:List Int):Option (((List Int))):=
 (Na a).bind fun(b:Bool)=>cond (!b) (some ([]:List Int)) ((N3p (((List.length a:Nat):Int))).bind fun(c:List Int)=>(N38 a c).bind fun(d:Bool×(List Int))=>some (d.2))
@[irreducible] def N3d (a:List Int):Option ((List Int)):=
 N6b a
def N80 (a:List Int):Option (Unit⊕Int):=
 (Na a).bind fun(b:Bool)=>cond (!b) (some (Sum.inr (-1))) (some (Sum.inl ()))
def N73 (a:List Int) (b c:Int):Option ((Int×Int)⊕(Int×Int)):=
 (N43 a b c).bind fun(d:Bool×Int×Int)=>cond (d.1) (some (Sum.inl ((d.2.1),(d.2.2)))) (some (Sum.inr ((d.2.1),(d.2.2))))
def Nkv (a:List Int):Option ((Int×Int)):=
 nloop (fun(s:Int×Int)=>((N73 a s.1 s.2).map (Sum.elim (fun(t:Int×Int)=>Sum.inl (t.1,t.2)) (fun(t:Int×Int)=>Sum.inr t)):Option ((Int×Int)⊕((Int×Int))))) LL (1,0)
def Nmk (a:List Int):Option ((Int×Int)):=
 (Nkv a).map (fun(t:Int×Int)=>(t.1,t.2))
def Nbj (a:Int):Option (Int):=
 some a
def Nnu (a:List Int):Option (Int):=
 (Nmk a).bind (fun(t:Int×Int)=>Nbj t.1)
def Noi (a:List Int):Option (Int):=
 (N80 a).bind (Sum.elim (fun(t:Unit)=>Nnu a) (fun e=>some ((fun(t:Int)=>t) e)))
@[irreducible] def N5o (a:List Int):Option (Int):=
 Noi a
def Ne8 (a:Int):Option (Int):=
 (shl .u64 1 (IntKind.wrap .i64 (a-1))).bind fun(b:Int)=>some b
@[irreducible] def N34 (a:Int):Option (Int):=
 Ne8 a
def Nbr:Option (Unit):=
 some ()
def N86 (a:List Int):Option (Int):=
 some (((List.length a:Nat):Int))
def N54 (a:List Int) (b c d g:Int):Option ((Int×Int)⊕Int):=
 cond (decide (g<d)) ((idx a g).bind fun(i:Int)=>cond (i==b) ((N34 (IntKind.wrap .i64 (g+1))).bind fun(j:Int)=>some (Sum.inl ((ior .u64 c j),(IntKind.wrap .i64 (g+1))))) (some (Sum.inl (c,(IntKind.wrap .i64 (g+1)))))) (some (Sum.inr c))
def Nji (a:List Int) (b c:Int):Option (Int):=
 nloop (fun(s:Int×Int)=>((N54 a b s.1 c s.2).map (Sum.elim (fun(t:Int×Int)=>Sum.inl (t.1,t.2)) (fun(t:Int)=>Sum.inr t)):Option ((Int×Int)⊕(Int)))) LL (0,0)
def Nj4 (a:List Int) (b c:Int):Option (Int):=
 (Nji a b c).map (fun(t:Int)=>t)
def Nnq (a:List Int) (b:Int):Option (Int):=
 (N86 a).bind (fun(t:Int)=>Nj4 a b t)
def Ng7 (a:Int):Option (Int):=
 some a
def Nl1 (a:List Int) (b:Int):Option (Int):=
 (Nnq a b).bind (fun(t:Int)=>Ng7 t)
def Nh9 (a:List Int) (b:Int):Option (Int):=
 (Nbr).bind (fun(t:Unit)=>Nl1 a b)
@[irreducible] def N32 (a:List Int) (b:Int):Option (Int):=
 Nh9 a b
def Nem (a:Int):Option (Int):=
 (N34 a).bind fun(b:Int)=>some (IntKind.wrap .u64 (b-1))
@[irreducible] def N3t (a:Int):Option (Int):=
 Nem a
def N7e (a:List Int) (b:Int):Option ((Int×Int)):=
 (N32 a b).bind fun(c:Int)=>(N3t b).bind fun(d:Int)=>(N3t b).bind fun(g:Int)=>some ((iand .u64 c d),(iandn .u64 c g))
@[irreducible] def N3j (a:List Int) (b:Int):Option (Int×Int):=
 N7e a b
def Nim (a:Int):Option (Int):=
 (shr .u64 a 1).bind fun(b:Int)=>some (IntKind.wrap .u64 ((iand .u64 b 6148914691236517205)+(iand .u64 a 6148914691236517205)))
def Ngh (a:Int):Option (Int):=
 (shr .u64 a 2).bind fun(b:Int)=>some (IntKind.wrap .u64 ((iand .u64 b 3689348814741910323)+(iand .u64 a 3689348814741910323)))
def Ng6 (a:Int):Option (Int):=
 (shr .u64 a 4).bind fun(b:Int)=>some (iand .u64 (IntKind.wrap .u64 (b+a)) 1085102592571150095)
def Nef (a:Int):Option (Int):=
 (shr .u64 a 8).bind fun(b:Int)=>some (IntKind.wrap .u64 (a+b))
def Nf9 (a:Int):Option (Int):=
 (shr .u64 a 16).bind fun(b:Int)=>some (IntKind.wrap .u64 (a+b))
def Ney (a:Int):Option (Int):=
 (shr .u64 a 32).bind fun(b:Int)=>some (IntKind.wrap .u64 (a+b))
def Neb (a:Int):Option (Int):=
 some (iand .i64 (IntKind.wrap .i64 a) 127)
def Ndo (a:Int):Option (Int):=
 some a
def N15t (a:Int):Option (Int):=
 (Neb a).bind (fun(t:Int)=>Ndo t)
def N11p (a:Int):Option (Int):=
 (Ney a).bind (fun(t:Int)=>N15t t)
def Ntd (a:Int):Option (Int):=
 (Nf9 a).bind (fun(t:Int)=>N11p t)
def Nqo (a:Int):Option (Int):=
 (Nef a).bind (fun(t:Int)=>Ntd t)
def N10s (a:Int):Option (Int):=
 (Ng6 a).bind (fun(t:Int)=>Nqo t)
def Nx8 (a:Int):Option (Int):=
 (Ngh a).bind (fun(t:Int)=>N10s t)
def Nyk (a:Int):Option (Int):=
 (Nim a).bind (fun(t:Int)=>Nx8 t)
@[irreducible] def N7w (a:Int):Option (Int):=
 Nyk a
def Neq (a:Int):Option (Int):=
 (N7w a).bind fun(b:Int)=>some b
@[irreducible] def N96 (a:Int):Option (Int):=
 Neq a
def Ne0 (a:Int):Option (Int):=
 (N96 a).bind fun(b:Int)=>some b
@[irreducible] def N8s (a:Int):Option (Int):=
 Ne0 a
def Nhn (a:Int):Option (Int):=
 cond (a==0) (some 64) ((shr .u64 (IntKind.wrap .u64 ((iand .u64 a (IntKind.wrap .u64 (0-a)))*285870213051353865)) 58).bind fun(b:Int)=>(same (List.length tab1) 64).bind fun(c:Unit)=>(idx tab1 b).bind fun(d:Int)=>some (IntKind.wrap .i64 d))
@[irreducible] def N85 (a:Int):Option (Int):=
 Nhn a
def Nge (a:Int):Option (Int):=
 (N85 a).bind fun(b:Int)=>some b
@[irreducible] def Nb8 (a:Int):Option (Int):=
 Nge a
def Ng8 (a:Int):Option (((List Int))):=
 (N8s a).bind fun(b:Int)=>(mk 0 b).bind fun(c:Nat)=>some (List.replicate c (0:Int))
def Ncz:Option (Unit):=
 some ()
def Nds (a:Int) (b:List Int):Option ((Int×(List Int))⊕((List Int))):=
 cond (a !=0) ((Nb8 a).bind fun(c:Int)=>(room ((List.length b)+List.length ([(IntKind.wrap .i64 (c+1))]))).bind fun(d:Unit)=>some (Sum.inl ((iand .u64 a (IntKind.wrap .u64 (a-1))),(b++([(IntKind.wrap .i64 (c+1))]))))) (some (Sum.inr b))
def Nrj (a:Int) (b:List Int):Option (((List Int))):=
 nloop (fun(s:Int×(List Int))=>((Nds s.1 s.2).map (Sum.elim (fun(t:Int×(List Int))=>Sum.inl (t.1,t.2)) (fun(t:(List Int))=>Sum.inr t)):Option ((Int×(List Int))⊕(((List Int)))))) LL (a,b)
def N10r (a:Int) (b:List Int):Option (((List Int))):=
 (Nrj a b).map (fun(t:(List Int))=>t)
def N12x (a:Int) (b:List Int):Option (((List Int))):=
 (Ncz).bind (fun(t:Unit)=>N10r a b)
def Ngk (a:List Int):Option (((List Int))):=
 some a
def N178 (a:Int) (b:List Int):Option (((List Int))):=
 (N12x a b).bind (fun(t:(List Int))=>Ngk t)
def N17r (a:Int):Option (((List Int))):=
 (Ng8 a).bind (fun(t:(List Int))=>N178 a t)
@[irreducible] def N5l (a:Int):Option ((List Int)):=
 N17r a
def N7p (R0 R1:(List Int)→Int→(List Int)→Option ((List Int))) (a:List Int) (b:Int) (c:List Int):Option (((List Int))):=
 (N3j a b).bind fun(d:Int×Int)=>(R1 a (d.1) c).bind fun(g:List Int)=>(room ((List.length g)+List.length ([b]))).bind fun(i:Unit)=>(R1 a (d.2) (g++([b]))).bind fun(j:List Int)=>some j
def N147 (R0 R1:(List Int)→Int→(List Int)→Option ((List Int))) (a:List Int) (b:Int) (c:List Int):Option ((List Int)):=
 N7p R0 R1 a b c
def Nc3 (R0 R1:(List Int)→Int→(List Int)→Option ((List Int))):Option (Unit):=
 some ()
def N8d (R0 R1:(List Int)→Int→(List Int)→Option ((List Int))) (a:Int):Option ((Int×(List Int))):=
 (N5l a).bind fun(b:List Int)=>some ((((List.length b:Nat):Int)),b)
def N48 (R0 R1:(List Int)→Int→(List Int)→Option ((List Int))) (a:List Int) (b c:Int) (d g:List Int):Option ((Int×(List Int))⊕((List Int))):=
 cond (decide (c<b)) ((inb c (List.length g)).bind fun(i:Nat)=>(g[i]?).bind fun(j:Int)=>(R0 a j d).bind fun(k:List Int)=>some (Sum.inl ((IntKind.wrap .i64 (c+1)),k))) (some (Sum.inr d))
def Nm5 (R0 R1:(List Int)→Int→(List Int)→Option ((List Int))) (a:List Int) (b:Int) (c d:List Int):Option (((List Int))):=
 nloop (fun(s:Int×(List Int))=>((N48 R0 R1 a b s.1 s.2 d).map (Sum.elim (fun(t:Int×(List Int))=>Sum.inl (t.1,t.2)) (fun(t:(List Int))=>Sum.inr t)):Option ((Int×(List Int))⊕(((List Int)))))) LL (0,c)
def Nmm (R0 R1:(List Int)→Int→(List Int)→Option ((List Int))) (a:List Int) (b:Int) (c d:List Int):Option (((List Int))):=
 (Nm5 R0 R1 a b c d).map (fun(t:(List Int))=>t)
def Nm4 (R0 R1:(List Int)→Int→(List Int)→Option ((List Int))) (a:List Int) (b:Int) (c:List Int):Option (((List Int))):=
 (N8d R0 R1 b).bind (fun(t:Int×(List Int))=>Nmm R0 R1 a t.1 c t.2)
def N9g (R0 R1:(List Int)→Int→(List Int)→Option ((List Int))) (a:List Int):Option (((List Int))):=
 some a
def Nm1 (R0 R1:(List Int)→Int→(List Int)→Option ((List Int))) (a:List Int) (b:Int) (c:List Int):Option (((List Int))):=
 (Nm4 R0 R1 a b c).bind (fun(t:(List Int))=>N9g R0 R1 t)
def Np9 (R0 R1:(List Int)→Int→(List Int)→Option ((List Int))) (a:List Int) (b:Int) (c:List Int):Option (((List Int))):=
 (Nc3 R0 R1).bind (fun(t:Unit)=>Nm1 R0 R1 a b c)
def Nax (R0 R1:(List Int)→Int→(List Int)→Option ((List Int))) (a:List Int) (b:Int) (c:List Int):Option ((List Int)):=
 Np9 R0 R1 a b c
def N5:Nat→((List Int)→Int→(List Int)→Option ((List Int)))×((List Int)→Int→(List Int)→Option ((List Int)))
 |0=>((fun _ _ _=>none),(fun _ _ _=>none))
 |n+1=>((fun y0 y1 y2=>N147 (N5 n).1 (N5 n).2 y0 y1 y2),(fun y0 y1 y2=>Nax (N5 n).1 (N5 n).2 y0 y1 y2))
def Nn (n:Nat):(List Int)→Int→(List Int)→Option ((List Int)):=(N5 n).1
@[irreducible] def N76 (a:List Int) (b:Int) (c:List Int):Option ((List Int)):=Nn RR a b c
def N1q (n:Nat):(List Int)→Int→(List Int)→Option ((List Int)):=(N5 n).2
@[irreducible] def Nkp (a:List Int) (b:Int) (c:List Int):Option ((List Int)):=N1q RR a b c
def N6m (a:List Int):Option (((List Int))):=
 (Na a).bind fun(b:Bool)=>cond (!b) (some ([]:List Int)) ((N5o a).bind fun(c:Int)=>(mk 0 (((List.length a:Nat):Int))).bind fun(d:Nat)=>(N76 a c (List.replicate d (0:Int))).bind fun(g:List Int)=>some g)
@[irreducible] def N2x (a:List Int):Option ((List Int)):=
 N6m a
def N7n (a:List Int):Option (((List Int))):=
 (N2x a).bind fun(b:List Int)=>(N38 a b).bind fun(c:Bool×(List Int))=>some (c.2)
@[irreducible] def N3g (a:List Int):Option ((List Int)):=
 N7n a
def N6n (a:List Int) (b c d:Int):Option (((List Int))):=
 cond (b==0) ((N40 a c).bind fun(g:Bool)=>cond (!g) (some ([]:List Int)) ((N3q a).bind fun(i:List Int)=>(inb (IntKind.wrap .i64 (c-1)) (List.length i)).bind fun(j:Nat)=>some (i.set j d))) (cond (b==1) ((N3q a).bind fun(k:List Int)=>(room ((List.length k)+List.length ([c]))).bind fun(l:Unit)=>some (k++([c]))) (cond (b==2) ((inc (IntKind.wrap .i64 ((((List.length a:Nat):Int))-1)) (List.length a)).bind fun(m:Nat)=>(N3q ((a.take m).drop 0)).bind fun(o:List Int)=>some o) (cond (b==3) ((N3d a).bind fun(p:List Int)=>some p) (cond (b==4) ((N3g a).bind fun(q:List Int)=>some q) (some ([]:List Int))))))
@[irreducible] def N3o (a:List Int) (b c d:Int):Option ((List Int)):=
 N6n a b c d
def N9r (a b:List Int):Option (Unit⊕Bool):=
 cond ((((List.length a:Nat):Int)) !=(((List.length b:Nat):Int))) (some (Sum.inr false)) (some (Sum.inl ()))
def Ncl (a:List Int):Option (Int):=
 some (((List.length a:Nat):Int))
def N3y (a b:List Int) (c d:Int):Option (Int⊕Bool⊕Unit):=
 cond (decide (d<c)) ((idx a d).bind fun(g:Int)=>(idx b d).bind fun(i:Int)=>cond (g !=i) (some (Sum.inr (Sum.inl false))) (some (Sum.inl (IntKind.wrap .i64 (d+1))))) (some (Sum.inr (Sum.inr ())))
def Nj6 (a b:List Int) (c:Int):Option (Bool⊕Unit):=
 nloop (fun(s:Int)=>((N3y a b c s).map (Sum.elim (fun(t:Int)=>Sum.inl t) (Sum.elim (fun(t:Bool)=>Sum.inr (Sum.inl t)) (fun(t:Unit)=>Sum.inr (Sum.inr t)))):Option ((Int)⊕(Bool⊕Unit)))) LL 0
def Npc (a b:List Int) (c:Int):Option (Unit⊕Bool):=
 (Nj6 a b c).map (Sum.elim (fun(t:Bool)=>(Sum.inr t)) (fun(t:Unit)=>(Sum.inl ())))
def Nlt (a b:List Int):Option (Unit⊕Bool):=
 (Ncl a).bind (fun(t:Int)=>Npc a b t)
def Ndy:Option (Bool):=
 some true
def Nox (a b:List Int):Option (Bool):=
 (Nlt a b).bind (Sum.elim (fun(t:Unit)=>Ndy) (fun e=>some ((fun(t:Bool)=>t) e)))
def Nig (a b:List Int):Option (Bool):=
 (N9r a b).bind (Sum.elim (fun(t:Unit)=>Nox a b) (fun e=>some ((fun(t:Bool)=>t) e)))
@[irreducible] def N3k (a b:List Int):Option (Bool):=
 Nig a b
def Ngv (x1:List (List Int)):Option (List (List Int)):=cloneD x1
def N70 (a:List Int) (b:List (List Int)) (c d g:Int):Option ((Bool×(List Int)×(List (List Int)))):=
 (N3o a c d g).bind fun(i:List Int)=>(Na i).bind fun(j:Bool)=>cond (!j) ((Nc a b).bind fun(k:(List Int)×(List (List Int)))=>some (false,(k.1),(k.2))) ((N3k i a).bind fun(l:Bool)=>cond l ((Nc a b).bind fun(m:(List Int)×(List (List Int)))=>some (false,(m.1),(m.2))) ((Ngv b).bind fun(o:List (List Int))=>(room ((List.length o)+List.length ([a]))).bind fun(p:Unit)=>(inc (imax 0 (IntKind.wrap .i64 ((((List.length (o++([a])):Nat):Int))-8))) (List.length (o++([a])))).bind fun(q:Nat)=>(Nc i (((o++([a])).drop q).take ((List.length (o++([a])))-q))).bind fun(w:(List Int)×(List (List Int)))=>some (true,(w.1),(w.2))))
@[irreducible] def N3e (a:List Int) (b:List (List Int)) (c d g:Int):Option (Bool×(List Int)×(List (List Int))):=
 N70 a b c d g
def N72 (a:List Int) (b:List (List Int)) (c d g:Int):Option ((Bool×(List Int)×(List (List Int)))):=
 (N27 a b).bind fun(i:Bool)=>cond (!i) (some (false,([]:List Int),([]:List (List Int)))) ((N36 c d g).bind fun(j:Bool)=>cond (!j) ((Nc a b).bind fun(k:(List Int)×(List (List Int)))=>some (false,(k.1),(k.2))) (cond (c==5) ((N3z a b).bind fun(l:Bool×(List Int)×(List (List Int)))=>some ((l.1),(l.2.1),(l.2.2))) ((N3e a b c d g).bind fun(m:Bool×(List Int)×(List (List Int)))=>some ((m.1),(m.2.1),(m.2.2)))))
@[irreducible] def N2q (a:List Int) (b:List (List Int)) (c d g:Int):Option (Bool×(List Int)×(List (List Int))):=
 N72 a b c d g
def N79 (a:List Int) (b:List (List Int)) (c:ByteArray):Option ((ByteArray×(List Int)×(List (List Int)))):=
 (N27 a b).bind fun(d:Bool)=>cond (!d) (some (ByteArray.empty,([]:List Int),([]:List (List Int)))) ((N1f c).bind fun(g:Bool×Int×Int×Int)=>cond (!(g.1)) ((Nc a b).bind fun(i:(List Int)×(List (List Int)))=>none) ((N2q a b (g.2.1) (g.2.2.1) (g.2.2.2)).bind fun(j:Bool×(List Int)×(List (List Int)))=>cond (!(j.1)) (some ((ByteArray.mk #[110,111,116]),(j.2.1),(j.2.2))) (some ((ByteArray.mk #[111,107]),(j.2.1),(j.2.2)))))
@[irreducible] def N20 (a:List Int) (b:List (List Int)) (c:ByteArray):Option (ByteArray×(List Int)×(List (List Int))):=
 N79 a b c
def Na1 (a:List Int) (b:List (List Int)) (c:List (Int×Int×Int×Unit)):Option (((List Int)×(List (List Int)))⊕(Int×(List Int)×(List (List Int)))):=
 (N27 a b).bind fun(d:Bool)=>cond (!d) (some (Sum.inr (0,([]:List Int),([]:List (List Int))))) (cond (decide ((((List.length c:Nat):Int))>40)) (some (Sum.inr (0,([]:List Int),([]:List (List Int))))) ((Nc a b).bind fun(g:(List Int)×(List (List Int)))=>some (Sum.inl ((g.1),(g.2)))))
def N8o (a:List (Int×Int×Int×Unit)):Option (Int):=
 some (((List.length a:Nat):Int))
def N5w (a:Int) (b:List (Int×Int×Int×Unit)) (c d:Int) (g:List Int) (i:List (List Int)):Option ((Int×Int×(List Int)×(List (List Int)))⊕(Int×(List Int)×(List (List Int)))):=
 cond (decide (d<c)) ((idx b d).bind fun(j:Int×Int×Int×Unit)=>(N2q g i (j.1) ((j.2).1) (((j.2).2).1)).bind fun(k:Bool×(List Int)×(List (List Int)))=>cond (k.1) (some (Sum.inl ((IntKind.wrap .i64 (a+1)),(IntKind.wrap .i64 (d+1)),(k.2.1),(k.2.2)))) (some (Sum.inl (a,(IntKind.wrap .i64 (d+1)),g,i)))) (some (Sum.inr (a,g,i)))
def Nng (a:List (Int×Int×Int×Unit)) (b:Int) (c:List Int) (d:List (List Int)):Option ((Int×(List Int)×(List (List Int)))):=
 nloop (fun(s:Int×Int×(List Int)×(List (List Int)))=>((N5w s.1 a b s.2.1 s.2.2.1 s.2.2.2).map (Sum.elim (fun(t:Int×Int×(List Int)×(List (List Int)))=>Sum.inl (t.1,t.2.1,t.2.2.1,t.2.2.2)) (fun(t:Int×(List Int)×(List (List Int)))=>Sum.inr t)):Option ((Int×Int×(List Int)×(List (List Int)))⊕((Int×(List Int)×(List (List Int))))))) LL (0,0,c,d)
def Noz (a:List (Int×Int×Int×Unit)) (b:Int) (c:List Int) (d:List (List Int)):Option ((Int×(List Int)×(List (List Int)))):=
 (Nng a b c d).map (fun(t:Int×(List Int)×(List (List Int)))=>(t.1,t.2.1,t.2.2))
def Nnk (a:List (Int×Int×Int×Unit)) (b:List Int) (c:List (List Int)):Option ((Int×(List Int)×(List (List Int)))):=
 (N8o a).bind (fun(t:Int)=>Noz a t b c)
def N8t (a:Int) (b:List Int) (c:List (List Int)):Option ((Int×(List Int)×(List (List Int)))):=
 some (a,b,c)
def Nky (a:List (Int×Int×Int×Unit)) (b:List Int) (c:List (List Int)):Option ((Int×(List Int)×(List (List Int)))):=
 (Nnk a b c).bind (fun(t:Int×(List Int)×(List (List Int)))=>N8t t.1 t.2.1 t.2.2)
def Ncs (a:List Int) (b:List (List Int)) (c:List (Int×Int×Int×Unit)):Option ((Int×(List Int)×(List (List Int)))):=
 (Na1 a b c).bind (Sum.elim (fun(t:(List Int)×(List (List Int)))=>Nky c t.1 t.2) (fun e=>some ((fun(t:Int×(List Int)×(List (List Int)))=>t) e)))
@[irreducible] def N22 (a:List Int) (b:List (List Int)) (c:List (Int×Int×Int×Unit)):Option (Int×(List Int)×(List (List Int))):=
 Ncs a b c
def Nb6 (x1:List (Int×Int×Int×Unit)):Option (ByteArray):=jtextL (fun d:Int×Int×Int×Unit=>N3 d.1 d.2.1 d.2.2.1) x1
def N83:Option (Bool):=
 (Na ([0])).bind fun(a:Bool)=>cond a ((Na ([1])).bind fun(b:Bool)=>some (!b)) (some false)
@[irreducible] def N2g:Option (Bool):=
 N83
def Nbq (a b:List Int):Option (Unit⊕Bool):=
 cond ((((List.length a:Nat):Int)) !=(((List.length b:Nat):Int))) (some (Sum.inr false)) (some (Sum.inl ()))
def Nbm:Option (Unit):=
 some ()
def N57 (a b:List Int) (c:Int):Option (Int⊕Bool⊕Unit):=
 cond (decide (c<(((List.length a:Nat):Int)))) ((idx a c).bind fun(d:Int)=>(idx b c).bind fun(g:Int)=>cond (d !=g) (some (Sum.inr (Sum.inl false))) (some (Sum.inl (IntKind.wrap .i64 (c+1))))) (some (Sum.inr (Sum.inr ())))
def Npf (a b:List Int):Option (Bool⊕Unit):=
 nloop (fun(s:Int)=>((N57 a b s).map (Sum.elim (fun(t:Int)=>Sum.inl t) (Sum.elim (fun(t:Bool)=>Sum.inr (Sum.inl t)) (fun(t:Unit)=>Sum.inr (Sum.inr t)))):Option ((Int)⊕(Bool⊕Unit)))) LL 0
def Nks (a b:List Int):Option (Unit⊕Bool):=
 (Npf a b).map (Sum.elim (fun(t:Bool)=>(Sum.inr t)) (fun(t:Unit)=>(Sum.inl ())))
def Nlb (a b:List Int):Option (Unit⊕Bool):=
 (Nbm).bind (fun(t:Unit)=>Nks a b)
def Nc2:Option (Bool):=
 some true
def Njc (a b:List Int):Option (Bool):=
 (Nlb a b).bind (Sum.elim (fun(t:Unit)=>Nc2) (fun e=>some ((fun(t:Bool)=>t) e)))
def Ngw (a b:List Int):Option (Bool):=
 (Nbq a b).bind (Sum.elim (fun(t:Unit)=>Njc a b) (fun e=>some ((fun(t:Bool)=>t) e)))
@[irreducible] def N2m (a b:List Int):Option (Bool):=
 Ngw a b
def N8b (a b:List (List Int)):Option (Unit⊕Bool):=
 cond ((((List.length a:Nat):Int)) !=(((List.length b:Nat):Int))) (some (Sum.inr false)) (some (Sum.inl ()))
def N92:Option (Unit):=
 some ()
def N5e (a b:List (List Int)) (c:Int):Option (Int⊕Bool⊕Unit):=
 cond (decide (c<(((List.length a:Nat):Int)))) ((idx a c).bind fun(d:List Int)=>(idx b c).bind fun(g:List Int)=>(N2m d g).bind fun(i:Bool)=>cond (!i) (some (Sum.inr (Sum.inl false))) (some (Sum.inl (IntKind.wrap .i64 (c+1))))) (some (Sum.inr (Sum.inr ())))
def Njr (a b:List (List Int)):Option (Bool⊕Unit):=
 nloop (fun(s:Int)=>((N5e a b s).map (Sum.elim (fun(t:Int)=>Sum.inl t) (Sum.elim (fun(t:Bool)=>Sum.inr (Sum.inl t)) (fun(t:Unit)=>Sum.inr (Sum.inr t)))):Option ((Int)⊕(Bool⊕Unit)))) LL 0
def Nmy (a b:List (List Int)):Option (Unit⊕Bool):=
 (Njr a b).map (Sum.elim (fun(t:Bool)=>(Sum.inr t)) (fun(t:Unit)=>(Sum.inl ())))
def Nj3 (a b:List (List Int)):Option (Unit⊕Bool):=
 (N92).bind (fun(t:Unit)=>Nmy a b)
def Nb4:Option (Bool):=
 some true
def Nme (a b:List (List Int)):Option (Bool):=
 (Nj3 a b).bind (Sum.elim (fun(t:Unit)=>Nb4) (fun e=>some ((fun(t:Bool)=>t) e)))
def Ng5 (a b:List (List Int)):Option (Bool):=
 (N8b a b).bind (Sum.elim (fun(t:Unit)=>Nme a b) (fun e=>some ((fun(t:Bool)=>t) e)))
@[irreducible] def N3w (a b:List (List Int)):Option (Bool):=
 Ng5 a b
def N8c (a:List Int) (b:List (List Int)) (c:List Int) (d:List (List Int)):Option (Bool):=
 (N2m a c).bind fun(g:Bool)=>cond g ((N3w b d).bind fun(i:Bool)=>some i) (some false)
@[irreducible] def N4n (a:List Int) (b:List (List Int)) (c:List Int) (d:List (List Int)):Option (Bool):=
 N8c a b c d
def N8v (a b:List Int):Option ((ByteArray×Int×(List (Int×Int×Int×Unit)))⊕Bool):=
 cond (decide ((((List.length a:Nat):Int))>1048576)) (some (Sum.inr true)) (cond (decide ((((List.length b:Nat):Int))>1048576)) (some (Sum.inr true)) ((N4b a).bind fun(c:ByteArray)=>(N29 c).bind fun(d:Int×(List (Int×Int×Int×Unit)))=>(N41 c).bind fun(g:Int×(List (Int×Int×Int×Unit)))=>(N2i (d.2) (g.2)).bind fun(i:Bool)=>cond (!i) (some (Sum.inr false)) (cond ((d.1) !=(g.1)) (some (Sum.inr false)) (some (Sum.inl (c,(d.1),(d.2)))))))
def Nc9:Option (Unit):=
 some ()
def N49 (a:ByteArray) (b:Int) (c:List (Int×Int×Int×Unit)):Option (Int⊕Bool⊕Unit):=
 cond (decide (b≤(((ByteArray.size a:Nat):Int)))) ((inc b (ByteArray.size a)).bind fun(d:Nat)=>(N29 (a.extract 0 d)).bind fun(g:Int×(List (Int×Int×Int×Unit)))=>cond (decide ((((List.length (g.2):Nat):Int))>(((List.length c:Nat):Int)))) (some (Sum.inr (Sum.inl false))) ((inc (imin (((List.length (g.2):Nat):Int)) (((List.length c:Nat):Int))) (List.length c)).bind fun(i:Nat)=>(N2i (g.2) ((c.drop 0).take (i-0))).bind fun(j:Bool)=>cond (!j) (some (Sum.inr (Sum.inl false))) (cond (decide ((g.1)>b)) (some (Sum.inr (Sum.inl false))) (some (Sum.inl (IntKind.wrap .i64 (b+1))))))) (some (Sum.inr (Sum.inr ())))
def Njs (a:ByteArray) (b:List (Int×Int×Int×Unit)):Option (Bool⊕Unit):=
 nloop (fun(s:Int)=>((N49 a s b).map (Sum.elim (fun(t:Int)=>Sum.inl t) (Sum.elim (fun(t:Bool)=>Sum.inr (Sum.inl t)) (fun(t:Unit)=>Sum.inr (Sum.inr t)))):Option ((Int)⊕(Bool⊕Unit)))) LL 0
def Njb (a:ByteArray) (b:List (Int×Int×Int×Unit)):Option (Unit⊕Bool):=
 (Njs a b).map (Sum.elim (fun(t:Bool)=>(Sum.inr t)) (fun(t:Unit)=>(Sum.inl ())))
def Nfj (a:ByteArray) (b:List (Int×Int×Int×Unit)):Option (Unit⊕Bool):=
 (Nc9).bind (fun(t:Unit)=>Njb a b)
def Nba (a:List Int):Option (((List Int)×(List (List Int)))):=
 (N4w a).bind fun(b:(List Int)×(List (Int×Int×Int×Unit))×(List (List Int)))=>some ((b.1),(b.2.2))
def Naq:Option (Unit):=
 some ()
def N2t (a:Int) (b:List (Int×Int×Int×Unit)) (c:List Int) (d:List (List Int)) (g:List Int) (i:List (List Int)):Option ((Int×(List Int)×(List (List Int)))⊕Bool⊕((List Int)×(List (List Int)))):=
 cond (decide (a<(((List.length b:Nat):Int)))) ((N13 c d).bind fun(j:Bool)=>cond j ((inb a (List.length b)).bind fun(k:Nat)=>(b[k]?).bind fun(l:Int×Int×Int×Unit)=>(N3 (l.1) ((l.2).1) (((l.2).2).1)).bind fun(m:ByteArray)=>(N20 g i m).bind fun(o:ByteArray×(List Int)×(List (List Int)))=>cond (!(seqs (o.1) (ByteArray.mk #[111,107]))) (cond (!(seqs (o.1) (ByteArray.mk #[110,111,116]))) (some (Sum.inr (Sum.inl false))) (some (Sum.inl ((IntKind.wrap .i64 (a+1)),(o.2.1),(o.2.2))))) (some (Sum.inl ((IntKind.wrap .i64 (a+1)),(o.2.1),(o.2.2))))) (some (Sum.inr (Sum.inr (g,i))))) (some (Sum.inr (Sum.inr (g,i))))
def Nlc (a:List (Int×Int×Int×Unit)) (b:List Int) (c:List (List Int)):Option (Bool⊕((List Int)×(List (List Int)))):=
 nloop (fun(s:Int×(List Int)×(List (List Int)))=>((N2t s.1 a b c s.2.1 s.2.2).map (Sum.elim (fun(t:Int×(List Int)×(List (List Int)))=>Sum.inl (t.1,t.2.1,t.2.2)) (Sum.elim (fun(t:Bool)=>Sum.inr (Sum.inl t)) (fun(t:(List Int)×(List (List Int)))=>Sum.inr (Sum.inr t)))):Option ((Int×(List Int)×(List (List Int)))⊕(Bool⊕((List Int)×(List (List Int))))))) LL (0,b,c)
def Nkc (a:List (Int×Int×Int×Unit)) (b:List Int) (c:List (List Int)):Option (((List Int)×(List (List Int)))⊕Bool):=
 (Nlc a b c).map (Sum.elim (fun(t:Bool)=>(Sum.inr t)) (fun(t:(List Int)×(List (List Int)))=>(Sum.inl (t.1,t.2))))
def Nfy (a:List (Int×Int×Int×Unit)) (b:List Int) (c:List (List Int)):Option (((List Int)×(List (List Int)))⊕Bool):=
 (Naq).bind (fun(t:Unit)=>Nkc a b c)
def N8y (a:ByteArray) (b:Int) (c:List (Int×Int×Int×Unit)) (d:List Int) (g:List (List Int)) (i:List Int) (j:List (List Int)):Option (Bool):=
 (N22 d g c).bind fun(k:Int×(List Int)×(List (List Int)))=>cond (decide (b≤(((ByteArray.size a:Nat):Int)))) ((inc b (ByteArray.size a)).bind fun(l:Nat)=>(Nb6 c).bind fun(m:ByteArray)=>cond (seqs m (a.extract 0 l)) ((N13 d g).bind fun(o:Bool)=>cond (!o) ((N2g).bind fun(p:Bool)=>some p) (cond (decide ((((List.length c:Nat):Int))>40)) ((N2g).bind fun(q:Bool)=>some q) ((N4n i j (k.2.1) (k.2.2)).bind fun(w:Bool)=>cond w ((N2g).bind fun(y:Bool)=>some y) (some false)))) (some false)) (some false)
def Nk1 (a:ByteArray) (b:Int) (c:List (Int×Int×Int×Unit)) (d:List Int) (g:List (List Int)):Option (Bool):=
 (Nfy c d g).bind (Sum.elim (fun(t:(List Int)×(List (List Int)))=>N8y a b c d g t.1 t.2) (fun e=>some ((fun(t:Bool)=>t) e)))
def Nl9 (a:List Int) (b:ByteArray) (c:Int) (d:List (Int×Int×Int×Unit)):Option (Bool):=
 (Nba a).bind (fun(t:(List Int)×(List (List Int)))=>Nk1 b c d t.1 t.2)
def Nnr (a:List Int) (b:ByteArray) (c:Int) (d:List (Int×Int×Int×Unit)):Option (Bool):=
 (Nfj b d).bind (Sum.elim (fun(t:Unit)=>Nl9 a b c d) (fun e=>some ((fun(t:Bool)=>t) e)))
def Nfz (a b:List Int):Option (Bool):=
 (N8v a b).bind (Sum.elim (fun(t:ByteArray×Int×(List (Int×Int×Int×Unit)))=>Nnr b t.1 t.2.1 t.2.2) (fun e=>some ((fun(t:Bool)=>t) e)))
@[irreducible] def N2k (a b:List Int):Option (Bool):=
 Nfz a b
end Go.Rv
