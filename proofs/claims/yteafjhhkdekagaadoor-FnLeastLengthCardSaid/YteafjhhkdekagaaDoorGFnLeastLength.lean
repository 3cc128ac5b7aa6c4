/-
  Plain functions,written by program for functions of the checked code. Conditions: none.
-/
import Derived.Test.YteafjhhkdekagaaDoorFB
set_option linter.unusedVariables false
namespace Go.Rv
def N74 (x18:List Int):Option (((List Int))):=
 cond (decide ((((List.length x18:Nat):Int))>2000)) ((inc 2000 (List.length x18)).bind fun(v35:Nat)=>some ((x18.take v35).drop 0)) (some x18)
@[irreducible] def N2b (x18:List Int):Option ((List Int)):=
 N74 x18
def N8f (x47:Int) (x48:List Int) (x49:Int):Option ((Int×Int)):=
 cond (decide (x47<1)) (some (0,(IntKind.wrap .i64 (x49+1)))) (cond ((((List.length x48:Nat):Int))==0) (some (0,(IntKind.wrap .i64 (x49+1)))) (cond (decide ((IntKind.wrap .i64 ((IntKind.wrap .i64 (x49+1))-1))<(((List.length x48:Nat):Int)))) ((idx x48 (IntKind.wrap .i64 ((IntKind.wrap .i64 (x49+1))-1))).bind fun(a:Int)=>(rem (IntKind.wrap .i64 a) x47).bind fun(b:Int)=>some (b,(IntKind.wrap .i64 (x49+1)))) ((rem (IntKind.wrap .i64 ((IntKind.wrap .i64 (x49+1))-1)) (((List.length x48:Nat):Int))).bind fun(c:Int)=>(idx x48 c).bind fun(d:Int)=>(rem (IntKind.wrap .i64 ((IntKind.wrap .i64 ((IntKind.wrap .i64 ((IntKind.wrap .i64 (x49+1))-1))*7))+3)) (((List.length x48:Nat):Int))).bind fun(g:Int)=>(idx x48 g).bind fun(i:Int)=>(quo .i64 (IntKind.wrap .i64 ((IntKind.wrap .i64 (x49+1))-1)) (((List.length x48:Nat):Int))).bind fun(j:Int)=>(quo .i64 (IntKind.wrap .i64 ((IntKind.wrap .i64 ((IntKind.wrap .i64 ((IntKind.wrap .i64 ((IntKind.wrap .i64 d)*131))+(IntKind.wrap .i64 ((IntKind.wrap .i64 i)*1117))))+(IntKind.wrap .i64 ((IntKind.wrap .i64 ((IntKind.wrap .i64 (x49+1))-1))*29))))+(IntKind.wrap .i64 (j*53)))) 64).bind fun(k:Int)=>(rem (ixor .i64 (IntKind.wrap .i64 ((IntKind.wrap .i64 ((IntKind.wrap .i64 ((IntKind.wrap .i64 ((IntKind.wrap .i64 d)*131))+(IntKind.wrap .i64 ((IntKind.wrap .i64 i)*1117))))+(IntKind.wrap .i64 ((IntKind.wrap .i64 ((IntKind.wrap .i64 (x49+1))-1))*29))))+(IntKind.wrap .i64 (j*53)))) k) x47).bind fun(l:Int)=>some (l,(IntKind.wrap .i64 (x49+1))))))
@[irreducible] def N1 (x47:Int) (x48:List Int) (x49:Int):Option (Int×Int):=
 N8f x47 x48 x49
def N78 (a:List Int) (b:Int):Option ((Int×Int)):=
 (N1 2 a b).bind fun(c:Int×Int)=>some ((c.1),(c.2))
def N8j:Option (Unit):=
 some ()
def N4b (a b c:Int) (d:List Int) (g:Int) (i:List Int):Option ((Int×Int×(List Int))⊕(Int×(List Int))):=
 cond (decide (c≤a)) (cond (b==0) ((N1 c d g).bind fun(j:Int×Int)=>(inc (j.1) (List.length i)).bind fun(k:Nat)=>(room ((List.length ([]:List Int))+List.length ((i.drop 0).take (k-0)))).bind fun(l:Unit)=>(room ((List.length (([]:List Int)++((i.drop 0).take (k-0))))+List.length ([c]))).bind fun(m:Unit)=>(inc (j.1) (List.length i)).bind fun(o:Nat)=>(room ((List.length ((([]:List Int)++((i.drop 0).take (k-0)))++([c])))+List.length ((i.drop o).take ((List.length i)-o)))).bind fun(p:Unit)=>some (Sum.inl ((IntKind.wrap .i64 (c+1)),(j.2),(((([]:List Int)++((i.drop 0).take (k-0)))++([c]))++((i.drop o).take ((List.length i)-o)))))) ((N1 3 d g).bind fun(q:Int×Int)=>cond ((q.1)==0) ((N1 c d (q.2)).bind fun(w:Int×Int)=>(inc (w.1) (List.length i)).bind fun(y:Nat)=>(room ((List.length ([]:List Int))+List.length ((i.drop 0).take (y-0)))).bind fun(z:Unit)=>(room ((List.length (([]:List Int)++((i.drop 0).take (y-0))))+List.length ([c]))).bind fun(a0:Unit)=>(inc (w.1) (List.length i)).bind fun(a1:Nat)=>(room ((List.length ((([]:List Int)++((i.drop 0).take (y-0)))++([c])))+List.length ((i.drop a1).take ((List.length i)-a1)))).bind fun(a2:Unit)=>some (Sum.inl ((IntKind.wrap .i64 (c+1)),(w.2),(((([]:List Int)++((i.drop 0).take (y-0)))++([c]))++((i.drop a1).take ((List.length i)-a1)))))) ((inc (((List.length i:Nat):Int)) (List.length i)).bind fun(a3:Nat)=>(room ((List.length ([]:List Int))+List.length ((i.drop 0).take (a3-0)))).bind fun(a4:Unit)=>(room ((List.length (([]:List Int)++((i.drop 0).take (a3-0))))+List.length ([c]))).bind fun(a5:Unit)=>(inc (((List.length i:Nat):Int)) (List.length i)).bind fun(a6:Nat)=>(room ((List.length ((([]:List Int)++((i.drop 0).take (a3-0)))++([c])))+List.length ((i.drop a6).take ((List.length i)-a6)))).bind fun(a7:Unit)=>some (Sum.inl ((IntKind.wrap .i64 (c+1)),(q.2),(((([]:List Int)++((i.drop 0).take (a3-0)))++([c]))++((i.drop a6).take ((List.length i)-a6)))))))) (some (Sum.inr (g,i)))
def Ngg (a b:Int) (c:List Int) (d:Int):Option ((Int×(List Int))):=
 nloop (fun(s:Int×Int×(List Int))=>((N4b a b s.1 c s.2.1 s.2.2).map (Sum.elim (fun(t:Int×Int×(List Int))=>Sum.inl (t.1,t.2.1,t.2.2)) (fun(t:Int×(List Int))=>Sum.inr t)):Option ((Int×Int×(List Int))⊕((Int×(List Int)))))) LL (1,d,([]:List Int))
def Nel (a b:Int) (c:List Int) (d:Int):Option ((Int×(List Int))):=
 (Ngg a b c d).map (fun(t:Int×(List Int))=>(t.1,t.2))
def Ng1 (a b:Int) (c:List Int) (d:Int):Option ((Int×(List Int))):=
 (N8j).bind (fun(t:Unit)=>Nel a b c d)
def Nct (a:Int) (b:List Int):Option ((Int×(List Int))):=
 some (a,b)
def Ngs (a b:Int) (c:List Int) (d:Int):Option ((Int×(List Int))):=
 (Ng1 a b c d).bind (fun(t:Int×(List Int))=>Nct t.1 t.2)
def Ngt (a:Int) (b:List Int) (c:Int):Option ((Int×(List Int))):=
 (N78 b c).bind (fun(t:Int×Int)=>Ngs a t.1 b t.2)
@[irreducible] def N2h (a:Int) (b:List Int) (c:Int):Option (Int×(List Int)):=
 Ngt a b c
def N8a (a:Int) (b:List Int) (c:Int):Option ((Bool×Int)):=
 cond (decide (a>0)) ((N1 a b c).bind fun(d:Int×Int)=>some (((d.1)==(IntKind.wrap .i64 (a-1))),(d.2))) (some (false,c))
@[irreducible] def N46 (a:Int) (b:List Int) (c:Int):Option (Bool×Int):=
 N8a a b c
def N6c (x44:List Int) (x45:Int):Option ((Int×Int×Int×(List Int)×(List Int))):=
 (N1 7 x44 x45).bind fun(a:Int×Int)=>(N2h (IntKind.wrap .i64 (1+(a.1))) x44 (a.2)).bind fun(b:Int×(List Int))=>(mk (IntKind.wrap .i64 (1+(a.1))) (IntKind.wrap .i64 (1+(a.1)))).bind fun(c:Nat)=>(N1 2 x44 (b.1)).bind fun(d:Int×Int)=>some ((IntKind.wrap .i64 (1+(a.1))),(d.1),(d.2),(b.2),(List.replicate c (0:Int)))
def N8e:Option (Unit):=
 some ()
def N56 (a b c:Int) (x44:List Int) (d:Int) (g i:List Int):Option ((Int×Int×(List Int))⊕(Int×(List Int))):=
 cond (decide (c<a)) ((N1 c x44 d).bind fun(j:Int×Int)=>cond (b==1) ((N1 2 x44 (j.2)).bind fun(k:Int×Int)=>cond ((k.1)==0) ((inb c (List.length g)).bind fun(l:Nat)=>(g[l]?).bind fun(m:Int)=>(inb (IntKind.wrap .i64 (c-1)) (List.length g)).bind fun(o:Nat)=>(g[o]?).bind fun(p:Int)=>(inb (IntKind.wrap .i64 (m-1)) (List.length i)).bind fun(q:Nat)=>some (Sum.inl ((IntKind.wrap .i64 (c+1)),(k.2),(i.set q p)))) ((inb c (List.length g)).bind fun(w:Nat)=>(g[w]?).bind fun(y:Int)=>(inb (j.1) (List.length g)).bind fun(z:Nat)=>(g[z]?).bind fun(a0:Int)=>(inb (IntKind.wrap .i64 (y-1)) (List.length i)).bind fun(a1:Nat)=>some (Sum.inl ((IntKind.wrap .i64 (c+1)),(k.2),(i.set a1 a0))))) ((inb c (List.length g)).bind fun(a2:Nat)=>(g[a2]?).bind fun(a3:Int)=>(inb (j.1) (List.length g)).bind fun(a4:Nat)=>(g[a4]?).bind fun(a5:Int)=>(inb (IntKind.wrap .i64 (a3-1)) (List.length i)).bind fun(a6:Nat)=>some (Sum.inl ((IntKind.wrap .i64 (c+1)),(j.2),(i.set a6 a5))))) (some (Sum.inr (d,i)))
def Ndt (a b:Int) (x44:List Int) (c:Int) (d g:List Int):Option ((Int×(List Int))):=
 nloop (fun(s:Int×Int×(List Int))=>((N56 a b s.1 x44 s.2.1 d s.2.2).map (Sum.elim (fun(t:Int×Int×(List Int))=>Sum.inl (t.1,t.2.1,t.2.2)) (fun(t:Int×(List Int))=>Sum.inr t)):Option ((Int×Int×(List Int))⊕((Int×(List Int)))))) LL (1,c,g)
def Nfs (a b:Int) (x44:List Int) (c:Int) (d g:List Int):Option ((Int×(List Int))):=
 (Ndt a b x44 c d g).map (fun(t:Int×(List Int))=>(t.1,t.2))
def Ne7 (a b:Int) (x44:List Int) (c:Int) (d g:List Int):Option ((Int×(List Int))):=
 (N8e).bind (fun(t:Unit)=>Nfs a b x44 c d g)
def N7d (x43 a:Int) (x44:List Int) (b:Int) (c:List Int):Option ((Int×(List Int))):=
 (N46 x43 x44 b).bind fun(d:Bool×Int)=>cond (d.1) ((N1 4 x44 (d.2)).bind fun(g:Int×Int)=>cond ((g.1)==0) (some ((g.2),([]:List Int))) (cond ((g.1)==1) (some ((g.2),([2,1,0]))) (cond ((g.1)==2) ((N1 a x44 (g.2)).bind fun(i:Int×Int)=>(inb (i.1) (List.length c)).bind fun(j:Nat)=>(room ((List.length (c.set j 0))+List.length ([0]))).bind fun(k:Unit)=>some ((i.2),((c.set j 0)++([0])))) ((N1 3 x44 (g.2)).bind fun(l:Int×Int)=>(inb (l.1) (List.length ([1,(IntKind.wrap .i64 (a+1)),(-1)]))).bind fun(m:Nat)=>(([1,(IntKind.wrap .i64 (a+1)),(-1)])[m]?).bind fun(o:Int)=>(inb 0 (List.length c)).bind fun(p:Nat)=>some ((l.2),(c.set p o)))))) (some ((d.2),c))
def Ne8 (x43 a b:Int) (x44:List Int) (c:Int) (d g:List Int):Option ((Int×(List Int))):=
 (Ne7 a b x44 c d g).bind (fun(t:Int×(List Int))=>N7d x43 a x44 t.1 t.2)
def Nhq (x43:Int) (x44:List Int) (x45:Int):Option ((Int×(List Int))):=
 (N6c x44 x45).bind (fun(t:Int×Int×Int×(List Int)×(List Int))=>Ne8 x43 t.1 t.2.1 x44 t.2.2.1 t.2.2.2.1 t.2.2.2.2)
@[irreducible] def N22 (x43:Int) (x44:List Int) (x45:Int):Option (Int×(List Int)):=
 Nhq x43 x44 x45
def N6e (a b c:Int):Option (Bool):=
 cond (decide (a≥b)) (some (decide (a≤c))) (some false)
@[irreducible] def Np (a b c:Int):Option (Bool):=
 N6e a b c
def N73 (a:List Int):Option (Int⊕Bool):=
 (Np (((List.length a:Nat):Int)) 1 8).bind fun(b:Bool)=>cond (!b) (some (Sum.inr false)) (some (Sum.inl (((List.length a:Nat):Int))))
def N8o:Option (Unit):=
 some ()
def N4r (a b c:Int):Option (Unit⊕Int):=
 cond (decide (c<a)) (some (Sum.inl ())) (some (Sum.inr b))
def N5d (a:List Int) (b c d:Int):Option ((Int×Int)⊕Bool):=
 (idx a d).bind fun(g:Int)=>(Np g 0 b).bind fun(i:Bool)=>cond (!i) (some (Sum.inr false)) ((idx a d).bind fun(j:Int)=>cond (j==(IntKind.wrap .i64 (d+1))) (some (Sum.inr false)) ((idx a d).bind fun(k:Int)=>cond (k==0) (some (Sum.inl ((IntKind.wrap .i64 (c+1)),(IntKind.wrap .i64 (d+1))))) (some (Sum.inl (c,(IntKind.wrap .i64 (d+1)))))))
def N5h:Option (Unit):=
 some ()
def N4w (a:List Int) (b c d:Int):Option ((Int×Int)⊕Bool⊕Int):=
 cond (decide (c>0)) (cond (decide (d<b)) ((idx a (IntKind.wrap .i64 (c-1))).bind fun(g:Int)=>(Np g 0 b).bind fun(i:Bool)=>cond (!i) (some (Sum.inr (Sum.inl false))) (some (Sum.inl (g,(IntKind.wrap .i64 (d+1)))))) (some (Sum.inr (Sum.inr c)))) (some (Sum.inr (Sum.inr c)))
def Nc3 (a:List Int) (b c:Int):Option (Bool⊕Int):=
 nloop (fun(s:Int×Int)=>((N4w a b s.1 s.2).map (Sum.elim (fun(t:Int×Int)=>Sum.inl (t.1,t.2)) (Sum.elim (fun(t:Bool)=>Sum.inr (Sum.inl t)) (fun(t:Int)=>Sum.inr (Sum.inr t)))):Option ((Int×Int)⊕(Bool⊕Int)))) LL (c,0)
def Ngc (a:List Int) (b c:Int):Option (Int⊕Bool):=
 (Nc3 a b c).map (Sum.elim (fun(t:Bool)=>(Sum.inr t)) (fun(t:Int)=>(Sum.inl t)))
def Ngv (a:List Int) (b c:Int):Option (Int⊕Bool):=
 (N5h).bind (fun(t:Unit)=>Ngc a b c)
def N5p (a:Int):Option (Unit⊕Bool):=
 cond (decide (a>0)) (some (Sum.inr false)) (some (Sum.inl ()))
def Ndj (a:List Int) (b c:Int):Option (Unit⊕Bool):=
 (Ngv a b c).bind (Sum.elim (fun(t:Int)=>N5p t) (fun e=>some ((fun(t:Bool)=>(Sum.inr t)) e)))
def Ng5 (a:List Int) (b c d:Int):Option (Int⊕Bool):=
 (N5d a b c d).bind (Sum.elim (fun(t:Int×Int)=>(Ndj a b t.2).map (Sum.elim (fun(u:Unit)=>(Sum.inl t.1)) (fun(u:Bool)=>(Sum.inr u)))) (fun e=>some ((fun(t:Bool)=>(Sum.inr t)) e)))
def Ndk (a:List Int) (b c d:Int):Option (Int⊕Bool):=
 (Ng5 a b c d).map (Sum.elim (fun(t:Int)=>(Sum.inl t)) (fun(t:Bool)=>(Sum.inr t)))
def N7f (a:Int):Option (Int):=
 some (IntKind.wrap .i64 (a+1))
def Neo (a:List Int) (b c d:Int):Option ((Int×Int)⊕Bool):=
 (Ndk a b c d).bind (Sum.elim (fun(t:Int)=>(N7f d).map (fun(u:Int)=>(Sum.inl (t,u)))) (fun e=>some ((fun(t:Bool)=>(Sum.inr t)) e)))
def N6a (a:List Int) (b c d:Int):Option ((Int×Int)⊕Bool⊕Int):=
 (N4r b c d).bind (Sum.elim (fun(t:Unit)=>(Neo a b c d).map (Sum.elim (fun(t:Int×Int)=>(Sum.inl (t.1,t.2))) (fun(t:Bool)=>(Sum.inr (Sum.inl t))))) (fun e=>some ((fun(t:Int)=>(Sum.inr (Sum.inr t))) e)))
def Nd5 (a:List Int) (b:Int):Option (Bool⊕Int):=
 nloop (fun(s:Int×Int)=>((N6a a b s.1 s.2).map (Sum.elim (fun(t:Int×Int)=>Sum.inl (t.1,t.2)) (Sum.elim (fun(t:Bool)=>Sum.inr (Sum.inl t)) (fun(t:Int)=>Sum.inr (Sum.inr t)))):Option ((Int×Int)⊕(Bool⊕Int)))) LL (0,0)
def Ney (a:List Int) (b:Int):Option (Int⊕Bool):=
 (Nd5 a b).map (Sum.elim (fun(t:Bool)=>(Sum.inr t)) (fun(t:Int)=>(Sum.inl t)))
def Nhy (a:List Int) (b:Int):Option (Int⊕Bool):=
 (N8o).bind (fun(t:Unit)=>Ney a b)
def N6w (a:Int):Option (Bool):=
 some (a==1)
def Ng8 (a:List Int) (b:Int):Option (Bool):=
 (Nhy a b).bind (Sum.elim (fun(t:Int)=>N6w t) (fun e=>some ((fun(t:Bool)=>t) e)))
def Nde (a:List Int):Option (Bool):=
 (N73 a).bind (Sum.elim (fun(t:Int)=>Ng8 a t) (fun e=>some ((fun(t:Bool)=>t) e)))
@[irreducible] def Nx (a:List Int):Option (Bool):=
 Nde a
def N5o:Option (Unit):=
 some ()
def N8i:Option (Unit):=
 some ()
def N6i (a:List Int) (b:Int):Option (Unit⊕Unit):=
 cond (decide (b<(((List.length a:Nat):Int)))) (some (Sum.inl ())) (some (Sum.inr ()))
def N88 (a:List Int) (b c:Int):Option (Unit⊕Bool):=
 (idx a c).bind fun(d:Int)=>(Np d 1 b).bind fun(g:Bool)=>cond (!g) (some (Sum.inr false)) (some (Sum.inl ()))
def N4j (a:List Int) (b c:Int):Option (Int⊕Bool⊕Unit):=
 cond (decide (c<b)) ((idx a c).bind fun(d:Int)=>(idx a b).bind fun(g:Int)=>cond (d==g) (some (Sum.inr (Sum.inl false))) (some (Sum.inl (IntKind.wrap .i64 (c+1))))) (some (Sum.inr (Sum.inr ())))
def Nba (a:List Int) (b:Int):Option (Bool⊕Unit):=
 nloop (fun(s:Int)=>((N4j a b s).map (Sum.elim (fun(t:Int)=>Sum.inl t) (Sum.elim (fun(t:Bool)=>Sum.inr (Sum.inl t)) (fun(t:Unit)=>Sum.inr (Sum.inr t)))):Option ((Int)⊕(Bool⊕Unit)))) LL 0
def Nee (a:List Int) (b:Int):Option (Unit⊕Bool):=
 (Nba a b).map (Sum.elim (fun(t:Bool)=>(Sum.inr t)) (fun(t:Unit)=>(Sum.inl ())))
def Nej (a:List Int) (b c:Int):Option (Unit⊕Bool):=
 (N88 a b c).bind (Sum.elim (fun(t:Unit)=>Nee a c) (fun e=>some ((fun(t:Bool)=>(Sum.inr t)) e)))
def Neh (a:List Int) (b c:Int):Option (Unit⊕Bool):=
 (Nej a b c).map (Sum.elim (fun(t:Unit)=>(Sum.inl ())) (fun(t:Bool)=>(Sum.inr t)))
def N81 (a:Int):Option (Int):=
 some (IntKind.wrap .i64 (a+1))
def Nf0 (a:List Int) (b c:Int):Option (Int⊕Bool):=
 (Neh a b c).bind (Sum.elim (fun(t:Unit)=>(N81 c).map (fun(t:Int)=>(Sum.inl t))) (fun e=>some ((fun(t:Bool)=>(Sum.inr t)) e)))
def Nao (a:List Int) (b c:Int):Option (Int⊕Bool⊕Unit):=
 (N6i a c).bind (Sum.elim (fun(t:Unit)=>(Nf0 a b c).map (Sum.elim (fun(t:Int)=>(Sum.inl t)) (fun(t:Bool)=>(Sum.inr (Sum.inl t))))) (fun e=>some ((fun(t:Unit)=>(Sum.inr (Sum.inr t))) e)))
def Nfp (a:List Int) (b:Int):Option (Bool⊕Unit):=
 nloop (fun(s:Int)=>((Nao a b s).map (Sum.elim (fun(t:Int)=>Sum.inl t) (Sum.elim (fun(t:Bool)=>Sum.inr (Sum.inl t)) (fun(t:Unit)=>Sum.inr (Sum.inr t)))):Option ((Int)⊕(Bool⊕Unit)))) LL 0
def Ne2 (a:List Int) (b:Int):Option (Unit⊕Bool):=
 (Nfp a b).map (Sum.elim (fun(t:Bool)=>(Sum.inr t)) (fun(t:Unit)=>(Sum.inl ())))
def Ng9 (a:List Int) (b:Int):Option (Unit⊕Bool):=
 (N8i).bind (fun(t:Unit)=>Ne2 a b)
def N66 (a:List Int) (b:Int):Option (Bool):=
 (Np b 1 8).bind fun(c:Bool)=>cond c (some ((((List.length a:Nat):Int))==b)) (some false)
def Nhj (a:List Int) (b:Int):Option (Bool):=
 (Ng9 a b).bind (Sum.elim (fun(t:Unit)=>N66 a b) (fun e=>some ((fun(t:Bool)=>t) e)))
def Ng2 (a:List Int) (b:Int):Option (Bool):=
 (N5o).bind (fun(t:Unit)=>Nhj a b)
@[irreducible] def N3i (a:List Int) (b:Int):Option (Bool):=
 Ng2 a b
def N89 (a b:List Int):Option (((List Int))⊕(Bool×(List Int))):=
 (Nx a).bind fun(c:Bool)=>cond (!c) (some (Sum.inr (false,([]:List Int)))) ((N3i b (((List.length a:Nat):Int))).bind fun(d:Bool)=>cond (!d) (some (Sum.inr (false,([]:List Int)))) ((mk (IntKind.wrap .i64 ((((List.length a:Nat):Int))+1)) (IntKind.wrap .i64 ((((List.length a:Nat):Int))+1))).bind fun(g:Nat)=>some (Sum.inl (List.replicate g (0:Int)))))
def N7e:Option (Unit):=
 some ()
def N8r (a:List Int) (b:Int) (c:List Int):Option ((Int×(List Int))⊕((List Int))):=
 cond (decide (b<(((List.length a:Nat):Int)))) ((idx a b).bind fun(d:Int)=>(inb d (List.length c)).bind fun(g:Nat)=>some (Sum.inl ((IntKind.wrap .i64 (b+1)),(c.set g (IntKind.wrap .i64 (b+1)))))) (some (Sum.inr c))
def Nem (a b:List Int):Option (((List Int))):=
 nloop (fun(s:Int×(List Int))=>((N8r a s.1 s.2).map (Sum.elim (fun(t:Int×(List Int))=>Sum.inl (t.1,t.2)) (fun(t:(List Int))=>Sum.inr t)):Option ((Int×(List Int))⊕(((List Int)))))) LL (0,b)
def Ne1 (a b:List Int):Option (((List Int))):=
 (Nem a b).map (fun(t:(List Int))=>t)
def Nei (a b:List Int):Option (((List Int))):=
 (N7e).bind (fun(t:Unit)=>Ne1 a b)
def N6b:Option (Unit):=
 some ()
def N8b:Option (Unit):=
 some ()
def N4z (a b:List Int) (c:Int) (d g:List Int):Option ((Int×(List Int))⊕((List Int))):=
 cond (decide (c<(((List.length b:Nat):Int)))) ((idx b c).bind fun(i:Int)=>(idx a (IntKind.wrap .i64 (i-1))).bind fun(j:Int)=>(inb j (List.length d)).bind fun(k:Nat)=>(d[k]?).bind fun(l:Int)=>(room ((List.length g)+List.length ([l]))).bind fun(m:Unit)=>some (Sum.inl ((IntKind.wrap .i64 (c+1)),(g++([l]))))) (some (Sum.inr g))
def Ni8 (a b c:List Int):Option (((List Int))):=
 nloop (fun(s:Int×(List Int))=>((N4z a b s.1 c s.2).map (Sum.elim (fun(t:Int×(List Int))=>Sum.inl (t.1,t.2)) (fun(t:(List Int))=>Sum.inr t)):Option ((Int×(List Int))⊕(((List Int)))))) LL (0,([]:List Int))
def Ngw (a b c:List Int):Option (((List Int))):=
 (Ni8 a b c).map (fun(t:(List Int))=>t)
def Ngu (a b c:List Int):Option (((List Int))):=
 (N8b).bind (fun(t:Unit)=>Ngw a b c)
def N6s (a:List Int):Option ((Bool×(List Int))):=
 some (true,a)
def Nh2 (a b c:List Int):Option ((Bool×(List Int))):=
 (Ngu a b c).bind (fun(t:(List Int))=>N6s t)
def Ndd (a b c:List Int):Option ((Bool×(List Int))):=
 (N6b).bind (fun(t:Unit)=>Nh2 a b c)
def Nhd (a b c:List Int):Option ((Bool×(List Int))):=
 (Nei b c).bind (fun(t:(List Int))=>Ndd a b t)
def Nhi (a b:List Int):Option ((Bool×(List Int))):=
 (N89 a b).bind (Sum.elim (fun(t:(List Int))=>Nhd a b t) (fun e=>some ((fun(t:Bool×(List Int))=>t) e)))
@[irreducible] def N31 (a b:List Int):Option (Bool×(List Int)):=
 Nhi a b
def N7o (R0:Int→Int→Int→(List Int)→Int→(List Int)→Option (Int×(List Int))) (a b c:Int) (d:List Int) (g:Int) (i:List Int):Option ((Int×Int×(List Int))⊕(Int×(List Int))):=
 cond (decide (a>b)) (some (Sum.inr (g,i))) ((N1 (IntKind.wrap .i64 ((IntKind.wrap .i64 (b-a))+1)) d g).bind fun(j:Int×Int)=>(inb (IntKind.wrap .i64 ((IntKind.wrap .i64 (a+(j.1)))-1)) (List.length i)).bind fun(k:Nat)=>some (Sum.inl ((IntKind.wrap .i64 (a+(j.1))),(j.2),(i.set k c))))
def N4a (R0:Int→Int→Int→(List Int)→Int→(List Int)→Option (Int×(List Int))) (a b:Int) (c:List Int) (d:Int) (g:List Int):Option ((Int×Int×(List Int))⊕(Int×(List Int))):=
 cond (decide (b<a)) ((N1 (IntKind.wrap .i64 (a-b)) c d).bind fun(i:Int×Int)=>(R0 b (IntKind.wrap .i64 (b+(i.1))) a c (i.2) g).bind fun(j:Int×(List Int))=>some (Sum.inl ((IntKind.wrap .i64 ((IntKind.wrap .i64 (b+(i.1)))+1)),(j.1),(j.2)))) (some (Sum.inr (d,g)))
def Nf9 (R0:Int→Int→Int→(List Int)→Int→(List Int)→Option (Int×(List Int))) (a b:Int) (c:List Int) (d:Int) (g:List Int):Option ((Int×(List Int))):=
 nloop (fun(s:Int×Int×(List Int))=>((N4a R0 a s.1 c s.2.1 s.2.2).map (Sum.elim (fun(t:Int×Int×(List Int))=>Sum.inl (t.1,t.2.1,t.2.2)) (fun(t:Int×(List Int))=>Sum.inr t)):Option ((Int×Int×(List Int))⊕((Int×(List Int)))))) LL (b,d,g)
def Nhg (R0:Int→Int→Int→(List Int)→Int→(List Int)→Option (Int×(List Int))) (a b:Int) (c:List Int) (d:Int) (g:List Int):Option ((Int×(List Int))):=
 (Nf9 R0 a b c d g).map (fun(t:Int×(List Int))=>(t.1,t.2))
def N5r (R0:Int→Int→Int→(List Int)→Int→(List Int)→Option (Int×(List Int))) (a:Int):Option (Int):=
 some (IntKind.wrap .i64 (a+1))
def N55 (R0:Int→Int→Int→(List Int)→Int→(List Int)→Option (Int×(List Int))) (a b c:Int) (d:List Int) (g:Int) (i:List Int):Option ((Int×Int×(List Int))⊕(Int×(List Int))):=
 cond (decide (c≤a)) ((N1 (IntKind.wrap .i64 ((IntKind.wrap .i64 (a-c))+1)) d g).bind fun(j:Int×Int)=>(R0 c (IntKind.wrap .i64 (c+(j.1))) b d (j.2) i).bind fun(k:Int×(List Int))=>some (Sum.inl ((IntKind.wrap .i64 ((IntKind.wrap .i64 (c+(j.1)))+1)),(k.1),(k.2)))) (some (Sum.inr (g,i)))
def Ndb (R0:Int→Int→Int→(List Int)→Int→(List Int)→Option (Int×(List Int))) (a b c:Int) (d:List Int) (g:Int) (i:List Int):Option ((Int×(List Int))):=
 nloop (fun(s:Int×Int×(List Int))=>((N55 R0 a b s.1 d s.2.1 s.2.2).map (Sum.elim (fun(t:Int×Int×(List Int))=>Sum.inl (t.1,t.2.1,t.2.2)) (fun(t:Int×(List Int))=>Sum.inr t)):Option ((Int×Int×(List Int))⊕((Int×(List Int)))))) LL (c,g,i)
def Nhp (R0:Int→Int→Int→(List Int)→Int→(List Int)→Option (Int×(List Int))) (a b c:Int) (d:List Int) (g:Int) (i:List Int):Option ((Int×(List Int))):=
 (Ndb R0 a b c d g i).map (fun(t:Int×(List Int))=>(t.1,t.2))
def Ngr (R0:Int→Int→Int→(List Int)→Int→(List Int)→Option (Int×(List Int))) (a b:Int) (c:List Int) (d:Int) (g:List Int):Option ((Int×(List Int))):=
 (N5r R0 b).bind (fun(t:Int)=>Nhp R0 a b t c d g)
def Ndg (R0:Int→Int→Int→(List Int)→Int→(List Int)→Option (Int×(List Int))) (a b c:Int) (d:List Int) (g:Int) (i:List Int):Option ((Int×(List Int))):=
 (Nhg R0 b c d g i).bind (fun(t:Int×(List Int))=>Ngr R0 a b d t.1 t.2)
def Ng4 (R0:Int→Int→Int→(List Int)→Int→(List Int)→Option (Int×(List Int))) (a b c:Int) (d:List Int) (g:Int) (i:List Int):Option ((Int×(List Int))⊕(Int×(List Int))):=
 (N7o R0 a b c d g i).bind (Sum.elim (fun(t:Int×Int×(List Int))=>(Ndg R0 b t.1 a d t.2.1 t.2.2).map (fun(u:Int×(List Int))=>(Sum.inl (u.1,u.2)))) (fun e=>some ((fun(t:Int×(List Int))=>(Sum.inr t)) e)))
def Ngd (R0:Int→Int→Int→(List Int)→Int→(List Int)→Option (Int×(List Int))) (a b c:Int) (d:List Int) (g:Int) (i:List Int):Option (Int×(List Int)):=
 (Ng4 R0 a b c d g i).map (Sum.elim (fun(t:Int×(List Int))=>(t.1,t.2)) (fun(t:Int×(List Int))=>t))
def N2e:Nat→(Int→Int→Int→(List Int)→Int→(List Int)→Option (Int×(List Int)))
 |0=>(fun _ _ _ _ _ _=>none)
 |n+1=>(fun y0 y1 y2 y3 y4 y5=>Ngd (N2e n) y0 y1 y2 y3 y4 y5)
def N1e (n:Nat):Int→Int→Int→(List Int)→Int→(List Int)→Option (Int×(List Int)):=(N2e n)
@[irreducible] def N4n (a b c:Int) (d:List Int) (g:Int) (i:List Int):Option (Int×(List Int)):=N1e RR a b c d g i
def N4s (a:Int) (b:List Int) (c:Int):Option ((Int×(List Int))):=
 (N1 3 b c).bind fun(d:Int×Int)=>cond ((d.1)==0) ((N22 a b (d.2)).bind fun(g:Int×(List Int))=>some ((g.1),(g.2))) ((N1 7 b (d.2)).bind fun(i:Int×Int)=>(mk (IntKind.wrap .i64 (1+(i.1))) (IntKind.wrap .i64 (1+(i.1)))).bind fun(j:Nat)=>(N4n 1 (IntKind.wrap .i64 (1+(i.1))) 0 b (i.2) (List.replicate j (0:Int))).bind fun(k:Int×(List Int))=>some ((k.1),(k.2)))
@[irreducible] def N1j (a:Int) (b:List Int) (c:Int):Option (Int×(List Int)):=
 N4s a b c
def N4f (x40:Int) (x41:List Int) (x42:Int):Option ((Int×(List Int))):=
 (N22 x40 x41 x42).bind fun(a:Int×(List Int))=>(N1 2 x41 (a.1)).bind fun(b:Int×Int)=>cond ((b.1)==0) ((Nx (a.2)).bind fun(c:Bool)=>cond c ((N2h (((List.length (a.2):Nat):Int)) x41 (b.2)).bind fun(d:Int×(List Int))=>(N31 (a.2) (d.2)).bind fun(g:Bool×(List Int))=>some ((d.1),(g.2))) ((N1 3 x41 (b.2)).bind fun(i:Int×Int)=>cond ((i.1)==0) ((N1j x40 x41 (i.2)).bind fun(j:Int×(List Int))=>some ((j.1),(j.2))) (some ((i.2),(a.2))))) ((N1 3 x41 (b.2)).bind fun(k:Int×Int)=>cond ((k.1)==0) ((N1j x40 x41 (k.2)).bind fun(l:Int×(List Int))=>some ((l.1),(l.2))) (some ((k.2),(a.2))))
@[irreducible] def N1u (x40:Int) (x41:List Int) (x42:Int):Option (Int×(List Int)):=
 N4f x40 x41 x42
def N7a (x16:List Int):Option (((List Int))):=
 (N2b x16).bind fun(a:List Int)=>(N1u 9 a 0).bind fun(b:Int×(List Int))=>some (b.2)
@[irreducible] def N2r (x16:List Int):Option ((List Int)):=
 N7a x16
def N6g:Option (Unit):=
 some ()
def N6z (a:List Int):Option (Int):=
 some (((List.length a:Nat):Int))
def N2v (a:List Int) (b c d:Int):Option ((Int×Int)⊕Bool⊕Int):=
 cond (decide (d<c)) ((idx a d).bind fun(g:Int)=>cond (decide (g<0)) (some (Sum.inr (Sum.inl false))) (cond (decide (g>(((List.length a:Nat):Int)))) (some (Sum.inr (Sum.inl false))) (cond (g==0) (some (Sum.inl ((IntKind.wrap .i64 (b+1)),(IntKind.wrap .i64 (d+1))))) (some (Sum.inl (b,(IntKind.wrap .i64 (d+1)))))))) (some (Sum.inr (Sum.inr b)))
def Nf5 (a:List Int) (b:Int):Option (Bool⊕Int):=
 nloop (fun(s:Int×Int)=>((N2v a s.1 b s.2).map (Sum.elim (fun(t:Int×Int)=>Sum.inl (t.1,t.2)) (Sum.elim (fun(t:Bool)=>Sum.inr (Sum.inl t)) (fun(t:Int)=>Sum.inr (Sum.inr t)))):Option ((Int×Int)⊕(Bool⊕Int)))) LL (0,0)
def Nft (a:List Int) (b:Int):Option (Int⊕Bool):=
 (Nf5 a b).map (Sum.elim (fun(t:Bool)=>(Sum.inr t)) (fun(t:Int)=>(Sum.inl t)))
def Nhx (a:List Int):Option (Int⊕Bool):=
 (N6z a).bind (fun(t:Int)=>Nft a t)
def N8c (a:Int):Option (Bool):=
 some (a==1)
def Ngx (a:List Int):Option (Bool):=
 (Nhx a).bind (Sum.elim (fun(t:Int)=>N8c t) (fun e=>some ((fun(t:Bool)=>t) e)))
def Nhm (a:List Int):Option (Bool):=
 (N6g).bind (fun(t:Unit)=>Ngx a)
@[irreducible] def N3b (a:List Int):Option (Bool):=
 Nhm a
def N7p (a:List Int) (b c:Int):Option ((Bool×Int×Int)):=
 (idx a (IntKind.wrap .i64 (b-1))).bind fun(d:Int)=>cond (d==0) (some (false,b,c)) (some (true,d,(IntKind.wrap .i64 (c+1))))
@[irreducible] def N2g (a:List Int) (b c:Int):Option (Bool×Int×Int):=
 N7p a b c
def N7g:Option (Unit):=
 some ()
def N4c (a:List Int) (b c:Int):Option ((Int×Int)⊕(Int×Bool)⊕(Int×Int)):=
 (N2g a b c).bind fun(d:Bool×Int×Int)=>cond (d.1) (cond (decide ((d.2.2)≥(((List.length a:Nat):Int)))) (some (Sum.inr (Sum.inl (0,false)))) (some (Sum.inl ((d.2.1),(d.2.2))))) (some (Sum.inr (Sum.inr ((d.2.1),(d.2.2)))))
def Nhh (a:List Int) (b:Int):Option ((Int×Bool)⊕(Int×Int)):=
 nloop (fun(s:Int×Int)=>((N4c a s.1 s.2).map (Sum.elim (fun(t:Int×Int)=>Sum.inl (t.1,t.2)) (Sum.elim (fun(t:Int×Bool)=>Sum.inr (Sum.inl t)) (fun(t:Int×Int)=>Sum.inr (Sum.inr t)))):Option ((Int×Int)⊕((Int×Bool)⊕(Int×Int))))) LL (b,0)
def Ndx (a:List Int) (b:Int):Option ((Int×Int)⊕(Int×Bool)):=
 (Nhh a b).map (Sum.elim (fun(t:Int×Bool)=>(Sum.inr t)) (fun(t:Int×Int)=>(Sum.inl (t.1,t.2))))
def N8s (a:Int):Option ((Int×Bool)):=
 some (a,true)
def Nd4 (a:List Int) (b:Int):Option ((Int×Bool)):=
 (Ndx a b).bind (Sum.elim (fun(t:Int×Int)=>N8s t.2) (fun e=>some ((fun(t:Int×Bool)=>t) e)))
def Nhr (a:List Int) (b:Int):Option ((Int×Bool)):=
 (N7g).bind (fun(t:Unit)=>Nd4 a b)
@[irreducible] def N2s (a:List Int) (b:Int):Option (Int×Bool):=
 Nhr a b
def N8l (a:List Int):Option (Unit⊕Bool):=
 cond (decide ((((List.length a:Nat):Int))<1)) (some (Sum.inr false)) (cond (decide ((((List.length a:Nat):Int))>8)) (some (Sum.inr false)) ((N3b a).bind fun(b:Bool)=>cond (!b) (some (Sum.inr false)) (some (Sum.inl ()))))
def N6d (a:List Int):Option (Int):=
 some (((List.length a:Nat):Int))
def N47 (a:List Int) (b c:Int):Option (Int⊕Bool⊕Unit):=
 cond (decide (c<b)) ((N2s a (IntKind.wrap .i64 (c+1))).bind fun(d:Int×Bool)=>cond (!(d.2)) (some (Sum.inr (Sum.inl false))) (some (Sum.inl (IntKind.wrap .i64 (c+1))))) (some (Sum.inr (Sum.inr ())))
def Nhb (a:List Int) (b:Int):Option (Bool⊕Unit):=
 nloop (fun(s:Int)=>((N47 a b s).map (Sum.elim (fun(t:Int)=>Sum.inl t) (Sum.elim (fun(t:Bool)=>Sum.inr (Sum.inl t)) (fun(t:Unit)=>Sum.inr (Sum.inr t)))):Option ((Int)⊕(Bool⊕Unit)))) LL 0
def Ne3 (a:List Int) (b:Int):Option (Unit⊕Bool):=
 (Nhb a b).map (Sum.elim (fun(t:Bool)=>(Sum.inr t)) (fun(t:Unit)=>(Sum.inl ())))
def Nfg (a:List Int):Option (Unit⊕Bool):=
 (N6d a).bind (fun(t:Int)=>Ne3 a t)
def Nbo:Option (Bool):=
 some true
def Ng6 (a:List Int):Option (Bool):=
 (Nfg a).bind (Sum.elim (fun(t:Unit)=>Nbo) (fun e=>some ((fun(t:Bool)=>t) e)))
def Nf1 (a:List Int):Option (Bool):=
 (N8l a).bind (Sum.elim (fun(t:Unit)=>Ng6 a) (fun e=>some ((fun(t:Bool)=>t) e)))
@[irreducible] def N8 (a:List Int):Option (Bool):=
 Nf1 a
def N7j (a:List Int):Option (Unit⊕Int):=
 (N8 a).bind fun(b:Bool)=>cond (!b) (some (Sum.inr (-1))) (some (Sum.inl ()))
def N53 (a:List Int) (b c:Int):Option ((Int×Int)⊕(Int×Int)):=
 (N2g a b c).bind fun(d:Bool×Int×Int)=>cond (d.1) (some (Sum.inl ((d.2.1),(d.2.2)))) (some (Sum.inr ((d.2.1),(d.2.2))))
def Ngl (a:List Int):Option ((Int×Int)):=
 nloop (fun(s:Int×Int)=>((N53 a s.1 s.2).map (Sum.elim (fun(t:Int×Int)=>Sum.inl (t.1,t.2)) (fun(t:Int×Int)=>Sum.inr t)):Option ((Int×Int)⊕((Int×Int))))) LL (1,0)
def Ngj (a:List Int):Option ((Int×Int)):=
 (Ngl a).map (fun(t:Int×Int)=>(t.1,t.2))
def N5i (a:Int):Option (Int):=
 some a
def Ndu (a:List Int):Option (Int):=
 (Ngj a).bind (fun(t:Int×Int)=>N5i t.1)
def Nhl (a:List Int):Option (Int):=
 (N7j a).bind (Sum.elim (fun(t:Unit)=>Ndu a) (fun e=>some ((fun(t:Int)=>t) e)))
@[irreducible] def N28 (a:List Int):Option (Int):=
 Nhl a
def N9i (a:Int):Option (Int):=
 (shl .u64 1 (IntKind.wrap .i64 (a-1))).bind fun(b:Int)=>some b
@[irreducible] def N1s (a:Int):Option (Int):=
 N9i a
def N5x:Option (Unit):=
 some ()
def N7k (a:List Int):Option (Int):=
 some (((List.length a:Nat):Int))
def N30 (a:List Int) (b c d g:Int):Option ((Int×Int)⊕Int):=
 cond (decide (g<d)) ((idx a g).bind fun(i:Int)=>cond (i==b) ((N1s (IntKind.wrap .i64 (g+1))).bind fun(j:Int)=>some (Sum.inl ((ior .u64 c j),(IntKind.wrap .i64 (g+1))))) (some (Sum.inl (c,(IntKind.wrap .i64 (g+1)))))) (some (Sum.inr c))
def Ndo (a:List Int) (b c:Int):Option (Int):=
 nloop (fun(s:Int×Int)=>((N30 a b s.1 c s.2).map (Sum.elim (fun(t:Int×Int)=>Sum.inl (t.1,t.2)) (fun(t:Int)=>Sum.inr t)):Option ((Int×Int)⊕(Int)))) LL (0,0)
def Ndi (a:List Int) (b c:Int):Option (Int):=
 (Ndo a b c).map (fun(t:Int)=>t)
def Nf3 (a:List Int) (b:Int):Option (Int):=
 (N7k a).bind (fun(t:Int)=>Ndi a b t)
def N8x (a:Int):Option (Int):=
 some a
def Neg (a:List Int) (b:Int):Option (Int):=
 (Nf3 a b).bind (fun(t:Int)=>N8x t)
def N8z (a:List Int) (b:Int):Option (Int):=
 (N5x).bind (fun(t:Unit)=>Neg a b)
@[irreducible] def N1l (a:List Int) (b:Int):Option (Int):=
 N8z a b
def N9z (a:Int):Option (Int):=
 (shr .u64 a 1).bind fun(b:Int)=>some (IntKind.wrap .u64 ((iand .u64 b 6148914691236517205)+(iand .u64 a 6148914691236517205)))
def N9b (a:Int):Option (Int):=
 (shr .u64 a 2).bind fun(b:Int)=>some (IntKind.wrap .u64 ((iand .u64 b 3689348814741910323)+(iand .u64 a 3689348814741910323)))
def Nbz (a:Int):Option (Int):=
 (shr .u64 a 4).bind fun(b:Int)=>some (iand .u64 (IntKind.wrap .u64 (b+a)) 1085102592571150095)
def Nby (a:Int):Option (Int):=
 (shr .u64 a 8).bind fun(b:Int)=>some (IntKind.wrap .u64 (a+b))
def Nc4 (a:Int):Option (Int):=
 (shr .u64 a 16).bind fun(b:Int)=>some (IntKind.wrap .u64 (a+b))
def Nca (a:Int):Option (Int):=
 (shr .u64 a 32).bind fun(b:Int)=>some (IntKind.wrap .u64 (a+b))
def N9c (a:Int):Option (Int):=
 some (iand .i64 (IntKind.wrap .i64 a) 127)
def Nbt (a:Int):Option (Int):=
 some a
def Nos (a:Int):Option (Int):=
 (N9c a).bind (fun(t:Int)=>Nbt t)
def Nid (a:Int):Option (Int):=
 (Nca a).bind (fun(t:Int)=>Nos t)
def Np9 (a:Int):Option (Int):=
 (Nc4 a).bind (fun(t:Int)=>Nid t)
def Nnr (a:Int):Option (Int):=
 (Nby a).bind (fun(t:Int)=>Np9 t)
def Nrv (a:Int):Option (Int):=
 (Nbz a).bind (fun(t:Int)=>Nnr t)
def Num (a:Int):Option (Int):=
 (N9b a).bind (fun(t:Int)=>Nrv t)
def Npx (a:Int):Option (Int):=
 (N9z a).bind (fun(t:Int)=>Num t)
@[irreducible] def N8d (a:Int):Option (Int):=
 Npx a
def Nbj (a:Int):Option (Int):=
 (N8d a).bind fun(b:Int)=>some b
@[irreducible] def N68 (a:Int):Option (Int):=
 Nbj a
def N9t (a:Int):Option (Int):=
 (N68 a).bind fun(b:Int)=>some b
@[irreducible] def N2j (a:Int):Option (Int):=
 N9t a
def N95 (a:Int):Option (Int):=
 cond (a==0) (some 64) ((shr .u64 (IntKind.wrap .u64 ((iand .u64 a (IntKind.wrap .u64 (0-a)))*285870213051353865)) 58).bind fun(b:Int)=>(same (List.length tab1) 64).bind fun(c:Unit)=>(idx tab1 b).bind fun(d:Int)=>some (IntKind.wrap .i64 d))
@[irreducible] def N62 (a:Int):Option (Int):=
 N95 a
def Nav (a:Int):Option (Int):=
 (N62 a).bind fun(b:Int)=>some b
@[irreducible] def N6n (a:Int):Option (Int):=
 Nav a
def Nax (a:Int):Option (((List Int))):=
 (N2j a).bind fun(b:Int)=>(mk 0 b).bind fun(c:Nat)=>some (List.replicate c (0:Int))
def Nc5:Option (Unit):=
 some ()
def Naq (a:Int) (b:List Int):Option ((Int×(List Int))⊕((List Int))):=
 cond (a !=0) ((N6n a).bind fun(c:Int)=>(room ((List.length b)+List.length ([(IntKind.wrap .i64 (c+1))]))).bind fun(d:Unit)=>some (Sum.inl ((iand .u64 a (IntKind.wrap .u64 (a-1))),(b++([(IntKind.wrap .i64 (c+1))]))))) (some (Sum.inr b))
def Ns7 (a:Int) (b:List Int):Option (((List Int))):=
 nloop (fun(s:Int×(List Int))=>((Naq s.1 s.2).map (Sum.elim (fun(t:Int×(List Int))=>Sum.inl (t.1,t.2)) (fun(t:(List Int))=>Sum.inr t)):Option ((Int×(List Int))⊕(((List Int)))))) LL (a,b)
def Nul (a:Int) (b:List Int):Option (((List Int))):=
 (Ns7 a b).map (fun(t:(List Int))=>t)
def Npu (a:Int) (b:List Int):Option (((List Int))):=
 (Nc5).bind (fun(t:Unit)=>Nul a b)
def Nc1 (a:List Int):Option (((List Int))):=
 some a
def Nj9 (a:Int) (b:List Int):Option (((List Int))):=
 (Npu a b).bind (fun(t:(List Int))=>Nc1 t)
def Ntb (a:Int):Option (((List Int))):=
 (Nax a).bind (fun(t:(List Int))=>Nj9 a t)
@[irreducible] def N1x (a:Int):Option ((List Int)):=
 Ntb a
def N5t (R0:(List Int)→Int→(List Int)→Option (Int×(List Int))) (a:Int):Option (Int):=
 (N1s a).bind fun(b:Int)=>some b
def N7m (R0:(List Int)→Int→(List Int)→Option (Int×(List Int))) (a:List Int) (b:Int):Option ((Int×(List Int))):=
 (N1l a b).bind fun(c:Int)=>(N1x c).bind fun(d:List Int)=>some ((((List.length d:Nat):Int)),d)
def N2d (R0:(List Int)→Int→(List Int)→Option (Int×(List Int))) (a:List Int) (b c d:Int) (g i:List Int):Option ((Int×Int×(List Int))⊕(Int×(List Int))):=
 cond (decide (d<c)) ((inb d (List.length i)).bind fun(j:Nat)=>(i[j]?).bind fun(k:Int)=>(R0 a k g).bind fun(l:Int×(List Int))=>some (Sum.inl ((ior .u64 b (l.1)),(IntKind.wrap .i64 (d+1)),(l.2)))) (some (Sum.inr (b,g)))
def Nh6 (R0:(List Int)→Int→(List Int)→Option (Int×(List Int))) (a:List Int) (b c:Int) (d g:List Int):Option ((Int×(List Int))):=
 nloop (fun(s:Int×Int×(List Int))=>((N2d R0 a s.1 c s.2.1 s.2.2 g).map (Sum.elim (fun(t:Int×Int×(List Int))=>Sum.inl (t.1,t.2.1,t.2.2)) (fun(t:Int×(List Int))=>Sum.inr t)):Option ((Int×Int×(List Int))⊕((Int×(List Int)))))) LL (b,0,d)
def Nen (R0:(List Int)→Int→(List Int)→Option (Int×(List Int))) (a:List Int) (b c:Int) (d g:List Int):Option ((Int×(List Int))):=
 (Nh6 R0 a b c d g).map (fun(t:Int×(List Int))=>(t.1,t.2))
def Ngk (R0:(List Int)→Int→(List Int)→Option (Int×(List Int))) (a:List Int) (b c:Int) (d:List Int):Option ((Int×(List Int))):=
 (N7m R0 a b).bind (fun(t:Int×(List Int))=>Nen R0 a c t.1 d t.2)
def N5e (R0:(List Int)→Int→(List Int)→Option (Int×(List Int))) (a b:Int) (c:List Int):Option ((Int×(List Int))):=
 (inb (IntKind.wrap .i64 (a-1)) (List.length c)).bind fun(d:Nat)=>some (b,(c.set d b))
def Ngb (R0:(List Int)→Int→(List Int)→Option (Int×(List Int))) (a:List Int) (b c:Int) (d:List Int):Option ((Int×(List Int))):=
 (Ngk R0 a b c d).bind (fun(t:Int×(List Int))=>N5e R0 b t.1 t.2)
def Ndq (R0:(List Int)→Int→(List Int)→Option (Int×(List Int))) (a:List Int) (b:Int) (c:List Int):Option ((Int×(List Int))):=
 (N5t R0 b).bind (fun(t:Int)=>Ngb R0 a b t c)
def Nfq (R0:(List Int)→Int→(List Int)→Option (Int×(List Int))) (a:List Int) (b:Int) (c:List Int):Option (Int×(List Int)):=
 Ndq R0 a b c
def N1t:Nat→((List Int)→Int→(List Int)→Option (Int×(List Int)))
 |0=>(fun _ _ _=>none)
 |n+1=>(fun y0 y1 y2=>Nfq (N1t n) y0 y1 y2)
def N1i (n:Nat):(List Int)→Int→(List Int)→Option (Int×(List Int)):=(N1t n)
@[irreducible] def N4u (a:List Int) (b:Int) (c:List Int):Option (Int×(List Int)):=N1i RR a b c
def N4i (a:List Int):Option (((List Int))):=
 (mk (((List.length a:Nat):Int)) (((List.length a:Nat):Int))).bind fun(b:Nat)=>(N28 a).bind fun(c:Int)=>(N4u a c (List.replicate b (0:Int))).bind fun(d:Int×(List Int))=>some (d.2)
@[irreducible] def N1z (a:List Int):Option ((List Int)):=
 N4i a
def Nf8 (x1:Int) (x2 x3:List Int):Option (List Int):=insI x2 x1 x3
def N8u (a:List Int):Option (Int):=
 some (((List.length a:Nat):Int))
def N21 (a b:Int) (c:List Int):Option (Int⊕Int):=
 cond (decide (b>0)) ((inb (IntKind.wrap .i64 (b-1)) (List.length c)).bind fun(d:Nat)=>(c[d]?).bind fun(g:Int)=>cond (decide (a<g)) (some (Sum.inl (IntKind.wrap .i64 (b-1)))) (some (Sum.inr b))) (some (Sum.inr b))
def Ne4 (a b:Int) (c:List Int):Option (Int):=
 nloop (fun(s:Int)=>((N21 a s c).map (Sum.elim (fun(t:Int)=>Sum.inl t) (fun(t:Int)=>Sum.inr t)):Option ((Int)⊕(Int)))) LL b
def Nhs (a b:Int) (c:List Int):Option (Int):=
 (Ne4 a b c).map (fun(t:Int)=>t)
def N5s (a b:Int) (c:List Int):Option (((List Int))):=
 (Nf8 b c ([a])).bind fun(d:List Int)=>some d
def Ni7 (a b:Int) (c:List Int):Option (((List Int))):=
 (Nhs a b c).bind (fun(t:Int)=>N5s a t c)
def Nce (a:Int) (b:List Int):Option (((List Int))):=
 (N8u b).bind (fun(t:Int)=>Ni7 a t b)
@[irreducible] def N29 (a:Int) (b:List Int):Option ((List Int)):=
 Nce a b
def N6v:Option (Unit):=
 some ()
def N72 (a:List Int) (b:Int):Option ((Int×(List Int))):=
 (N1l a b).bind fun(c:Int)=>(N1x c).bind fun(d:List Int)=>some ((((List.length d:Nat):Int)),d)
def N33 (a:List Int) (b c:Int) (d g:List Int):Option ((Int×(List Int))⊕((List Int))):=
 cond (decide (c<b)) ((inb c (List.length g)).bind fun(i:Nat)=>(g[i]?).bind fun(j:Int)=>(idx a (IntKind.wrap .i64 (j-1))).bind fun(k:Int)=>(N2j k).bind fun(l:Int)=>(N29 l d).bind fun(m:List Int)=>some (Sum.inl ((IntKind.wrap .i64 (c+1)),m))) (some (Sum.inr d))
def Ngq (a:List Int) (b:Int) (c:List Int):Option (((List Int))):=
 nloop (fun(s:Int×(List Int))=>((N33 a b s.1 s.2 c).map (Sum.elim (fun(t:Int×(List Int))=>Sum.inl (t.1,t.2)) (fun(t:(List Int))=>Sum.inr t)):Option ((Int×(List Int))⊕(((List Int)))))) LL (0,([]:List Int))
def Nha (a:List Int) (b:Int) (c:List Int):Option (((List Int))):=
 (Ngq a b c).map (fun(t:(List Int))=>t)
def Nfo (a b:List Int) (c:Int):Option (((List Int))):=
 (N72 a c).bind (fun(t:Int×(List Int))=>Nha b t.1 t.2)
def Nbs (a:List Int):Option (((List Int))):=
 some a
def Nh3 (a b:List Int) (c:Int):Option (((List Int))):=
 (Nfo a b c).bind (fun(t:(List Int))=>Nbs t)
def N9d (a b:List Int) (c:Int):Option (((List Int))):=
 (N6v).bind (fun(t:Unit)=>Nh3 a b c)
@[irreducible] def N2a (a b:List Int) (c:Int):Option ((List Int)):=
 N9d a b c
def N6t:Option (Unit):=
 some ()
def N7h (a:List Int):Option (Int):=
 some (((List.length a:Nat):Int))
def N3s (a b:Int) (c:List Int) (d g:Int) (i:List Int):Option ((Int×Int×(List Int))⊕(Int×(List Int))):=
 cond (decide (g<d)) ((idx c g).bind fun(j:Int)=>(shr .u64 a g).bind fun(k:Int)=>(same (List.length i) 2).bind fun(l:Unit)=>(inb (iand .u64 k 1) 2).bind fun(m:Nat)=>(i[m]?).bind fun(o:Int)=>(same (List.length i) 2).bind fun(p:Unit)=>(inb (iand .u64 k 1) 2).bind fun(q:Nat)=>(i[q]?).bind fun(w:Int)=>(same (List.length i) 2).bind fun(y:Unit)=>(inb (iand .u64 k 1) 2).bind fun(z:Nat)=>some (Sum.inl ((IntKind.wrap .i64 (b+(IntKind.wrap .i64 (o+1)))),(IntKind.wrap .i64 (g+1)),(i.set z (IntKind.wrap .i64 (w+j)))))) (some (Sum.inr (b,i)))
def Nfd (a:Int) (b:List Int) (c:Int):Option ((Int×(List Int))):=
 nloop (fun(s:Int×Int×(List Int))=>((N3s a s.1 b c s.2.1 s.2.2).map (Sum.elim (fun(t:Int×Int×(List Int))=>Sum.inl (t.1,t.2.1,t.2.2)) (fun(t:Int×(List Int))=>Sum.inr t)):Option ((Int×Int×(List Int))⊕((Int×(List Int)))))) LL (0,0,(List.replicate 2 (0:Int)))
def Nfy (a:Int) (b:List Int) (c:Int):Option ((Int×(List Int))):=
 (Nfd a b c).map (fun(t:Int×(List Int))=>(t.1,t.2))
def Ndp (a:List Int) (b:Int):Option ((Int×(List Int))):=
 (N7h a).bind (fun(t:Int)=>Nfy b a t)
def N75 (a:Bool) (b:Int) (c:List Int):Option (Int):=
 cond a ((same (List.length c) 2).bind fun(d:Unit)=>(inb 0 2).bind fun(g:Nat)=>(c[g]?).bind fun(i:Int)=>some (IntKind.wrap .i64 (b+i))) (some b)
def Nfu (a:List Int) (b:Int) (c:Bool):Option (Int):=
 (Ndp a b).bind (fun(t:Int×(List Int))=>N75 c t.1 t.2)
def Nb6 (a:List Int) (b:Int) (c:Bool):Option (Int):=
 (N6t).bind (fun(t:Unit)=>Nfu a b c)
@[irreducible] def N10 (a:List Int) (b:Int) (c:Bool):Option (Int):=
 Nb6 a b c
def N7z (a:List Int) (b:Bool):Option (Int):=
 (N10 a 0 b).bind fun(c:Int)=>some c
def N6f (a:List Int):Option (Int):=
 (shl .u64 1 (((List.length a:Nat):Int))).bind fun(b:Int)=>some b
def N3j (a:List Int) (b:Bool) (c d g:Int):Option ((Int×Int)⊕Int):=
 cond (decide (g<d)) ((N10 a g b).bind fun(i:Int)=>some (Sum.inl ((imin c i),(IntKind.wrap .u64 (g+1))))) (some (Sum.inr c))
def Ndw (a:List Int) (b:Bool) (c d:Int):Option (Int):=
 nloop (fun(s:Int×Int)=>((N3j a b s.1 d s.2).map (Sum.elim (fun(t:Int×Int)=>Sum.inl (t.1,t.2)) (fun(t:Int)=>Sum.inr t)):Option ((Int×Int)⊕(Int)))) LL (c,0)
def Nfx (a:List Int) (b:Bool) (c d:Int):Option (Int):=
 (Ndw a b c d).map (fun(t:Int)=>t)
def Nfc (a:List Int) (b:Bool) (c:Int):Option (Int):=
 (N6f a).bind (fun(t:Int)=>Nfx a b c t)
def N5f (a:Int):Option (Int):=
 some a
def Nd9 (a:List Int) (b:Bool) (c:Int):Option (Int):=
 (Nfc a b c).bind (fun(t:Int)=>N5f t)
def Nc8 (a:List Int) (b:Bool):Option (Int):=
 (N7z a b).bind (fun(t:Int)=>Nd9 a b t)
@[irreducible] def N27 (a:List Int) (b:Bool):Option (Int):=
 Nc8 a b
def N7y (a:List Int):Option (((List Int))⊕Int):=
 (N8 a).bind fun(b:Bool)=>cond (!b) (some (Sum.inr (-1))) ((N1z a).bind fun(c:List Int)=>some (Sum.inl c))
def N5z (a:List Int):Option (Int):=
 some (((List.length a:Nat):Int))
def N2x (a:List Int) (b c d:Int) (g:List Int):Option ((Int×Int)⊕Int):=
 cond (decide (d<c)) ((idx a d).bind fun(i:Int)=>(N2a a g (IntKind.wrap .i64 (d+1))).bind fun(j:List Int)=>(N27 j (i !=0)).bind fun(k:Int)=>some (Sum.inl ((IntKind.wrap .i64 (b+k)),(IntKind.wrap .i64 (d+1))))) (some (Sum.inr b))
def Ndz (a:List Int) (b:Int) (c:List Int):Option (Int):=
 nloop (fun(s:Int×Int)=>((N2x a s.1 b s.2 c).map (Sum.elim (fun(t:Int×Int)=>Sum.inl (t.1,t.2)) (fun(t:Int)=>Sum.inr t)):Option ((Int×Int)⊕(Int)))) LL (0,0)
def Nfe (a:List Int) (b:Int) (c:List Int):Option (Int):=
 (Ndz a b c).map (fun(t:Int)=>t)
def Nds (a b:List Int):Option (Int):=
 (N5z a).bind (fun(t:Int)=>Nfe a t b)
def N9g (a:Int):Option (Int):=
 some a
def Ng0 (a b:List Int):Option (Int):=
 (Nds a b).bind (fun(t:Int)=>N9g t)
def N9q (a:List Int):Option (Int):=
 (N7y a).bind (Sum.elim (fun(t:(List Int))=>Ng0 a t) (fun e=>some ((fun(t:Int)=>t) e)))
@[irreducible] def N13 (a:List Int):Option (Int):=
 N9q a
def N6l (R0:(List Int)→Int→Option Int) (a:Int):Option (Int):=
 (shl .i64 1 (IntKind.wrap .i64 (a-1))).bind fun(b:Int)=>some b
def N7i (R0:(List Int)→Int→Option Int):Option (Unit):=
 some ()
def N3v (R0:(List Int)→Int→Option Int) (a:List Int) (b c d:Int):Option ((Int×Int)⊕Int):=
 cond (decide (d<(((List.length a:Nat):Int)))) ((idx a d).bind fun(g:Int)=>cond (g==b) ((R0 a (IntKind.wrap .i64 (d+1))).bind fun(i:Int)=>some (Sum.inl ((ior .i64 c i),(IntKind.wrap .i64 (d+1))))) (some (Sum.inl (c,(IntKind.wrap .i64 (d+1)))))) (some (Sum.inr c))
def Ndm (R0:(List Int)→Int→Option Int) (a:List Int) (b c:Int):Option (Int):=
 nloop (fun(s:Int×Int)=>((N3v R0 a b s.1 s.2).map (Sum.elim (fun(t:Int×Int)=>Sum.inl (t.1,t.2)) (fun(t:Int)=>Sum.inr t)):Option ((Int×Int)⊕(Int)))) LL (c,0)
def Ni1 (R0:(List Int)→Int→Option Int) (a:List Int) (b c:Int):Option (Int):=
 (Ndm R0 a b c).map (fun(t:Int)=>t)
def Nea (R0:(List Int)→Int→Option Int) (a:List Int) (b c:Int):Option (Int):=
 (N7i R0).bind (fun(t:Unit)=>Ni1 R0 a b c)
def N65 (R0:(List Int)→Int→Option Int) (a:Int):Option (Int):=
 some a
def Nd7 (R0:(List Int)→Int→Option Int) (a:List Int) (b c:Int):Option (Int):=
 (Nea R0 a b c).bind (fun(t:Int)=>N65 R0 t)
def Ndl (R0:(List Int)→Int→Option Int) (a:List Int) (b:Int):Option (Int):=
 (N6l R0 b).bind (fun(t:Int)=>Nd7 R0 a b t)
def Nd0 (R0:(List Int)→Int→Option Int) (a:List Int) (b:Int):Option (Int):=
 Ndl R0 a b
def N20:Nat→((List Int)→Int→Option Int)
 |0=>(fun _ _=>none)
 |n+1=>(fun y0 y1=>Nd0 (N20 n) y0 y1)
def Nz (n:Nat):(List Int)→Int→Option Int:=(N20 n)
@[irreducible] def N37 (a:List Int) (b:Int):Option (Int):=Nz RR a b
def Nb9:Option (Unit):=
 some ()
def Ncc:Option (Unit):=
 some ()
def N96 (a b:Int) (c:List Int):Option ((Int×(List Int))⊕((List Int))):=
 (shr .i64 a b).bind fun(d:Int)=>cond (decide (d>0)) ((shr .i64 a b).bind fun(g:Int)=>(rem g 2).bind fun(i:Int)=>cond (i==1) ((room ((List.length c)+List.length ([(IntKind.wrap .i64 (b+1))]))).bind fun(j:Unit)=>some (Sum.inl ((IntKind.wrap .i64 (b+1)),(c++([(IntKind.wrap .i64 (b+1))]))))) (some (Sum.inl ((IntKind.wrap .i64 (b+1)),c)))) (some (Sum.inr c))
def Nvd (a:Int):Option (((List Int))):=
 nloop (fun(s:Int×(List Int))=>((N96 a s.1 s.2).map (Sum.elim (fun(t:Int×(List Int))=>Sum.inl (t.1,t.2)) (fun(t:(List Int))=>Sum.inr t)):Option ((Int×(List Int))⊕(((List Int)))))) LL (0,([]:List Int))
def Nk2 (a:Int):Option (((List Int))):=
 (Nvd a).map (fun(t:(List Int))=>t)
def Nv1 (a:Int):Option (((List Int))):=
 (Ncc).bind (fun(t:Unit)=>Nk2 a)
def Nb3 (a:List Int):Option (((List Int))):=
 some a
def Nl8 (a:Int):Option (((List Int))):=
 (Nv1 a).bind (fun(t:(List Int))=>Nb3 t)
def Nnu (a:Int):Option (((List Int))):=
 (Nb9).bind (fun(t:Unit)=>Nl8 a)
@[irreducible] def N38 (a:Int):Option ((List Int)):=
 Nnu a
def N6x:Option (Unit):=
 some ()
def N5m:Option (Unit):=
 some ()
def N4o (a:List Int) (b:Int) (c:List Int):Option (Unit⊕((List Int))):=
 cond (decide (b<(((List.length a:Nat):Int)))) (some (Sum.inl ())) (some (Sum.inr c))
def N6k (a:List Int) (b c:Int):Option (Int⊕Unit):=
 (idx a c).bind fun(d:Int)=>cond (d !=b) (some (Sum.inr ())) ((N37 a (IntKind.wrap .i64 (c+1))).bind fun(g:Int)=>(N38 g).bind fun(i:List Int)=>some (Sum.inl (((List.length i:Nat):Int))))
def N43 (a b:Int) (c:List Int):Option (Int⊕Int):=
 cond (decide (b<(((List.length c:Nat):Int)))) ((inb b (List.length c)).bind fun(d:Nat)=>(c[d]?).bind fun(g:Int)=>cond (decide (g<a)) (some (Sum.inl (IntKind.wrap .i64 (b+1)))) (some (Sum.inr b))) (some (Sum.inr b))
def Ncl (a:Int) (b:List Int):Option (Int):=
 nloop (fun(s:Int)=>((N43 a s b).map (Sum.elim (fun(t:Int)=>Sum.inl t) (fun(t:Int)=>Sum.inr t)):Option ((Int)⊕(Int)))) LL 0
def Nfi (a:Int) (b:List Int):Option (Int):=
 (Ncl a b).map (fun(t:Int)=>t)
def N7r (a b:Int) (c:List Int):Option (((List Int))):=
 (inc b (List.length c)).bind fun(d:Nat)=>(room ((List.length ([]:List Int))+List.length ((c.drop 0).take (d-0)))).bind fun(g:Unit)=>(room ((List.length (([]:List Int)++((c.drop 0).take (d-0))))+List.length ([a]))).bind fun(i:Unit)=>(inc b (List.length c)).bind fun(j:Nat)=>(room ((List.length ((([]:List Int)++((c.drop 0).take (d-0)))++([a])))+List.length ((c.drop j).take ((List.length c)-j)))).bind fun(k:Unit)=>some (((([]:List Int)++((c.drop 0).take (d-0)))++([a]))++((c.drop j).take ((List.length c)-j)))
def N9s (a:Int) (b:List Int):Option (((List Int))):=
 (Nfi a b).bind (fun(t:Int)=>N7r a t b)
def Nhu (a:List Int) (b c:Int) (d:List Int):Option (((List Int))⊕Unit):=
 (N6k a b c).bind (Sum.elim (fun(t:Int)=>(N9s t d).map (fun(u:(List Int))=>(Sum.inl u))) (fun e=>some ((fun(t:Unit)=>(Sum.inr t)) e)))
def Ne5 (a:List Int) (b c:Int) (d:List Int):Option (((List Int))):=
 (Nhu a b c d).map (Sum.elim (fun(t:(List Int))=>t) (fun(t:Unit)=>d))
def N5a (a:Int):Option (Int):=
 some (IntKind.wrap .i64 (a+1))
def Net (a:List Int) (b c:Int) (d:List Int):Option ((Int×(List Int))):=
 (Ne5 a b c d).bind (fun(t:(List Int))=>(N5a c).map (fun(u:Int)=>(u,t)))
def N6q (a:List Int) (b c:Int) (d:List Int):Option ((Int×(List Int))⊕((List Int))):=
 (N4o a c d).bind (Sum.elim (fun(t:Unit)=>(Net a b c d).map (fun(t:Int×(List Int))=>(Sum.inl (t.1,t.2)))) (fun e=>some ((fun(t:(List Int))=>(Sum.inr t)) e)))
def Ngh (a:List Int) (b:Int):Option (((List Int))):=
 nloop (fun(s:Int×(List Int))=>((N6q a b s.1 s.2).map (Sum.elim (fun(t:Int×(List Int))=>Sum.inl (t.1,t.2)) (fun(t:(List Int))=>Sum.inr t)):Option ((Int×(List Int))⊕(((List Int)))))) LL (0,([]:List Int))
def Nek (a:List Int) (b:Int):Option (((List Int))):=
 (Ngh a b).map (fun(t:(List Int))=>t)
def Nfj (a:List Int) (b:Int):Option (((List Int))):=
 (N5m).bind (fun(t:Unit)=>Nek a b)
def N80 (a:List Int):Option (((List Int))):=
 some a
def Nev (a:List Int) (b:Int):Option (((List Int))):=
 (Nfj a b).bind (fun(t:(List Int))=>N80 t)
def Ncu (a:List Int) (b:Int):Option (((List Int))):=
 (N6x).bind (fun(t:Unit)=>Nev a b)
@[irreducible] def N2k (a:List Int) (b:Int):Option ((List Int)):=
 Ncu a b
def N5b:Option (Unit):=
 some ()
def N7v:Option (Unit):=
 some ()
def N4q (a:List Int) (b c:Int):Option (Unit⊕Int):=
 (shl .i64 1 (((List.length a:Nat):Int))).bind fun(d:Int)=>cond (decide (c<d)) (some (Sum.inl ())) (some (Sum.inr b))
def N5j:Option (Unit):=
 some ()
def N6j:Option (Unit):=
 some ()
def N58 (a b:Int):Option (Unit⊕Int):=
 cond (decide (b<2)) (some (Sum.inl ())) (some (Sum.inr a))
def N5g (a:List Int):Option (Int):=
 some (IntKind.wrap .i64 ((((List.length a:Nat):Int))-1))
def N3c (a:List Int) (b:Bool) (c d g i j:Int):Option ((Int×Int×Int)⊕Int):=
 cond (decide (j≥0)) ((shr .i64 c j).bind fun(k:Int)=>(rem k 2).bind fun(l:Int)=>cond (l==g) ((idx a j).bind fun(m:Int)=>cond (g==1) (cond (!b) ((idx a j).bind fun(o:Int)=>some (Sum.inl ((IntKind.wrap .i64 ((IntKind.wrap .i64 (d+(IntKind.wrap .i64 (i*m))))+o)),(IntKind.wrap .i64 (i+1)),(IntKind.wrap .i64 (j-1))))) (some (Sum.inl ((IntKind.wrap .i64 (d+(IntKind.wrap .i64 (i*m)))),(IntKind.wrap .i64 (i+1)),(IntKind.wrap .i64 (j-1)))))) (some (Sum.inl ((IntKind.wrap .i64 (d+(IntKind.wrap .i64 (i*m)))),(IntKind.wrap .i64 (i+1)),(IntKind.wrap .i64 (j-1)))))) (some (Sum.inl (d,i,(IntKind.wrap .i64 (j-1)))))) (some (Sum.inr d))
def Na1 (a:List Int) (b:Bool) (c d g i:Int):Option (Int):=
 nloop (fun(s:Int×Int×Int)=>((N3c a b c s.1 g s.2.1 s.2.2).map (Sum.elim (fun(t:Int×Int×Int)=>Sum.inl (t.1,t.2.1,t.2.2)) (fun(t:Int)=>Sum.inr t)):Option ((Int×Int×Int)⊕(Int)))) LL (d,0,i)
def Nfa (a:List Int) (b:Bool) (c d g i:Int):Option (Int):=
 (Na1 a b c d g i).map (fun(t:Int)=>t)
def Nff (a:List Int) (b:Bool) (c d g:Int):Option (Int):=
 (N5g a).bind (fun(t:Int)=>Nfa a b c d g t)
def Ngy (a:List Int) (b:Bool) (c d g:Int):Option (Int):=
 (Nff a b c d g).map (fun(t:Int)=>t)
def N5q (a:Int):Option (Int):=
 some (IntKind.wrap .i64 (a+1))
def Nh4 (a:List Int) (b:Bool) (c d g:Int):Option ((Int×Int)):=
 (Ngy a b c d g).bind (fun(t:Int)=>(N5q g).map (fun(u:Int)=>(t,u)))
def N7q (a:List Int) (b:Bool) (c d g:Int):Option ((Int×Int)⊕Int):=
 (N58 d g).bind (Sum.elim (fun(t:Unit)=>(Nh4 a b c d g).map (fun(t:Int×Int)=>(Sum.inl (t.1,t.2)))) (fun e=>some ((fun(t:Int)=>(Sum.inr t)) e)))
def Nbd (a:List Int) (b:Bool) (c:Int):Option (Int):=
 nloop (fun(s:Int×Int)=>((N7q a b c s.1 s.2).map (Sum.elim (fun(t:Int×Int)=>Sum.inl (t.1,t.2)) (fun(t:Int)=>Sum.inr t)):Option ((Int×Int)⊕(Int)))) LL (0,0)
def Ni0 (a:List Int) (b:Bool) (c:Int):Option (Int):=
 (Nbd a b c).map (fun(t:Int)=>t)
def Nfl (a:List Int) (b:Bool) (c:Int):Option (Int):=
 (N6j).bind (fun(t:Unit)=>Ni0 a b c)
def N71 (a b:Int):Option (Int):=
 cond (decide (a<0)) (some b) (cond (decide (b<a)) (some b) (some a))
def Nfm (a:List Int) (b:Bool) (c d:Int):Option (Int):=
 (Nfl a b d).bind (fun(t:Int)=>N71 c t)
def Ngf (a:List Int) (b:Bool) (c d:Int):Option (Int):=
 (N5j).bind (fun(t:Unit)=>Nfm a b c d)
def Ndn (a:List Int) (b:Bool) (c d:Int):Option (Int):=
 (Ngf a b c d).map (fun(t:Int)=>t)
def N5k (a:Int):Option (Int):=
 some (IntKind.wrap .i64 (a+1))
def Nhc (a:List Int) (b:Bool) (c d:Int):Option ((Int×Int)):=
 (Ndn a b c d).bind (fun(t:Int)=>(N5k d).map (fun(u:Int)=>(t,u)))
def N76 (a:List Int) (b:Bool) (c d:Int):Option ((Int×Int)⊕Int):=
 (N4q a c d).bind (Sum.elim (fun(t:Unit)=>(Nhc a b c d).map (fun(t:Int×Int)=>(Sum.inl (t.1,t.2)))) (fun e=>some ((fun(t:Int)=>(Sum.inr t)) e)))
def Nes (a:List Int) (b:Bool):Option (Int):=
 nloop (fun(s:Int×Int)=>((N76 a b s.1 s.2).map (Sum.elim (fun(t:Int×Int)=>Sum.inl (t.1,t.2)) (fun(t:Int)=>Sum.inr t)):Option ((Int×Int)⊕(Int)))) LL ((-1),0)
def Ned (a:List Int) (b:Bool):Option (Int):=
 (Nes a b).map (fun(t:Int)=>t)
def Neu (a:List Int) (b:Bool):Option (Int):=
 (N7v).bind (fun(t:Unit)=>Ned a b)
def N5w (a:Int):Option (Int):=
 some a
def Nf2 (a:List Int) (b:Bool):Option (Int):=
 (Neu a b).bind (fun(t:Int)=>N5w t)
def Nci (a:List Int) (b:Bool):Option (Int):=
 (N5b).bind (fun(t:Unit)=>Nf2 a b)
@[irreducible] def N2f (a:List Int) (b:Bool):Option (Int):=
 Nci a b
def N60 (a:List Int):Option (Int⊕Int):=
 (Nx a).bind fun(b:Bool)=>cond (!b) (some (Sum.inr (-1))) (some (Sum.inl (IntKind.wrap .i64 ((((List.length a:Nat):Int))-1))))
def N6m:Option (Unit):=
 some ()
def N2u (a:List Int) (b c:Int):Option ((Int×Int)⊕Int):=
 cond (decide (c≤(((List.length a:Nat):Int)))) ((idx a (IntKind.wrap .i64 (c-1))).bind fun(d:Int)=>(N2k a c).bind fun(g:List Int)=>(N2f g (d==0)).bind fun(i:Int)=>some (Sum.inl ((IntKind.wrap .i64 (b+i)),(IntKind.wrap .i64 (c+1))))) (some (Sum.inr b))
def Nhe (a:List Int) (b:Int):Option (Int):=
 nloop (fun(s:Int×Int)=>((N2u a s.1 s.2).map (Sum.elim (fun(t:Int×Int)=>Sum.inl (t.1,t.2)) (fun(t:Int)=>Sum.inr t)):Option ((Int×Int)⊕(Int)))) LL (b,1)
def Ndf (a:List Int) (b:Int):Option (Int):=
 (Nhe a b).map (fun(t:Int)=>t)
def Ngi (a:List Int) (b:Int):Option (Int):=
 (N6m).bind (fun(t:Unit)=>Ndf a b)
def Naa (a:Int):Option (Int):=
 some a
def Nd3 (a:List Int) (b:Int):Option (Int):=
 (Ngi a b).bind (fun(t:Int)=>Naa t)
def Nbw (a:List Int):Option (Int):=
 (N60 a).bind (Sum.elim (fun(t:Int)=>Nd3 a t) (fun e=>some ((fun(t:Int)=>t) e)))
@[irreducible] def N1o (a:List Int):Option (Int):=
 Nbw a
def N7s:Option (Bool):=
 (N8 ([0])).bind fun(a:Bool)=>cond a ((N8 ([1])).bind fun(b:Bool)=>some (!b)) (some false)
@[irreducible] def N2y:Option (Bool):=
 N7s
def N64 (a:List Int) (b:Int):Option (Unit⊕Bool):=
 cond (decide (b<1)) (some (Sum.inr false)) (cond (decide (b>8)) (some (Sum.inr false)) (cond ((((List.length a:Nat):Int)) !=b) (some (Sum.inr false)) (some (Sum.inl ()))))
def N70 (a:List Int):Option (Int):=
 some (((List.length a:Nat):Int))
def N57 (a:Int) (b:List Int) (c d:Int) (g:List Bool):Option ((Int×(List Bool))⊕Bool⊕Unit):=
 cond (decide (d<c)) ((idx b d).bind fun(i:Int)=>cond (decide (i<1)) (some (Sum.inr (Sum.inl false))) (cond (decide (i>a)) (some (Sum.inr (Sum.inl false))) ((same (List.length g) 9).bind fun(j:Unit)=>(inb i 9).bind fun(k:Nat)=>(g[k]?).bind fun(l:Bool)=>cond l (some (Sum.inr (Sum.inl false))) ((same (List.length g) 9).bind fun(m:Unit)=>(inb i 9).bind fun(o:Nat)=>some (Sum.inl ((IntKind.wrap .i64 (d+1)),(g.set o true))))))) (some (Sum.inr (Sum.inr ())))
def Nfv (a:Int) (b:List Int) (c:Int):Option (Bool⊕Unit):=
 nloop (fun(s:Int×(List Bool))=>((N57 a b c s.1 s.2).map (Sum.elim (fun(t:Int×(List Bool))=>Sum.inl (t.1,t.2)) (Sum.elim (fun(t:Bool)=>Sum.inr (Sum.inl t)) (fun(t:Unit)=>Sum.inr (Sum.inr t)))):Option ((Int×(List Bool))⊕(Bool⊕Unit)))) LL (0,(List.replicate 9 false))
def Ngp (a:Int) (b:List Int) (c:Int):Option (Unit⊕Bool):=
 (Nfv a b c).map (Sum.elim (fun(t:Bool)=>(Sum.inr t)) (fun(t:Unit)=>(Sum.inl ())))
def Nho (a:List Int) (b:Int):Option (Unit⊕Bool):=
 (N70 a).bind (fun(t:Int)=>Ngp b a t)
def N7u:Option (Bool):=
 some true
def Ni4 (a:List Int) (b:Int):Option (Bool):=
 (Nho a b).bind (Sum.elim (fun(t:Unit)=>N7u) (fun e=>some ((fun(t:Bool)=>t) e)))
def Ngo (a:List Int) (b:Int):Option (Bool):=
 (N64 a b).bind (Sum.elim (fun(t:Unit)=>Ni4 a b) (fun e=>some ((fun(t:Bool)=>t) e)))
@[irreducible] def N42 (a:List Int) (b:Int):Option (Bool):=
 Ngo a b
def N6y (a:List Int):Option (((List Int))):=
 (mk (IntKind.wrap .i64 ((((List.length a:Nat):Int))+1)) (IntKind.wrap .i64 ((((List.length a:Nat):Int))+1))).bind fun(b:Nat)=>some (List.replicate b (0:Int))
def N6p (a:List Int):Option (Int):=
 some (((List.length a:Nat):Int))
def N3d (a:List Int) (b c:Int) (d:List Int):Option ((Int×(List Int))⊕((List Int))):=
 cond (decide (c<b)) ((idx a c).bind fun(g:Int)=>(inb g (List.length d)).bind fun(i:Nat)=>some (Sum.inl ((IntKind.wrap .i64 (c+1)),(d.set i (IntKind.wrap .i64 (c+1)))))) (some (Sum.inr d))
def Nfz (a:List Int) (b:Int) (c:List Int):Option (((List Int))):=
 nloop (fun(s:Int×(List Int))=>((N3d a b s.1 s.2).map (Sum.elim (fun(t:Int×(List Int))=>Sum.inl (t.1,t.2)) (fun(t:(List Int))=>Sum.inr t)):Option ((Int×(List Int))⊕(((List Int)))))) LL (0,c)
def Ndr (a:List Int) (b:Int) (c:List Int):Option (((List Int))):=
 (Nfz a b c).map (fun(t:(List Int))=>t)
def Nga (a b:List Int):Option (((List Int))):=
 (N6p a).bind (fun(t:Int)=>Ndr a t b)
def N6r (a:List Int):Option (((List Int))):=
 some a
def Nh8 (a b:List Int):Option (((List Int))):=
 (Nga a b).bind (fun(t:(List Int))=>N6r t)
def Nfk (a:List Int):Option (((List Int))):=
 (N6y a).bind (fun(t:(List Int))=>Nh8 a t)
@[irreducible] def N2m (a:List Int):Option ((List Int)):=
 Nfk a
def N7t (a:Int) (b:List Int):Option (Int):=
 (inb a (List.length b)).bind fun(c:Nat)=>(b[c]?).bind fun(d:Int)=>some d
@[irreducible] def N3m (a:Int) (b:List Int):Option (Int):=
 N7t a b
def N87 (a:List Int):Option (((List Int))):=
 (mk (((List.length a:Nat):Int)) (((List.length a:Nat):Int))).bind fun(b:Nat)=>some (List.replicate b (0:Int))
def N77 (a:List Int):Option (Int):=
 some (((List.length a:Nat):Int))
def N48 (a b:List Int) (c d:Int) (g i:List Int):Option ((Int×(List Int))⊕((List Int))):=
 cond (decide (d<c)) ((idx b d).bind fun(j:Int)=>(idx a (IntKind.wrap .i64 (j-1))).bind fun(k:Int)=>(N3m k g).bind fun(l:Int)=>(inb d (List.length i)).bind fun(m:Nat)=>some (Sum.inl ((IntKind.wrap .i64 (d+1)),(i.set m l)))) (some (Sum.inr i))
def Neq (a b:List Int) (c:Int) (d g:List Int):Option (((List Int))):=
 nloop (fun(s:Int×(List Int))=>((N48 a b c s.1 d s.2).map (Sum.elim (fun(t:Int×(List Int))=>Sum.inl (t.1,t.2)) (fun(t:(List Int))=>Sum.inr t)):Option ((Int×(List Int))⊕(((List Int)))))) LL (0,g)
def Nfh (a b:List Int) (c:Int) (d g:List Int):Option (((List Int))):=
 (Neq a b c d g).map (fun(t:(List Int))=>t)
def Nez (a b c d:List Int):Option (((List Int))):=
 (N77 b).bind (fun(t:Int)=>Nfh a b t c d)
def N86 (a:List Int):Option (((List Int))):=
 some a
def Ngm (a b c d:List Int):Option (((List Int))):=
 (Nez a b c d).bind (fun(t:(List Int))=>N86 t)
def Nf7 (a b c:List Int):Option (((List Int))):=
 (N87 b).bind (fun(t:(List Int))=>Ngm a b c t)
@[irreducible] def N4l (a b c:List Int):Option ((List Int)):=
 Nf7 a b c
def N6h (a b:List Int):Option ((Bool×(List Int))):=
 (N8 a).bind fun(c:Bool)=>cond (!c) (some (false,([]:List Int))) ((N42 b (((List.length a:Nat):Int))).bind fun(d:Bool)=>cond (!d) (some (false,([]:List Int))) ((N2m b).bind fun(g:List Int)=>(N4l a b g).bind fun(i:List Int)=>some (true,i)))
@[irreducible] def N1h (a b:List Int):Option (Bool×(List Int)):=
 N6h a b
def Ncy (a:Int):Option (Bool):=
 some ((iand .u64 a (IntKind.wrap .u64 (a+(iand .u64 a (IntKind.wrap .u64 (0-a))))))==0)
@[irreducible] def N3o (a:Int):Option (Bool):=
 Ncy a
def N5n (a:List Int):Option (Unit⊕Bool):=
 (N8 a).bind fun(b:Bool)=>cond (!b) (some (Sum.inr false)) (some (Sum.inl ()))
def N7n (a:List Int):Option ((Int×(List Int))):=
 (N1z a).bind fun(b:List Int)=>some ((((List.length b:Nat):Int)),b)
def N25 (a b:Int) (c:List Int):Option (Int⊕Bool⊕Unit):=
 cond (decide (b<a)) ((inb b (List.length c)).bind fun(d:Nat)=>(c[d]?).bind fun(g:Int)=>(N3o g).bind fun(i:Bool)=>cond (!i) (some (Sum.inr (Sum.inl false))) (some (Sum.inl (IntKind.wrap .i64 (b+1))))) (some (Sum.inr (Sum.inr ())))
def Nfb (a:Int) (b:List Int):Option (Bool⊕Unit):=
 nloop (fun(s:Int)=>((N25 a s b).map (Sum.elim (fun(t:Int)=>Sum.inl t) (Sum.elim (fun(t:Bool)=>Sum.inr (Sum.inl t)) (fun(t:Unit)=>Sum.inr (Sum.inr t)))):Option ((Int)⊕(Bool⊕Unit)))) LL 0
def Ngz (a:Int) (b:List Int):Option (Unit⊕Bool):=
 (Nfb a b).map (Sum.elim (fun(t:Bool)=>(Sum.inr t)) (fun(t:Unit)=>(Sum.inl ())))
def Ni5 (a:List Int):Option (Unit⊕Bool):=
 (N7n a).bind (fun(t:Int×(List Int))=>Ngz t.1 t.2)
def N8t:Option (Bool):=
 some true
def Nhf (a:List Int):Option (Bool):=
 (Ni5 a).bind (Sum.elim (fun(t:Unit)=>N8t) (fun e=>some ((fun(t:Bool)=>t) e)))
def N94 (a:List Int):Option (Bool):=
 (N5n a).bind (Sum.elim (fun(t:Unit)=>Nhf a) (fun e=>some ((fun(t:Bool)=>t) e)))
@[irreducible] def N1q (a:List Int):Option (Bool):=
 N94 a
def N8q (a b:Int):Option ((Bool×Int×Int)):=
 cond (decide (a<1)) (some (false,0,0)) (cond (decide (b<1)) (some (false,0,0)) (cond (a==b) (some (false,0,0)) (some (true,(imin a b),(imax a b)))))
@[irreducible] def N39 (a b:Int):Option (Bool×Int×Int):=
 N8q a b
def N7c (a:List Int):Option (((List (Int×Int×Unit)))):=
 (mk 0 (((List.length a:Nat):Int))).bind fun(b:Nat)=>some (List.replicate b ((0:Int),((0:Int),())))
def N8m (a:List Int):Option (Int):=
 some (((List.length a:Nat):Int))
def N36 (a:List Int) (b c:Int) (d:List (Int×Int×Unit)):Option ((Int×(List (Int×Int×Unit)))⊕((List (Int×Int×Unit)))):=
 cond (decide (c<b)) ((idx a c).bind fun(g:Int)=>(N39 (IntKind.wrap .i64 (c+1)) g).bind fun(i:Bool×Int×Int)=>cond (i.1) ((room ((List.length d)+List.length ([((i.2.1),((i.2.2),()))]))).bind fun(j:Unit)=>some (Sum.inl ((IntKind.wrap .i64 (c+1)),(d++([((i.2.1),((i.2.2),()))]))))) (some (Sum.inl ((IntKind.wrap .i64 (c+1)),d)))) (some (Sum.inr d))
def Ni6 (a:List Int) (b:Int) (c:List (Int×Int×Unit)):Option (((List (Int×Int×Unit)))):=
 nloop (fun(s:Int×(List (Int×Int×Unit)))=>((N36 a b s.1 s.2).map (Sum.elim (fun(t:Int×(List (Int×Int×Unit)))=>Sum.inl (t.1,t.2)) (fun(t:(List (Int×Int×Unit)))=>Sum.inr t)):Option ((Int×(List (Int×Int×Unit)))⊕(((List (Int×Int×Unit))))))) LL (0,c)
def Nd8 (a:List Int) (b:Int) (c:List (Int×Int×Unit)):Option (((List (Int×Int×Unit)))):=
 (Ni6 a b c).map (fun(t:(List (Int×Int×Unit)))=>t)
def Nht (a:List Int) (b:List (Int×Int×Unit)):Option (((List (Int×Int×Unit)))):=
 (N8m a).bind (fun(t:Int)=>Nd8 a t b)
def N59 (a:List (Int×Int×Unit)):Option (((List (Int×Int×Unit)))):=
 some a
def Nh1 (a:List Int) (b:List (Int×Int×Unit)):Option (((List (Int×Int×Unit)))):=
 (Nht a b).bind (fun(t:(List (Int×Int×Unit)))=>N59 t)
def Nbk (a:List Int):Option (((List (Int×Int×Unit)))):=
 (N7c a).bind (fun(t:(List (Int×Int×Unit)))=>Nh1 a t)
@[irreducible] def N26 (a:List Int):Option ((List (Int×Int×Unit))):=
 Nbk a
def Naz (a b:Int):Option (Int):=
 some (IntKind.wrap .i64 (b-a))
@[irreducible] def N45 (a b:Int):Option (Int):=
 Naz a b
def N82 (a:List Int):Option (Unit⊕Int):=
 (N8 a).bind fun(b:Bool)=>cond (!b) (some (Sum.inr (-1))) (some (Sum.inl ()))
def N7x (a:List Int):Option ((Int×(List (Int×Int×Unit)))):=
 (N26 a).bind fun(b:List (Int×Int×Unit))=>some ((((List.length b:Nat):Int)),b)
def N3x (a b c:Int) (d:List (Int×Int×Unit)):Option ((Int×Int)⊕Int):=
 cond (decide (c<b)) ((inb c (List.length d)).bind fun(g:Nat)=>(d[g]?).bind fun(i:Int×Int×Unit)=>(N45 (i.1) ((i.2).1)).bind fun(j:Int)=>some (Sum.inl ((IntKind.wrap .i64 (a+j)),(IntKind.wrap .i64 (c+1))))) (some (Sum.inr a))
def Nhz (a:Int) (b:List (Int×Int×Unit)):Option (Int):=
 nloop (fun(s:Int×Int)=>((N3x s.1 a s.2 b).map (Sum.elim (fun(t:Int×Int)=>Sum.inl (t.1,t.2)) (fun(t:Int)=>Sum.inr t)):Option ((Int×Int)⊕(Int)))) LL (0,0)
def Ner (a:Int) (b:List (Int×Int×Unit)):Option (Int):=
 (Nhz a b).map (fun(t:Int)=>t)
def Nda (a:List Int):Option (Int):=
 (N7x a).bind (fun(t:Int×(List (Int×Int×Unit)))=>Ner t.1 t.2)
def Ncq (a:Int):Option (Int):=
 some a
def Nh7 (a:List Int):Option (Int):=
 (Nda a).bind (fun(t:Int)=>Ncq t)
def Nau (a:List Int):Option (Int):=
 (N82 a).bind (Sum.elim (fun(t:Unit)=>Nh7 a) (fun e=>some ((fun(t:Int)=>t) e)))
@[irreducible] def Nf (a:List Int):Option (Int):=
 Nau a
def Nae (a:Int):Option (Int):=
 (N1s a).bind fun(b:Int)=>some (IntKind.wrap .u64 (b-1))
@[irreducible] def N2i (a:Int):Option (Int):=
 Nae a
def N50 (a:List Int) (b:Int):Option ((Int×Int)):=
 (N1l a b).bind fun(c:Int)=>(N2i b).bind fun(d:Int)=>(N2i b).bind fun(g:Int)=>some ((iand .u64 c d),(iandn .u64 c g))
@[irreducible] def N23 (a:List Int) (b:Int):Option (Int×Int):=
 N50 a b
def N4g (R0 R1:(List Int)→Int→(List Int)→Option ((List Int))) (a:List Int) (b:Int) (c:List Int):Option (((List Int))):=
 (N23 a b).bind fun(d:Int×Int)=>(R1 a (d.1) c).bind fun(g:List Int)=>(room ((List.length g)+List.length ([b]))).bind fun(i:Unit)=>(R1 a (d.2) (g++([b]))).bind fun(j:List Int)=>some j
def Nrp (R0 R1:(List Int)→Int→(List Int)→Option ((List Int))) (a:List Int) (b:Int) (c:List Int):Option ((List Int)):=
 N4g R0 R1 a b c
def N7l (R0 R1:(List Int)→Int→(List Int)→Option ((List Int))):Option (Unit):=
 some ()
def N5y (R0 R1:(List Int)→Int→(List Int)→Option ((List Int))) (a:Int):Option ((Int×(List Int))):=
 (N1x a).bind fun(b:List Int)=>some ((((List.length b:Nat):Int)),b)
def N2n (R0 R1:(List Int)→Int→(List Int)→Option ((List Int))) (a:List Int) (b c:Int) (d g:List Int):Option ((Int×(List Int))⊕((List Int))):=
 cond (decide (c<b)) ((inb c (List.length g)).bind fun(i:Nat)=>(g[i]?).bind fun(j:Int)=>(R0 a j d).bind fun(k:List Int)=>some (Sum.inl ((IntKind.wrap .i64 (c+1)),k))) (some (Sum.inr d))
def Nef (R0 R1:(List Int)→Int→(List Int)→Option ((List Int))) (a:List Int) (b:Int) (c d:List Int):Option (((List Int))):=
 nloop (fun(s:Int×(List Int))=>((N2n R0 R1 a b s.1 s.2 d).map (Sum.elim (fun(t:Int×(List Int))=>Sum.inl (t.1,t.2)) (fun(t:(List Int))=>Sum.inr t)):Option ((Int×(List Int))⊕(((List Int)))))) LL (0,c)
def Nge (R0 R1:(List Int)→Int→(List Int)→Option ((List Int))) (a:List Int) (b:Int) (c d:List Int):Option (((List Int))):=
 (Nef R0 R1 a b c d).map (fun(t:(List Int))=>t)
def Ndy (R0 R1:(List Int)→Int→(List Int)→Option ((List Int))) (a:List Int) (b:Int) (c:List Int):Option (((List Int))):=
 (N5y R0 R1 b).bind (fun(t:Int×(List Int))=>Nge R0 R1 a t.1 c t.2)
def N6u (R0 R1:(List Int)→Int→(List Int)→Option ((List Int))) (a:List Int):Option (((List Int))):=
 some a
def Nh0 (R0 R1:(List Int)→Int→(List Int)→Option ((List Int))) (a:List Int) (b:Int) (c:List Int):Option (((List Int))):=
 (Ndy R0 R1 a b c).bind (fun(t:(List Int))=>N6u R0 R1 t)
def Nec (R0 R1:(List Int)→Int→(List Int)→Option ((List Int))) (a:List Int) (b:Int) (c:List Int):Option (((List Int))):=
 (N7l R0 R1).bind (fun(t:Unit)=>Nh0 R0 R1 a b c)
def N8n (R0 R1:(List Int)→Int→(List Int)→Option ((List Int))) (a:List Int) (b:Int) (c:List Int):Option ((List Int)):=
 Nec R0 R1 a b c
def N5:Nat→((List Int)→Int→(List Int)→Option ((List Int)))×((List Int)→Int→(List Int)→Option ((List Int)))
 |0=>((fun _ _ _=>none),(fun _ _ _=>none))
 |n+1=>((fun y0 y1 y2=>Nrp (N5 n).1 (N5 n).2 y0 y1 y2),(fun y0 y1 y2=>N8n (N5 n).1 (N5 n).2 y0 y1 y2))
def Ng (n:Nat):(List Int)→Int→(List Int)→Option ((List Int)):=(N5 n).1
@[irreducible] def N49 (a:List Int) (b:Int) (c:List Int):Option ((List Int)):=Ng RR a b c
def N1a (n:Nat):(List Int)→Int→(List Int)→Option ((List Int)):=(N5 n).2
@[irreducible] def Ndv (a:List Int) (b:Int) (c:List Int):Option ((List Int)):=N1a RR a b c
def N4v (a:List Int):Option (((List Int))):=
 (N8 a).bind fun(b:Bool)=>cond (!b) (some ([]:List Int)) ((N28 a).bind fun(c:Int)=>(mk 0 (((List.length a:Nat):Int))).bind fun(d:Nat)=>(N49 a c (List.replicate d (0:Int))).bind fun(g:List Int)=>some g)
@[irreducible] def N24 (a:List Int):Option ((List Int)):=
 N4v a
def N4m (a:List Int):Option (((List Int))):=
 (N24 a).bind fun(b:List Int)=>(N1h a b).bind fun(c:Bool×(List Int))=>some (c.2)
@[irreducible] def N1y (a:List Int):Option ((List Int)):=
 N4m a
def N5c (x3 x4:List Int):Option ((Int×Int×(List Int))⊕Bool):=
 cond (decide ((((List.length x3:Nat):Int))>1048576)) (some (Sum.inr true)) (cond (decide ((((List.length x4:Nat):Int))>1048576)) (some (Sum.inr true)) ((N2r x3).bind fun(a:List Int)=>(N13 a).bind fun(b:Int)=>(N1o a).bind fun(c:Int)=>cond (b !=c) (some (Sum.inr false)) (cond (decide (b<0)) (cond (b==(-1)) ((N8 a).bind fun(d:Bool)=>cond (!d) ((N2y).bind fun(g:Bool)=>some (Sum.inr g)) (some (Sum.inr false))) (some (Sum.inr false))) (some (Sum.inl (b,(((List.length a:Nat):Int)),a))))))
def N79:Option (Unit):=
 some ()
def N3r (x4:List Int) (a b:Int) (c:List Int):Option ((Int×(List Int))⊕((List Int))):=
 cond (decide (b≤a)) (cond (decide ((((List.length x4:Nat):Int))>0)) ((rem b (((List.length x4:Nat):Int))).bind fun(d:Int)=>(idx x4 d).bind fun(g:Int)=>(rem (IntKind.wrap .i64 g) b).bind fun(i:Int)=>(inc i (List.length c)).bind fun(j:Nat)=>(room ((List.length ([]:List Int))+List.length ((c.drop 0).take (j-0)))).bind fun(k:Unit)=>(room ((List.length (([]:List Int)++((c.drop 0).take (j-0))))+List.length ([b]))).bind fun(l:Unit)=>(inc i (List.length c)).bind fun(m:Nat)=>(room ((List.length ((([]:List Int)++((c.drop 0).take (j-0)))++([b])))+List.length ((c.drop m).take ((List.length c)-m)))).bind fun(o:Unit)=>some (Sum.inl ((IntKind.wrap .i64 (b+1)),(((([]:List Int)++((c.drop 0).take (j-0)))++([b]))++((c.drop m).take ((List.length c)-m)))))) ((inc 0 (List.length c)).bind fun(p:Nat)=>(room ((List.length ([]:List Int))+List.length ((c.drop 0).take (p-0)))).bind fun(q:Unit)=>(room ((List.length (([]:List Int)++((c.drop 0).take (p-0))))+List.length ([b]))).bind fun(w:Unit)=>(inc 0 (List.length c)).bind fun(y:Nat)=>(room ((List.length ((([]:List Int)++((c.drop 0).take (p-0)))++([b])))+List.length ((c.drop y).take ((List.length c)-y)))).bind fun(z:Unit)=>some (Sum.inl ((IntKind.wrap .i64 (b+1)),(((([]:List Int)++((c.drop 0).take (p-0)))++([b]))++((c.drop y).take ((List.length c)-y))))))) (some (Sum.inr c))
def Ne9 (x4:List Int) (a:Int):Option (((List Int))):=
 nloop (fun(s:Int×(List Int))=>((N3r x4 a s.1 s.2).map (Sum.elim (fun(t:Int×(List Int))=>Sum.inl (t.1,t.2)) (fun(t:(List Int))=>Sum.inr t)):Option ((Int×(List Int))⊕(((List Int)))))) LL (1,([]:List Int))
def Ni3 (x4:List Int) (a:Int):Option (((List Int))):=
 (Ne9 x4 a).map (fun(t:(List Int))=>t)
def Na6 (x4:List Int) (a:Int):Option (((List Int))):=
 (N79).bind (fun(t:Unit)=>Ni3 x4 a)
def N51 (a:Int) (b c:List Int):Option (Unit⊕Bool):=
 (N1h b c).bind fun(d:Bool×(List Int))=>cond (!(d.1)) (some (Sum.inr false)) ((N13 (d.2)).bind fun(g:Int)=>cond (g !=a) (some (Sum.inr false)) ((N1q (d.2)).bind fun(i:Bool)=>cond i ((Nf (d.2)).bind fun(j:Int)=>cond (decide (j<a)) (some (Sum.inr false)) (some (Sum.inl ()))) (some (Sum.inl ()))))
def N5u:Option (Unit):=
 some ()
def N2w (a b c:Int):Option ((Int×Int)⊕Int):=
 cond (decide (c≤a)) (some (Sum.inl ((IntKind.wrap .i64 (b*c)),(IntKind.wrap .i64 (c+1))))) (some (Sum.inr b))
def Ne6 (a:Int):Option (Int):=
 nloop (fun(s:Int×Int)=>((N2w a s.1 s.2).map (Sum.elim (fun(t:Int×Int)=>Sum.inl (t.1,t.2)) (fun(t:Int)=>Sum.inr t)):Option ((Int×Int)⊕(Int)))) LL (1,2)
def Nd6 (a:Int):Option (Int):=
 (Ne6 a).map (fun(t:Int)=>t)
def Nbh (a:Int):Option (Int):=
 (N5u).bind (fun(t:Unit)=>Nd6 a)
def N54:Option (Unit):=
 some ()
def N2l (a b c d:Int):Option (Unit⊕Int):=
 cond (decide (d<c)) (cond (decide (a≤5)) (some (Sum.inl ())) (some (Sum.inr b))) (some (Sum.inr b))
def N8p:Option (Unit):=
 some ()
def N8k:Option (Unit):=
 some ()
def N3k (a b c:Int) (d:List Int):Option ((Int×Int×(List Int))⊕((List Int))):=
 cond (decide (c≤a)) ((rem b c).bind fun(g:Int)=>(quo .i64 b c).bind fun(i:Int)=>(inc g (List.length d)).bind fun(j:Nat)=>(room ((List.length ([]:List Int))+List.length ((d.drop 0).take (j-0)))).bind fun(k:Unit)=>(room ((List.length (([]:List Int)++((d.drop 0).take (j-0))))+List.length ([c]))).bind fun(l:Unit)=>(inc g (List.length d)).bind fun(m:Nat)=>(room ((List.length ((([]:List Int)++((d.drop 0).take (j-0)))++([c])))+List.length ((d.drop m).take ((List.length d)-m)))).bind fun(o:Unit)=>some (Sum.inl (i,(IntKind.wrap .i64 (c+1)),(((([]:List Int)++((d.drop 0).take (j-0)))++([c]))++((d.drop m).take ((List.length d)-m)))))) (some (Sum.inr d))
def Nbq (a b:Int):Option (((List Int))):=
 nloop (fun(s:Int×Int×(List Int))=>((N3k a s.1 s.2.1 s.2.2).map (Sum.elim (fun(t:Int×Int×(List Int))=>Sum.inl (t.1,t.2.1,t.2.2)) (fun(t:(List Int))=>Sum.inr t)):Option ((Int×Int×(List Int))⊕(((List Int)))))) LL (b,1,([]:List Int))
def Nfn (a b:Int):Option (((List Int))):=
 (Nbq a b).map (fun(t:(List Int))=>t)
def Nd1 (a b:Int):Option (((List Int))):=
 (N8k).bind (fun(t:Unit)=>Nfn a b)
def N7b (a:Int) (b c:List Int):Option (Int):=
 (N1h b c).bind fun(d:Bool×(List Int))=>cond (d.1) ((N1q (d.2)).bind fun(g:Bool)=>cond g (cond (decide (a<0)) ((Nf (d.2)).bind fun(i:Int)=>some i) ((Nf (d.2)).bind fun(j:Int)=>cond (decide (j<a)) ((Nf (d.2)).bind fun(k:Int)=>some k) (some a))) (some a)) (some a)
def Ne0 (a b c:Int) (d:List Int):Option (Int):=
 (Nd1 a c).bind (fun(t:(List Int))=>N7b b d t)
def Nhv (a b c:Int) (d:List Int):Option (Int):=
 (N8p).bind (fun(t:Unit)=>Ne0 a b c d)
def Ng7 (a b c:Int) (d:List Int):Option (Int):=
 (Nhv a b c d).map (fun(t:Int)=>t)
def N63 (a:Int):Option (Int):=
 some (IntKind.wrap .i64 (a+1))
def New (a b c:Int) (d:List Int):Option ((Int×Int)):=
 (Ng7 a b c d).bind (fun(t:Int)=>(N63 c).map (fun(u:Int)=>(t,u)))
def N3q (a b c d:Int) (g:List Int):Option ((Int×Int)⊕Int):=
 (N2l a b c d).bind (Sum.elim (fun(t:Unit)=>(New a b d g).map (fun(t:Int×Int)=>(Sum.inl (t.1,t.2)))) (fun e=>some ((fun(t:Int)=>(Sum.inr t)) e)))
def N99 (a b:Int) (c:List Int):Option (Int):=
 nloop (fun(s:Int×Int)=>((N3q a s.1 b s.2 c).map (Sum.elim (fun(t:Int×Int)=>Sum.inl (t.1,t.2)) (fun(t:Int)=>Sum.inr t)):Option ((Int×Int)⊕(Int)))) LL ((-1),0)
def N9k (a b:Int) (c:List Int):Option (Int):=
 (N99 a b c).map (fun(t:Int)=>t)
def N4e (a b:Int) (c:List Int):Option (Int):=
 (N54).bind (fun(t:Unit)=>N9k a b c)
def N4y (a b c:Int) (d:List Int):Option (Bool):=
 cond (decide (a≥(IntKind.wrap .i64 (b-1)))) ((N1y d).bind fun(g:List Int)=>(Nf g).bind fun(i:Int)=>cond (decide (i≥a)) (cond (decide (b>5)) (some true) (some (c==a))) (some false)) (some false)
def Nfw (a b c:Int) (d:List Int):Option (Bool):=
 (N4e b c d).bind (fun(t:Int)=>N4y a b t d)
def Nf6 (a b:Int) (c:List Int):Option (Bool):=
 (Nbh b).bind (fun(t:Int)=>Nfw a b t c)
def Neb (a b:Int) (c d:List Int):Option (Bool):=
 (N51 a c d).bind (Sum.elim (fun(t:Unit)=>Nf6 a b c) (fun e=>some ((fun(t:Bool)=>t) e)))
def Nhw (x4:List Int) (a b:Int) (c:List Int):Option (Bool):=
 (Na6 x4 b).bind (fun(t:(List Int))=>Neb a b c t)
def Nhk (x3 x4:List Int):Option (Bool):=
 (N5c x3 x4).bind (Sum.elim (fun(t:Int×Int×(List Int))=>Nhw x4 t.1 t.2.1 t.2.2) (fun e=>some ((fun(t:Bool)=>t) e)))
@[irreducible] def N2c (x3 x4:List Int):Option (Bool):=
 Nhk x3 x4
end Go.Rv
