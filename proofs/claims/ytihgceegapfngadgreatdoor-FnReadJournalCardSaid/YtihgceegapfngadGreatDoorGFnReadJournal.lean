/-
  Plain functions,written by program for functions of the checked code. Conditions: none.
-/
import Derived.Test.YtihgceegapfngadGreatDoorFB
set_option linter.unusedVariables false
namespace Go.Rv
def Naq (a:List Int):Option (((List Int))):=
 cond (decide ((((List.length a:Nat):Int))>2000)) ((inc 2000 (List.length a)).bind fun(b:Nat)=>some ((a.take b).drop 0)) (some a)
@[irreducible] def N3x (a:List Int):Option ((List Int)):=
 Naq a
def N95 (a:Int) (b:List Int) (c:Int):Option ((Int×Int)):=
 cond (decide (a<1)) (some (0,(IntKind.wrap .i64 (c+1)))) (cond ((((List.length b:Nat):Int))==0) (some (0,(IntKind.wrap .i64 (c+1)))) (cond (decide ((IntKind.wrap .i64 ((IntKind.wrap .i64 (c+1))-1))<(((List.length b:Nat):Int)))) ((idx b (IntKind.wrap .i64 ((IntKind.wrap .i64 (c+1))-1))).bind fun(d:Int)=>(rem (IntKind.wrap .i64 d) a).bind fun(g:Int)=>some (g,(IntKind.wrap .i64 (c+1)))) ((rem (IntKind.wrap .i64 ((IntKind.wrap .i64 (c+1))-1)) (((List.length b:Nat):Int))).bind fun(i:Int)=>(idx b i).bind fun(j:Int)=>(rem (IntKind.wrap .i64 ((IntKind.wrap .i64 ((IntKind.wrap .i64 ((IntKind.wrap .i64 (c+1))-1))*7))+3)) (((List.length b:Nat):Int))).bind fun(k:Int)=>(idx b k).bind fun(l:Int)=>(quo .i64 (IntKind.wrap .i64 ((IntKind.wrap .i64 (c+1))-1)) (((List.length b:Nat):Int))).bind fun(m:Int)=>(quo .i64 (IntKind.wrap .i64 ((IntKind.wrap .i64 ((IntKind.wrap .i64 ((IntKind.wrap .i64 ((IntKind.wrap .i64 j)*131))+(IntKind.wrap .i64 ((IntKind.wrap .i64 l)*1117))))+(IntKind.wrap .i64 ((IntKind.wrap .i64 ((IntKind.wrap .i64 (c+1))-1))*29))))+(IntKind.wrap .i64 (m*53)))) 64).bind fun(o:Int)=>(rem (ixor .i64 (IntKind.wrap .i64 ((IntKind.wrap .i64 ((IntKind.wrap .i64 ((IntKind.wrap .i64 ((IntKind.wrap .i64 j)*131))+(IntKind.wrap .i64 ((IntKind.wrap .i64 l)*1117))))+(IntKind.wrap .i64 ((IntKind.wrap .i64 ((IntKind.wrap .i64 (c+1))-1))*29))))+(IntKind.wrap .i64 (m*53)))) o) a).bind fun(p:Int)=>some (p,(IntKind.wrap .i64 (c+1))))))
@[irreducible] def N0 (a:Int) (b:List Int) (c:Int):Option (Int×Int):=
 N95 a b c
def N9i (a:List Int) (b:Int):Option ((Int×Int)):=
 (N0 2 a b).bind fun(c:Int×Int)=>some ((c.1),(c.2))
def Nbv:Option (Unit):=
 some ()
def N6t (a b c:Int) (d:List Int) (g:Int) (i:List Int):Option ((Int×Int×(List Int))⊕(Int×(List Int))):=
 cond (decide (c≤a)) (cond (b==0) ((N0 c d g).bind fun(j:Int×Int)=>(inc (j.1) (List.length i)).bind fun(k:Nat)=>(room ((List.length ([]:List Int))+List.length ((i.drop 0).take (k-0)))).bind fun(l:Unit)=>(room ((List.length (([]:List Int)++((i.drop 0).take (k-0))))+List.length ([c]))).bind fun(m:Unit)=>(inc (j.1) (List.length i)).bind fun(o:Nat)=>(room ((List.length ((([]:List Int)++((i.drop 0).take (k-0)))++([c])))+List.length ((i.drop o).take ((List.length i)-o)))).bind fun(p:Unit)=>some (Sum.inl ((IntKind.wrap .i64 (c+1)),(j.2),(((([]:List Int)++((i.drop 0).take (k-0)))++([c]))++((i.drop o).take ((List.length i)-o)))))) ((N0 3 d g).bind fun(q:Int×Int)=>cond ((q.1)==0) ((N0 c d (q.2)).bind fun(w:Int×Int)=>(inc (w.1) (List.length i)).bind fun(y:Nat)=>(room ((List.length ([]:List Int))+List.length ((i.drop 0).take (y-0)))).bind fun(z:Unit)=>(room ((List.length (([]:List Int)++((i.drop 0).take (y-0))))+List.length ([c]))).bind fun(a0:Unit)=>(inc (w.1) (List.length i)).bind fun(a1:Nat)=>(room ((List.length ((([]:List Int)++((i.drop 0).take (y-0)))++([c])))+List.length ((i.drop a1).take ((List.length i)-a1)))).bind fun(a2:Unit)=>some (Sum.inl ((IntKind.wrap .i64 (c+1)),(w.2),(((([]:List Int)++((i.drop 0).take (y-0)))++([c]))++((i.drop a1).take ((List.length i)-a1)))))) ((inc (((List.length i:Nat):Int)) (List.length i)).bind fun(a3:Nat)=>(room ((List.length ([]:List Int))+List.length ((i.drop 0).take (a3-0)))).bind fun(a4:Unit)=>(room ((List.length (([]:List Int)++((i.drop 0).take (a3-0))))+List.length ([c]))).bind fun(a5:Unit)=>(inc (((List.length i:Nat):Int)) (List.length i)).bind fun(a6:Nat)=>(room ((List.length ((([]:List Int)++((i.drop 0).take (a3-0)))++([c])))+List.length ((i.drop a6).take ((List.length i)-a6)))).bind fun(a7:Unit)=>some (Sum.inl ((IntKind.wrap .i64 (c+1)),(q.2),(((([]:List Int)++((i.drop 0).take (a3-0)))++([c]))++((i.drop a6).take ((List.length i)-a6)))))))) (some (Sum.inr (g,i)))
def Np7 (a b:Int) (c:List Int) (d:Int):Option ((Int×(List Int))):=
 nloop (fun(s:Int×Int×(List Int))=>((N6t a b s.1 c s.2.1 s.2.2).map (Sum.elim (fun(t:Int×Int×(List Int))=>Sum.inl (t.1,t.2.1,t.2.2)) (fun(t:Int×(List Int))=>Sum.inr t)):Option ((Int×Int×(List Int))⊕((Int×(List Int)))))) LL (1,d,([]:List Int))
def No4 (a b:Int) (c:List Int) (d:Int):Option ((Int×(List Int))):=
 (Np7 a b c d).map (fun(t:Int×(List Int))=>(t.1,t.2))
def Nji (a b:Int) (c:List Int) (d:Int):Option ((Int×(List Int))):=
 (Nbv).bind (fun(t:Unit)=>No4 a b c d)
def Ndo (a:Int) (b:List Int):Option ((Int×(List Int))):=
 some (a,b)
def No1 (a b:Int) (c:List Int) (d:Int):Option ((Int×(List Int))):=
 (Nji a b c d).bind (fun(t:Int×(List Int))=>Ndo t.1 t.2)
def Nkw (a:Int) (b:List Int) (c:Int):Option ((Int×(List Int))):=
 (N9i b c).bind (fun(t:Int×Int)=>No1 a t.1 b t.2)
@[irreducible] def N3h (a:Int) (b:List Int) (c:Int):Option (Int×(List Int)):=
 Nkw a b c
def N7w (a:Int) (b:List Int) (c:Int):Option ((Bool×Int)):=
 cond (decide (a>0)) ((N0 a b c).bind fun(d:Int×Int)=>some (((d.1)==(IntKind.wrap .i64 (a-1))),(d.2))) (some (false,c))
@[irreducible] def Np (a:Int) (b:List Int) (c:Int):Option (Bool×Int):=
 N7w a b c
def Nc1 (a:List Int) (b:Int):Option ((Int×Int×Int×(List Int)×(List Int))):=
 (N0 7 a b).bind fun(c:Int×Int)=>(N3h (IntKind.wrap .i64 (1+(c.1))) a (c.2)).bind fun(d:Int×(List Int))=>(mk (IntKind.wrap .i64 (1+(c.1))) (IntKind.wrap .i64 (1+(c.1)))).bind fun(g:Nat)=>(N0 2 a (d.1)).bind fun(i:Int×Int)=>some ((IntKind.wrap .i64 (1+(c.1))),(i.1),(i.2),(d.2),(List.replicate g (0:Int)))
def N82:Option (Unit):=
 some ()
def N6z (a b c:Int) (d:List Int) (g:Int) (i j:List Int):Option ((Int×Int×(List Int))⊕(Int×(List Int))):=
 cond (decide (c<a)) ((N0 c d g).bind fun(k:Int×Int)=>cond (b==1) ((N0 2 d (k.2)).bind fun(l:Int×Int)=>cond ((l.1)==0) ((inb c (List.length i)).bind fun(m:Nat)=>(i[m]?).bind fun(o:Int)=>(inb (IntKind.wrap .i64 (c-1)) (List.length i)).bind fun(p:Nat)=>(i[p]?).bind fun(q:Int)=>(inb (IntKind.wrap .i64 (o-1)) (List.length j)).bind fun(w:Nat)=>some (Sum.inl ((IntKind.wrap .i64 (c+1)),(l.2),(j.set w q)))) ((inb c (List.length i)).bind fun(y:Nat)=>(i[y]?).bind fun(z:Int)=>(inb (k.1) (List.length i)).bind fun(a0:Nat)=>(i[a0]?).bind fun(a1:Int)=>(inb (IntKind.wrap .i64 (z-1)) (List.length j)).bind fun(a2:Nat)=>some (Sum.inl ((IntKind.wrap .i64 (c+1)),(l.2),(j.set a2 a1))))) ((inb c (List.length i)).bind fun(a3:Nat)=>(i[a3]?).bind fun(a4:Int)=>(inb (k.1) (List.length i)).bind fun(a5:Nat)=>(i[a5]?).bind fun(a6:Int)=>(inb (IntKind.wrap .i64 (a4-1)) (List.length j)).bind fun(a7:Nat)=>some (Sum.inl ((IntKind.wrap .i64 (c+1)),(k.2),(j.set a7 a6))))) (some (Sum.inr (g,j)))
def Nk0 (a b:Int) (c:List Int) (d:Int) (g i:List Int):Option ((Int×(List Int))):=
 nloop (fun(s:Int×Int×(List Int))=>((N6z a b s.1 c s.2.1 g s.2.2).map (Sum.elim (fun(t:Int×Int×(List Int))=>Sum.inl (t.1,t.2.1,t.2.2)) (fun(t:Int×(List Int))=>Sum.inr t)):Option ((Int×Int×(List Int))⊕((Int×(List Int)))))) LL (1,d,i)
def No9 (a b:Int) (c:List Int) (d:Int) (g i:List Int):Option ((Int×(List Int))):=
 (Nk0 a b c d g i).map (fun(t:Int×(List Int))=>(t.1,t.2))
def Nj8 (a b:Int) (c:List Int) (d:Int) (g i:List Int):Option ((Int×(List Int))):=
 (N82).bind (fun(t:Unit)=>No9 a b c d g i)
def Ncq (a b:Int) (c:List Int) (d:Int) (g:List Int):Option ((Int×(List Int))):=
 (Np a c d).bind fun(i:Bool×Int)=>cond (i.1) ((N0 4 c (i.2)).bind fun(j:Int×Int)=>cond ((j.1)==0) (some ((j.2),([]:List Int))) (cond ((j.1)==1) (some ((j.2),([2,1,0]))) (cond ((j.1)==2) ((N0 b c (j.2)).bind fun(k:Int×Int)=>(inb (k.1) (List.length g)).bind fun(l:Nat)=>(room ((List.length (g.set l 0))+List.length ([0]))).bind fun(m:Unit)=>some ((k.2),((g.set l 0)++([0])))) ((N0 3 c (j.2)).bind fun(o:Int×Int)=>(inb (o.1) (List.length ([1,(IntKind.wrap .i64 (b+1)),(-1)]))).bind fun(p:Nat)=>(([1,(IntKind.wrap .i64 (b+1)),(-1)])[p]?).bind fun(q:Int)=>(inb 0 (List.length g)).bind fun(w:Nat)=>some ((o.2),(g.set w q)))))) (some ((i.2),g))
def Njo (a b c:Int) (d:List Int) (g:Int) (i j:List Int):Option ((Int×(List Int))):=
 (Nj8 b c d g i j).bind (fun(t:Int×(List Int))=>Ncq a b d t.1 t.2)
def Nkk (a:Int) (b:List Int) (c:Int):Option ((Int×(List Int))):=
 (Nc1 b c).bind (fun(t:Int×Int×Int×(List Int)×(List Int))=>Njo a t.1 t.2.1 b t.2.2.1 t.2.2.2.1 t.2.2.2.2)
@[irreducible] def N3k (a:Int) (b:List Int) (c:Int):Option (Int×(List Int)):=
 Nkk a b c
def N7q (a b c:Int):Option (Bool):=
 cond (decide (a≥b)) (some (decide (a≤c))) (some false)
@[irreducible] def N9 (a b c:Int):Option (Bool):=
 N7q a b c
def Nan (a:List Int):Option (Int⊕Bool):=
 (N9 (((List.length a:Nat):Int)) 1 8).bind fun(b:Bool)=>cond (!b) (some (Sum.inr false)) (some (Sum.inl (((List.length a:Nat):Int))))
def N9z:Option (Unit):=
 some ()
def N7j (a b c:Int):Option (Unit⊕Int):=
 cond (decide (c<a)) (some (Sum.inl ())) (some (Sum.inr b))
def N8n (a:List Int) (b c d:Int):Option ((Int×Int)⊕Bool):=
 (idx a d).bind fun(g:Int)=>(N9 g 0 b).bind fun(i:Bool)=>cond (!i) (some (Sum.inr false)) ((idx a d).bind fun(j:Int)=>cond (j==(IntKind.wrap .i64 (d+1))) (some (Sum.inr false)) ((idx a d).bind fun(k:Int)=>cond (k==0) (some (Sum.inl ((IntKind.wrap .i64 (c+1)),(IntKind.wrap .i64 (d+1))))) (some (Sum.inl (c,(IntKind.wrap .i64 (d+1)))))))
def Nbo:Option (Unit):=
 some ()
def N7e (a:List Int) (b c d:Int):Option ((Int×Int)⊕Bool⊕Int):=
 cond (decide (c>0)) (cond (decide (d<b)) ((idx a (IntKind.wrap .i64 (c-1))).bind fun(g:Int)=>(N9 g 0 b).bind fun(i:Bool)=>cond (!i) (some (Sum.inr (Sum.inl false))) (some (Sum.inl (g,(IntKind.wrap .i64 (d+1)))))) (some (Sum.inr (Sum.inr c)))) (some (Sum.inr (Sum.inr c)))
def Nii (a:List Int) (b c:Int):Option (Bool⊕Int):=
 nloop (fun(s:Int×Int)=>((N7e a b s.1 s.2).map (Sum.elim (fun(t:Int×Int)=>Sum.inl (t.1,t.2)) (Sum.elim (fun(t:Bool)=>Sum.inr (Sum.inl t)) (fun(t:Int)=>Sum.inr (Sum.inr t)))):Option ((Int×Int)⊕(Bool⊕Int)))) LL (c,0)
def Nmx (a:List Int) (b c:Int):Option (Int⊕Bool):=
 (Nii a b c).map (Sum.elim (fun(t:Bool)=>(Sum.inr t)) (fun(t:Int)=>(Sum.inl t)))
def Nop (a:List Int) (b c:Int):Option (Int⊕Bool):=
 (Nbo).bind (fun(t:Unit)=>Nmx a b c)
def N81 (a:Int):Option (Unit⊕Bool):=
 cond (decide (a>0)) (some (Sum.inr false)) (some (Sum.inl ()))
def Nnj (a:List Int) (b c:Int):Option (Unit⊕Bool):=
 (Nop a b c).bind (Sum.elim (fun(t:Int)=>N81 t) (fun e=>some ((fun(t:Bool)=>(Sum.inr t)) e)))
def Nk2 (a:List Int) (b c d:Int):Option (Int⊕Bool):=
 (N8n a b c d).bind (Sum.elim (fun(t:Int×Int)=>(Nnj a b t.2).map (Sum.elim (fun(u:Unit)=>(Sum.inl t.1)) (fun(u:Bool)=>(Sum.inr u)))) (fun e=>some ((fun(t:Bool)=>(Sum.inr t)) e)))
def Np1 (a:List Int) (b c d:Int):Option (Int⊕Bool):=
 (Nk2 a b c d).map (Sum.elim (fun(t:Int)=>(Sum.inl t)) (fun(t:Bool)=>(Sum.inr t)))
def Nad (a:Int):Option (Int):=
 some (IntKind.wrap .i64 (a+1))
def Nkq (a:List Int) (b c d:Int):Option ((Int×Int)⊕Bool):=
 (Np1 a b c d).bind (Sum.elim (fun(t:Int)=>(Nad d).map (fun(u:Int)=>(Sum.inl (t,u)))) (fun e=>some ((fun(t:Bool)=>(Sum.inr t)) e)))
def Nb9 (a:List Int) (b c d:Int):Option ((Int×Int)⊕Bool⊕Int):=
 (N7j b c d).bind (Sum.elim (fun(t:Unit)=>(Nkq a b c d).map (Sum.elim (fun(t:Int×Int)=>(Sum.inl (t.1,t.2))) (fun(t:Bool)=>(Sum.inr (Sum.inl t))))) (fun e=>some ((fun(t:Int)=>(Sum.inr (Sum.inr t))) e)))
def Nn1 (a:List Int) (b:Int):Option (Bool⊕Int):=
 nloop (fun(s:Int×Int)=>((Nb9 a b s.1 s.2).map (Sum.elim (fun(t:Int×Int)=>Sum.inl (t.1,t.2)) (Sum.elim (fun(t:Bool)=>Sum.inr (Sum.inl t)) (fun(t:Int)=>Sum.inr (Sum.inr t)))):Option ((Int×Int)⊕(Bool⊕Int)))) LL (0,0)
def Njy (a:List Int) (b:Int):Option (Int⊕Bool):=
 (Nn1 a b).map (Sum.elim (fun(t:Bool)=>(Sum.inr t)) (fun(t:Int)=>(Sum.inl t)))
def Nkl (a:List Int) (b:Int):Option (Int⊕Bool):=
 (N9z).bind (fun(t:Unit)=>Njy a b)
def Nbu (a:Int):Option (Bool):=
 some (a==1)
def Nm7 (a:List Int) (b:Int):Option (Bool):=
 (Nkl a b).bind (Sum.elim (fun(t:Int)=>Nbu t) (fun e=>some ((fun(t:Bool)=>t) e)))
def Noc (a:List Int):Option (Bool):=
 (Nan a).bind (Sum.elim (fun(t:Int)=>Nm7 a t) (fun e=>some ((fun(t:Bool)=>t) e)))
@[irreducible] def N7 (a:List Int):Option (Bool):=
 Noc a
def N91:Option (Unit):=
 some ()
def Nb1:Option (Unit):=
 some ()
def Ncd (a:List Int) (b:Int):Option (Unit⊕Unit):=
 cond (decide (b<(((List.length a:Nat):Int)))) (some (Sum.inl ())) (some (Sum.inr ()))
def Ncj (a:List Int) (b c:Int):Option (Unit⊕Bool):=
 (idx a c).bind fun(d:Int)=>(N9 d 1 b).bind fun(g:Bool)=>cond (!g) (some (Sum.inr false)) (some (Sum.inl ()))
def N6c (a:List Int) (b c:Int):Option (Int⊕Bool⊕Unit):=
 cond (decide (c<b)) ((idx a c).bind fun(d:Int)=>(idx a b).bind fun(g:Int)=>cond (d==g) (some (Sum.inr (Sum.inl false))) (some (Sum.inl (IntKind.wrap .i64 (c+1))))) (some (Sum.inr (Sum.inr ())))
def Nej (a:List Int) (b:Int):Option (Bool⊕Unit):=
 nloop (fun(s:Int)=>((N6c a b s).map (Sum.elim (fun(t:Int)=>Sum.inl t) (Sum.elim (fun(t:Bool)=>Sum.inr (Sum.inl t)) (fun(t:Unit)=>Sum.inr (Sum.inr t)))):Option ((Int)⊕(Bool⊕Unit)))) LL 0
def Njj (a:List Int) (b:Int):Option (Unit⊕Bool):=
 (Nej a b).map (Sum.elim (fun(t:Bool)=>(Sum.inr t)) (fun(t:Unit)=>(Sum.inl ())))
def Njc (a:List Int) (b c:Int):Option (Unit⊕Bool):=
 (Ncj a b c).bind (Sum.elim (fun(t:Unit)=>Njj a c) (fun e=>some ((fun(t:Bool)=>(Sum.inr t)) e)))
def Nli (a:List Int) (b c:Int):Option (Unit⊕Bool):=
 (Njc a b c).map (Sum.elim (fun(t:Unit)=>(Sum.inl ())) (fun(t:Bool)=>(Sum.inr t)))
def Nc9 (a:Int):Option (Int):=
 some (IntKind.wrap .i64 (a+1))
def Nor (a:List Int) (b c:Int):Option (Int⊕Bool):=
 (Nli a b c).bind (Sum.elim (fun(t:Unit)=>(Nc9 c).map (fun(t:Int)=>(Sum.inl t))) (fun e=>some ((fun(t:Bool)=>(Sum.inr t)) e)))
def Nf9 (a:List Int) (b c:Int):Option (Int⊕Bool⊕Unit):=
 (Ncd a c).bind (Sum.elim (fun(t:Unit)=>(Nor a b c).map (Sum.elim (fun(t:Int)=>(Sum.inl t)) (fun(t:Bool)=>(Sum.inr (Sum.inl t))))) (fun e=>some ((fun(t:Unit)=>(Sum.inr (Sum.inr t))) e)))
def Nk9 (a:List Int) (b:Int):Option (Bool⊕Unit):=
 nloop (fun(s:Int)=>((Nf9 a b s).map (Sum.elim (fun(t:Int)=>Sum.inl t) (Sum.elim (fun(t:Bool)=>Sum.inr (Sum.inl t)) (fun(t:Unit)=>Sum.inr (Sum.inr t)))):Option ((Int)⊕(Bool⊕Unit)))) LL 0
def Nld (a:List Int) (b:Int):Option (Unit⊕Bool):=
 (Nk9 a b).map (Sum.elim (fun(t:Bool)=>(Sum.inr t)) (fun(t:Unit)=>(Sum.inl ())))
def Nl0 (a:List Int) (b:Int):Option (Unit⊕Bool):=
 (Nb1).bind (fun(t:Unit)=>Nld a b)
def Nc2 (a:List Int) (b:Int):Option (Bool):=
 (N9 b 1 8).bind fun(c:Bool)=>cond c (some ((((List.length a:Nat):Int))==b)) (some false)
def Nlf (a:List Int) (b:Int):Option (Bool):=
 (Nl0 a b).bind (Sum.elim (fun(t:Unit)=>Nc2 a b) (fun e=>some ((fun(t:Bool)=>t) e)))
def Nkc (a:List Int) (b:Int):Option (Bool):=
 (N91).bind (fun(t:Unit)=>Nlf a b)
@[irreducible] def N5l (a:List Int) (b:Int):Option (Bool):=
 Nkc a b
def Ncc (a b:List Int):Option (((List Int))⊕(Bool×(List Int))):=
 (N7 a).bind fun(c:Bool)=>cond (!c) (some (Sum.inr (false,([]:List Int)))) ((N5l b (((List.length a:Nat):Int))).bind fun(d:Bool)=>cond (!d) (some (Sum.inr (false,([]:List Int)))) ((mk (IntKind.wrap .i64 ((((List.length a:Nat):Int))+1)) (IntKind.wrap .i64 ((((List.length a:Nat):Int))+1))).bind fun(g:Nat)=>some (Sum.inl (List.replicate g (0:Int)))))
def N8t:Option (Unit):=
 some ()
def N4c (a:List Int) (b:Int) (c:List Int):Option ((Int×(List Int))⊕((List Int))):=
 cond (decide (b<(((List.length a:Nat):Int)))) ((idx a b).bind fun(d:Int)=>(inb d (List.length c)).bind fun(g:Nat)=>some (Sum.inl ((IntKind.wrap .i64 (b+1)),(c.set g (IntKind.wrap .i64 (b+1)))))) (some (Sum.inr c))
def Nkm (a b:List Int):Option (((List Int))):=
 nloop (fun(s:Int×(List Int))=>((N4c a s.1 s.2).map (Sum.elim (fun(t:Int×(List Int))=>Sum.inl (t.1,t.2)) (fun(t:(List Int))=>Sum.inr t)):Option ((Int×(List Int))⊕(((List Int)))))) LL (0,b)
def Nog (a b:List Int):Option (((List Int))):=
 (Nkm a b).map (fun(t:(List Int))=>t)
def Njf (a b:List Int):Option (((List Int))):=
 (N8t).bind (fun(t:Unit)=>Nog a b)
def Ncb:Option (Unit):=
 some ()
def Nap:Option (Unit):=
 some ()
def N76 (a b:List Int) (c:Int) (d g:List Int):Option ((Int×(List Int))⊕((List Int))):=
 cond (decide (c<(((List.length b:Nat):Int)))) ((idx b c).bind fun(i:Int)=>(idx a (IntKind.wrap .i64 (i-1))).bind fun(j:Int)=>(inb j (List.length d)).bind fun(k:Nat)=>(d[k]?).bind fun(l:Int)=>(room ((List.length g)+List.length ([l]))).bind fun(m:Unit)=>some (Sum.inl ((IntKind.wrap .i64 (c+1)),(g++([l]))))) (some (Sum.inr g))
def Now (a b c:List Int):Option (((List Int))):=
 nloop (fun(s:Int×(List Int))=>((N76 a b s.1 c s.2).map (Sum.elim (fun(t:Int×(List Int))=>Sum.inl (t.1,t.2)) (fun(t:(List Int))=>Sum.inr t)):Option ((Int×(List Int))⊕(((List Int)))))) LL (0,([]:List Int))
def Nkn (a b c:List Int):Option (((List Int))):=
 (Now a b c).map (fun(t:(List Int))=>t)
def Nni (a b c:List Int):Option (((List Int))):=
 (Nap).bind (fun(t:Unit)=>Nkn a b c)
def Ncp (a:List Int):Option ((Bool×(List Int))):=
 some (true,a)
def No6 (a b c:List Int):Option ((Bool×(List Int))):=
 (Nni a b c).bind (fun(t:(List Int))=>Ncp t)
def Nlp (a b c:List Int):Option ((Bool×(List Int))):=
 (Ncb).bind (fun(t:Unit)=>No6 a b c)
def Np3 (a b c:List Int):Option ((Bool×(List Int))):=
 (Njf b c).bind (fun(t:(List Int))=>Nlp a b t)
def Njv (a b:List Int):Option ((Bool×(List Int))):=
 (Ncc a b).bind (Sum.elim (fun(t:(List Int))=>Np3 a b t) (fun e=>some ((fun(t:Bool×(List Int))=>t) e)))
@[irreducible] def N42 (a b:List Int):Option (Bool×(List Int)):=
 Njv a b
def Nbg (R0:Int→Int→Int→(List Int)→Int→(List Int)→Option (Int×(List Int))) (a b c:Int) (d:List Int) (g:Int) (i:List Int):Option ((Int×Int×(List Int))⊕(Int×(List Int))):=
 cond (decide (a>b)) (some (Sum.inr (g,i))) ((N0 (IntKind.wrap .i64 ((IntKind.wrap .i64 (b-a))+1)) d g).bind fun(j:Int×Int)=>(inb (IntKind.wrap .i64 ((IntKind.wrap .i64 (a+(j.1)))-1)) (List.length i)).bind fun(k:Nat)=>some (Sum.inl ((IntKind.wrap .i64 (a+(j.1))),(j.2),(i.set k c))))
def N71 (R0:Int→Int→Int→(List Int)→Int→(List Int)→Option (Int×(List Int))) (a b:Int) (c:List Int) (d:Int) (g:List Int):Option ((Int×Int×(List Int))⊕(Int×(List Int))):=
 cond (decide (b<a)) ((N0 (IntKind.wrap .i64 (a-b)) c d).bind fun(i:Int×Int)=>(R0 b (IntKind.wrap .i64 (b+(i.1))) a c (i.2) g).bind fun(j:Int×(List Int))=>some (Sum.inl ((IntKind.wrap .i64 ((IntKind.wrap .i64 (b+(i.1)))+1)),(j.1),(j.2)))) (some (Sum.inr (d,g)))
def Nnn (R0:Int→Int→Int→(List Int)→Int→(List Int)→Option (Int×(List Int))) (a b:Int) (c:List Int) (d:Int) (g:List Int):Option ((Int×(List Int))):=
 nloop (fun(s:Int×Int×(List Int))=>((N71 R0 a s.1 c s.2.1 s.2.2).map (Sum.elim (fun(t:Int×Int×(List Int))=>Sum.inl (t.1,t.2.1,t.2.2)) (fun(t:Int×(List Int))=>Sum.inr t)):Option ((Int×Int×(List Int))⊕((Int×(List Int)))))) LL (b,d,g)
def Nlx (R0:Int→Int→Int→(List Int)→Int→(List Int)→Option (Int×(List Int))) (a b:Int) (c:List Int) (d:Int) (g:List Int):Option ((Int×(List Int))):=
 (Nnn R0 a b c d g).map (fun(t:Int×(List Int))=>(t.1,t.2))
def Naw (R0:Int→Int→Int→(List Int)→Int→(List Int)→Option (Int×(List Int))) (a:Int):Option (Int):=
 some (IntKind.wrap .i64 (a+1))
def N6i (R0:Int→Int→Int→(List Int)→Int→(List Int)→Option (Int×(List Int))) (a b c:Int) (d:List Int) (g:Int) (i:List Int):Option ((Int×Int×(List Int))⊕(Int×(List Int))):=
 cond (decide (c≤a)) ((N0 (IntKind.wrap .i64 ((IntKind.wrap .i64 (a-c))+1)) d g).bind fun(j:Int×Int)=>(R0 c (IntKind.wrap .i64 (c+(j.1))) b d (j.2) i).bind fun(k:Int×(List Int))=>some (Sum.inl ((IntKind.wrap .i64 ((IntKind.wrap .i64 (c+(j.1)))+1)),(k.1),(k.2)))) (some (Sum.inr (g,i)))
def No3 (R0:Int→Int→Int→(List Int)→Int→(List Int)→Option (Int×(List Int))) (a b c:Int) (d:List Int) (g:Int) (i:List Int):Option ((Int×(List Int))):=
 nloop (fun(s:Int×Int×(List Int))=>((N6i R0 a b s.1 d s.2.1 s.2.2).map (Sum.elim (fun(t:Int×Int×(List Int))=>Sum.inl (t.1,t.2.1,t.2.2)) (fun(t:Int×(List Int))=>Sum.inr t)):Option ((Int×Int×(List Int))⊕((Int×(List Int)))))) LL (c,g,i)
def Np6 (R0:Int→Int→Int→(List Int)→Int→(List Int)→Option (Int×(List Int))) (a b c:Int) (d:List Int) (g:Int) (i:List Int):Option ((Int×(List Int))):=
 (No3 R0 a b c d g i).map (fun(t:Int×(List Int))=>(t.1,t.2))
def Noy (R0:Int→Int→Int→(List Int)→Int→(List Int)→Option (Int×(List Int))) (a b:Int) (c:List Int) (d:Int) (g:List Int):Option ((Int×(List Int))):=
 (Naw R0 b).bind (fun(t:Int)=>Np6 R0 a b t c d g)
def Nkv (R0:Int→Int→Int→(List Int)→Int→(List Int)→Option (Int×(List Int))) (a b c:Int) (d:List Int) (g:Int) (i:List Int):Option ((Int×(List Int))):=
 (Nlx R0 b c d g i).bind (fun(t:Int×(List Int))=>Noy R0 a b d t.1 t.2)
def Nmz (R0:Int→Int→Int→(List Int)→Int→(List Int)→Option (Int×(List Int))) (a b c:Int) (d:List Int) (g:Int) (i:List Int):Option ((Int×(List Int))⊕(Int×(List Int))):=
 (Nbg R0 a b c d g i).bind (Sum.elim (fun(t:Int×Int×(List Int))=>(Nkv R0 b t.1 a d t.2.1 t.2.2).map (fun(u:Int×(List Int))=>(Sum.inl (u.1,u.2)))) (fun e=>some ((fun(t:Int×(List Int))=>(Sum.inr t)) e)))
def Nj4 (R0:Int→Int→Int→(List Int)→Int→(List Int)→Option (Int×(List Int))) (a b c:Int) (d:List Int) (g:Int) (i:List Int):Option (Int×(List Int)):=
 (Nmz R0 a b c d g i).map (Sum.elim (fun(t:Int×(List Int))=>(t.1,t.2)) (fun(t:Int×(List Int))=>t))
def N31:Nat→(Int→Int→Int→(List Int)→Int→(List Int)→Option (Int×(List Int)))
 |0=>(fun _ _ _ _ _ _=>none)
 |n+1=>(fun y0 y1 y2 y3 y4 y5=>Nj4 (N31 n) y0 y1 y2 y3 y4 y5)
def N1d (n:Nat):Int→Int→Int→(List Int)→Int→(List Int)→Option (Int×(List Int)):=(N31 n)
@[irreducible] def N7c (a b c:Int) (d:List Int) (g:Int) (i:List Int):Option (Int×(List Int)):=N1d RR a b c d g i
def N7o (a:Int) (b:List Int) (c:Int):Option ((Int×(List Int))):=
 (N0 3 b c).bind fun(d:Int×Int)=>cond ((d.1)==0) ((N3k a b (d.2)).bind fun(g:Int×(List Int))=>some ((g.1),(g.2))) ((N0 7 b (d.2)).bind fun(i:Int×Int)=>(mk (IntKind.wrap .i64 (1+(i.1))) (IntKind.wrap .i64 (1+(i.1)))).bind fun(j:Nat)=>(N7c 1 (IntKind.wrap .i64 (1+(i.1))) 0 b (i.2) (List.replicate j (0:Int))).bind fun(k:Int×(List Int))=>some ((k.1),(k.2)))
@[irreducible] def N2c (a:Int) (b:List Int) (c:Int):Option (Int×(List Int)):=
 N7o a b c
def N7b (a:Int) (b:List Int) (c:Int):Option ((Int×(List Int))):=
 (N3k a b c).bind fun(d:Int×(List Int))=>(N0 2 b (d.1)).bind fun(g:Int×Int)=>cond ((g.1)==0) ((N7 (d.2)).bind fun(i:Bool)=>cond i ((N3h (((List.length (d.2):Nat):Int)) b (g.2)).bind fun(j:Int×(List Int))=>(N42 (d.2) (j.2)).bind fun(k:Bool×(List Int))=>some ((j.1),(k.2))) ((N0 3 b (g.2)).bind fun(l:Int×Int)=>cond ((l.1)==0) ((N2c a b (l.2)).bind fun(m:Int×(List Int))=>some ((m.1),(m.2))) (some ((l.2),(d.2))))) ((N0 3 b (g.2)).bind fun(o:Int×Int)=>cond ((o.1)==0) ((N2c a b (o.2)).bind fun(p:Int×(List Int))=>some ((p.1),(p.2))) (some ((o.2),(d.2))))
@[irreducible] def N2h (a:Int) (b:List Int) (c:Int):Option (Int×(List Int)):=
 N7b a b c
def N7l (a b:List Int) (c:Int):Option ((Int×Int×Int×Int)):=
 (N0 8 b c).bind fun(d:Int×Int)=>(idx ([0,0,1,1,2,3,4,5]) (d.1)).bind fun(g:Int)=>(N0 60 b (d.2)).bind fun(i:Int×Int)=>(quo .i64 (i.1) 59).bind fun(j:Int)=>cond ((IntKind.wrap .i64 (g+(IntKind.wrap .i64 (j*6))))==0) ((N0 (imax (((List.length a:Nat):Int)) 1) b (i.2)).bind fun(k:Int×Int)=>(N0 (IntKind.wrap .i64 ((((List.length a:Nat):Int))+1)) b (k.2)).bind fun(l:Int×Int)=>(Np 40 b (l.2)).bind fun(m:Bool×Int)=>cond (m.1) ((N0 3 b (m.2)).bind fun(o:Int×Int)=>(inb (o.1) (List.length ([(-1),9,100]))).bind fun(p:Nat)=>(([(-1),9,100])[p]?).bind fun(q:Int)=>some ((o.2),(IntKind.wrap .i64 (g+(IntKind.wrap .i64 (j*6)))),(IntKind.wrap .i64 (1+(k.1))),q)) (some ((m.2),(IntKind.wrap .i64 (g+(IntKind.wrap .i64 (j*6)))),(IntKind.wrap .i64 (1+(k.1))),(l.1)))) (cond ((IntKind.wrap .i64 (g+(IntKind.wrap .i64 (j*6))))==1) ((N0 (IntKind.wrap .i64 ((((List.length a:Nat):Int))+1)) b (i.2)).bind fun(w:Int×Int)=>(N0 9 b (w.2)).bind fun(y:Int×Int)=>(quo .i64 (y.1) 8).bind fun(z:Int)=>(Np 40 b (y.2)).bind fun(a0:Bool×Int)=>cond (a0.1) ((N0 3 b (a0.2)).bind fun(a1:Int×Int)=>(inb (a1.1) (List.length ([(-1),9,100]))).bind fun(a2:Nat)=>(([(-1),9,100])[a2]?).bind fun(a3:Int)=>some ((a1.2),(IntKind.wrap .i64 (g+(IntKind.wrap .i64 (j*6)))),(IntKind.wrap .i64 ((w.1)+z)),a3)) (some ((a0.2),(IntKind.wrap .i64 (g+(IntKind.wrap .i64 (j*6)))),(IntKind.wrap .i64 ((w.1)+z)),0))) ((Np 40 b (i.2)).bind fun(a4:Bool×Int)=>cond (a4.1) ((N0 3 b (a4.2)).bind fun(a5:Int×Int)=>(inb (a5.1) (List.length ([(-1),9,100]))).bind fun(a6:Nat)=>(([(-1),9,100])[a6]?).bind fun(a7:Int)=>some ((a5.2),(IntKind.wrap .i64 (g+(IntKind.wrap .i64 (j*6)))),0,a7)) (some ((a4.2),(IntKind.wrap .i64 (g+(IntKind.wrap .i64 (j*6)))),0,0))))
@[irreducible] def N1j (a b:List Int) (c:Int):Option (Int×Int×Int×Int):=
 N7l a b c
def Naz:Option (Unit):=
 some ()
def N92 (a:List Int) (b:Int):Option ((Int×Int)):=
 (N0 6 a b).bind fun(c:Int×Int)=>some ((c.1),(c.2))
def N6j (a:List Int) (b:Int) (c:List Int) (d:Int) (g:List (Int×Int×Int×Unit)):Option ((Int×Int×(List (Int×Int×Int×Unit)))⊕(Int×(List (Int×Int×Int×Unit)))):=
 cond (decide (b>0)) ((N1j a c d).bind fun(i:Int×Int×Int×Int)=>(room ((List.length g)+List.length ([((i.2.1),((i.2.2.1),((i.2.2.2),())))]))).bind fun(j:Unit)=>some (Sum.inl ((IntKind.wrap .i64 (b-1)),(i.1),(g++([((i.2.1),((i.2.2.1),((i.2.2.2),())))]))))) (some (Sum.inr (d,g)))
def Nlz (a:List Int) (b:Int) (c:List Int) (d:Int):Option ((Int×(List (Int×Int×Int×Unit)))):=
 nloop (fun(s:Int×Int×(List (Int×Int×Int×Unit)))=>((N6j a s.1 c s.2.1 s.2.2).map (Sum.elim (fun(t:Int×Int×(List (Int×Int×Int×Unit)))=>Sum.inl (t.1,t.2.1,t.2.2)) (fun(t:Int×(List (Int×Int×Int×Unit)))=>Sum.inr t)):Option ((Int×Int×(List (Int×Int×Int×Unit)))⊕((Int×(List (Int×Int×Int×Unit))))))) LL (b,d,([]:List (Int×Int×Int×Unit)))
def Nn9 (a:List Int) (b:Int) (c:List Int) (d:Int):Option ((Int×(List (Int×Int×Int×Unit)))):=
 (Nlz a b c d).map (fun(t:Int×(List (Int×Int×Int×Unit)))=>(t.1,t.2))
def Nk7 (a b:List Int) (c:Int):Option ((Int×(List (Int×Int×Int×Unit)))):=
 (N92 b c).bind (fun(t:Int×Int)=>Nn9 a t.1 b t.2)
def Neo (a:Int) (b:List (Int×Int×Int×Unit)):Option ((Int×(List (Int×Int×Int×Unit)))):=
 some (a,b)
def Njq (a b:List Int) (c:Int):Option ((Int×(List (Int×Int×Int×Unit)))):=
 (Nk7 a b c).bind (fun(t:Int×(List (Int×Int×Int×Unit)))=>Neo t.1 t.2)
def Ndp (a b:List Int) (c:Int):Option ((Int×(List (Int×Int×Int×Unit)))):=
 (Naz).bind (fun(t:Unit)=>Njq a b c)
@[irreducible] def N2g (a b:List Int) (c:Int):Option (Int×(List (Int×Int×Int×Unit))):=
 Ndp a b c
def Ngn (R0:Int→Option ByteArray) (a:Int):Option (ByteArray):=
 cond (decide (a<10)) (some (bytesOf ([(IntKind.wrap .u8 (IntKind.wrap .i64 (48+(imax a 0))))]))) ((quo .i64 a 10).bind fun(b:Int)=>(rem a 10).bind fun(c:Int)=>(R0 b).bind fun(d:ByteArray)=>(cat d (bytesOf ([(IntKind.wrap .u8 (IntKind.wrap .i64 (48+c)))]))).bind fun(g:ByteArray)=>some g)
def Nqq (R0:Int→Option ByteArray) (a:Int):Option (ByteArray):=
 Ngn R0 a
def Nep:Nat→(Int→Option ByteArray)
 |0=>(fun _=>none)
 |n+1=>(fun y0=>Nqq (Nep n) y0)
def N74 (n:Nat):Int→Option ByteArray:=(Nep n)
@[irreducible] def Nx (a:Int):Option (ByteArray):=N74 RR a
def N86:Option (Unit):=
 some ()
def Nb3 (a b c:Int):Option (Bool):=
 cond (a==0) ((N9 b 0 99).bind fun(d:Bool)=>cond d ((N9 c 0 99).bind fun(g:Bool)=>some g) (some false)) (some false)
def Nc0 (a b:Int):Option (ByteArray):=
 (Nx a).bind fun(c:ByteArray)=>(cat (ByteArray.mk #[104,101,97,100,32]) c).bind fun(d:ByteArray)=>(cat d (ByteArray.mk #[32])).bind fun(g:ByteArray)=>(Nx b).bind fun(i:ByteArray)=>(cat g i).bind fun(j:ByteArray)=>some j
def Nc7 (a b c:Int):Option (Bool):=
 cond (a==1) ((N9 b 0 99).bind fun(d:Bool)=>cond d (some (c==0)) (some false)) (some false)
def N77 (a:Bool) (b c d:Int):Option (Unit⊕ByteArray):=
 cond a ((Nx c).bind fun(g:ByteArray)=>(cat (ByteArray.mk #[97,100,100,32]) g).bind fun(i:ByteArray)=>some (Sum.inr i)) (cond ((b==2)&&((c==0)&&((d==0)&&true))) (some (Sum.inr (ByteArray.mk #[100,114,111,112]))) (cond ((b==3)&&((c==0)&&((d==0)&&true))) (some (Sum.inr (ByteArray.mk #[116,117,114,110]))) (cond ((b==4)&&((c==0)&&((d==0)&&true))) (some (Sum.inr (ByteArray.mk #[102,108,97,116]))) (cond ((b==5)&&((c==0)&&((d==0)&&true))) (some (Sum.inr (ByteArray.mk #[98,97,99,107]))) (some (Sum.inl ()))))))
def Nja (a b c:Int):Option (Unit⊕ByteArray):=
 (Nc7 a b c).bind (fun(t:Bool)=>N77 t a b c)
def Nhi (a:Bool) (b c d:Int):Option (Unit⊕ByteArray):=
 cond a ((Nc0 c d).map (fun(t:ByteArray)=>(Sum.inr t))) (Nja b c d)
def Nl8 (a b c:Int):Option (Unit⊕ByteArray):=
 (Nb3 a b c).bind (fun(t:Bool)=>Nhi t a b c)
def Nj9 (a b c:Int):Option (Unit⊕ByteArray):=
 (Nl8 a b c).map (Sum.elim (fun(t:Unit)=>(Sum.inl ())) (fun(t:ByteArray)=>(Sum.inr t)))
def Nd0:Option (ByteArray):=
 some ByteArray.empty
def Nnx (a b c:Int):Option (ByteArray):=
 (Nj9 a b c).bind (Sum.elim (fun(t:Unit)=>Nd0) (fun e=>some ((fun(t:ByteArray)=>t) e)))
def Nhq (a b c:Int):Option (ByteArray):=
 (N86).bind (fun(t:Unit)=>Nnx a b c)
@[irreducible] def Nh (a b c:Int):Option (ByteArray):=
 Nhq a b c
def Nag (a:List Int) (b:Int):Option ((Int×(List (Int×Int×Int×Unit)))):=
 (N2h 0 a b).bind fun(c:Int×(List Int))=>(N2g (c.2) a (c.1)).bind fun(d:Int×(List (Int×Int×Int×Unit)))=>some ((d.1),(d.2))
def Nac:Option (Unit):=
 some ()
def N6w (a:Int) (b c:List (Int×Int×Int×Unit)):Option ((Int×(List (Int×Int×Int×Unit)))⊕((List (Int×Int×Int×Unit)))):=
 cond (decide (a<(((List.length c:Nat):Int)))) ((inb a (List.length c)).bind fun(d:Nat)=>(c[d]?).bind fun(g:Int×Int×Int×Unit)=>(Nh (g.1) ((g.2).1) (((g.2).2).1)).bind fun(i:ByteArray)=>cond (!(seqs i ByteArray.empty)) ((inb a (List.length c)).bind fun(j:Nat)=>(c[j]?).bind fun(k:Int×Int×Int×Unit)=>(room ((List.length b)+List.length ([((k.1),(((k.2).1),((((k.2).2).1),())))]))).bind fun(l:Unit)=>some (Sum.inl ((IntKind.wrap .i64 (a+1)),(b++([((k.1),(((k.2).1),((((k.2).2).1),())))]))))) (some (Sum.inl ((IntKind.wrap .i64 (a+1)),b)))) (some (Sum.inr b))
def Nnc (a:List (Int×Int×Int×Unit)):Option (((List (Int×Int×Int×Unit)))):=
 nloop (fun(s:Int×(List (Int×Int×Int×Unit)))=>((N6w s.1 s.2 a).map (Sum.elim (fun(t:Int×(List (Int×Int×Int×Unit)))=>Sum.inl (t.1,t.2)) (fun(t:(List (Int×Int×Int×Unit)))=>Sum.inr t)):Option ((Int×(List (Int×Int×Int×Unit)))⊕(((List (Int×Int×Int×Unit))))))) LL (0,([]:List (Int×Int×Int×Unit)))
def Nmd (a:List (Int×Int×Int×Unit)):Option (((List (Int×Int×Int×Unit)))):=
 (Nnc a).map (fun(t:(List (Int×Int×Int×Unit)))=>t)
def Nkj (a:List (Int×Int×Int×Unit)):Option (((List (Int×Int×Int×Unit)))):=
 (Nac).bind (fun(t:Unit)=>Nmd a)
def Nen (a:Int) (b:List (Int×Int×Int×Unit)):Option ((Int×(List (Int×Int×Int×Unit)))):=
 some (a,b)
def Nm9 (a:Int) (b:List (Int×Int×Int×Unit)):Option ((Int×(List (Int×Int×Int×Unit)))):=
 (Nkj b).bind (fun(t:(List (Int×Int×Int×Unit)))=>Nen a t)
def Ndh (a:List Int) (b:Int):Option ((Int×(List (Int×Int×Int×Unit)))):=
 (Nag a b).bind (fun(t:Int×(List (Int×Int×Int×Unit)))=>Nm9 t.1 t.2)
@[irreducible] def N33 (a:List Int) (b:Int):Option (Int×(List (Int×Int×Int×Unit))):=
 Ndh a b
def Nak:Option (Unit):=
 some ()
def Nau:Option (Unit):=
 some ()
def N34 (a:List (Int×Int×Int×Unit)) (b:ByteArray) (c:Int):Option ((ByteArray×Int)⊕ByteArray⊕ByteArray):=
 cond (decide (c<(((List.length a:Nat):Int)))) ((idx a c).bind fun(d:Int×Int×Int×Unit)=>(Nh (d.1) ((d.2).1) (((d.2).2).1)).bind fun(g:ByteArray)=>cond (seqs g ByteArray.empty) (some (Sum.inr (Sum.inl ByteArray.empty))) ((idx a c).bind fun(i:Int×Int×Int×Unit)=>(Nh (i.1) ((i.2).1) (((i.2).2).1)).bind fun(j:ByteArray)=>(cat b j).bind fun(k:ByteArray)=>(cat k (ByteArray.mk #[10])).bind fun(l:ByteArray)=>some (Sum.inl (l,(IntKind.wrap .i64 (c+1)))))) (some (Sum.inr (Sum.inr b)))
def Np2 (a:List (Int×Int×Int×Unit)):Option (ByteArray⊕ByteArray):=
 nloop (fun(s:ByteArray×Int)=>((N34 a s.1 s.2).map (Sum.elim (fun(t:ByteArray×Int)=>Sum.inl (t.1,t.2)) (Sum.elim (fun(t:ByteArray)=>Sum.inr (Sum.inl t)) (fun(t:ByteArray)=>Sum.inr (Sum.inr t)))):Option ((ByteArray×Int)⊕(ByteArray⊕ByteArray)))) LL (ByteArray.empty,0)
def Nkg (a:List (Int×Int×Int×Unit)):Option (ByteArray⊕ByteArray):=
 (Np2 a).map (Sum.elim (fun(t:ByteArray)=>(Sum.inr t)) (fun(t:ByteArray)=>(Sum.inl t)))
def Nlc (a:List (Int×Int×Int×Unit)):Option (ByteArray⊕ByteArray):=
 (Nau).bind (fun(t:Unit)=>Nkg a)
def N9h (a:ByteArray):Option (ByteArray):=
 some a
def Njg (a:List (Int×Int×Int×Unit)):Option (ByteArray):=
 (Nlc a).bind (Sum.elim (fun(t:ByteArray)=>N9h t) (fun e=>some ((fun(t:ByteArray)=>t) e)))
def Nge (a:List (Int×Int×Int×Unit)):Option (ByteArray):=
 (Nak).bind (fun(t:Unit)=>Njg a)
@[irreducible] def N2w (a:List (Int×Int×Int×Unit)):Option (ByteArray):=
 Nge a
def N6a (a:ByteArray) (b:List Int) (c:Int):Option ((ByteArray×Int)):=
 cond ((((ByteArray.size a:Nat):Int))==0) (some ((ByteArray.mk #[10]),c)) ((N0 (((ByteArray.size a:Nat):Int)) b c).bind fun(d:Int×Int)=>(inc (d.1) (ByteArray.size a)).bind fun(g:Nat)=>(inc (IntKind.wrap .i64 ((d.1)+1)) (ByteArray.size a)).bind fun(i:Nat)=>(N0 6 b (d.2)).bind fun(j:Int×Int)=>(idx ([ByteArray.empty,(ByteArray.mk #[48]),(ByteArray.mk #[32]),(ByteArray.mk #[10]),(ByteArray.mk #[45]),(ByteArray.mk #[98,97,99,107])]) (j.1)).bind fun(k:ByteArray)=>(cat (a.extract 0 g) k).bind fun(l:ByteArray)=>(cat l (a.extract i (ByteArray.size a))).bind fun(m:ByteArray)=>some (m,(j.2)))
@[irreducible] def N3j (a:ByteArray) (b:List Int) (c:Int):Option (ByteArray×Int):=
 N6a a b c
def N9f (a:List Int):Option (ByteArray):=
 (N3x a).bind fun(b:List Int)=>(N33 b 0).bind fun(c:Int×(List (Int×Int×Int×Unit)))=>(N2w (c.2)).bind fun(d:ByteArray)=>(N0 3 b (c.1)).bind fun(g:Int×Int)=>cond ((g.1)==0) ((N3j d b (g.2)).bind fun(i:ByteArray×Int)=>some (i.1)) (cond ((g.1)==1) ((N0 (IntKind.wrap .i64 ((((ByteArray.size d:Nat):Int))+1)) b (g.2)).bind fun(j:Int×Int)=>(inc (j.1) (ByteArray.size d)).bind fun(k:Nat)=>some (d.extract 0 k)) (some d))
@[irreducible] def N4w (a:List Int):Option (ByteArray):=
 N9f a
def N6g (x1 x2:ByteArray):Option (Int):=sidx x1 x2
def N3q (a b:ByteArray):Option ((ByteArray×ByteArray×Bool)):=
 (N6g a b).bind fun(c:Int)=>cond (decide (c≥0)) ((inc c (ByteArray.size a)).bind fun(d:Nat)=>(inc (IntKind.wrap .i64 (c+(((ByteArray.size b:Nat):Int)))) (ByteArray.size a)).bind fun(g:Nat)=>some ((a.extract 0 d),(a.extract g (ByteArray.size a)),true)) (some (a,ByteArray.empty,false))
@[irreducible] def N2d (a b:ByteArray):Option (ByteArray×ByteArray×Bool):=
 N3q a b
def N40 (a b:ByteArray):Option ((ByteArray×ByteArray×Bool)):=
 (N2d a b).bind fun(c:ByteArray×ByteArray×Bool)=>some ((c.1),(c.2.1),(c.2.2))
@[irreducible] def N18 (a b:ByteArray):Option (ByteArray×ByteArray×Bool):=
 N40 a b
def N8j (a b:ByteArray):Option (Int):=
 (N6g a b).bind fun(c:Int)=>some c
@[irreducible] def N56 (a b:ByteArray):Option (Int):=
 N8j a b
def N7u (a b:ByteArray) (c:Int):Option ((Int×(List ByteArray))⊕(Nat×(List ByteArray))):=
 cond (c==0) (some (Sum.inr ((List.length ([]:List ByteArray)),([]:List ByteArray)))) (cond (seqs b ByteArray.empty) (none) (cond (decide (c<0)) (none) ((mk (imin c (IntKind.wrap .i64 ((((ByteArray.size a:Nat):Int))+1))) (imin c (IntKind.wrap .i64 ((((ByteArray.size a:Nat):Int))+1)))).bind fun(d:Nat)=>some (Sum.inl ((IntKind.wrap .i64 ((imin c (IntKind.wrap .i64 ((((ByteArray.size a:Nat):Int))+1)))-1)),(List.replicate d ByteArray.empty))))))
def N41 (a b:ByteArray) (c d g:Int) (i:List ByteArray):Option ((ByteArray×Int×(List ByteArray))⊕(ByteArray×Int×(List ByteArray))):=
 cond (decide (g<d)) ((N56 a b).bind fun(j:Int)=>cond (decide (j<0)) (some (Sum.inr (a,g,i))) ((inc (IntKind.wrap .i64 (j+c)) (ByteArray.size a)).bind fun(k:Nat)=>(inb g (List.length i)).bind fun(l:Nat)=>(inc (IntKind.wrap .i64 (j+(((ByteArray.size b:Nat):Int)))) (ByteArray.size a)).bind fun(m:Nat)=>some (Sum.inl ((a.extract m (ByteArray.size a)),(IntKind.wrap .i64 (g+1)),(i.set l (a.extract 0 k)))))) (some (Sum.inr (a,g,i)))
def Nlg (a b:ByteArray) (c d:Int) (g:List ByteArray):Option ((ByteArray×Int×(List ByteArray))):=
 nloop (fun(s:ByteArray×Int×(List ByteArray))=>((N41 s.1 b c d s.2.1 s.2.2).map (Sum.elim (fun(t:ByteArray×Int×(List ByteArray))=>Sum.inl (t.1,t.2.1,t.2.2)) (fun(t:ByteArray×Int×(List ByteArray))=>Sum.inr t)):Option ((ByteArray×Int×(List ByteArray))⊕((ByteArray×Int×(List ByteArray)))))) LL (a,0,g)
def Nlv (a b:ByteArray) (c d:Int) (g:List ByteArray):Option ((ByteArray×Int×(List ByteArray))):=
 (Nlg a b c d g).map (fun(t:ByteArray×Int×(List ByteArray))=>(t.1,t.2.1,t.2.2))
def N6u (a:ByteArray) (b:Int) (c:List ByteArray):Option ((Nat×(List ByteArray))):=
 (inb b (List.length c)).bind fun(d:Nat)=>(inc (IntKind.wrap .i64 (b+1)) (List.length (c.set d a))).bind fun(g:Nat)=>some ((g-0),(c.set d a))
def Nn5 (a b:ByteArray) (c d:Int) (g:List ByteArray):Option ((Nat×(List ByteArray))):=
 (Nlv a b c d g).bind (fun(t:ByteArray×Int×(List ByteArray))=>N6u t.1 t.2.1 t.2.2)
def Ndd (a b:ByteArray) (c d:Int):Option ((Nat×(List ByteArray))):=
 (N7u a b d).bind (Sum.elim (fun(t:Int×(List ByteArray))=>Nn5 a b c t.1 t.2) (fun e=>some ((fun(t:Nat×(List ByteArray))=>t) e)))
@[irreducible] def N5o (a b:ByteArray) (c d:Int):Option (Nat×(List ByteArray)):=
 Ndd a b c d
def N7f (a b:ByteArray) (c:Int):Option ((Nat×(List ByteArray))):=
 (N5o a b 0 c).bind fun(d:Nat×(List ByteArray))=>some ((d.1),(d.2))
@[irreducible] def N3m (a b:ByteArray) (c:Int):Option (Nat×(List ByteArray)):=
 N7f a b c
def N99:Option (Unit):=
 some ()
def Nbn:Option ((ByteArray×ByteArray×ByteArray×ByteArray×ByteArray×ByteArray)):=
 (same (List.length tabW) 6).bind fun(a:Unit)=>some ((tabW.getD 0 ByteArray.empty),(tabW.getD 1 ByteArray.empty),(tabW.getD 2 ByteArray.empty),(tabW.getD 3 ByteArray.empty),(tabW.getD 4 ByteArray.empty),(tabW.getD 5 ByteArray.empty))
def N70 (a b c d g i j:ByteArray) (k:Int):Option (Int⊕Int⊕Unit):=
 cond (decide (k<6)) ((idx [b,c,d,g,i,j] k).bind fun(l:ByteArray)=>cond (seqs l a) (some (Sum.inr (Sum.inl k))) (some (Sum.inl (IntKind.wrap .i64 (k+1))))) (some (Sum.inr (Sum.inr ())))
def Nk1 (a b c d g i j:ByteArray):Option (Int⊕Unit):=
 nloop (fun(s:Int)=>((N70 a b c d g i j s).map (Sum.elim (fun(t:Int)=>Sum.inl t) (Sum.elim (fun(t:Int)=>Sum.inr (Sum.inl t)) (fun(t:Unit)=>Sum.inr (Sum.inr t)))):Option ((Int)⊕(Int⊕Unit)))) LL 0
def Nna (a b c d g i j:ByteArray):Option (Unit⊕Int):=
 (Nk1 a b c d g i j).map (Sum.elim (fun(t:Int)=>(Sum.inr t)) (fun(t:Unit)=>(Sum.inl ())))
def Nnm (a:ByteArray):Option (Unit⊕Int):=
 (Nbn).bind (fun(t:ByteArray×ByteArray×ByteArray×ByteArray×ByteArray×ByteArray)=>Nna a t.1 t.2.1 t.2.2.1 t.2.2.2.1 t.2.2.2.2.1 t.2.2.2.2.2)
def Nax:Option (Int):=
 some (-1)
def Nm8 (a:ByteArray):Option (Int):=
 (Nnm a).bind (Sum.elim (fun(t:Unit)=>Nax) (fun e=>some ((fun(t:Int)=>t) e)))
def Ncs (a:ByteArray):Option (Int):=
 (N99).bind (fun(t:Unit)=>Nm8 a)
@[irreducible] def Nj (a:ByteArray):Option (Int):=
 Ncs a
def N7p (x1:ByteArray):Option (Int×Bool):=atoiS x1
def N6p (a:Int):Option (Int):=
 cond (a==0) (some 2) (cond (a==1) (some 1) (some 0))
@[irreducible] def Nl (a:Int):Option (Int):=
 N6p a
def N84 (a b c:Int):Option (Bool):=
 (Nl a).bind fun(d:Int)=>cond (decide (d>0)) (cond (decide (d>1)) (some true) (some (c==0))) (cond (b==0) (cond (decide (d>1)) (some true) (some (c==0))) (some false))
@[irreducible] def N2v (a b c:Int):Option (Bool):=
 N84 a b c
def Na3 (a b c:Int):Option (Bool):=
 cond (decide (a≥0)) (cond (decide (a<6)) ((N2v a b c).bind fun(d:Bool)=>cond d (cond (decide (b≥0)) (cond (decide (b≤99)) (cond (decide (c≥0)) (some (decide (c≤99))) (some false)) (some false)) (some false)) (some false)) (some false)) (some false)
@[irreducible] def N49 (a b c:Int):Option (Bool):=
 Na3 a b c
def Nng (x1:Int):Option (ByteArray):=itoaS x1
def Nb2 (a b c:Int):Option (ByteArray⊕ByteArray):=
 (N49 a b c).bind fun(d:Bool)=>cond (!d) (some (Sum.inr ByteArray.empty)) ((same (List.length tabW) 6).bind fun(g:Unit)=>(idx tabW a).bind fun(i:ByteArray)=>some (Sum.inl i))
def N4h (a b c:Int):Option (((List Int)×Int)):=
 (Nl a).bind fun(d:Int)=>(inc d (List.length ([b,c]))).bind fun(g:Nat)=>some (((([b,c]).take g).drop 0),(((List.length ((([b,c]).take g).drop 0):Nat):Int)))
def N5h (a:ByteArray) (b:List Int) (c d:Int):Option ((ByteArray×Int)⊕ByteArray):=
 cond (decide (d<c)) ((idx b d).bind fun(g:Int)=>(Nng g).bind fun(i:ByteArray)=>(cat (ByteArray.mk #[32]) i).bind fun(j:ByteArray)=>(cat a j).bind fun(k:ByteArray)=>some (Sum.inl (k,(IntKind.wrap .i64 (d+1))))) (some (Sum.inr a))
def Nav (a:ByteArray) (b:List Int) (c:Int):Option (ByteArray):=
 nloop (fun(s:ByteArray×Int)=>((N5h s.1 b c s.2).map (Sum.elim (fun(t:ByteArray×Int)=>Sum.inl (t.1,t.2)) (fun(t:ByteArray)=>Sum.inr t)):Option ((ByteArray×Int)⊕(ByteArray)))) LL (a,0)
def N85 (a:ByteArray) (b:List Int) (c:Int):Option (ByteArray):=
 (Nav a b c).map (fun(t:ByteArray)=>t)
def Na0 (a:ByteArray) (b c d:Int):Option (ByteArray):=
 (N4h b c d).bind (fun(t:(List Int)×Int)=>N85 a t.1 t.2)
def N4u (a:ByteArray):Option (ByteArray):=
 some a
def N8d (a:ByteArray) (b c d:Int):Option (ByteArray):=
 (Na0 a b c d).bind (fun(t:ByteArray)=>N4u t)
def Ndc (a b c:Int):Option (ByteArray):=
 (Nb2 a b c).bind (Sum.elim (fun(t:ByteArray)=>N8d t a b c) (fun e=>some ((fun(t:ByteArray)=>t) e)))
@[irreducible] def N3 (a b c:Int):Option (ByteArray):=
 Ndc a b c
def N7i (a:ByteArray):Option ((Bool×Int×Int×Int)):=
 (N3m a (ByteArray.mk #[32]) 3).bind fun(b:Nat×(List ByteArray))=>(inb 0 (b.1)).bind fun(c:Nat)=>((b.2)[(0+c)]?).bind fun(d:ByteArray)=>(Nj d).bind fun(g:Int)=>cond (decide (((((b.1):Nat):Int))>1)) ((inb 1 (b.1)).bind fun(i:Nat)=>((b.2)[(0+i)]?).bind fun(j:ByteArray)=>(N7p j).bind fun(k:Int×Bool)=>cond (decide (((((b.1):Nat):Int))>2)) ((inb 2 (b.1)).bind fun(l:Nat)=>((b.2)[(0+l)]?).bind fun(m:ByteArray)=>(N7p m).bind fun(o:Int×Bool)=>cond (seqs a ByteArray.empty) (some (false,0,0,0)) ((N3 g (k.1) (o.1)).bind fun(p:ByteArray)=>cond (!(seqs p a)) (some (false,0,0,0)) (some (true,g,(k.1),(o.1))))) (cond (seqs a ByteArray.empty) (some (false,0,0,0)) ((N3 g (k.1) 0).bind fun(q:ByteArray)=>cond (!(seqs q a)) (some (false,0,0,0)) (some (true,g,(k.1),0))))) (cond (decide (((((b.1):Nat):Int))>2)) ((inb 2 (b.1)).bind fun(w:Nat)=>((b.2)[(0+w)]?).bind fun(y:ByteArray)=>(N7p y).bind fun(z:Int×Bool)=>cond (seqs a ByteArray.empty) (some (false,0,0,0)) ((N3 g 0 (z.1)).bind fun(a0:ByteArray)=>cond (!(seqs a0 a)) (some (false,0,0,0)) (some (true,g,0,(z.1))))) (cond (seqs a ByteArray.empty) (some (false,0,0,0)) ((N3 g 0 0).bind fun(a1:ByteArray)=>cond (!(seqs a1 a)) (some (false,0,0,0)) (some (true,g,0,0)))))
@[irreducible] def N25 (a:ByteArray):Option (Bool×Int×Int×Int):=
 N7i a
def Nab:Option (Unit):=
 some ()
def N38 (a:ByteArray) (b:Int) (c:List (Int×Int×Int×Unit)):Option ((Int×(List (Int×Int×Int×Unit)))⊕(Int×(List (Int×Int×Int×Unit)))):=
 (inc b (ByteArray.size a)).bind fun(d:Nat)=>(N18 (a.extract d (ByteArray.size a)) (ByteArray.mk #[10])).bind fun(g:ByteArray×ByteArray×Bool)=>(N25 (g.1)).bind fun(i:Bool×Int×Int×Int)=>cond (!(g.2.2)) (some (Sum.inr (b,c))) (cond (!(i.1)) (some (Sum.inr (b,c))) ((room ((List.length c)+List.length ([((i.2.1),((i.2.2.1),((i.2.2.2),())))]))).bind fun(j:Unit)=>some (Sum.inl ((IntKind.wrap .i64 (b+(IntKind.wrap .i64 ((((ByteArray.size (g.1):Nat):Int))+1)))),(c++([((i.2.1),((i.2.2.1),((i.2.2.2),())))]))))))
def Nj2 (a:ByteArray):Option ((Int×(List (Int×Int×Int×Unit)))):=
 nloop (fun(s:Int×(List (Int×Int×Int×Unit)))=>((N38 a s.1 s.2).map (Sum.elim (fun(t:Int×(List (Int×Int×Int×Unit)))=>Sum.inl (t.1,t.2)) (fun(t:Int×(List (Int×Int×Int×Unit)))=>Sum.inr t)):Option ((Int×(List (Int×Int×Int×Unit)))⊕((Int×(List (Int×Int×Int×Unit))))))) LL (0,([]:List (Int×Int×Int×Unit)))
def Noo (a:ByteArray):Option ((Int×(List (Int×Int×Int×Unit)))):=
 (Nj2 a).map (fun(t:Int×(List (Int×Int×Int×Unit)))=>t)
def Nd2 (a:ByteArray):Option ((Int×(List (Int×Int×Int×Unit)))):=
 (Nab).bind (fun(t:Unit)=>Noo a)
@[irreducible] def N1l (a:ByteArray):Option (Int×(List (Int×Int×Int×Unit))):=
 Nd2 a
def N80:Option (Unit):=
 some ()
def Nck:Option (Unit):=
 some ()
def N3y (a:ByteArray) (b c d:Int) (g:List ByteArray):Option ((Int×Int×(List ByteArray))⊕(Int×(List ByteArray))):=
 cond (decide (d<(((ByteArray.size a:Nat):Int)))) ((bidx a d).bind fun(i:Int)=>cond (i==b) ((inc d (ByteArray.size a)).bind fun(j:Nat)=>(inc c j).bind fun(k:Nat)=>(room ((List.length g)+List.length ([(a.extract k j)]))).bind fun(l:Unit)=>some (Sum.inl ((IntKind.wrap .i64 (d+1)),(IntKind.wrap .i64 (d+1)),(g++([(a.extract k j)]))))) (some (Sum.inl (c,(IntKind.wrap .i64 (d+1)),g)))) (some (Sum.inr (c,g)))
def Nmg (a:ByteArray) (b:Int):Option ((Int×(List ByteArray))):=
 nloop (fun(s:Int×Int×(List ByteArray))=>((N3y a b s.1 s.2.1 s.2.2).map (Sum.elim (fun(t:Int×Int×(List ByteArray))=>Sum.inl (t.1,t.2.1,t.2.2)) (fun(t:Int×(List ByteArray))=>Sum.inr t)):Option ((Int×Int×(List ByteArray))⊕((Int×(List ByteArray)))))) LL (0,0,([]:List ByteArray))
def Nk3 (a:ByteArray) (b:Int):Option ((Int×(List ByteArray))):=
 (Nmg a b).map (fun(t:Int×(List ByteArray))=>(t.1,t.2))
def Nk5 (a:ByteArray) (b:Int):Option ((Int×(List ByteArray))):=
 (Nck).bind (fun(t:Unit)=>Nk3 a b)
def Nbz (a:ByteArray) (b:Int) (c:List ByteArray):Option (((List ByteArray))):=
 (inc b (ByteArray.size a)).bind fun(d:Nat)=>(room ((List.length c)+List.length ([(a.extract d (ByteArray.size a))]))).bind fun(g:Unit)=>some (c++([(a.extract d (ByteArray.size a))]))
def Nj3 (a:ByteArray) (b:Int):Option (((List ByteArray))):=
 (Nk5 a b).bind (fun(t:Int×(List ByteArray))=>Nbz a t.1 t.2)
def Ng9 (a:ByteArray) (b:Int):Option (((List ByteArray))):=
 (N80).bind (fun(t:Unit)=>Nj3 a b)
@[irreducible] def N3t (a:ByteArray) (b:Int):Option ((List ByteArray)):=
 Ng9 a b
def N8o (a:ByteArray):Option (Unit⊕Int):=
 (N9 (((ByteArray.size a:Nat):Int)) 1 6).bind fun(b:Bool)=>cond (!b) (some (Sum.inr (-1))) (cond (decide ((((ByteArray.size a:Nat):Int))>1)) ((bidx a 0).bind fun(c:Int)=>cond (c==48) (some (Sum.inr (-1))) (some (Sum.inl ()))) (some (Sum.inl ())))
def Nb4:Option (Unit):=
 some ()
def N5q (a:ByteArray) (b c:Int):Option ((Int×Int)⊕Int⊕Int):=
 cond (decide (c<(((ByteArray.size a:Nat):Int)))) ((bidx a c).bind fun(d:Int)=>cond (decide (d<48)) (some (Sum.inr (Sum.inl (-1)))) ((bidx a c).bind fun(g:Int)=>cond (decide (g>57)) (some (Sum.inr (Sum.inl (-1)))) ((bidx a c).bind fun(i:Int)=>some (Sum.inl ((IntKind.wrap .i64 ((IntKind.wrap .i64 (10*b))+(IntKind.wrap .i64 (IntKind.wrap .u8 (i-48))))),(IntKind.wrap .i64 (c+1))))))) (some (Sum.inr (Sum.inr b)))
def No8 (a:ByteArray):Option (Int⊕Int):=
 nloop (fun(s:Int×Int)=>((N5q a s.1 s.2).map (Sum.elim (fun(t:Int×Int)=>Sum.inl (t.1,t.2)) (Sum.elim (fun(t:Int)=>Sum.inr (Sum.inl t)) (fun(t:Int)=>Sum.inr (Sum.inr t)))):Option ((Int×Int)⊕(Int⊕Int)))) LL (0,0)
def Nlw (a:ByteArray):Option (Int⊕Int):=
 (No8 a).map (Sum.elim (fun(t:Int)=>(Sum.inr t)) (fun(t:Int)=>(Sum.inl t)))
def Npe (a:ByteArray):Option (Int⊕Int):=
 (Nb4).bind (fun(t:Unit)=>Nlw a)
def N97 (a:Int):Option (Int):=
 some a
def Nhk (a:ByteArray):Option (Int):=
 (Npe a).bind (Sum.elim (fun(t:Int)=>N97 t) (fun e=>some ((fun(t:Int)=>t) e)))
def Ng8 (a:ByteArray):Option (Int):=
 (N8o a).bind (Sum.elim (fun(t:Unit)=>Nhk a) (fun e=>some ((fun(t:Int)=>t) e)))
@[irreducible] def N14 (a:ByteArray):Option (Int):=
 Ng8 a
def N8k (a:ByteArray):Option (((List ByteArray)×(List (Int×Int×Int×Unit)))):=
 (N3t a 32).bind fun(b:List ByteArray)=>some (b,([(2,(0,(0,()))),(3,(0,(0,()))),(4,(0,(0,()))),(5,(0,(0,())))]))
def Naj (a:List ByteArray):Option (Bool):=
 some ((((List.length a:Nat):Int))==3)
def N90 (a:List ByteArray) (b:List (Int×Int×Int×Unit)):Option (((List (Int×Int×Int×Unit)))):=
 (inb 1 (List.length a)).bind fun(c:Nat)=>(a[c]?).bind fun(d:ByteArray)=>(inb 2 (List.length a)).bind fun(g:Nat)=>(a[g]?).bind fun(i:ByteArray)=>(N14 d).bind fun(j:Int)=>(N14 i).bind fun(k:Int)=>(room ((List.length b)+List.length ([(0,(j,(k,())))]))).bind fun(l:Unit)=>some (b++([(0,(j,(k,())))]))
def N93:Option (Unit):=
 some ()
def Nj7 (a:Bool) (b:List ByteArray) (c:List (Int×Int×Int×Unit)):Option (((List (Int×Int×Int×Unit)))):=
 cond a ((N90 b c).map (fun(t:(List (Int×Int×Int×Unit)))=>t)) ((N93).map (fun(t:Unit)=>c))
def Nmn (a:List ByteArray) (b:List (Int×Int×Int×Unit)):Option (((List (Int×Int×Int×Unit)))):=
 (Naj a).bind (fun(t:Bool)=>Nj7 t a b)
def N6k (a:List ByteArray) (b:List (Int×Int×Int×Unit)):Option (((List (Int×Int×Int×Unit)))):=
 cond ((((List.length a:Nat):Int))==2) ((inb 1 (List.length a)).bind fun(c:Nat)=>(a[c]?).bind fun(d:ByteArray)=>(N14 d).bind fun(g:Int)=>(room ((List.length b)+List.length ([(1,(g,(0,())))]))).bind fun(i:Unit)=>some (b++([(1,(g,(0,())))]))) (some b)
def N8l:Option (Unit):=
 some ()
def N5i (a:ByteArray) (b:Int) (c:List (Int×Int×Int×Unit)):Option (Int⊕(Bool×Int×Int×Int)⊕Unit):=
 cond (decide (b<(((List.length c:Nat):Int)))) (cond (!(seqs a ByteArray.empty)) ((inb b (List.length c)).bind fun(d:Nat)=>(c[d]?).bind fun(g:Int×Int×Int×Unit)=>(Nh (g.1) ((g.2).1) (((g.2).2).1)).bind fun(i:ByteArray)=>cond (seqs i a) ((inb b (List.length c)).bind fun(j:Nat)=>(c[j]?).bind fun(k:Int×Int×Int×Unit)=>some (Sum.inr (Sum.inl (true,(k.1),((k.2).1),(((k.2).2).1))))) (some (Sum.inl (IntKind.wrap .i64 (b+1))))) (some (Sum.inl (IntKind.wrap .i64 (b+1))))) (some (Sum.inr (Sum.inr ())))
def Nmj (a:ByteArray) (b:List (Int×Int×Int×Unit)):Option ((Bool×Int×Int×Int)⊕Unit):=
 nloop (fun(s:Int)=>((N5i a s b).map (Sum.elim (fun(t:Int)=>Sum.inl t) (Sum.elim (fun(t:Bool×Int×Int×Int)=>Sum.inr (Sum.inl t)) (fun(t:Unit)=>Sum.inr (Sum.inr t)))):Option ((Int)⊕((Bool×Int×Int×Int)⊕Unit)))) LL 0
def Nnz (a:ByteArray) (b:List (Int×Int×Int×Unit)):Option (Unit⊕(Bool×Int×Int×Int)):=
 (Nmj a b).map (Sum.elim (fun(t:Bool×Int×Int×Int)=>(Sum.inr t)) (fun(t:Unit)=>(Sum.inl ())))
def Nlj (a:ByteArray) (b:List (Int×Int×Int×Unit)):Option (Unit⊕(Bool×Int×Int×Int)):=
 (N8l).bind (fun(t:Unit)=>Nnz a b)
def N7r:Option ((Bool×Int×Int×Int)):=
 some (false,0,0,0)
def Nhz (a:ByteArray) (b:List (Int×Int×Int×Unit)):Option ((Bool×Int×Int×Int)):=
 (Nlj a b).bind (Sum.elim (fun(t:Unit)=>N7r) (fun e=>some ((fun(t:Bool×Int×Int×Int)=>t) e)))
def Nfw (a:ByteArray) (b:List ByteArray) (c:List (Int×Int×Int×Unit)):Option ((Bool×Int×Int×Int)):=
 (N6k b c).bind (fun(t:(List (Int×Int×Int×Unit)))=>Nhz a t)
def Nmp (a:ByteArray) (b:List ByteArray) (c:List (Int×Int×Int×Unit)):Option ((Bool×Int×Int×Int)):=
 (Nmn b c).bind (fun(t:(List (Int×Int×Int×Unit)))=>Nfw a b t)
def Nhg (a:ByteArray):Option ((Bool×Int×Int×Int)):=
 (N8k a).bind (fun(t:(List ByteArray)×(List (Int×Int×Int×Unit)))=>Nmp a t.1 t.2)
@[irreducible] def N2r (a:ByteArray):Option (Bool×Int×Int×Int):=
 Nhg a
def N8x:Option (Unit):=
 some ()
def Nar:Option (Unit):=
 some ()
def N2j (a:ByteArray) (b c:Int) (d:List (Int×Int×Int×Unit)):Option ((Int×Int×(List (Int×Int×Int×Unit)))⊕(Int×(List (Int×Int×Int×Unit)))⊕(Int×(List (Int×Int×Int×Unit)))):=
 cond (decide (c<(((ByteArray.size a:Nat):Int)))) ((bidx a c).bind fun(g:Int)=>cond (g==10) ((inc c (ByteArray.size a)).bind fun(i:Nat)=>(inc b i).bind fun(j:Nat)=>(N2r (a.extract j i)).bind fun(k:Bool×Int×Int×Int)=>cond (!(k.1)) (some (Sum.inr (Sum.inl (b,d)))) ((room ((List.length d)+List.length ([((k.2.1),((k.2.2.1),((k.2.2.2),())))]))).bind fun(l:Unit)=>some (Sum.inl ((IntKind.wrap .i64 (c+1)),(IntKind.wrap .i64 (c+1)),(d++([((k.2.1),((k.2.2.1),((k.2.2.2),())))])))))) (some (Sum.inl (b,(IntKind.wrap .i64 (c+1)),d)))) (some (Sum.inr (Sum.inr (b,d))))
def Nj1 (a:ByteArray):Option ((Int×(List (Int×Int×Int×Unit)))⊕(Int×(List (Int×Int×Int×Unit)))):=
 nloop (fun(s:Int×Int×(List (Int×Int×Int×Unit)))=>((N2j a s.1 s.2.1 s.2.2).map (Sum.elim (fun(t:Int×Int×(List (Int×Int×Int×Unit)))=>Sum.inl (t.1,t.2.1,t.2.2)) (Sum.elim (fun(t:Int×(List (Int×Int×Int×Unit)))=>Sum.inr (Sum.inl t)) (fun(t:Int×(List (Int×Int×Int×Unit)))=>Sum.inr (Sum.inr t)))):Option ((Int×Int×(List (Int×Int×Int×Unit)))⊕((Int×(List (Int×Int×Int×Unit)))⊕(Int×(List (Int×Int×Int×Unit))))))) LL (0,0,([]:List (Int×Int×Int×Unit)))
def Njk (a:ByteArray):Option ((Int×(List (Int×Int×Int×Unit)))⊕(Int×(List (Int×Int×Int×Unit)))):=
 (Nj1 a).map (Sum.elim (fun(t:Int×(List (Int×Int×Int×Unit)))=>(Sum.inr t)) (fun(t:Int×(List (Int×Int×Int×Unit)))=>(Sum.inl (t.1,t.2))))
def Nom (a:ByteArray):Option ((Int×(List (Int×Int×Int×Unit)))⊕(Int×(List (Int×Int×Int×Unit)))):=
 (Nar).bind (fun(t:Unit)=>Njk a)
def N9g (a:Int) (b:List (Int×Int×Int×Unit)):Option ((Int×(List (Int×Int×Int×Unit)))):=
 some (a,b)
def Np8 (a:ByteArray):Option ((Int×(List (Int×Int×Int×Unit)))):=
 (Nom a).bind (Sum.elim (fun(t:Int×(List (Int×Int×Int×Unit)))=>N9g t.1 t.2) (fun e=>some ((fun(t:Int×(List (Int×Int×Int×Unit)))=>t) e)))
def Ndv (a:ByteArray):Option ((Int×(List (Int×Int×Int×Unit)))):=
 (N8x).bind (fun(t:Unit)=>Np8 a)
@[irreducible] def N3a (a:ByteArray):Option (Int×(List (Int×Int×Int×Unit))):=
 Ndv a
def Na1 (a b:List (Int×Int×Int×Unit)):Option (Unit⊕Bool):=
 cond ((((List.length a:Nat):Int)) !=(((List.length b:Nat):Int))) (some (Sum.inr false)) (some (Sum.inl ()))
def Na5:Option (Unit):=
 some ()
def N4y (a b:List (Int×Int×Int×Unit)) (c:Int):Option (Int⊕Bool⊕Unit):=
 cond (decide (c<(((List.length a:Nat):Int)))) ((idx a c).bind fun(d:Int×Int×Int×Unit)=>(idx b c).bind fun(g:Int×Int×Int×Unit)=>cond (!(((d.1)==(g.1))&&((((d.2).1)==((g.2).1))&&(((((d.2).2).1)==(((g.2).2).1))&&true)))) (some (Sum.inr (Sum.inl false))) (some (Sum.inl (IntKind.wrap .i64 (c+1))))) (some (Sum.inr (Sum.inr ())))
def Njb (a b:List (Int×Int×Int×Unit)):Option (Bool⊕Unit):=
 nloop (fun(s:Int)=>((N4y a b s).map (Sum.elim (fun(t:Int)=>Sum.inl t) (Sum.elim (fun(t:Bool)=>Sum.inr (Sum.inl t)) (fun(t:Unit)=>Sum.inr (Sum.inr t)))):Option ((Int)⊕(Bool⊕Unit)))) LL 0
def Nl5 (a b:List (Int×Int×Int×Unit)):Option (Unit⊕Bool):=
 (Njb a b).map (Sum.elim (fun(t:Bool)=>(Sum.inr t)) (fun(t:Unit)=>(Sum.inl ())))
def Njz (a b:List (Int×Int×Int×Unit)):Option (Unit⊕Bool):=
 (Na5).bind (fun(t:Unit)=>Nl5 a b)
def Nbi:Option (Bool):=
 some true
def Noa (a b:List (Int×Int×Int×Unit)):Option (Bool):=
 (Njz a b).bind (Sum.elim (fun(t:Unit)=>Nbi) (fun e=>some ((fun(t:Bool)=>t) e)))
def Ne9 (a b:List (Int×Int×Int×Unit)):Option (Bool):=
 (Na1 a b).bind (Sum.elim (fun(t:Unit)=>Noa a b) (fun e=>some ((fun(t:Bool)=>t) e)))
@[irreducible] def N2t (a b:List (Int×Int×Int×Unit)):Option (Bool):=
 Ne9 a b
def N6b (a:List Int):Option ((Bool×(List Int))):=
 (N7 a).bind fun(b:Bool)=>cond (!b) (some (false,([]:List Int))) ((room ((List.length ([]:List Int))+List.length a)).bind fun(c:Unit)=>some (true,(([]:List Int)++a)))
@[irreducible] def N3p (a:List Int):Option (Bool×(List Int)):=
 N6b a
def Nbh:Option (Unit):=
 some ()
def N87:Option (Unit):=
 some ()
def N43 (a:Int) (b:List (List Int)):Option (Int⊕Bool⊕Unit):=
 cond (decide (a<(((List.length b:Nat):Int)))) ((idx b a).bind fun(c:List Int)=>(N7 c).bind fun(d:Bool)=>cond (!d) (some (Sum.inr (Sum.inl false))) (some (Sum.inl (IntKind.wrap .i64 (a+1))))) (some (Sum.inr (Sum.inr ())))
def Nm3 (a:List (List Int)):Option (Bool⊕Unit):=
 nloop (fun(s:Int)=>((N43 s a).map (Sum.elim (fun(t:Int)=>Sum.inl t) (Sum.elim (fun(t:Bool)=>Sum.inr (Sum.inl t)) (fun(t:Unit)=>Sum.inr (Sum.inr t)))):Option ((Int)⊕(Bool⊕Unit)))) LL 0
def Nkd (a:List (List Int)):Option (Unit⊕Bool):=
 (Nm3 a).map (Sum.elim (fun(t:Bool)=>(Sum.inr t)) (fun(t:Unit)=>(Sum.inl ())))
def Nof (a:List (List Int)):Option (Unit⊕Bool):=
 (N87).bind (fun(t:Unit)=>Nkd a)
def N89 (a:List Int) (b:List (List Int)):Option (Bool):=
 (N7 a).bind fun(c:Bool)=>cond c (some (decide ((((List.length b:Nat):Int))≤8))) (some false)
def Nne (a:List Int) (b:List (List Int)):Option (Bool):=
 (Nof b).bind (Sum.elim (fun(t:Unit)=>N89 a b) (fun e=>some ((fun(t:Bool)=>t) e)))
def Nf2 (a:List Int) (b:List (List Int)):Option (Bool):=
 (Nbh).bind (fun(t:Unit)=>Nne a b)
@[irreducible] def Nu (a:List Int) (b:List (List Int)):Option (Bool):=
 Nf2 a b
def N9x (a:List Int):Option (((List Int))):=
 (room ((List.length ([]:List Int))+List.length a)).bind fun(b:Unit)=>some (([]:List Int)++a)
def Na7:Option (Unit):=
 some ()
def N53 (a:Int) (b c:List (List Int)):Option ((Int×(List (List Int)))⊕((List (List Int)))):=
 cond (decide (a<(((List.length b:Nat):Int)))) ((idx b a).bind fun(d:List Int)=>(room (List.length d)).bind fun(g:Unit)=>(room (List.length c+1)).bind fun(i:Unit)=>some (Sum.inl ((IntKind.wrap .i64 (a+1)),((c++ [[]]).set (List.length c) d)))) (some (Sum.inr c))
def Nl4 (a:List (List Int)):Option (((List (List Int)))):=
 nloop (fun(s:Int×(List (List Int)))=>((N53 s.1 a s.2).map (Sum.elim (fun(t:Int×(List (List Int)))=>Sum.inl (t.1,t.2)) (fun(t:(List (List Int)))=>Sum.inr t)):Option ((Int×(List (List Int)))⊕(((List (List Int))))))) LL (0,([]:List (List Int)))
def Nkz (a:List (List Int)):Option (((List (List Int)))):=
 (Nl4 a).map (fun(t:(List (List Int)))=>t)
def Nm0 (a:List (List Int)):Option (((List (List Int)))):=
 (Na7).bind (fun(t:Unit)=>Nkz a)
def Nc5 (a:List Int) (b:List (List Int)):Option (((List Int)×(List (List Int)))):=
 some (a,b)
def Njm (a:List (List Int)) (b:List Int):Option (((List Int)×(List (List Int)))):=
 (Nm0 a).bind (fun(t:(List (List Int)))=>Nc5 b t)
def Ngg (a:List Int) (b:List (List Int)):Option (((List Int)×(List (List Int)))):=
 (N9x a).bind (fun(t:(List Int))=>Njm b t)
@[irreducible] def N3u (a:List Int) (b:List (List Int)):Option ((List Int)×(List (List Int))):=
 Ngg a b
def Nco (a:List Int):Option (Int):=
 some (((List.length a:Nat):Int))
def Nbb (a:Int):Option (Int):=
 some (IntKind.wrap .i64 (a-1))
def N2o (a:List Int) (b c:Int) (d:List Int):Option ((Int×(List Int))⊕((List Int))):=
 cond (decide (c≥0)) ((N7 a).bind fun(g:Bool)=>cond g ((idx a c).bind fun(i:Int)=>cond (i==0) ((room ((List.length d)+List.length ([0]))).bind fun(j:Unit)=>some (Sum.inl ((IntKind.wrap .i64 (c-1)),(d++([0]))))) ((idx a c).bind fun(k:Int)=>(room ((List.length d)+List.length ([(IntKind.wrap .i64 ((IntKind.wrap .i64 (b+1))-k))]))).bind fun(l:Unit)=>some (Sum.inl ((IntKind.wrap .i64 (c-1)),(d++([(IntKind.wrap .i64 ((IntKind.wrap .i64 (b+1))-k))])))))) (some (Sum.inr d))) (some (Sum.inr d))
def Nm4 (a:List Int) (b c:Int):Option (((List Int))):=
 nloop (fun(s:Int×(List Int))=>((N2o a b s.1 s.2).map (Sum.elim (fun(t:Int×(List Int))=>Sum.inl (t.1,t.2)) (fun(t:(List Int))=>Sum.inr t)):Option ((Int×(List Int))⊕(((List Int)))))) LL (c,([]:List Int))
def Nlu (a:List Int) (b c:Int):Option (((List Int))):=
 (Nm4 a b c).map (fun(t:(List Int))=>t)
def Np9 (a:List Int) (b:Int):Option (((List Int))):=
 (Nbb b).bind (fun(t:Int)=>Nlu a b t)
def Ncr (a:List Int):Option (((List Int))):=
 some a
def Nl9 (a:List Int) (b:Int):Option (((List Int))):=
 (Np9 a b).bind (fun(t:(List Int))=>Ncr t)
def Ngx (a:List Int):Option (((List Int))):=
 (Nco a).bind (fun(t:Int)=>Nl9 a t)
@[irreducible] def N1z (a:List Int):Option ((List Int)):=
 Ngx a
def Nce:Option (Unit):=
 some ()
def N8v:Option (Unit):=
 some ()
def N30 (a:List Int) (b:Int):Option (Int⊕Int⊕Unit):=
 cond (decide (b<(((List.length a:Nat):Int)))) ((N7 a).bind fun(c:Bool)=>cond c ((idx a b).bind fun(d:Int)=>cond (d==0) (some (Sum.inr (Sum.inl (IntKind.wrap .i64 (b+1))))) (some (Sum.inl (IntKind.wrap .i64 (b+1))))) (some (Sum.inr (Sum.inr ())))) (some (Sum.inr (Sum.inr ())))
def Nl6 (a:List Int):Option (Int⊕Unit):=
 nloop (fun(s:Int)=>((N30 a s).map (Sum.elim (fun(t:Int)=>Sum.inl t) (Sum.elim (fun(t:Int)=>Sum.inr (Sum.inl t)) (fun(t:Unit)=>Sum.inr (Sum.inr t)))):Option ((Int)⊕(Int⊕Unit)))) LL 0
def Nmh (a:List Int):Option (Unit⊕Int):=
 (Nl6 a).map (Sum.elim (fun(t:Int)=>(Sum.inr t)) (fun(t:Unit)=>(Sum.inl ())))
def Nlk (a:List Int):Option (Unit⊕Int):=
 (N8v).bind (fun(t:Unit)=>Nmh a)
def Nbc:Option (Int):=
 some (-1)
def Nju (a:List Int):Option (Int):=
 (Nlk a).bind (Sum.elim (fun(t:Unit)=>Nbc) (fun e=>some ((fun(t:Int)=>t) e)))
def Nmo (a:List Int):Option (Int):=
 (Nce).bind (fun(t:Unit)=>Nju a)
@[irreducible] def N5m (a:List Int):Option (Int):=
 Nmo a
def Nbl (R0:(List Int)→Int→Option ((List Int))):Option (Unit):=
 some ()
def Nbf (R0:(List Int)→Int→Option ((List Int))):Option (Unit):=
 some ()
def N5e (R0:(List Int)→Int→Option ((List Int))) (a:List Int) (b c:Int) (d:List Int):Option ((Int×(List Int))⊕((List Int))):=
 cond (decide (c<b)) ((idx a (IntKind.wrap .i64 (c-1))).bind fun(g:Int)=>cond (g==b) ((R0 a c).bind fun(i:List Int)=>(room ((List.length d)+List.length i)).bind fun(j:Unit)=>some (Sum.inl ((IntKind.wrap .i64 (c+1)),(d++i)))) (some (Sum.inl ((IntKind.wrap .i64 (c+1)),d)))) (some (Sum.inr d))
def Nj6 (R0:(List Int)→Int→Option ((List Int))) (a:List Int) (b:Int):Option (((List Int))):=
 nloop (fun(s:Int×(List Int))=>((N5e R0 a b s.1 s.2).map (Sum.elim (fun(t:Int×(List Int))=>Sum.inl (t.1,t.2)) (fun(t:(List Int))=>Sum.inr t)):Option ((Int×(List Int))⊕(((List Int)))))) LL (1,([]:List Int))
def Nkt (R0:(List Int)→Int→Option ((List Int))) (a:List Int) (b:Int):Option (((List Int))):=
 (Nj6 R0 a b).map (fun(t:(List Int))=>t)
def Nlo (R0:(List Int)→Int→Option ((List Int))) (a:List Int) (b:Int):Option (((List Int))):=
 (Nbf R0).bind (fun(t:Unit)=>Nkt R0 a b)
def N88 (R0:(List Int)→Int→Option ((List Int))) (a:Int) (b:List Int):Option (((List Int))):=
 (room ((List.length b)+List.length ([a]))).bind fun(c:Unit)=>some (b++([a]))
def Na8 (R0:(List Int)→Int→Option ((List Int))) (a:Int):Option (Int):=
 some (IntKind.wrap .i64 (a+1))
def N65 (R0:(List Int)→Int→Option ((List Int))) (a:List Int) (b c:Int) (d:List Int):Option ((Int×(List Int))⊕((List Int))):=
 cond (decide (c≤(((List.length a:Nat):Int)))) ((idx a (IntKind.wrap .i64 (c-1))).bind fun(g:Int)=>cond (g==b) ((R0 a c).bind fun(i:List Int)=>(room ((List.length d)+List.length i)).bind fun(j:Unit)=>some (Sum.inl ((IntKind.wrap .i64 (c+1)),(d++i)))) (some (Sum.inl ((IntKind.wrap .i64 (c+1)),d)))) (some (Sum.inr d))
def Nme (R0:(List Int)→Int→Option ((List Int))) (a:List Int) (b c:Int) (d:List Int):Option (((List Int))):=
 nloop (fun(s:Int×(List Int))=>((N65 R0 a b s.1 s.2).map (Sum.elim (fun(t:Int×(List Int))=>Sum.inl (t.1,t.2)) (fun(t:(List Int))=>Sum.inr t)):Option ((Int×(List Int))⊕(((List Int)))))) LL (c,d)
def Nod (R0:(List Int)→Int→Option ((List Int))) (a:List Int) (b c:Int) (d:List Int):Option (((List Int))):=
 (Nme R0 a b c d).map (fun(t:(List Int))=>t)
def Npa (R0:(List Int)→Int→Option ((List Int))) (a:List Int) (b:Int) (c:List Int):Option (((List Int))):=
 (Na8 R0 b).bind (fun(t:Int)=>Nod R0 a b t c)
def N9c (R0:(List Int)→Int→Option ((List Int))) (a:List Int):Option (((List Int))):=
 some a
def Njx (R0:(List Int)→Int→Option ((List Int))) (a:List Int) (b:Int) (c:List Int):Option (((List Int))):=
 (Npa R0 a b c).bind (fun(t:(List Int))=>N9c R0 t)
def Noe (R0:(List Int)→Int→Option ((List Int))) (a:List Int) (b:Int) (c:List Int):Option (((List Int))):=
 (N88 R0 b c).bind (fun(t:(List Int))=>Njx R0 a b t)
def Nmy (R0:(List Int)→Int→Option ((List Int))) (a:List Int) (b:Int):Option (((List Int))):=
 (Nlo R0 a b).bind (fun(t:(List Int))=>Noe R0 a b t)
def Nnh (R0:(List Int)→Int→Option ((List Int))) (a:List Int) (b:Int):Option (((List Int))):=
 (Nbl R0).bind (fun(t:Unit)=>Nmy R0 a b)
def Ngd (R0:(List Int)→Int→Option ((List Int))) (a:List Int) (b:Int):Option ((List Int)):=
 Nnh R0 a b
def N3c:Nat→((List Int)→Int→Option ((List Int)))
 |0=>(fun _ _=>none)
 |n+1=>(fun y0 y1=>Ngd (N3c n) y0 y1)
def Nd (n:Nat):(List Int)→Int→Option ((List Int)):=(N3c n)
@[irreducible] def N7d (a:List Int) (b:Int):Option ((List Int)):=Nd RR a b
def Nbx (a:List Int):Option (((List Int))):=
 (N7 a).bind fun(b:Bool)=>cond (!b) (some ([]:List Int)) ((N5m a).bind fun(c:Int)=>(N7d a c).bind fun(d:List Int)=>some d)
@[irreducible] def N5z (a:List Int):Option ((List Int)):=
 Nbx a
def N9n (a:List Int):Option (((List Int))):=
 (N5z a).bind fun(b:List Int)=>(N42 a b).bind fun(c:Bool×(List Int))=>some (c.2)
@[irreducible] def N2l (a:List Int):Option ((List Int)):=
 N9n a
def N6o (a:List Int) (b c d:Int):Option ((Nat×(List Int))):=
 (room ((List.length ([]:List Int))+List.length a)).bind fun(g:Unit)=>cond (b==0) ((N9 c 1 (((List.length a:Nat):Int))).bind fun(i:Bool)=>cond i ((inb (IntKind.wrap .i64 (c-1)) (List.length (([]:List Int)++a))).bind fun(j:Nat)=>some ((List.length ((([]:List Int)++a).set j d)),((([]:List Int)++a).set j d))) (cond ((b==1)&&((c==c)&&((d==0)&&true))) ((room ((List.length (([]:List Int)++a))+List.length ([c]))).bind fun(k:Unit)=>some ((List.length ((([]:List Int)++a)++([c]))),((([]:List Int)++a)++([c])))) (cond ((b==2)&&((c==0)&&((d==0)&&true))) ((inc (IntKind.wrap .i64 ((((List.length (([]:List Int)++a):Nat):Int))-1)) (List.length (([]:List Int)++a))).bind fun(l:Nat)=>some ((l-0),(([]:List Int)++a))) (cond ((b==3)&&((c==0)&&((d==0)&&true))) ((N1z a).bind fun(m:List Int)=>some ((List.length m),m)) (cond ((b==4)&&((c==0)&&((d==0)&&true))) ((N2l a).bind fun(o:List Int)=>some ((List.length o),o)) (some ((List.length ([]:List Int)),([]:List Int)))))))) (cond ((b==1)&&((c==c)&&((d==0)&&true))) ((room ((List.length (([]:List Int)++a))+List.length ([c]))).bind fun(p:Unit)=>some ((List.length ((([]:List Int)++a)++([c]))),((([]:List Int)++a)++([c])))) (cond ((b==2)&&((c==0)&&((d==0)&&true))) ((inc (IntKind.wrap .i64 ((((List.length (([]:List Int)++a):Nat):Int))-1)) (List.length (([]:List Int)++a))).bind fun(q:Nat)=>some ((q-0),(([]:List Int)++a))) (cond ((b==3)&&((c==0)&&((d==0)&&true))) ((N1z a).bind fun(w:List Int)=>some ((List.length w),w)) (cond ((b==4)&&((c==0)&&((d==0)&&true))) ((N2l a).bind fun(y:List Int)=>some ((List.length y),y)) (some ((List.length ([]:List Int)),([]:List Int)))))))
@[irreducible] def N1s (a:List Int) (b c d:Int):Option (Nat×(List Int)):=
 N6o a b c d
def Ncf (a:List Int) (b:List (List Int)) (c d g:Int):Option ((Nat×Bool×(List Int)×(List Int)×(List (List Int)))⊕(Bool×(List Int)×(List (List Int)))):=
 (Nu a b).bind fun(i:Bool)=>cond (!i) (some (Sum.inr (false,([]:List Int),([]:List (List Int))))) ((N3u a b).bind fun(j:(List Int)×(List (List Int)))=>cond ((c==5)&&((d==0)&&((g==0)&&true))) (cond (decide ((((List.length b:Nat):Int))>0)) ((inb (IntKind.wrap .i64 ((((List.length (j.2):Nat):Int))-1)) (List.length (j.2))).bind fun(k:Nat)=>(((j.2))[k]?).bind fun(l:List Int)=>(inc (IntKind.wrap .i64 ((((List.length (j.2):Nat):Int))-1)) (List.length (((j.2)).set k []))).bind fun(m:Nat)=>(sure (Nat.blt k 0||Nat.ble m k)).bind fun(o:Unit)=>some (Sum.inr (true,l,(((((j.2)).set k []).take m).drop 0)))) ((N1s a c d g).bind fun(p:Nat×(List Int))=>some (Sum.inl ((p.1),(((((p.1):Nat):Int))==(((List.length a:Nat):Int))),(p.2),(j.1),(j.2))))) ((N1s a c d g).bind fun(q:Nat×(List Int))=>some (Sum.inl ((q.1),(((((q.1):Nat):Int))==(((List.length a:Nat):Int))),(q.2),(j.1),(j.2)))))
def N83:Option (Unit):=
 some ()
def N2z (a:Nat) (b:Bool) (c:Int) (d g:List Int):Option ((Bool×Int)⊕Bool):=
 cond (decide (c<(((a:Nat):Int)))) (cond b ((inb c a).bind fun(i:Nat)=>(g[(0+i)]?).bind fun(j:Int)=>(idx d c).bind fun(k:Int)=>some (Sum.inl ((j==k),(IntKind.wrap .i64 (c+1))))) (some (Sum.inr b))) (some (Sum.inr b))
def Nhb (a:Nat) (b:Bool) (c d:List Int):Option (Bool):=
 nloop (fun(s:Bool×Int)=>((N2z a s.1 s.2 c d).map (Sum.elim (fun(t:Bool×Int)=>Sum.inl (t.1,t.2)) (fun(t:Bool)=>Sum.inr t)):Option ((Bool×Int)⊕(Bool)))) LL (b,0)
def No2 (a:Nat) (b:Bool) (c d:List Int):Option (Bool):=
 (Nhb a b c d).map (fun(t:Bool)=>t)
def Noj (a:Nat) (b:Bool) (c d:List Int):Option (Bool):=
 (N83).bind (fun(t:Unit)=>No2 a b c d)
def N8i (a:Nat) (b:Bool) (c d:List Int) (g:List (List Int)):Option ((Bool×(List Int)×(List (List Int)))):=
 cond b (some (false,d,g)) ((N7 ((c.drop 0).take a)).bind fun(i:Bool)=>cond (!i) (some (false,d,g)) ((room (List.length g+1)).bind fun(j:Unit)=>cond (decide ((((List.length ((g++ [[]]).set (List.length g) d):Nat):Int))>8)) ((inc 1 (List.length ((g++ [[]]).set (List.length g) d))).bind fun(k:Nat)=>(room ((List.length ([]:List Int))+List.length ((c.drop 0).take a))).bind fun(l:Unit)=>some (true,(([]:List Int)++((c.drop 0).take a)),((((g++ [[]]).set (List.length g) d).take (List.length ((g++ [[]]).set (List.length g) d))).drop k))) ((room ((List.length ([]:List Int))+List.length ((c.drop 0).take a))).bind fun(m:Unit)=>some (true,(([]:List Int)++((c.drop 0).take a)),((g++ [[]]).set (List.length g) d)))))
def Nd3 (a:Nat) (b:Bool) (c d g:List Int) (i:List (List Int)):Option ((Bool×(List Int)×(List (List Int)))):=
 (Noj a b c d).bind (fun(t:Bool)=>N8i a t d g i)
def Ng1 (a:List Int) (b:List (List Int)) (c d g:Int):Option ((Bool×(List Int)×(List (List Int)))):=
 (Ncf a b c d g).bind (Sum.elim (fun(t:Nat×Bool×(List Int)×(List Int)×(List (List Int)))=>Nd3 t.1 t.2.1 a t.2.2.1 t.2.2.2.1 t.2.2.2.2) (fun e=>some ((fun(t:Bool×(List Int)×(List (List Int)))=>t) e)))
@[irreducible] def N3v (a:List Int) (b:List (List Int)) (c d g:Int):Option (Bool×(List Int)×(List (List Int))):=
 Ng1 a b c d g
def Nbp (a:List Int) (b:Int):Option ((Int×(List Int))):=
 (N2h 0 a b).bind fun(c:Int×(List Int))=>(N3p (c.2)).bind fun(d:Bool×(List Int))=>some ((c.1),(d.2))
def Nao (a:List Int) (b:Int):Option ((Int×Int)):=
 (N0 6 a b).bind fun(c:Int×Int)=>some ((c.1),(c.2))
def N6q (a:Int) (b:List Int) (c:Int) (d:List Int) (g:List (List Int)):Option ((Int×Int×(List Int)×(List (List Int)))⊕(Int×(List Int)×(List (List Int)))):=
 cond (decide (a>0)) ((N1j d b c).bind fun(i:Int×Int×Int×Int)=>(N3v d g (i.2.1) (i.2.2.1) (i.2.2.2)).bind fun(j:Bool×(List Int)×(List (List Int)))=>cond (j.1) (some (Sum.inl ((IntKind.wrap .i64 (a-1)),(i.1),(j.2.1),(j.2.2)))) (some (Sum.inl ((IntKind.wrap .i64 (a-1)),(i.1),d,g)))) (some (Sum.inr (c,d,g)))
def Njh (a:Int) (b:List Int) (c:Int) (d:List Int):Option ((Int×(List Int)×(List (List Int)))):=
 nloop (fun(s:Int×Int×(List Int)×(List (List Int)))=>((N6q s.1 b s.2.1 s.2.2.1 s.2.2.2).map (Sum.elim (fun(t:Int×Int×(List Int)×(List (List Int)))=>Sum.inl (t.1,t.2.1,t.2.2.1,t.2.2.2)) (fun(t:Int×(List Int)×(List (List Int)))=>Sum.inr t)):Option ((Int×Int×(List Int)×(List (List Int)))⊕((Int×(List Int)×(List (List Int))))))) LL (a,c,d,([]:List (List Int)))
def Njw (a:Int) (b:List Int) (c:Int) (d:List Int):Option ((Int×(List Int)×(List (List Int)))):=
 (Njh a b c d).map (fun(t:Int×(List Int)×(List (List Int)))=>(t.1,t.2.1,t.2.2))
def No7 (a:List Int) (b:Int) (c:List Int):Option ((Int×(List Int)×(List (List Int)))):=
 (Nao a b).bind (fun(t:Int×Int)=>Njw t.1 a t.2 c)
def Nai (a:Int) (b:List Int) (c:Int) (d:List Int) (g:List (List Int)):Option ((Int×(List Int)×(List (List Int)))):=
 (Np a b c).bind fun(i:Bool×Int)=>cond (i.1) ((N0 3 b (i.2)).bind fun(j:Int×Int)=>cond ((j.1)==0) (some ((j.2),([1]),g)) (cond ((j.1)==1) ((room (List.length g+1)).bind fun(k:Unit)=>some ((j.2),d,((g++ [[]]).set (List.length g) ([]:List Int)))) (some ((j.2),([]:List Int),([]:List (List Int)))))) (some ((i.2),d,g))
def Nnv (a:Int) (b:List Int) (c:Int) (d:List Int):Option ((Int×(List Int)×(List (List Int)))):=
 (No7 b c d).bind (fun(t:Int×(List Int)×(List (List Int)))=>Nai a b t.1 t.2.1 t.2.2)
def Nei (a:Int) (b:List Int) (c:Int):Option ((Int×(List Int)×(List (List Int)))):=
 (Nbp b c).bind (fun(t:Int×(List Int))=>Nnv a b t.1 t.2)
@[irreducible] def N44 (a:Int) (b:List Int) (c:Int):Option (Int×(List Int)×(List (List Int))):=
 Nei a b c
def Nam (a:List Int):Option (((List Int)×(List (Int×Int×Int×Unit))×(List (List Int)))):=
 (N3x a).bind fun(b:List Int)=>(N44 12 b 0).bind fun(c:Int×(List Int)×(List (List Int)))=>(Np 30 b (c.1)).bind fun(d:Bool×Int)=>cond (d.1) ((mk 41 41).bind fun(g:Nat)=>some ((c.2.1),(List.replicate g ((0:Int),((0:Int),((0:Int),())))),(c.2.2))) ((N2g (c.2.1) b (d.2)).bind fun(i:Int×(List (Int×Int×Int×Unit)))=>some ((c.2.1),(i.2),(c.2.2)))
@[irreducible] def N5f (a:List Int):Option ((List Int)×(List (Int×Int×Int×Unit))×(List (List Int))):=
 Nam a
def Nba:Option (Unit):=
 some ()
def N9t (a:List Int):Option (Int):=
 some (((List.length a:Nat):Int))
def N4k (a:List Int) (b c d:Int):Option ((Int×Int)⊕Bool⊕Int):=
 cond (decide (d<c)) ((idx a d).bind fun(g:Int)=>cond (decide (g<0)) (some (Sum.inr (Sum.inl false))) (cond (decide (g>(((List.length a:Nat):Int)))) (some (Sum.inr (Sum.inl false))) (cond (g==0) (some (Sum.inl ((IntKind.wrap .i64 (b+1)),(IntKind.wrap .i64 (d+1))))) (some (Sum.inl (b,(IntKind.wrap .i64 (d+1)))))))) (some (Sum.inr (Sum.inr b)))
def Nma (a:List Int) (b:Int):Option (Bool⊕Int):=
 nloop (fun(s:Int×Int)=>((N4k a s.1 b s.2).map (Sum.elim (fun(t:Int×Int)=>Sum.inl (t.1,t.2)) (Sum.elim (fun(t:Bool)=>Sum.inr (Sum.inl t)) (fun(t:Int)=>Sum.inr (Sum.inr t)))):Option ((Int×Int)⊕(Bool⊕Int)))) LL (0,0)
def Npd (a:List Int) (b:Int):Option (Int⊕Bool):=
 (Nma a b).map (Sum.elim (fun(t:Bool)=>(Sum.inr t)) (fun(t:Int)=>(Sum.inl t)))
def Nl1 (a:List Int):Option (Int⊕Bool):=
 (N9t a).bind (fun(t:Int)=>Npd a t)
def N8r (a:Int):Option (Bool):=
 some (a==1)
def Non (a:List Int):Option (Bool):=
 (Nl1 a).bind (Sum.elim (fun(t:Int)=>N8r t) (fun e=>some ((fun(t:Bool)=>t) e)))
def Nmi (a:List Int):Option (Bool):=
 (Nba).bind (fun(t:Unit)=>Non a)
@[irreducible] def N5w (a:List Int):Option (Bool):=
 Nmi a
def Nay (a:List Int) (b c:Int):Option ((Bool×Int×Int)):=
 (idx a (IntKind.wrap .i64 (b-1))).bind fun(d:Int)=>cond (d==0) (some (false,b,c)) (some (true,d,(IntKind.wrap .i64 (c+1))))
@[irreducible] def N3r (a:List Int) (b c:Int):Option (Bool×Int×Int):=
 Nay a b c
def Nbe:Option (Unit):=
 some ()
def N6e (a:List Int) (b c:Int):Option ((Int×Int)⊕(Int×Bool)⊕(Int×Int)):=
 (N3r a b c).bind fun(d:Bool×Int×Int)=>cond (d.1) (cond (decide ((d.2.2)≥(((List.length a:Nat):Int)))) (some (Sum.inr (Sum.inl (0,false)))) (some (Sum.inl ((d.2.1),(d.2.2))))) (some (Sum.inr (Sum.inr ((d.2.1),(d.2.2)))))
def Nny (a:List Int) (b:Int):Option ((Int×Bool)⊕(Int×Int)):=
 nloop (fun(s:Int×Int)=>((N6e a s.1 s.2).map (Sum.elim (fun(t:Int×Int)=>Sum.inl (t.1,t.2)) (Sum.elim (fun(t:Int×Bool)=>Sum.inr (Sum.inl t)) (fun(t:Int×Int)=>Sum.inr (Sum.inr t)))):Option ((Int×Int)⊕((Int×Bool)⊕(Int×Int))))) LL (b,0)
def Np0 (a:List Int) (b:Int):Option ((Int×Int)⊕(Int×Bool)):=
 (Nny a b).map (Sum.elim (fun(t:Int×Bool)=>(Sum.inr t)) (fun(t:Int×Int)=>(Sum.inl (t.1,t.2))))
def Nch (a:Int):Option ((Int×Bool)):=
 some (a,true)
def Nlb (a:List Int) (b:Int):Option ((Int×Bool)):=
 (Np0 a b).bind (Sum.elim (fun(t:Int×Int)=>Nch t.2) (fun e=>some ((fun(t:Int×Bool)=>t) e)))
def Nla (a:List Int) (b:Int):Option ((Int×Bool)):=
 (Nbe).bind (fun(t:Unit)=>Nlb a b)
@[irreducible] def N59 (a:List Int) (b:Int):Option (Int×Bool):=
 Nla a b
def Na4 (a:List Int):Option (Unit⊕Bool):=
 cond (decide ((((List.length a:Nat):Int))<1)) (some (Sum.inr false)) (cond (decide ((((List.length a:Nat):Int))>8)) (some (Sum.inr false)) ((N5w a).bind fun(b:Bool)=>cond (!b) (some (Sum.inr false)) (some (Sum.inl ()))))
def N7y (a:List Int):Option (Int):=
 some (((List.length a:Nat):Int))
def N55 (a:List Int) (b c:Int):Option (Int⊕Bool⊕Unit):=
 cond (decide (c<b)) ((N59 a (IntKind.wrap .i64 (c+1))).bind fun(d:Int×Bool)=>cond (!(d.2)) (some (Sum.inr (Sum.inl false))) (some (Sum.inl (IntKind.wrap .i64 (c+1))))) (some (Sum.inr (Sum.inr ())))
def Nmt (a:List Int) (b:Int):Option (Bool⊕Unit):=
 nloop (fun(s:Int)=>((N55 a b s).map (Sum.elim (fun(t:Int)=>Sum.inl t) (Sum.elim (fun(t:Bool)=>Sum.inr (Sum.inl t)) (fun(t:Unit)=>Sum.inr (Sum.inr t)))):Option ((Int)⊕(Bool⊕Unit)))) LL 0
def Nnt (a:List Int) (b:Int):Option (Unit⊕Bool):=
 (Nmt a b).map (Sum.elim (fun(t:Bool)=>(Sum.inr t)) (fun(t:Unit)=>(Sum.inl ())))
def Nnw (a:List Int):Option (Unit⊕Bool):=
 (N7y a).bind (fun(t:Int)=>Nnt a t)
def Nfj:Option (Bool):=
 some true
def Nm6 (a:List Int):Option (Bool):=
 (Nnw a).bind (Sum.elim (fun(t:Unit)=>Nfj) (fun e=>some ((fun(t:Bool)=>t) e)))
def Nlm (a:List Int):Option (Bool):=
 (Na4 a).bind (Sum.elim (fun(t:Unit)=>Nm6 a) (fun e=>some ((fun(t:Bool)=>t) e)))
@[irreducible] def Nb (a:List Int):Option (Bool):=
 Nlm a
def N8q (a:List Int) (b:List (List Int)):Option (Unit⊕Bool):=
 (Nb a).bind fun(c:Bool)=>cond (!c) (some (Sum.inr false)) (cond (decide ((((List.length b:Nat):Int))>8)) (some (Sum.inr false)) (some (Sum.inl ())))
def Nbd (a:List (List Int)):Option (Int):=
 some (((List.length a:Nat):Int))
def N2x (a:List (List Int)) (b c:Int):Option (Int⊕Bool⊕Unit):=
 cond (decide (c<b)) ((idx a c).bind fun(d:List Int)=>(Nb d).bind fun(g:Bool)=>cond (!g) (some (Sum.inr (Sum.inl false))) (some (Sum.inl (IntKind.wrap .i64 (c+1))))) (some (Sum.inr (Sum.inr ())))
def Nob (a:List (List Int)) (b:Int):Option (Bool⊕Unit):=
 nloop (fun(s:Int)=>((N2x a b s).map (Sum.elim (fun(t:Int)=>Sum.inl t) (Sum.elim (fun(t:Bool)=>Sum.inr (Sum.inl t)) (fun(t:Unit)=>Sum.inr (Sum.inr t)))):Option ((Int)⊕(Bool⊕Unit)))) LL 0
def Nnl (a:List (List Int)) (b:Int):Option (Unit⊕Bool):=
 (Nob a b).map (Sum.elim (fun(t:Bool)=>(Sum.inr t)) (fun(t:Unit)=>(Sum.inl ())))
def Nm2 (a:List (List Int)):Option (Unit⊕Bool):=
 (Nbd a).bind (fun(t:Int)=>Nnl a t)
def Ngz:Option (Bool):=
 some true
def No5 (a:List (List Int)):Option (Bool):=
 (Nm2 a).bind (Sum.elim (fun(t:Unit)=>Ngz) (fun e=>some ((fun(t:Bool)=>t) e)))
def Ni6 (a:List Int) (b:List (List Int)):Option (Bool):=
 (N8q a b).bind (Sum.elim (fun(t:Unit)=>No5 b) (fun e=>some ((fun(t:Bool)=>t) e)))
@[irreducible] def N1y (a:List Int) (b:List (List Int)):Option (Bool):=
 Ni6 a b
def N3b (x1:List Int):Option (List Int):=cloneD x1
def Nbk (a:List Int):Option (((List Int))):=
 (N3b a).bind fun(b:List Int)=>some b
def N8f (a:List (List Int)):Option (Int):=
 some (((List.length a:Nat):Int))
def N4s (a:List (List Int)) (b c:Int) (d:List (List Int)):Option ((Int×(List (List Int)))⊕((List (List Int)))):=
 cond (decide (c<b)) ((idx a c).bind fun(g:List Int)=>(N3b g).bind fun(i:List Int)=>(room (List.length d+1)).bind fun(j:Unit)=>some (Sum.inl ((IntKind.wrap .i64 (c+1)),((d++ [[]]).set (List.length d) i)))) (some (Sum.inr d))
def Nkb (a:List (List Int)) (b:Int):Option (((List (List Int)))):=
 nloop (fun(s:Int×(List (List Int)))=>((N4s a b s.1 s.2).map (Sum.elim (fun(t:Int×(List (List Int)))=>Sum.inl (t.1,t.2)) (fun(t:(List (List Int)))=>Sum.inr t)):Option ((Int×(List (List Int)))⊕(((List (List Int))))))) LL (0,([]:List (List Int)))
def Nmf (a:List (List Int)) (b:Int):Option (((List (List Int)))):=
 (Nkb a b).map (fun(t:(List (List Int)))=>t)
def Nos (a:List (List Int)):Option (((List (List Int)))):=
 (N8f a).bind (fun(t:Int)=>Nmf a t)
def Nal (a:List Int) (b:List (List Int)):Option (((List Int)×(List (List Int)))):=
 some (a,b)
def Nj0 (a:List (List Int)) (b:List Int):Option (((List Int)×(List (List Int)))):=
 (Nos a).bind (fun(t:(List (List Int)))=>Nal b t)
def Nfp (a:List Int) (b:List (List Int)):Option (((List Int)×(List (List Int)))):=
 (Nbk a).bind (fun(t:(List Int))=>Nj0 b t)
@[irreducible] def Nf (a:List Int) (b:List (List Int)):Option ((List Int)×(List (List Int))):=
 Nfp a b
def N6s (a:List Int) (b:List (List Int)):Option ((Bool×(List Int)×(List (List Int)))):=
 cond (decide ((IntKind.wrap .i64 ((((List.length b:Nat):Int))-1))<0)) ((Nf a ([]:List (List Int))).bind fun(c:(List Int)×(List (List Int)))=>some (false,(c.1),(c.2))) ((idx b (IntKind.wrap .i64 ((((List.length b:Nat):Int))-1))).bind fun(d:List Int)=>(inc (IntKind.wrap .i64 ((((List.length b:Nat):Int))-1)) (List.length b)).bind fun(g:Nat)=>(Nf d ((b.take g).drop 0)).bind fun(i:(List Int)×(List (List Int)))=>some (true,(i.1),(i.2)))
@[irreducible] def N3w (a:List Int) (b:List (List Int)):Option (Bool×(List Int)×(List (List Int))):=
 N6s a b
def N7n (a:List Int) (b:Int):Option (Bool):=
 (Nb a).bind fun(c:Bool)=>cond c (cond (decide (b≥1)) (some (decide (b≤(((List.length a:Nat):Int))))) (some false)) (some false)
@[irreducible] def N3g (a:List Int) (b:Int):Option (Bool):=
 N7n a b
def Naf (a:Int):Option (((List Int))):=
 (mk a a).bind fun(b:Nat)=>some (List.replicate b (0:Int))
def Na6 (a:List Int):Option (Int):=
 some (((List.length a:Nat):Int))
def N4g (a b c:Int) (d:List Int):Option ((Int×(List Int))⊕((List Int))):=
 cond (decide (c<b)) ((inb c (List.length d)).bind fun(g:Nat)=>some (Sum.inl ((IntKind.wrap .i64 (c+1)),(d.set g (IntKind.wrap .i64 (a-c)))))) (some (Sum.inr d))
def Nmm (a b:Int) (c:List Int):Option (((List Int))):=
 nloop (fun(s:Int×(List Int))=>((N4g a b s.1 s.2).map (Sum.elim (fun(t:Int×(List Int))=>Sum.inl (t.1,t.2)) (fun(t:(List Int))=>Sum.inr t)):Option ((Int×(List Int))⊕(((List Int)))))) LL (0,c)
def Nl7 (a b:Int) (c:List Int):Option (((List Int))):=
 (Nmm a b c).map (fun(t:(List Int))=>t)
def Noi (a:Int) (b:List Int):Option (((List Int))):=
 (Na6 b).bind (fun(t:Int)=>Nl7 a t b)
def Na9 (a:List Int):Option (((List Int))):=
 some a
def Njs (a:Int) (b:List Int):Option (((List Int))):=
 (Noi a b).bind (fun(t:(List Int))=>Na9 t)
def Ngu (a:Int):Option (((List Int))):=
 (Naf a).bind (fun(t:(List Int))=>Njs a t)
@[irreducible] def N3e (a:Int):Option ((List Int)):=
 Ngu a
def N7s (a:List Int) (b:Int):Option (Unit⊕Bool):=
 cond (decide (b<1)) (some (Sum.inr false)) (cond (decide (b>8)) (some (Sum.inr false)) (cond ((((List.length a:Nat):Int)) !=b) (some (Sum.inr false)) (some (Sum.inl ()))))
def N8y (a:List Int):Option (Int):=
 some (((List.length a:Nat):Int))
def N6m (a:Int) (b:List Int) (c d:Int) (g:List Bool):Option ((Int×(List Bool))⊕Bool⊕Unit):=
 cond (decide (d<c)) ((idx b d).bind fun(i:Int)=>cond (decide (i<1)) (some (Sum.inr (Sum.inl false))) (cond (decide (i>a)) (some (Sum.inr (Sum.inl false))) ((same (List.length g) 9).bind fun(j:Unit)=>(inb i 9).bind fun(k:Nat)=>(g[k]?).bind fun(l:Bool)=>cond l (some (Sum.inr (Sum.inl false))) ((same (List.length g) 9).bind fun(m:Unit)=>(inb i 9).bind fun(o:Nat)=>some (Sum.inl ((IntKind.wrap .i64 (d+1)),(g.set o true))))))) (some (Sum.inr (Sum.inr ())))
def Nn0 (a:Int) (b:List Int) (c:Int):Option (Bool⊕Unit):=
 nloop (fun(s:Int×(List Bool))=>((N6m a b c s.1 s.2).map (Sum.elim (fun(t:Int×(List Bool))=>Sum.inl (t.1,t.2)) (Sum.elim (fun(t:Bool)=>Sum.inr (Sum.inl t)) (fun(t:Unit)=>Sum.inr (Sum.inr t)))):Option ((Int×(List Bool))⊕(Bool⊕Unit)))) LL (0,(List.replicate 9 false))
def Nn2 (a:Int) (b:List Int) (c:Int):Option (Unit⊕Bool):=
 (Nn0 a b c).map (Sum.elim (fun(t:Bool)=>(Sum.inr t)) (fun(t:Unit)=>(Sum.inl ())))
def Nml (a:List Int) (b:Int):Option (Unit⊕Bool):=
 (N8y a).bind (fun(t:Int)=>Nn2 b a t)
def Nby:Option (Bool):=
 some true
def Nnp (a:List Int) (b:Int):Option (Bool):=
 (Nml a b).bind (Sum.elim (fun(t:Unit)=>Nby) (fun e=>some ((fun(t:Bool)=>t) e)))
def Np4 (a:List Int) (b:Int):Option (Bool):=
 (N7s a b).bind (Sum.elim (fun(t:Unit)=>Nnp a b) (fun e=>some ((fun(t:Bool)=>t) e)))
@[irreducible] def N5v (a:List Int) (b:Int):Option (Bool):=
 Np4 a b
def Nci (a:List Int):Option (((List Int))):=
 (mk (IntKind.wrap .i64 ((((List.length a:Nat):Int))+1)) (IntKind.wrap .i64 ((((List.length a:Nat):Int))+1))).bind fun(b:Nat)=>some (List.replicate b (0:Int))
def Ncl (a:List Int):Option (Int):=
 some (((List.length a:Nat):Int))
def N68 (a:List Int) (b c:Int) (d:List Int):Option ((Int×(List Int))⊕((List Int))):=
 cond (decide (c<b)) ((idx a c).bind fun(g:Int)=>(inb g (List.length d)).bind fun(i:Nat)=>some (Sum.inl ((IntKind.wrap .i64 (c+1)),(d.set i (IntKind.wrap .i64 (c+1)))))) (some (Sum.inr d))
def Nkp (a:List Int) (b:Int) (c:List Int):Option (((List Int))):=
 nloop (fun(s:Int×(List Int))=>((N68 a b s.1 s.2).map (Sum.elim (fun(t:Int×(List Int))=>Sum.inl (t.1,t.2)) (fun(t:(List Int))=>Sum.inr t)):Option ((Int×(List Int))⊕(((List Int)))))) LL (0,c)
def Nkf (a:List Int) (b:Int) (c:List Int):Option (((List Int))):=
 (Nkp a b c).map (fun(t:(List Int))=>t)
def Np5 (a b:List Int):Option (((List Int))):=
 (Ncl a).bind (fun(t:Int)=>Nkf a t b)
def N8b (a:List Int):Option (((List Int))):=
 some a
def Nnq (a b:List Int):Option (((List Int))):=
 (Np5 a b).bind (fun(t:(List Int))=>N8b t)
def Nns (a:List Int):Option (((List Int))):=
 (Nci a).bind (fun(t:(List Int))=>Nnq a t)
@[irreducible] def N5c (a:List Int):Option ((List Int)):=
 Nns a
def N9e (a:Int) (b:List Int):Option (Int):=
 (inb a (List.length b)).bind fun(c:Nat)=>(b[c]?).bind fun(d:Int)=>some d
@[irreducible] def N4a (a:Int) (b:List Int):Option (Int):=
 N9e a b
def N8s (a:List Int):Option (((List Int))):=
 (mk (((List.length a:Nat):Int)) (((List.length a:Nat):Int))).bind fun(b:Nat)=>some (List.replicate b (0:Int))
def N9o (a:List Int):Option (Int):=
 some (((List.length a:Nat):Int))
def N7m (a b:List Int) (c d:Int) (g i:List Int):Option ((Int×(List Int))⊕((List Int))):=
 cond (decide (d<c)) ((idx b d).bind fun(j:Int)=>(idx a (IntKind.wrap .i64 (j-1))).bind fun(k:Int)=>(N4a k g).bind fun(l:Int)=>(inb d (List.length i)).bind fun(m:Nat)=>some (Sum.inl ((IntKind.wrap .i64 (d+1)),(i.set m l)))) (some (Sum.inr i))
def Nk6 (a b:List Int) (c:Int) (d g:List Int):Option (((List Int))):=
 nloop (fun(s:Int×(List Int))=>((N7m a b c s.1 d s.2).map (Sum.elim (fun(t:Int×(List Int))=>Sum.inl (t.1,t.2)) (fun(t:(List Int))=>Sum.inr t)):Option ((Int×(List Int))⊕(((List Int)))))) LL (0,g)
def Not (a b:List Int) (c:Int) (d g:List Int):Option (((List Int))):=
 (Nk6 a b c d g).map (fun(t:(List Int))=>t)
def Nnr (a b c d:List Int):Option (((List Int))):=
 (N9o b).bind (fun(t:Int)=>Not a b t c d)
def N9d (a:List Int):Option (((List Int))):=
 some a
def No0 (a b c d:List Int):Option (((List Int))):=
 (Nnr a b c d).bind (fun(t:(List Int))=>N9d t)
def Nk8 (a b c:List Int):Option (((List Int))):=
 (N8s b).bind (fun(t:(List Int))=>No0 a b c t)
@[irreducible] def N79 (a b c:List Int):Option ((List Int)):=
 Nk8 a b c
def Nbs (a b:List Int):Option ((Bool×(List Int))):=
 (Nb a).bind fun(c:Bool)=>cond (!c) (some (false,([]:List Int))) ((N5v b (((List.length a:Nat):Int))).bind fun(d:Bool)=>cond (!d) (some (false,([]:List Int))) ((N5c b).bind fun(g:List Int)=>(N79 a b g).bind fun(i:List Int)=>some (true,i)))
@[irreducible] def N3d (a b:List Int):Option (Bool×(List Int)):=
 Nbs a b
def N73 (a:List Int):Option (((List Int))):=
 (Nb a).bind fun(b:Bool)=>cond (!b) (some ([]:List Int)) ((N3e (((List.length a:Nat):Int))).bind fun(c:List Int)=>(N3d a c).bind fun(d:Bool×(List Int))=>some (d.2))
@[irreducible] def N37 (a:List Int):Option ((List Int)):=
 N73 a
def N8w (a:List Int):Option (Unit⊕Int):=
 (Nb a).bind fun(b:Bool)=>cond (!b) (some (Sum.inr (-1))) (some (Sum.inl ()))
def N6f (a:List Int) (b c:Int):Option ((Int×Int)⊕(Int×Int)):=
 (N3r a b c).bind fun(d:Bool×Int×Int)=>cond (d.1) (some (Sum.inl ((d.2.1),(d.2.2)))) (some (Sum.inr ((d.2.1),(d.2.2))))
def Nls (a:List Int):Option ((Int×Int)):=
 nloop (fun(s:Int×Int)=>((N6f a s.1 s.2).map (Sum.elim (fun(t:Int×Int)=>Sum.inl (t.1,t.2)) (fun(t:Int×Int)=>Sum.inr t)):Option ((Int×Int)⊕((Int×Int))))) LL (1,0)
def Njn (a:List Int):Option ((Int×Int)):=
 (Nls a).map (fun(t:Int×Int)=>(t.1,t.2))
def Nbr (a:Int):Option (Int):=
 some a
def Nmk (a:List Int):Option (Int):=
 (Njn a).bind (fun(t:Int×Int)=>Nbr t.1)
def Nl2 (a:List Int):Option (Int):=
 (N8w a).bind (Sum.elim (fun(t:Unit)=>Nmk a) (fun e=>some ((fun(t:Int)=>t) e)))
@[irreducible] def N62 (a:List Int):Option (Int):=
 Nl2 a
def Nfm (a:Int):Option (Int):=
 (shl .u64 1 (IntKind.wrap .i64 (a-1))).bind fun(b:Int)=>some b
@[irreducible] def N35 (a:Int):Option (Int):=
 Nfm a
def Nah:Option (Unit):=
 some ()
def N8m (a:List Int):Option (Int):=
 some (((List.length a:Nat):Int))
def N4o (a:List Int) (b c d g:Int):Option ((Int×Int)⊕Int):=
 cond (decide (g<d)) ((idx a g).bind fun(i:Int)=>cond (i==b) ((N35 (IntKind.wrap .i64 (g+1))).bind fun(j:Int)=>some (Sum.inl ((ior .u64 c j),(IntKind.wrap .i64 (g+1))))) (some (Sum.inl (c,(IntKind.wrap .i64 (g+1)))))) (some (Sum.inr c))
def Nn4 (a:List Int) (b c:Int):Option (Int):=
 nloop (fun(s:Int×Int)=>((N4o a b s.1 c s.2).map (Sum.elim (fun(t:Int×Int)=>Sum.inl (t.1,t.2)) (fun(t:Int)=>Sum.inr t)):Option ((Int×Int)⊕(Int)))) LL (0,0)
def Npb (a:List Int) (b c:Int):Option (Int):=
 (Nn4 a b c).map (fun(t:Int)=>t)
def Nox (a:List Int) (b:Int):Option (Int):=
 (N8m a).bind (fun(t:Int)=>Npb a b t)
def Ng7 (a:Int):Option (Int):=
 some a
def Nky (a:List Int) (b:Int):Option (Int):=
 (Nox a b).bind (fun(t:Int)=>Ng7 t)
def Nim (a:List Int) (b:Int):Option (Int):=
 (Nah).bind (fun(t:Unit)=>Nky a b)
@[irreducible] def N45 (a:List Int) (b:Int):Option (Int):=
 Nim a b
def Ngm (a:Int):Option (Int):=
 (N35 a).bind fun(b:Int)=>some (IntKind.wrap .u64 (b-1))
@[irreducible] def N2y (a:Int):Option (Int):=
 Ngm a
def N6r (a:List Int) (b:Int):Option ((Int×Int)):=
 (N45 a b).bind fun(c:Int)=>(N2y b).bind fun(d:Int)=>(N2y b).bind fun(g:Int)=>some ((iand .u64 c d),(iandn .u64 c g))
@[irreducible] def N3i (a:List Int) (b:Int):Option (Int×Int):=
 N6r a b
def Niu (a:Int):Option (Int):=
 (shr .u64 a 1).bind fun(b:Int)=>some (IntKind.wrap .u64 ((iand .u64 b 6148914691236517205)+(iand .u64 a 6148914691236517205)))
def Nds (a:Int):Option (Int):=
 (shr .u64 a 2).bind fun(b:Int)=>some (IntKind.wrap .u64 ((iand .u64 b 3689348814741910323)+(iand .u64 a 3689348814741910323)))
def Nhc (a:Int):Option (Int):=
 (shr .u64 a 4).bind fun(b:Int)=>some (iand .u64 (IntKind.wrap .u64 (b+a)) 1085102592571150095)
def Net (a:Int):Option (Int):=
 (shr .u64 a 8).bind fun(b:Int)=>some (IntKind.wrap .u64 (a+b))
def Ncu (a:Int):Option (Int):=
 (shr .u64 a 16).bind fun(b:Int)=>some (IntKind.wrap .u64 (a+b))
def Nf0 (a:Int):Option (Int):=
 (shr .u64 a 32).bind fun(b:Int)=>some (IntKind.wrap .u64 (a+b))
def Nh0 (a:Int):Option (Int):=
 some (iand .i64 (IntKind.wrap .i64 a) 127)
def Ni8 (a:Int):Option (Int):=
 some a
def N12w (a:Int):Option (Int):=
 (Nh0 a).bind (fun(t:Int)=>Ni8 t)
def Nwe (a:Int):Option (Int):=
 (Nf0 a).bind (fun(t:Int)=>N12w t)
def Nv9 (a:Int):Option (Int):=
 (Ncu a).bind (fun(t:Int)=>Nwe t)
def Nvx (a:Int):Option (Int):=
 (Net a).bind (fun(t:Int)=>Nv9 t)
def Nrl (a:Int):Option (Int):=
 (Nhc a).bind (fun(t:Int)=>Nvx t)
def Nxq (a:Int):Option (Int):=
 (Nds a).bind (fun(t:Int)=>Nrl t)
def Nq8 (a:Int):Option (Int):=
 (Niu a).bind (fun(t:Int)=>Nxq t)
@[irreducible] def Nb8 (a:Int):Option (Int):=
 Nq8 a
def Ndu (a:Int):Option (Int):=
 (Nb8 a).bind fun(b:Int)=>some b
@[irreducible] def N8u (a:Int):Option (Int):=
 Ndu a
def Nix (a:Int):Option (Int):=
 (N8u a).bind fun(b:Int)=>some b
@[irreducible] def N8h (a:Int):Option (Int):=
 Nix a
def Ncy (a:Int):Option (Int):=
 cond (a==0) (some 64) ((shr .u64 (IntKind.wrap .u64 ((iand .u64 a (IntKind.wrap .u64 (0-a)))*285870213051353865)) 58).bind fun(b:Int)=>(same (List.length tab1) 64).bind fun(c:Unit)=>(idx tab1 b).bind fun(d:Int)=>some (IntKind.wrap .i64 d))
@[irreducible] def N9r (a:Int):Option (Int):=
 Ncy a
def Nid (a:Int):Option (Int):=
 (N9r a).bind fun(b:Int)=>some b
@[irreducible] def Nb7 (a:Int):Option (Int):=
 Nid a
def Nec (a:Int):Option (((List Int))):=
 (N8h a).bind fun(b:Int)=>(mk 0 b).bind fun(c:Nat)=>some (List.replicate c (0:Int))
def Ni0:Option (Unit):=
 some ()
def Nh8 (a:Int) (b:List Int):Option ((Int×(List Int))⊕((List Int))):=
 cond (a !=0) ((Nb7 a).bind fun(c:Int)=>(room ((List.length b)+List.length ([(IntKind.wrap .i64 (c+1))]))).bind fun(d:Unit)=>some (Sum.inl ((iand .u64 a (IntKind.wrap .u64 (a-1))),(b++([(IntKind.wrap .i64 (c+1))]))))) (some (Sum.inr b))
def Nzy (a:Int) (b:List Int):Option (((List Int))):=
 nloop (fun(s:Int×(List Int))=>((Nh8 s.1 s.2).map (Sum.elim (fun(t:Int×(List Int))=>Sum.inl (t.1,t.2)) (fun(t:(List Int))=>Sum.inr t)):Option ((Int×(List Int))⊕(((List Int)))))) LL (a,b)
def Nuf (a:Int) (b:List Int):Option (((List Int))):=
 (Nzy a b).map (fun(t:(List Int))=>t)
def Nyt (a:Int) (b:List Int):Option (((List Int))):=
 (Ni0).bind (fun(t:Unit)=>Nuf a b)
def Nf7 (a:List Int):Option (((List Int))):=
 some a
def N15u (a:Int) (b:List Int):Option (((List Int))):=
 (Nyt a b).bind (fun(t:(List Int))=>Nf7 t)
def Nzz (a:Int):Option (((List Int))):=
 (Nec a).bind (fun(t:(List Int))=>N15u a t)
@[irreducible] def N4t (a:Int):Option ((List Int)):=
 Nzz a
def N6h (R0 R1:(List Int)→Int→(List Int)→Option ((List Int))) (a:List Int) (b:Int) (c:List Int):Option (((List Int))):=
 (N3i a b).bind fun(d:Int×Int)=>(R1 a (d.1) c).bind fun(g:List Int)=>(room ((List.length g)+List.length ([b]))).bind fun(i:Unit)=>(R1 a (d.2) (g++([b]))).bind fun(j:List Int)=>some j
def N178 (R0 R1:(List Int)→Int→(List Int)→Option ((List Int))) (a:List Int) (b:Int) (c:List Int):Option ((List Int)):=
 N6h R0 R1 a b c
def Nbq (R0 R1:(List Int)→Int→(List Int)→Option ((List Int))):Option (Unit):=
 some ()
def N9w (R0 R1:(List Int)→Int→(List Int)→Option ((List Int))) (a:Int):Option ((Int×(List Int))):=
 (N4t a).bind fun(b:List Int)=>some ((((List.length b:Nat):Int)),b)
def N63 (R0 R1:(List Int)→Int→(List Int)→Option ((List Int))) (a:List Int) (b c:Int) (d g:List Int):Option ((Int×(List Int))⊕((List Int))):=
 cond (decide (c<b)) ((inb c (List.length g)).bind fun(i:Nat)=>(g[i]?).bind fun(j:Int)=>(R0 a j d).bind fun(k:List Int)=>some (Sum.inl ((IntKind.wrap .i64 (c+1)),k))) (some (Sum.inr d))
def Noq (R0 R1:(List Int)→Int→(List Int)→Option ((List Int))) (a:List Int) (b:Int) (c d:List Int):Option (((List Int))):=
 nloop (fun(s:Int×(List Int))=>((N63 R0 R1 a b s.1 s.2 d).map (Sum.elim (fun(t:Int×(List Int))=>Sum.inl (t.1,t.2)) (fun(t:(List Int))=>Sum.inr t)):Option ((Int×(List Int))⊕(((List Int)))))) LL (0,c)
def Nki (R0 R1:(List Int)→Int→(List Int)→Option ((List Int))) (a:List Int) (b:Int) (c d:List Int):Option (((List Int))):=
 (Noq R0 R1 a b c d).map (fun(t:(List Int))=>t)
def Npc (R0 R1:(List Int)→Int→(List Int)→Option ((List Int))) (a:List Int) (b:Int) (c:List Int):Option (((List Int))):=
 (N9w R0 R1 b).bind (fun(t:Int×(List Int))=>Nki R0 R1 a t.1 c t.2)
def Nbt (R0 R1:(List Int)→Int→(List Int)→Option ((List Int))) (a:List Int):Option (((List Int))):=
 some a
def Nn7 (R0 R1:(List Int)→Int→(List Int)→Option ((List Int))) (a:List Int) (b:Int) (c:List Int):Option (((List Int))):=
 (Npc R0 R1 a b c).bind (fun(t:(List Int))=>Nbt R0 R1 t)
def Npf (R0 R1:(List Int)→Int→(List Int)→Option ((List Int))) (a:List Int) (b:Int) (c:List Int):Option (((List Int))):=
 (Nbq R0 R1).bind (fun(t:Unit)=>Nn7 R0 R1 a b c)
def N8g (R0 R1:(List Int)→Int→(List Int)→Option ((List Int))) (a:List Int) (b:Int) (c:List Int):Option ((List Int)):=
 Npf R0 R1 a b c
def N5:Nat→((List Int)→Int→(List Int)→Option ((List Int)))×((List Int)→Int→(List Int)→Option ((List Int)))
 |0=>((fun _ _ _=>none),(fun _ _ _=>none))
 |n+1=>((fun y0 y1 y2=>N178 (N5 n).1 (N5 n).2 y0 y1 y2),(fun y0 y1 y2=>N8g (N5 n).1 (N5 n).2 y0 y1 y2))
def Nq (n:Nat):(List Int)→Int→(List Int)→Option ((List Int)):=(N5 n).1
@[irreducible] def N6v (a:List Int) (b:Int) (c:List Int):Option ((List Int)):=Nq RR a b c
def N26 (n:Nat):(List Int)→Int→(List Int)→Option ((List Int)):=(N5 n).2
@[irreducible] def Nkh (a:List Int) (b:Int) (c:List Int):Option ((List Int)):=N26 RR a b c
def N6y (a:List Int):Option (((List Int))):=
 (Nb a).bind fun(b:Bool)=>cond (!b) (some ([]:List Int)) ((N62 a).bind fun(c:Int)=>(mk 0 (((List.length a:Nat):Int))).bind fun(d:Nat)=>(N6v a c (List.replicate d (0:Int))).bind fun(g:List Int)=>some g)
@[irreducible] def N3s (a:List Int):Option ((List Int)):=
 N6y a
def N7k (a:List Int):Option (((List Int))):=
 (N3s a).bind fun(b:List Int)=>(N3d a b).bind fun(c:Bool×(List Int))=>some (c.2)
@[irreducible] def N3z (a:List Int):Option ((List Int)):=
 N7k a
def N6n (a:List Int) (b c d:Int):Option (((List Int))):=
 cond (b==0) ((N3g a c).bind fun(g:Bool)=>cond (!g) (some ([]:List Int)) ((N3b a).bind fun(i:List Int)=>(inb (IntKind.wrap .i64 (c-1)) (List.length i)).bind fun(j:Nat)=>some (i.set j d))) (cond (b==1) ((N3b a).bind fun(k:List Int)=>(room ((List.length k)+List.length ([c]))).bind fun(l:Unit)=>some (k++([c]))) (cond (b==2) ((inc (IntKind.wrap .i64 ((((List.length a:Nat):Int))-1)) (List.length a)).bind fun(m:Nat)=>(N3b ((a.take m).drop 0)).bind fun(o:List Int)=>some o) (cond (b==3) ((N37 a).bind fun(p:List Int)=>some p) (cond (b==4) ((N3z a).bind fun(q:List Int)=>some q) (some ([]:List Int))))))
@[irreducible] def N32 (a:List Int) (b c d:Int):Option ((List Int)):=
 N6n a b c d
def N8z (a b:List Int):Option (Unit⊕Bool):=
 cond ((((List.length a:Nat):Int)) !=(((List.length b:Nat):Int))) (some (Sum.inr false)) (some (Sum.inl ()))
def N9y (a:List Int):Option (Int):=
 some (((List.length a:Nat):Int))
def N39 (a b:List Int) (c d:Int):Option (Int⊕Bool⊕Unit):=
 cond (decide (d<c)) ((idx a d).bind fun(g:Int)=>(idx b d).bind fun(i:Int)=>cond (g !=i) (some (Sum.inr (Sum.inl false))) (some (Sum.inl (IntKind.wrap .i64 (d+1))))) (some (Sum.inr (Sum.inr ())))
def Nn8 (a b:List Int) (c:Int):Option (Bool⊕Unit):=
 nloop (fun(s:Int)=>((N39 a b c s).map (Sum.elim (fun(t:Int)=>Sum.inl t) (Sum.elim (fun(t:Bool)=>Sum.inr (Sum.inl t)) (fun(t:Unit)=>Sum.inr (Sum.inr t)))):Option ((Int)⊕(Bool⊕Unit)))) LL 0
def Njd (a b:List Int) (c:Int):Option (Unit⊕Bool):=
 (Nn8 a b c).map (Sum.elim (fun(t:Bool)=>(Sum.inr t)) (fun(t:Unit)=>(Sum.inl ())))
def Nnf (a b:List Int):Option (Unit⊕Bool):=
 (N9y a).bind (fun(t:Int)=>Njd a b t)
def Ndy:Option (Bool):=
 some true
def Nk4 (a b:List Int):Option (Bool):=
 (Nnf a b).bind (Sum.elim (fun(t:Unit)=>Ndy) (fun e=>some ((fun(t:Bool)=>t) e)))
def Neu (a b:List Int):Option (Bool):=
 (N8z a b).bind (Sum.elim (fun(t:Unit)=>Nk4 a b) (fun e=>some ((fun(t:Bool)=>t) e)))
@[irreducible] def N3o (a b:List Int):Option (Bool):=
 Neu a b
def Neq (x1:List (List Int)):Option (List (List Int)):=cloneD x1
def N7a (a:List Int) (b:List (List Int)) (c d g:Int):Option ((Bool×(List Int)×(List (List Int)))):=
 (N32 a c d g).bind fun(i:List Int)=>(Nb i).bind fun(j:Bool)=>cond (!j) ((Nf a b).bind fun(k:(List Int)×(List (List Int)))=>some (false,(k.1),(k.2))) ((N3o i a).bind fun(l:Bool)=>cond l ((Nf a b).bind fun(m:(List Int)×(List (List Int)))=>some (false,(m.1),(m.2))) ((Neq b).bind fun(o:List (List Int))=>(room ((List.length o)+List.length ([a]))).bind fun(p:Unit)=>(inc (imax 0 (IntKind.wrap .i64 ((((List.length (o++([a])):Nat):Int))-8))) (List.length (o++([a])))).bind fun(q:Nat)=>(Nf i (((o++([a])).drop q).take ((List.length (o++([a])))-q))).bind fun(w:(List Int)×(List (List Int)))=>some (true,(w.1),(w.2))))
@[irreducible] def N3l (a:List Int) (b:List (List Int)) (c d g:Int):Option (Bool×(List Int)×(List (List Int))):=
 N7a a b c d g
def N6l (a:List Int) (b:List (List Int)) (c d g:Int):Option ((Bool×(List Int)×(List (List Int)))):=
 (N1y a b).bind fun(i:Bool)=>cond (!i) (some (false,([]:List Int),([]:List (List Int)))) ((N2v c d g).bind fun(j:Bool)=>cond (!j) ((Nf a b).bind fun(k:(List Int)×(List (List Int)))=>some (false,(k.1),(k.2))) (cond (c==5) ((N3w a b).bind fun(l:Bool×(List Int)×(List (List Int)))=>some ((l.1),(l.2.1),(l.2.2))) ((N3l a b c d g).bind fun(m:Bool×(List Int)×(List (List Int)))=>some ((m.1),(m.2.1),(m.2.2)))))
@[irreducible] def N2q (a:List Int) (b:List (List Int)) (c d g:Int):Option (Bool×(List Int)×(List (List Int))):=
 N6l a b c d g
def N72 (a:List Int) (b:List (List Int)) (c:ByteArray):Option ((ByteArray×(List Int)×(List (List Int)))):=
 (N1y a b).bind fun(d:Bool)=>cond (!d) (some (ByteArray.empty,([]:List Int),([]:List (List Int)))) ((N25 c).bind fun(g:Bool×Int×Int×Int)=>cond (!(g.1)) ((Nf a b).bind fun(i:(List Int)×(List (List Int)))=>none) ((N2q a b (g.2.1) (g.2.2.1) (g.2.2.2)).bind fun(j:Bool×(List Int)×(List (List Int)))=>cond (!(j.1)) (some ((ByteArray.mk #[110,111,116]),(j.2.1),(j.2.2))) (some ((ByteArray.mk #[111,107]),(j.2.1),(j.2.2)))))
@[irreducible] def N1v (a:List Int) (b:List (List Int)) (c:ByteArray):Option (ByteArray×(List Int)×(List (List Int))):=
 N72 a b c
def Nc3 (a:List Int) (b:List (List Int)) (c:List (Int×Int×Int×Unit)):Option (((List Int)×(List (List Int)))⊕(Int×(List Int)×(List (List Int)))):=
 (N1y a b).bind fun(d:Bool)=>cond (!d) (some (Sum.inr (0,([]:List Int),([]:List (List Int))))) (cond (decide ((((List.length c:Nat):Int))>40)) (some (Sum.inr (0,([]:List Int),([]:List (List Int))))) ((Nf a b).bind fun(g:(List Int)×(List (List Int)))=>some (Sum.inl ((g.1),(g.2)))))
def N9j (a:List (Int×Int×Int×Unit)):Option (Int):=
 some (((List.length a:Nat):Int))
def N4d (a:Int) (b:List (Int×Int×Int×Unit)) (c d:Int) (g:List Int) (i:List (List Int)):Option ((Int×Int×(List Int)×(List (List Int)))⊕(Int×(List Int)×(List (List Int)))):=
 cond (decide (d<c)) ((idx b d).bind fun(j:Int×Int×Int×Unit)=>(N2q g i (j.1) ((j.2).1) (((j.2).2).1)).bind fun(k:Bool×(List Int)×(List (List Int)))=>cond (k.1) (some (Sum.inl ((IntKind.wrap .i64 (a+1)),(IntKind.wrap .i64 (d+1)),(k.2.1),(k.2.2)))) (some (Sum.inl (a,(IntKind.wrap .i64 (d+1)),g,i)))) (some (Sum.inr (a,g,i)))
def Nks (a:List (Int×Int×Int×Unit)) (b:Int) (c:List Int) (d:List (List Int)):Option ((Int×(List Int)×(List (List Int)))):=
 nloop (fun(s:Int×Int×(List Int)×(List (List Int)))=>((N4d s.1 a b s.2.1 s.2.2.1 s.2.2.2).map (Sum.elim (fun(t:Int×Int×(List Int)×(List (List Int)))=>Sum.inl (t.1,t.2.1,t.2.2.1,t.2.2.2)) (fun(t:Int×(List Int)×(List (List Int)))=>Sum.inr t)):Option ((Int×Int×(List Int)×(List (List Int)))⊕((Int×(List Int)×(List (List Int))))))) LL (0,0,c,d)
def Nnb (a:List (Int×Int×Int×Unit)) (b:Int) (c:List Int) (d:List (List Int)):Option ((Int×(List Int)×(List (List Int)))):=
 (Nks a b c d).map (fun(t:Int×(List Int)×(List (List Int)))=>(t.1,t.2.1,t.2.2))
def Nle (a:List (Int×Int×Int×Unit)) (b:List Int) (c:List (List Int)):Option ((Int×(List Int)×(List (List Int)))):=
 (N9j a).bind (fun(t:Int)=>Nnb a t b c)
def N9v (a:Int) (b:List Int) (c:List (List Int)):Option ((Int×(List Int)×(List (List Int)))):=
 some (a,b,c)
def Nl3 (a:List (Int×Int×Int×Unit)) (b:List Int) (c:List (List Int)):Option ((Int×(List Int)×(List (List Int)))):=
 (Nle a b c).bind (fun(t:Int×(List Int)×(List (List Int)))=>N9v t.1 t.2.1 t.2.2)
def Ne0 (a:List Int) (b:List (List Int)) (c:List (Int×Int×Int×Unit)):Option ((Int×(List Int)×(List (List Int)))):=
 (Nc3 a b c).bind (Sum.elim (fun(t:(List Int)×(List (List Int)))=>Nl3 c t.1 t.2) (fun e=>some ((fun(t:Int×(List Int)×(List (List Int)))=>t) e)))
@[irreducible] def N29 (a:List Int) (b:List (List Int)) (c:List (Int×Int×Int×Unit)):Option (Int×(List Int)×(List (List Int))):=
 Ne0 a b c
def N9m (x1:List (Int×Int×Int×Unit)):Option (ByteArray):=jtextL (fun d:Int×Int×Int×Unit=>N3 d.1 d.2.1 d.2.2.1) x1
def N8p:Option (Bool):=
 (Nb ([0])).bind fun(a:Bool)=>cond a ((Nb ([1])).bind fun(b:Bool)=>some (!b)) (some false)
@[irreducible] def N2p:Option (Bool):=
 N8p
def N8c (a b:List Int):Option (Unit⊕Bool):=
 cond ((((List.length a:Nat):Int)) !=(((List.length b:Nat):Int))) (some (Sum.inr false)) (some (Sum.inl ()))
def Ncg:Option (Unit):=
 some ()
def N4p (a b:List Int) (c:Int):Option (Int⊕Bool⊕Unit):=
 cond (decide (c<(((List.length a:Nat):Int)))) ((idx a c).bind fun(d:Int)=>(idx b c).bind fun(g:Int)=>cond (d !=g) (some (Sum.inr (Sum.inl false))) (some (Sum.inl (IntKind.wrap .i64 (c+1))))) (some (Sum.inr (Sum.inr ())))
def Nou (a b:List Int):Option (Bool⊕Unit):=
 nloop (fun(s:Int)=>((N4p a b s).map (Sum.elim (fun(t:Int)=>Sum.inl t) (Sum.elim (fun(t:Bool)=>Sum.inr (Sum.inl t)) (fun(t:Unit)=>Sum.inr (Sum.inr t)))):Option ((Int)⊕(Bool⊕Unit)))) LL 0
def Nnu (a b:List Int):Option (Unit⊕Bool):=
 (Nou a b).map (Sum.elim (fun(t:Bool)=>(Sum.inr t)) (fun(t:Unit)=>(Sum.inl ())))
def Nj5 (a b:List Int):Option (Unit⊕Bool):=
 (Ncg).bind (fun(t:Unit)=>Nnu a b)
def N96:Option (Bool):=
 some true
def Nnk (a b:List Int):Option (Bool):=
 (Nj5 a b).bind (Sum.elim (fun(t:Unit)=>N96) (fun e=>some ((fun(t:Bool)=>t) e)))
def Ngl (a b:List Int):Option (Bool):=
 (N8c a b).bind (Sum.elim (fun(t:Unit)=>Nnk a b) (fun e=>some ((fun(t:Bool)=>t) e)))
@[irreducible] def N2s (a b:List Int):Option (Bool):=
 Ngl a b
def N9p (a b:List (List Int)):Option (Unit⊕Bool):=
 cond ((((List.length a:Nat):Int)) !=(((List.length b:Nat):Int))) (some (Sum.inr false)) (some (Sum.inl ()))
def Nc4:Option (Unit):=
 some ()
def N5p (a b:List (List Int)) (c:Int):Option (Int⊕Bool⊕Unit):=
 cond (decide (c<(((List.length a:Nat):Int)))) ((idx a c).bind fun(d:List Int)=>(idx b c).bind fun(g:List Int)=>(N2s d g).bind fun(i:Bool)=>cond (!i) (some (Sum.inr (Sum.inl false))) (some (Sum.inl (IntKind.wrap .i64 (c+1))))) (some (Sum.inr (Sum.inr ())))
def Nje (a b:List (List Int)):Option (Bool⊕Unit):=
 nloop (fun(s:Int)=>((N5p a b s).map (Sum.elim (fun(t:Int)=>Sum.inl t) (Sum.elim (fun(t:Bool)=>Sum.inr (Sum.inl t)) (fun(t:Unit)=>Sum.inr (Sum.inr t)))):Option ((Int)⊕(Bool⊕Unit)))) LL 0
def Nok (a b:List (List Int)):Option (Unit⊕Bool):=
 (Nje a b).map (Sum.elim (fun(t:Bool)=>(Sum.inr t)) (fun(t:Unit)=>(Sum.inl ())))
def Nmq (a b:List (List Int)):Option (Unit⊕Bool):=
 (Nc4).bind (fun(t:Unit)=>Nok a b)
def N7x:Option (Bool):=
 some true
def Nkx (a b:List (List Int)):Option (Bool):=
 (Nmq a b).bind (Sum.elim (fun(t:Unit)=>N7x) (fun e=>some ((fun(t:Bool)=>t) e)))
def Nih (a b:List (List Int)):Option (Bool):=
 (N9p a b).bind (Sum.elim (fun(t:Unit)=>Nkx a b) (fun e=>some ((fun(t:Bool)=>t) e)))
@[irreducible] def N3f (a b:List (List Int)):Option (Bool):=
 Nih a b
def N9a (a:List Int) (b:List (List Int)) (c:List Int) (d:List (List Int)):Option (Bool):=
 (N2s a c).bind fun(g:Bool)=>cond g ((N3f b d).bind fun(i:Bool)=>some i) (some false)
@[irreducible] def N5n (a:List Int) (b:List (List Int)) (c:List Int) (d:List (List Int)):Option (Bool):=
 N9a a b c d
def N9b (a b:List Int):Option ((ByteArray×Int×(List (Int×Int×Int×Unit)))⊕Bool):=
 cond (decide ((((List.length a:Nat):Int))>1048576)) (some (Sum.inr true)) (cond (decide ((((List.length b:Nat):Int))>1048576)) (some (Sum.inr true)) ((N4w a).bind fun(c:ByteArray)=>(N1l c).bind fun(d:Int×(List (Int×Int×Int×Unit)))=>(N3a c).bind fun(g:Int×(List (Int×Int×Int×Unit)))=>(N2t (d.2) (g.2)).bind fun(i:Bool)=>cond (!i) (some (Sum.inr false)) (cond ((d.1) !=(g.1)) (some (Sum.inr false)) (some (Sum.inl (c,(d.1),(d.2)))))))
def N7z:Option (Unit):=
 some ()
def N5d (a:ByteArray) (b:Int) (c:List (Int×Int×Int×Unit)):Option (Int⊕Bool⊕Unit):=
 cond (decide (b≤(((ByteArray.size a:Nat):Int)))) ((inc b (ByteArray.size a)).bind fun(d:Nat)=>(N1l (a.extract 0 d)).bind fun(g:Int×(List (Int×Int×Int×Unit)))=>cond (decide ((((List.length (g.2):Nat):Int))>(((List.length c:Nat):Int)))) (some (Sum.inr (Sum.inl false))) ((inc (imin (((List.length (g.2):Nat):Int)) (((List.length c:Nat):Int))) (List.length c)).bind fun(i:Nat)=>(N2t (g.2) ((c.drop 0).take (i-0))).bind fun(j:Bool)=>cond (!j) (some (Sum.inr (Sum.inl false))) (cond (decide ((g.1)>b)) (some (Sum.inr (Sum.inl false))) (some (Sum.inl (IntKind.wrap .i64 (b+1))))))) (some (Sum.inr (Sum.inr ())))
def Nn3 (a:ByteArray) (b:List (Int×Int×Int×Unit)):Option (Bool⊕Unit):=
 nloop (fun(s:Int)=>((N5d a s b).map (Sum.elim (fun(t:Int)=>Sum.inl t) (Sum.elim (fun(t:Bool)=>Sum.inr (Sum.inl t)) (fun(t:Unit)=>Sum.inr (Sum.inr t)))):Option ((Int)⊕(Bool⊕Unit)))) LL 0
def Nm5 (a:ByteArray) (b:List (Int×Int×Int×Unit)):Option (Unit⊕Bool):=
 (Nn3 a b).map (Sum.elim (fun(t:Bool)=>(Sum.inr t)) (fun(t:Unit)=>(Sum.inl ())))
def Nfd (a:ByteArray) (b:List (Int×Int×Int×Unit)):Option (Unit⊕Bool):=
 (N7z).bind (fun(t:Unit)=>Nm5 a b)
def N9q (a:List Int):Option (((List Int)×(List (List Int)))):=
 (N5f a).bind fun(b:(List Int)×(List (Int×Int×Int×Unit))×(List (List Int)))=>some ((b.1),(b.2.2))
def N9u:Option (Unit):=
 some ()
def N2n (a:Int) (b:List (Int×Int×Int×Unit)) (c:List Int) (d:List (List Int)) (g:List Int) (i:List (List Int)):Option ((Int×(List Int)×(List (List Int)))⊕Bool⊕((List Int)×(List (List Int)))):=
 cond (decide (a<(((List.length b:Nat):Int)))) ((Nu c d).bind fun(j:Bool)=>cond j ((inb a (List.length b)).bind fun(k:Nat)=>(b[k]?).bind fun(l:Int×Int×Int×Unit)=>(N3 (l.1) ((l.2).1) (((l.2).2).1)).bind fun(m:ByteArray)=>(N1v g i m).bind fun(o:ByteArray×(List Int)×(List (List Int)))=>cond (!(seqs (o.1) (ByteArray.mk #[111,107]))) (cond (!(seqs (o.1) (ByteArray.mk #[110,111,116]))) (some (Sum.inr (Sum.inl false))) (some (Sum.inl ((IntKind.wrap .i64 (a+1)),(o.2.1),(o.2.2))))) (some (Sum.inl ((IntKind.wrap .i64 (a+1)),(o.2.1),(o.2.2))))) (some (Sum.inr (Sum.inr (g,i))))) (some (Sum.inr (Sum.inr (g,i))))
def Nno (a:List (Int×Int×Int×Unit)) (b:List Int) (c:List (List Int)):Option (Bool⊕((List Int)×(List (List Int)))):=
 nloop (fun(s:Int×(List Int)×(List (List Int)))=>((N2n s.1 a b c s.2.1 s.2.2).map (Sum.elim (fun(t:Int×(List Int)×(List (List Int)))=>Sum.inl (t.1,t.2.1,t.2.2)) (Sum.elim (fun(t:Bool)=>Sum.inr (Sum.inl t)) (fun(t:(List Int)×(List (List Int)))=>Sum.inr (Sum.inr t)))):Option ((Int×(List Int)×(List (List Int)))⊕(Bool⊕((List Int)×(List (List Int))))))) LL (0,b,c)
def Nku (a:List (Int×Int×Int×Unit)) (b:List Int) (c:List (List Int)):Option (((List Int)×(List (List Int)))⊕Bool):=
 (Nno a b c).map (Sum.elim (fun(t:Bool)=>(Sum.inr t)) (fun(t:(List Int)×(List (List Int)))=>(Sum.inl (t.1,t.2))))
def Niy (a:List (Int×Int×Int×Unit)) (b:List Int) (c:List (List Int)):Option (((List Int)×(List (List Int)))⊕Bool):=
 (N9u).bind (fun(t:Unit)=>Nku a b c)
def N7v (a:ByteArray) (b:Int) (c:List (Int×Int×Int×Unit)) (d:List Int) (g:List (List Int)) (i:List Int) (j:List (List Int)):Option (Bool):=
 (N29 d g c).bind fun(k:Int×(List Int)×(List (List Int)))=>cond (decide (b≤(((ByteArray.size a:Nat):Int)))) ((inc b (ByteArray.size a)).bind fun(l:Nat)=>(N9m c).bind fun(m:ByteArray)=>cond (seqs m (a.extract 0 l)) ((Nu d g).bind fun(o:Bool)=>cond (!o) ((N2p).bind fun(p:Bool)=>some p) (cond (decide ((((List.length c:Nat):Int))>40)) ((N2p).bind fun(q:Bool)=>some q) ((N5n i j (k.2.1) (k.2.2)).bind fun(w:Bool)=>cond w ((N2p).bind fun(y:Bool)=>some y) (some false)))) (some false)) (some false)
def Nke (a:ByteArray) (b:Int) (c:List (Int×Int×Int×Unit)) (d:List Int) (g:List (List Int)):Option (Bool):=
 (Niy c d g).bind (Sum.elim (fun(t:(List Int)×(List (List Int)))=>N7v a b c d g t.1 t.2) (fun e=>some ((fun(t:Bool)=>t) e)))
def Nka (a:List Int) (b:ByteArray) (c:Int) (d:List (Int×Int×Int×Unit)):Option (Bool):=
 (N9q a).bind (fun(t:(List Int)×(List (List Int)))=>Nke b c d t.1 t.2)
def Nlh (a:List Int) (b:ByteArray) (c:Int) (d:List (Int×Int×Int×Unit)):Option (Bool):=
 (Nfd b d).bind (Sum.elim (fun(t:Unit)=>Nka a b c d) (fun e=>some ((fun(t:Bool)=>t) e)))
def Ngs (a b:List Int):Option (Bool):=
 (N9b a b).bind (Sum.elim (fun(t:ByteArray×Int×(List (Int×Int×Int×Unit)))=>Nlh b t.1 t.2.1 t.2.2) (fun e=>some ((fun(t:Bool)=>t) e)))
@[irreducible] def N2u (a b:List Int):Option (Bool):=
 Ngs a b
end Go.Rv
