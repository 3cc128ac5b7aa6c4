/-
  Plain functions,written by program for functions of the checked code. Conditions: none.
-/
import Derived.Test.YthjlnoplibeclaaGreatDoorFB
open Go.IntKind (wrap)
open ByteArray (empty)
open List (replicate)
set_option linter.all false
namespace Go.Rv
variable (a : Bool)(b : ByteArray)(c : List ByteArray)(d : Int)(e : List Int)(f : Nat)(g : Bool)(h : Nat)(i : ByteArray)(j : List (Int × Int × Int × Unit))(k l m n : ByteArray)(o p q : Int)(r : List (Int × Int × Unit))(s : ByteArray)(t u : Int)(v : List Int)(w : List (List Int))(x : Bool)(y : ByteArray)(z A : Nat)(B : Int)(C : List Bool)(D : Int)(E : List ByteArray)(F : List Int)(G : List (List Int))(H : Int)(I : List Int)(J : List (List Int))(K : Int)(L : List Int)(M : Int)
def wv:Option (((List Int))):=cond (decide ((e.length:Int)>2000)) ((inc 2000 (List.length e)).bind fun a=>some ((e.take a).drop 0)) (some e)
@[irreducible] def DR:=wv e
def ww:Option ((Int×Int)):=cond (decide (d<1)) (some (0,(wrap .i64 (o+1)))) (cond ((e.length:Int)==0) (some (0,(wrap .i64 (o+1)))) (cond (decide ((wrap .i64 ((wrap .i64 (o+1))-1))<(e.length:Int))) ((idx e (wrap .i64 ((wrap .i64 (o+1))-1))).bind fun a=>(rem (wrap .i64 a) d).bind fun b=>some (b,(wrap .i64 (o+1)))) ((rem (wrap .i64 ((wrap .i64 (o+1))-1)) (e.length:Int)).bind fun c=>(idx e c).bind fun f=>(rem (wrap .i64 ((wrap .i64 ((wrap .i64 ((wrap .i64 (o+1))-1))*7))+3)) (e.length:Int)).bind fun g=>(idx e g).bind fun h=>(quo .i64 (wrap .i64 ((wrap .i64 (o+1))-1)) (e.length:Int)).bind fun i=>(quo .i64 (wrap .i64 ((wrap .i64 ((wrap .i64 ((wrap .i64 ((wrap .i64 f)*131))+(wrap .i64 ((wrap .i64 h)*1117))))+(wrap .i64 ((wrap .i64 ((wrap .i64 (o+1))-1))*29))))+(wrap .i64 (i*53)))) 64).bind fun j=>(rem (oH .i64 (wrap .i64 ((wrap .i64 ((wrap .i64 ((wrap .i64 ((wrap .i64 f)*131))+(wrap .i64 ((wrap .i64 h)*1117))))+(wrap .i64 ((wrap .i64 ((wrap .i64 (o+1))-1))*29))))+(wrap .i64 (i*53)))) j) d).bind fun k=>some (k,(wrap .i64 (o+1))))))
@[irreducible] def bC:=ww d e o
def DS:Option ((Int×Int)):=(bC 2 e o).bind fun a=>some ((a.1),(a.2))
def DT:Option (Unit):=some ()
def wx:Option ((Int×Int×(List Int))⊕(Int×(List Int))):=cond (decide (p<=d)) (cond (o==0) ((bC p v B).bind fun a=>(inc (a.1) (List.length F)).bind fun b=>(room ((List.length ([]:List Int))+List.length ((F.drop 0).take (b-0)))).bind fun c=>(room ((List.length (([]:List Int)++((F.drop 0).take (b-0))))+List.length ([p]))).bind fun e=>(inc (a.1) (List.length F)).bind fun f=>(room ((List.length ((([]:List Int)++((F.drop 0).take (b-0)))++([p])))+List.length ((F.drop f).take ((List.length F)-f)))).bind fun g=>some (Sum.inl ((wrap .i64 (p+1)),(a.2),(((([]:List Int)++((F.drop 0).take (b-0)))++([p]))++((F.drop f).take ((List.length F)-f)))))) ((bC 3 v B).bind fun h=>cond ((h.1)==0) ((bC p v (h.2)).bind fun i=>(inc (i.1) (List.length F)).bind fun j=>(room ((List.length ([]:List Int))+List.length ((F.drop 0).take (j-0)))).bind fun k=>(room ((List.length (([]:List Int)++((F.drop 0).take (j-0))))+List.length ([p]))).bind fun l=>(inc (i.1) (List.length F)).bind fun m=>(room ((List.length ((([]:List Int)++((F.drop 0).take (j-0)))++([p])))+List.length ((F.drop m).take ((List.length F)-m)))).bind fun n=>some (Sum.inl ((wrap .i64 (p+1)),(i.2),(((([]:List Int)++((F.drop 0).take (j-0)))++([p]))++((F.drop m).take ((List.length F)-m)))))) ((inc (F.length:Int) (List.length F)).bind fun q=>(room ((List.length ([]:List Int))+List.length ((F.drop 0).take (q-0)))).bind fun r=>(room ((List.length (([]:List Int)++((F.drop 0).take (q-0))))+List.length ([p]))).bind fun s=>(inc (F.length:Int) (List.length F)).bind fun t=>(room ((List.length ((([]:List Int)++((F.drop 0).take (q-0)))++([p])))+List.length ((F.drop t).take ((List.length F)-t)))).bind fun u=>some (Sum.inl ((wrap .i64 (p+1)),(h.2),(((([]:List Int)++((F.drop 0).take (q-0)))++([p]))++((F.drop t).take ((List.length F)-t)))))))) (some (Sum.inr (B,F)))
def Ot:Option ((Int×(List Int))):=ai (fun(a:Int×Int×(List Int))=>((wx d o a.1 v a.2.1 a.2.2).map (Sum.elim (fun b=>Sum.inl (b.1,b.2.1,b.2.2)) (fun b=>Sum.inr b)))) LL (1,B,([]:List Int))
def Ou:=(Ot d o v B).map (fun a=>(a.1,a.2))
def Ov:=(DT).bind (fun a=>Ou d o v B)
def Ow:Option ((Int×(List Int))):=some (d,e)
def Ox:=(Ov d o v B).bind (fun a=>Ow a.1 a.2)
def DU:=(DS e o).bind (fun a=>Ox d a.1 e a.2)
@[irreducible] def wy:=DU d e o
def wz:Option ((Bool×Int)):=cond (decide (d>0)) ((bC d e o).bind fun a=>some (((a.1)==(wrap .i64 (d-1))),(a.2))) (some (false,o))
@[irreducible] def lN:=wz d e o
def DV:Option ((Int×Int×Int×(List Int)×(List Int))):=(bC 7 e o).bind fun a=>(wy (wrap .i64 (1+(a.1))) e (a.2)).bind fun b=>(mk (wrap .i64 (1+(a.1))) (wrap .i64 (1+(a.1)))).bind fun c=>(bC 2 e (b.1)).bind fun d=>some ((wrap .i64 (1+(a.1))),(d.1),(d.2),(b.2),(replicate c (0:Int)))
def DW:Option (Unit):=some ()
def wA:Option ((Int×Int×(List Int))⊕(Int×(List Int))):=cond (decide (p<d)) ((bC p v B).bind fun a=>cond (o==1) ((bC 2 v (a.2)).bind fun b=>cond ((b.1)==0) ((al p (List.length F)).bind fun c=>(F[c]?).bind fun e=>(al (wrap .i64 (p-1)) (List.length F)).bind fun f=>(F[f]?).bind fun g=>(al (wrap .i64 (e-1)) (List.length I)).bind fun h=>some (Sum.inl ((wrap .i64 (p+1)),(b.2),(I.set h g)))) ((al p (List.length F)).bind fun i=>(F[i]?).bind fun j=>(al (a.1) (List.length F)).bind fun k=>(F[k]?).bind fun l=>(al (wrap .i64 (j-1)) (List.length I)).bind fun m=>some (Sum.inl ((wrap .i64 (p+1)),(b.2),(I.set m l))))) ((al p (List.length F)).bind fun n=>(F[n]?).bind fun q=>(al (a.1) (List.length F)).bind fun r=>(F[r]?).bind fun s=>(al (wrap .i64 (q-1)) (List.length I)).bind fun t=>some (Sum.inl ((wrap .i64 (p+1)),(a.2),(I.set t s))))) (some (Sum.inr (B,I)))
def Oy:Option ((Int×(List Int))):=ai (fun(a:Int×Int×(List Int))=>((wA d o a.1 v a.2.1 F a.2.2).map (Sum.elim (fun b=>Sum.inl (b.1,b.2.1,b.2.2)) (fun b=>Sum.inr b)))) LL (1,B,I)
def Oz:=(Oy d o v B F I).map (fun a=>(a.1,a.2))
def OA:=(DW).bind (fun a=>Oz d o v B F I)
def DX:Option ((Int×(List Int))):=(lN d v B).bind fun a=>cond (a.1) ((bC 4 v (a.2)).bind fun b=>cond ((b.1)==0) (some ((b.2),([]:List Int))) (cond ((b.1)==1) (some ((b.2),([2,1,0]))) (cond ((b.1)==2) ((bC o v (b.2)).bind fun c=>(al (c.1) (List.length F)).bind fun e=>(room ((List.length (F.set e 0))+List.length ([0]))).bind fun f=>some ((c.2),((F.set e 0)++([0])))) ((bC 3 v (b.2)).bind fun g=>(al (g.1) (List.length ([1,(wrap .i64 (o+1)),(-1)]))).bind fun h=>(([1,(wrap .i64 (o+1)),(-1)])[h]?).bind fun i=>(al 0 (List.length F)).bind fun j=>some ((g.2),(F.set j i)))))) (some ((a.2),F))
def OB:=(OA o p v B F I).bind (fun a=>DX d o v a.1 a.2)
def DY:=(DV e o).bind (fun a=>OB d a.1 a.2.1 e a.2.2.1 a.2.2.2.1 a.2.2.2.2)
@[irreducible] def wB:=DY d e o
def wC:Option (Bool):=cond (decide (d>=o)) (some (decide (d<=p))) (some false)
@[irreducible] def gh:=wC d o p
def DZ:Option (Int⊕Bool):=(gh (e.length:Int) 1 8).bind fun a=>cond (!a) (some (Sum.inr false)) (some (Sum.inl (e.length:Int)))
def D0:Option (Unit):=some ()
def wD:Option (Unit⊕Int):=cond (decide (p<d)) (some (Sum.inl ())) (some (Sum.inr o))
def D1:Option ((Int×Int)⊕Bool):=(idx e q).bind fun a=>(gh a 0 o).bind fun b=>cond (!b) (some (Sum.inr false)) ((idx e q).bind fun c=>cond (c==(wrap .i64 (q+1))) (some (Sum.inr false)) ((idx e q).bind fun d=>cond (d==0) (some (Sum.inl ((wrap .i64 (p+1)),(wrap .i64 (q+1))))) (some (Sum.inl (p,(wrap .i64 (q+1)))))))
def D2:Option (Unit):=some ()
def wE:Option ((Int×Int)⊕Bool⊕Int):=cond (decide (p>0)) (cond (decide (q<o)) ((idx e (wrap .i64 (p-1))).bind fun a=>(gh a 0 o).bind fun b=>cond (!b) (some (Sum.inr (Sum.inl false))) (some (Sum.inl (a,(wrap .i64 (q+1)))))) (some (Sum.inr (Sum.inr p)))) (some (Sum.inr (Sum.inr p)))
def D3:Option (Bool⊕Int):=ai (fun(a:Int×Int)=>((wE e o a.1 a.2).map (Sum.elim (fun b=>Sum.inl (b.1,b.2)) (Sum.elim (fun b=>Sum.inr (Sum.inl b)) (fun b=>Sum.inr (Sum.inr b)))))) LL (p,0)
def OC:=(D3 e o p).map (Sum.elim (fun a=>(Sum.inr a)) (fun a=>(Sum.inl a)))
def OD:=(D2).bind (fun a=>OC e o p)
def D4:Option (Unit⊕Bool):=cond (decide (d>0)) (some (Sum.inr false)) (some (Sum.inl ()))
def OE:=(OD e o p).bind (Sum.elim (fun a=>D4 a) (fun b=>some ((fun a=>(Sum.inr a)) b)))
def OF:=(D1 e o p q).bind (Sum.elim (fun a=>(OE e o a.2).map (Sum.elim (fun b=>(Sum.inl a.1)) (fun b=>(Sum.inr b)))) (fun c=>some ((fun a=>(Sum.inr a)) c)))
def OG:=(OF e o p q).map (Sum.elim (fun a=>(Sum.inl a)) (fun a=>(Sum.inr a)))
def D5:Option (Int):=some (wrap .i64 (d+1))
def OH:=(OG e o p q).bind (Sum.elim (fun a=>(D5 q).map (fun b=>(Sum.inl (a,b)))) (fun c=>some ((fun a=>(Sum.inr a)) c)))
def wF:=(wD o p q).bind (Sum.elim (fun a=>(OH e o p q).map (Sum.elim (fun a=>(Sum.inl (a.1,a.2))) (fun a=>(Sum.inr (Sum.inl a))))) (fun b=>some ((fun a=>(Sum.inr (Sum.inr a))) b)))
def OI:Option (Bool⊕Int):=ai (fun(a:Int×Int)=>((wF e o a.1 a.2).map (Sum.elim (fun b=>Sum.inl (b.1,b.2)) (Sum.elim (fun b=>Sum.inr (Sum.inl b)) (fun b=>Sum.inr (Sum.inr b)))))) LL (0,0)
def OJ:=(OI e o).map (Sum.elim (fun a=>(Sum.inr a)) (fun a=>(Sum.inl a)))
def OK:=(D0).bind (fun a=>OJ e o)
def D6:Option (Bool):=some (d==1)
def OL:=(OK e o).bind (Sum.elim (fun a=>D6 a) (fun b=>some ((fun a=>a) b)))
def D7:=(DZ e).bind (Sum.elim (fun a=>OL e a) (fun b=>some ((fun a=>a) b)))
@[irreducible] def di:=D7 e
def D8:Option (Unit):=some ()
def D9:Option (Unit):=some ()
def Ea:Option (Unit⊕Unit):=cond (decide (o<(e.length:Int))) (some (Sum.inl ())) (some (Sum.inr ()))
def Eb:Option (Unit⊕Bool):=(idx e p).bind fun a=>(gh a 1 o).bind fun b=>cond (!b) (some (Sum.inr false)) (some (Sum.inl ()))
def wG:Option (Int⊕Bool⊕Unit):=cond (decide (p<o)) ((idx e p).bind fun a=>(idx e o).bind fun b=>cond (a==b) (some (Sum.inr (Sum.inl false))) (some (Sum.inl (wrap .i64 (p+1))))) (some (Sum.inr (Sum.inr ())))
def Ec:Option (Bool⊕Unit):=ai (fun(a:Int)=>((wG e o a).map (Sum.elim (fun b=>Sum.inl b) (Sum.elim (fun b=>Sum.inr (Sum.inl b)) (fun b=>Sum.inr (Sum.inr b)))))) LL 0
def OM:=(Ec e o).map (Sum.elim (fun a=>(Sum.inr a)) (fun a=>(Sum.inl ())))
def ON:=(Eb e o p).bind (Sum.elim (fun a=>OM e p) (fun b=>some ((fun a=>(Sum.inr a)) b)))
def OO:=(ON e o p).map (Sum.elim (fun a=>(Sum.inl ())) (fun a=>(Sum.inr a)))
def Ed:Option (Int):=some (wrap .i64 (d+1))
def OP:=(OO e o p).bind (Sum.elim (fun a=>(Ed p).map (fun a=>(Sum.inl a))) (fun b=>some ((fun a=>(Sum.inr a)) b)))
def Ee:=(Ea e p).bind (Sum.elim (fun a=>(OP e o p).map (Sum.elim (fun a=>(Sum.inl a)) (fun a=>(Sum.inr (Sum.inl a))))) (fun b=>some ((fun a=>(Sum.inr (Sum.inr a))) b)))
def OQ:Option (Bool⊕Unit):=ai (fun(a:Int)=>((Ee e o a).map (Sum.elim (fun b=>Sum.inl b) (Sum.elim (fun b=>Sum.inr (Sum.inl b)) (fun b=>Sum.inr (Sum.inr b)))))) LL 0
def OR:=(OQ e o).map (Sum.elim (fun a=>(Sum.inr a)) (fun a=>(Sum.inl ())))
def OS:=(D9).bind (fun a=>OR e o)
def Ef:Option (Bool):=(gh o 1 8).bind fun a=>cond a (some ((e.length:Int)==o)) (some false)
def OT:=(OS e o).bind (Sum.elim (fun a=>Ef e o) (fun b=>some ((fun a=>a) b)))
def Eg:=(D8).bind (fun a=>OT e o)
@[irreducible] def wH:=Eg e o
def Eh:Option (((List Int))⊕(Bool×(List Int))):=(di e).bind fun a=>cond (!a) (some (Sum.inr (false,([]:List Int)))) ((wH v (e.length:Int)).bind fun b=>cond (!b) (some (Sum.inr (false,([]:List Int)))) ((mk (wrap .i64 ((e.length:Int)+1)) (wrap .i64 ((e.length:Int)+1))).bind fun c=>some (Sum.inl (replicate c (0:Int)))))
def Ei:Option (Unit):=some ()
def rF:Option ((Int×(List Int))⊕((List Int))):=cond (decide (o<(e.length:Int))) ((idx e o).bind fun a=>(al a (List.length v)).bind fun b=>some (Sum.inl ((wrap .i64 (o+1)),(v.set b (wrap .i64 (o+1)))))) (some (Sum.inr v))
def OU:Option (((List Int))):=ai (fun(a:Int×(List Int))=>((rF e a.1 a.2).map (Sum.elim (fun b=>Sum.inl (b.1,b.2)) (fun b=>Sum.inr b)))) LL (0,v)
def OV:=(OU e v).map (fun a=>a)
def OW:=(Ei).bind (fun a=>OV e v)
def Ej:Option (Unit):=some ()
def Ek:Option (Unit):=some ()
def wI:Option ((Int×(List Int))⊕((List Int))):=cond (decide (B<(v.length:Int))) ((idx v B).bind fun a=>(idx e (wrap .i64 (a-1))).bind fun b=>(al b (List.length F)).bind fun c=>(F[c]?).bind fun d=>(room ((List.length I)+List.length ([d]))).bind fun f=>some (Sum.inl ((wrap .i64 (B+1)),(I++([d]))))) (some (Sum.inr I))
def OX:Option (((List Int))):=ai (fun(a:Int×(List Int))=>((wI e v a.1 F a.2).map (Sum.elim (fun b=>Sum.inl (b.1,b.2)) (fun b=>Sum.inr b)))) LL (0,([]:List Int))
def OY:=(OX e v F).map (fun a=>a)
def OZ:=(Ek).bind (fun a=>OY e v F)
def El:Option ((Bool×(List Int))):=some (true,e)
def O0:=(OZ e v F).bind (fun a=>El a)
def O1:=(Ej).bind (fun a=>O0 e v F)
def O2:=(OW v F).bind (fun a=>O1 e v a)
def Em:=(Eh e v).bind (Sum.elim (fun a=>O2 e v a) (fun b=>some ((fun a=>a) b)))
@[irreducible] def wJ:=Em e v
def En (R0:Int->Int->Int->(List Int)->Int->(List Int)->Option (Int×(List Int))) (a b c:Int) (d:List Int) (e:Int) (f:List Int):Option ((Int×Int×(List Int))⊕(Int×(List Int))):=cond (decide (a>b)) (some (Sum.inr (e,f))) ((bC (wrap .i64 ((wrap .i64 (b-a))+1)) d e).bind fun g=>(al (wrap .i64 ((wrap .i64 (a+(g.1)))-1)) (List.length f)).bind fun h=>some (Sum.inl ((wrap .i64 (a+(g.1))),(g.2),(f.set h c))))
def wK (R0:Int->Int->Int->(List Int)->Int->(List Int)->Option (Int×(List Int))) (a b:Int) (c:List Int) (d:Int) (e:List Int):Option ((Int×Int×(List Int))⊕(Int×(List Int))):=cond (decide (b<a)) ((bC (wrap .i64 (a-b)) c d).bind fun f=>(R0 b (wrap .i64 (b+(f.1))) a c (f.2) e).bind fun g=>some (Sum.inl ((wrap .i64 ((wrap .i64 (b+(f.1)))+1)),(g.1),(g.2)))) (some (Sum.inr (d,e)))
def O3 (R0:Int->Int->Int->(List Int)->Int->(List Int)->Option (Int×(List Int))) (a b:Int) (c:List Int) (d:Int) (e:List Int):=ai (fun(f:Int×Int×(List Int))=>((wK R0 a f.1 c f.2.1 f.2.2).map (Sum.elim (fun g=>Sum.inl (g.1,g.2.1,g.2.2)) (fun g=>Sum.inr g)))) LL (b,d,e)
def O4 (R0:Int->Int->Int->(List Int)->Int->(List Int)->Option (Int×(List Int))) (a b:Int) (c:List Int) (d:Int) (e:List Int):=(O3 R0 a b c d e).map (fun f=>(f.1,f.2))
def Eo (R0:Int->Int->Int->(List Int)->Int->(List Int)->Option (Int×(List Int))) (a:Int):Option (Int):=some (wrap .i64 (a+1))
def wL (R0:Int->Int->Int->(List Int)->Int->(List Int)->Option (Int×(List Int))) (a b c:Int) (d:List Int) (e:Int) (f:List Int):Option ((Int×Int×(List Int))⊕(Int×(List Int))):=cond (decide (c<=a)) ((bC (wrap .i64 ((wrap .i64 (a-c))+1)) d e).bind fun g=>(R0 c (wrap .i64 (c+(g.1))) b d (g.2) f).bind fun h=>some (Sum.inl ((wrap .i64 ((wrap .i64 (c+(g.1)))+1)),(h.1),(h.2)))) (some (Sum.inr (e,f)))
def O5 (R0:Int->Int->Int->(List Int)->Int->(List Int)->Option (Int×(List Int))) (a b c:Int) (d:List Int) (e:Int) (f:List Int):=ai (fun(g:Int×Int×(List Int))=>((wL R0 a b g.1 d g.2.1 g.2.2).map (Sum.elim (fun h=>Sum.inl (h.1,h.2.1,h.2.2)) (fun h=>Sum.inr h)))) LL (c,e,f)
def O6 (R0:Int->Int->Int->(List Int)->Int->(List Int)->Option (Int×(List Int))) (a b c:Int) (d:List Int) (e:Int) (f:List Int):=(O5 R0 a b c d e f).map (fun g=>(g.1,g.2))
def O7 (R0:Int->Int->Int->(List Int)->Int->(List Int)->Option (Int×(List Int))) (a b:Int) (c:List Int) (d:Int) (e:List Int):=(Eo R0 b).bind (fun f=>O6 R0 a b f c d e)
def O8 (R0:Int->Int->Int->(List Int)->Int->(List Int)->Option (Int×(List Int))) (a b c:Int) (d:List Int) (e:Int) (f:List Int):=(O4 R0 b c d e f).bind (fun g=>O7 R0 a b d g.1 g.2)
def Ep (R0:Int->Int->Int->(List Int)->Int->(List Int)->Option (Int×(List Int))) (a b c:Int) (d:List Int) (f:Int) (g:List Int):=(En R0 a b c d f g).bind (Sum.elim (fun e=>(O8 R0 b e.1 a d e.2.1 e.2.2).map (fun h=>(Sum.inl (h.1,h.2)))) (fun i=>some ((fun e=>(Sum.inr e)) i)))
def O9 (R0:Int->Int->Int->(List Int)->Int->(List Int)->Option (Int×(List Int))) (a b c:Int) (d:List Int) (e:Int) (f:List Int):=(Ep R0 a b c d e f).map (Sum.elim (fun g=>(g.1,g.2)) (fun g=>g))
def nv:Nat->(Int->Int->Int->(List Int)->Int->(List Int)->Option (Int×(List Int)))
 |0=>(fun _ _ _ _ _ _=>none)
 |n+1=>(fun N O P Q R S=>O9 (nv n) N O P Q R S)
def pp (n:Nat):Int->Int->Int->(List Int)->Int->(List Int)->Option (Int×(List Int)):=(nv n)
@[irreducible] def rG:=pp RR d o p v B F
def rH:Option ((Int×(List Int))):=(bC 3 e o).bind fun a=>cond ((a.1)==0) ((wB d e (a.2)).bind fun b=>some ((b.1),(b.2))) ((bC 7 e (a.2)).bind fun c=>(mk (wrap .i64 (1+(c.1))) (wrap .i64 (1+(c.1)))).bind fun f=>(rG 1 (wrap .i64 (1+(c.1))) 0 e (c.2) (replicate f (0:Int))).bind fun g=>some ((g.1),(g.2)))
@[irreducible] def pq:=rH d e o
def rI:Option ((Int×(List Int))):=(wB d e o).bind fun a=>(bC 2 e (a.1)).bind fun b=>cond ((b.1)==0) ((di (a.2)).bind fun c=>cond c ((wy (List.length (a.2):Int) e (b.2)).bind fun f=>(wJ (a.2) (f.2)).bind fun g=>some ((f.1),(g.2))) ((bC 3 e (b.2)).bind fun h=>cond ((h.1)==0) ((pq d e (h.2)).bind fun i=>some ((i.1),(i.2))) (some ((h.2),(a.2))))) ((bC 3 e (b.2)).bind fun j=>cond ((j.1)==0) ((pq d e (j.2)).bind fun k=>some ((k.1),(k.2))) (some ((j.2),(a.2))))
@[irreducible] def wM:=rI d e o
def rJ:Option ((Bool×(List Int))):=(di e).bind fun a=>cond (!a) (some (false,([]:List Int))) ((room ((List.length ([]:List Int))+List.length e)).bind fun b=>some (true,(([]:List Int)++e)))
@[irreducible] def wN:=rJ e
def rK:Option ((Int×Int×Int×Int)):=(bC 8 v B).bind fun a=>(idx ([0,0,1,1,2,3,4,5]) (a.1)).bind fun b=>(bC 60 v (a.2)).bind fun c=>(quo .i64 (c.1) 59).bind fun d=>cond ((wrap .i64 (b+(wrap .i64 (d*6))))==0) ((bC (imax (e.length:Int) 1) v (c.2)).bind fun f=>(bC (wrap .i64 ((e.length:Int)+1)) v (f.2)).bind fun g=>(lN 40 v (g.2)).bind fun h=>cond (h.1) ((bC 3 v (h.2)).bind fun i=>(al (i.1) (List.length ([(-1),9,100]))).bind fun j=>(([(-1),9,100])[j]?).bind fun k=>some ((i.2),(wrap .i64 (b+(wrap .i64 (d*6)))),(wrap .i64 (1+(f.1))),k)) (some ((h.2),(wrap .i64 (b+(wrap .i64 (d*6)))),(wrap .i64 (1+(f.1))),(g.1)))) (cond ((wrap .i64 (b+(wrap .i64 (d*6))))==1) ((bC (wrap .i64 ((e.length:Int)+1)) v (c.2)).bind fun l=>(bC 9 v (l.2)).bind fun m=>(quo .i64 (m.1) 8).bind fun n=>(lN 40 v (m.2)).bind fun o=>cond (o.1) ((bC 3 v (o.2)).bind fun p=>(al (p.1) (List.length ([(-1),9,100]))).bind fun q=>(([(-1),9,100])[q]?).bind fun r=>some ((p.2),(wrap .i64 (b+(wrap .i64 (d*6)))),(wrap .i64 ((l.1)+n)),r)) (some ((o.2),(wrap .i64 (b+(wrap .i64 (d*6)))),(wrap .i64 ((l.1)+n)),0))) ((lN 40 v (c.2)).bind fun s=>cond (s.1) ((bC 3 v (s.2)).bind fun t=>(al (t.1) (List.length ([(-1),9,100]))).bind fun u=>(([(-1),9,100])[u]?).bind fun w=>some ((t.2),(wrap .i64 (b+(wrap .i64 (d*6)))),0,w)) (some ((s.2),(wrap .i64 (b+(wrap .i64 (d*6)))),0,0))))
@[irreducible] def ky:=rK e v B
def Er:Option (Unit):=some ()
def Es:Option (Unit):=some ()
def pr:Option (Int⊕Bool⊕Unit):=cond (decide (d<(w.length:Int))) ((idx w d).bind fun a=>(di a).bind fun b=>cond (!b) (some (Sum.inr (Sum.inl false))) (some (Sum.inl (wrap .i64 (d+1))))) (some (Sum.inr (Sum.inr ())))
def Pb:Option (Bool⊕Unit):=ai (fun(a:Int)=>((pr a w).map (Sum.elim (fun b=>Sum.inl b) (Sum.elim (fun b=>Sum.inr (Sum.inl b)) (fun b=>Sum.inr (Sum.inr b)))))) LL 0
def Pc:=(Pb w).map (Sum.elim (fun a=>(Sum.inr a)) (fun a=>(Sum.inl ())))
def Pd:=(Es).bind (fun a=>Pc w)
def Et:Option (Bool):=(di e).bind fun a=>cond a (some (decide ((w.length:Int)<=8))) (some false)
def Pe:=(Pd w).bind (Sum.elim (fun a=>Et e w) (fun b=>some ((fun a=>a) b)))
def wO:=(Er).bind (fun a=>Pe e w)
@[irreducible] def nw:=wO e w
def Eu:Option (((List Int))):=(room ((List.length ([]:List Int))+List.length e)).bind fun a=>some (([]:List Int)++e)
def Ev:Option (Unit):=some ()
def rL:Option ((Int×(List (List Int)))⊕((List (List Int)))):=cond (decide (d<(w.length:Int))) ((idx w d).bind fun a=>(room (List.length a)).bind fun b=>(room (List.length G+1)).bind fun c=>some (Sum.inl ((wrap .i64 (d+1)),((G++ [[]]).set (List.length G) a)))) (some (Sum.inr G))
def Pf:Option (((List (List Int)))):=ai (fun(a:Int×(List (List Int)))=>((rL a.1 w a.2).map (Sum.elim (fun b=>Sum.inl (b.1,b.2)) (fun b=>Sum.inr b)))) LL (0,([]:List (List Int)))
def Pg:=(Pf w).map (fun a=>a)
def Ph:=(Ev).bind (fun a=>Pg w)
def Ew:Option (((List Int)×(List (List Int)))):=some (e,w)
def Pj:=(Ph w).bind (fun a=>Ew F a)
def wP:=(Eu e).bind (fun a=>Pj w a)
@[irreducible] def rM:=wP e w
def Ex:Option (Int):=some (e.length:Int)
def Ey:Option (Int):=some (wrap .i64 (d-1))
def nx:Option ((Int×(List Int))⊕((List Int))):=cond (decide (p>=0)) ((di e).bind fun a=>cond a ((idx e p).bind fun b=>cond (b==0) ((room ((List.length v)+List.length ([0]))).bind fun c=>some (Sum.inl ((wrap .i64 (p-1)),(v++([0]))))) ((idx e p).bind fun d=>(room ((List.length v)+List.length ([(wrap .i64 ((wrap .i64 (o+1))-d))]))).bind fun f=>some (Sum.inl ((wrap .i64 (p-1)),(v++([(wrap .i64 ((wrap .i64 (o+1))-d))])))))) (some (Sum.inr v))) (some (Sum.inr v))
def Pk:=ai (fun(a:Int×(List Int))=>((nx e o a.1 a.2).map (Sum.elim (fun b=>Sum.inl (b.1,b.2)) (fun b=>Sum.inr b)))) LL (p,([]:List Int))
def Pl:=(Pk e o p).map (fun a=>a)
def Pm:=(Ey o).bind (fun a=>Pl e o a)
def Ez:Option (((List Int))):=some e
def Pn:=(Pm e o).bind (fun a=>Ez a)
def wQ:=(Ex e).bind (fun a=>Pn e a)
@[irreducible] def ps:=wQ e
def EA:Option (Unit):=some ()
def EB:Option (Unit):=some ()
def pt:Option (Int⊕Int⊕Unit):=cond (decide (o<(e.length:Int))) ((di e).bind fun a=>cond a ((idx e o).bind fun b=>cond (b==0) (some (Sum.inr (Sum.inl (wrap .i64 (o+1))))) (some (Sum.inl (wrap .i64 (o+1))))) (some (Sum.inr (Sum.inr ())))) (some (Sum.inr (Sum.inr ())))
def Po:Option (Int⊕Unit):=ai (fun(a:Int)=>((pt e a).map (Sum.elim (fun b=>Sum.inl b) (Sum.elim (fun b=>Sum.inr (Sum.inl b)) (fun b=>Sum.inr (Sum.inr b)))))) LL 0
def Pp:=(Po e).map (Sum.elim (fun a=>(Sum.inr a)) (fun a=>(Sum.inl ())))
def Pq:=(EB).bind (fun a=>Pp e)
def EC:Option (Int):=some (-1)
def Pr:=(Pq e).bind (Sum.elim (fun a=>EC) (fun b=>some ((fun a=>a) b)))
def ED:=(EA).bind (fun a=>Pr e)
@[irreducible] def rN:=ED e
def EE (R0:(List Int)->Int->Option ((List Int))):Option (Unit):=some ()
def EF (R0:(List Int)->Int->Option ((List Int))):Option (Unit):=some ()
def rO (R0:(List Int)->Int->Option ((List Int))) (a:List Int) (b c:Int) (d:List Int):Option ((Int×(List Int))⊕((List Int))):=cond (decide (c<b)) ((idx a (wrap .i64 (c-1))).bind fun e=>cond (e==b) ((R0 a c).bind fun f=>(room ((List.length d)+List.length f)).bind fun g=>some (Sum.inl ((wrap .i64 (c+1)),(d++f)))) (some (Sum.inl ((wrap .i64 (c+1)),d)))) (some (Sum.inr d))
def Ps (R0:(List Int)->Int->Option ((List Int))) (a:List Int) (b:Int):Option (((List Int))):=ai (fun(c:Int×(List Int))=>((rO R0 a b c.1 c.2).map (Sum.elim (fun d=>Sum.inl (d.1,d.2)) (fun d=>Sum.inr d)))) LL (1,([]:List Int))
def Pt (R0:(List Int)->Int->Option ((List Int))) (a:List Int) (b:Int):=(Ps R0 a b).map (fun c=>c)
def Pu (R0:(List Int)->Int->Option ((List Int))) (a:List Int) (b:Int):=(EF R0).bind (fun c=>Pt R0 a b)
def EG (R0:(List Int)->Int->Option ((List Int))) (a:Int) (b:List Int):Option (((List Int))):=(room ((List.length b)+List.length ([a]))).bind fun c=>some (b++([a]))
def EH (R0:(List Int)->Int->Option ((List Int))) (a:Int):Option (Int):=some (wrap .i64 (a+1))
def rP (R0:(List Int)->Int->Option ((List Int))) (a:List Int) (b c:Int) (d:List Int):Option ((Int×(List Int))⊕((List Int))):=cond (decide (c<=(a.length:Int))) ((idx a (wrap .i64 (c-1))).bind fun e=>cond (e==b) ((R0 a c).bind fun f=>(room ((List.length d)+List.length f)).bind fun g=>some (Sum.inl ((wrap .i64 (c+1)),(d++f)))) (some (Sum.inl ((wrap .i64 (c+1)),d)))) (some (Sum.inr d))
def Pv (R0:(List Int)->Int->Option ((List Int))) (a:List Int) (b c:Int) (d:List Int):=ai (fun(e:Int×(List Int))=>((rP R0 a b e.1 e.2).map (Sum.elim (fun f=>Sum.inl (f.1,f.2)) (fun f=>Sum.inr f)))) LL (c,d)
def Pw (R0:(List Int)->Int->Option ((List Int))) (a:List Int) (b c:Int) (d:List Int):=(Pv R0 a b c d).map (fun e=>e)
def Px (R0:(List Int)->Int->Option ((List Int))) (a:List Int) (b:Int) (c:List Int):=(EH R0 b).bind (fun d=>Pw R0 a b d c)
def EI (R0:(List Int)->Int->Option ((List Int))) (a:List Int):Option (((List Int))):=some a
def Py (R0:(List Int)->Int->Option ((List Int))) (a:List Int) (b:Int) (c:List Int):=(Px R0 a b c).bind (fun d=>EI R0 d)
def Pz (R0:(List Int)->Int->Option ((List Int))) (a:List Int) (b:Int) (c:List Int):=(EG R0 b c).bind (fun d=>Py R0 a b d)
def PA (R0:(List Int)->Int->Option ((List Int))) (a:List Int) (b:Int):=(Pu R0 a b).bind (fun c=>Pz R0 a b c)
def EJ (R0:(List Int)->Int->Option ((List Int))) (a:List Int) (b:Int):=(EE R0).bind (fun c=>PA R0 a b)
def EL (R0:(List Int)->Int->Option ((List Int))) (a:List Int) (b:Int):Option ((List Int)):=EJ R0 a b
def ny:Nat->((List Int)->Int->Option ((List Int)))
 |0=>(fun _ _=>none)
 |n+1=>(fun N O=>EL (ny n) N O)
def lO (n:Nat):(List Int)->Int->Option ((List Int)):=(ny n)
@[irreducible] def rQ:=lO RR e o
def wR:Option (((List Int))):=(di e).bind fun a=>cond (!a) (some ([]:List Int)) ((rN e).bind fun b=>(rQ e b).bind fun c=>some c)
@[irreducible] def rR:=wR e
def wS:Option (((List Int))):=(rR e).bind fun a=>(wJ e a).bind fun b=>some (b.2)
@[irreducible] def rS:=wS e
def rT:Option ((Nat×(List Int))):=(room ((List.length ([]:List Int))+List.length e)).bind fun a=>cond (o==0) ((gh p 1 (e.length:Int)).bind fun b=>cond b ((al (wrap .i64 (p-1)) (List.length (([]:List Int)++e))).bind fun c=>some ((List.length ((([]:List Int)++e).set c q)),((([]:List Int)++e).set c q))) (cond ((o==1)&&((p==p)&&((q==0)&&true))) ((room ((List.length (([]:List Int)++e))+List.length ([p]))).bind fun d=>some ((List.length ((([]:List Int)++e)++([p]))),((([]:List Int)++e)++([p])))) (cond ((o==2)&&((p==0)&&((q==0)&&true))) ((inc (wrap .i64 ((List.length (([]:List Int)++e):Int)-1)) (List.length (([]:List Int)++e))).bind fun f=>some ((f-0),(([]:List Int)++e))) (cond ((o==3)&&((p==0)&&((q==0)&&true))) ((ps e).bind fun g=>some ((List.length g),g)) (cond ((o==4)&&((p==0)&&((q==0)&&true))) ((rS e).bind fun h=>some ((List.length h),h)) (some ((List.length ([]:List Int)),([]:List Int)))))))) (cond ((o==1)&&((p==p)&&((q==0)&&true))) ((room ((List.length (([]:List Int)++e))+List.length ([p]))).bind fun i=>some ((List.length ((([]:List Int)++e)++([p]))),((([]:List Int)++e)++([p])))) (cond ((o==2)&&((p==0)&&((q==0)&&true))) ((inc (wrap .i64 ((List.length (([]:List Int)++e):Int)-1)) (List.length (([]:List Int)++e))).bind fun j=>some ((j-0),(([]:List Int)++e))) (cond ((o==3)&&((p==0)&&((q==0)&&true))) ((ps e).bind fun k=>some ((List.length k),k)) (cond ((o==4)&&((p==0)&&((q==0)&&true))) ((rS e).bind fun l=>some ((List.length l),l)) (some ((List.length ([]:List Int)),([]:List Int)))))))
@[irreducible] def pu:=rT e o p q
def EM:Option ((Nat×Bool×(List Int)×(List Int)×(List (List Int)))⊕(Bool×(List Int)×(List (List Int)))):=(nw e w).bind fun a=>cond (!a) (some (Sum.inr (false,([]:List Int),([]:List (List Int))))) ((rM e w).bind fun b=>cond ((B==5)&&((D==0)&&((H==0)&&true))) (cond (decide ((w.length:Int)>0)) ((al (wrap .i64 ((List.length (b.2):Int)-1)) (List.length (b.2))).bind fun c=>(((b.2))[c]?).bind fun d=>(inc (wrap .i64 ((List.length (b.2):Int)-1)) (List.length (((b.2)).set c []))).bind fun f=>(sure (Nat.blt c 0||Nat.ble f c)).bind fun g=>some (Sum.inr (true,d,(((((b.2)).set c []).take f).drop 0)))) ((pu e B D H).bind fun h=>some (Sum.inl ((h.1),(((((h.1):Nat):Int))==(e.length:Int)),(h.2),(b.1),(b.2))))) ((pu e B D H).bind fun i=>some (Sum.inl ((i.1),(((((i.1):Nat):Int))==(e.length:Int)),(i.2),(b.1),(b.2)))))
def EN:Option (Unit):=some ()
def pw:Option ((Bool×Int)⊕Bool):=cond (decide (o<(((f:Nat):Int)))) (cond g ((al o f).bind fun a=>(F[(0+a)]?).bind fun b=>(idx v o).bind fun c=>some (Sum.inl ((b==c),(wrap .i64 (o+1))))) (some (Sum.inr g))) (some (Sum.inr g))
def EP:Option (Bool):=ai (fun(a:Bool×Int)=>((pw f a.1 a.2 v F).map (Sum.elim (fun b=>Sum.inl (b.1,b.2)) (fun b=>Sum.inr b)))) LL (g,0)
def PB:=(EP f g v F).map (fun a=>a)
def PC:=(EN).bind (fun a=>PB f g v F)
def EQ:Option ((Bool×(List Int)×(List (List Int)))):=cond g (some (false,F,G)) ((di ((v.drop 0).take f)).bind fun a=>cond (!a) (some (false,F,G)) ((room (List.length G+1)).bind fun b=>cond (decide ((List.length ((G++ [[]]).set (List.length G) F):Int)>8)) ((inc 1 (List.length ((G++ [[]]).set (List.length G) F))).bind fun c=>(room ((List.length ([]:List Int))+List.length ((v.drop 0).take f))).bind fun d=>some (true,(([]:List Int)++((v.drop 0).take f)),((((G++ [[]]).set (List.length G) F).take (List.length ((G++ [[]]).set (List.length G) F))).drop c))) ((room ((List.length ([]:List Int))+List.length ((v.drop 0).take f))).bind fun e=>some (true,(([]:List Int)++((v.drop 0).take f)),((G++ [[]]).set (List.length G) F)))))
def ER:=(PC f g v F).bind (fun a=>EQ f a F I J)
def wT:=(EM e w B D H).bind (Sum.elim (fun a=>ER a.1 a.2.1 e a.2.2.1 a.2.2.2.1 a.2.2.2.2) (fun b=>some ((fun a=>a) b)))
@[irreducible] def rU:=wT e w B D H
def ES:Option ((Int×(List Int))):=(wM 0 e o).bind fun a=>(wN (a.2)).bind fun b=>some ((a.1),(b.2))
def ET:Option ((Int×Int)):=(bC 6 e o).bind fun a=>some ((a.1),(a.2))
def wU:Option ((Int×Int×(List Int)×(List (List Int)))⊕(Int×(List Int)×(List (List Int)))):=cond (decide (d>0)) ((ky v e o).bind fun a=>(rU v w (a.2.1) (a.2.2.1) (a.2.2.2)).bind fun b=>cond (b.1) (some (Sum.inl ((wrap .i64 (d-1)),(a.1),(b.2.1),(b.2.2)))) (some (Sum.inl ((wrap .i64 (d-1)),(a.1),v,w)))) (some (Sum.inr (o,v,w)))
def PD:=ai (fun(a:Int×Int×(List Int)×(List (List Int)))=>((wU a.1 e a.2.1 a.2.2.1 a.2.2.2).map (Sum.elim (fun b=>Sum.inl (b.1,b.2.1,b.2.2.1,b.2.2.2)) (fun b=>Sum.inr b)))) LL (d,o,v,([]:List (List Int)))
def PE:=(PD d e o v).map (fun a=>(a.1,a.2.1,a.2.2))
def PF:=(ET e o).bind (fun a=>PE a.1 e a.2 v)
def EU:Option ((Int×(List Int)×(List (List Int)))):=(lN d e o).bind fun a=>cond (a.1) ((bC 3 e (a.2)).bind fun b=>cond ((b.1)==0) (some ((b.2),([1]),w)) (cond ((b.1)==1) ((room (List.length w+1)).bind fun c=>some ((b.2),v,((w++ [[]]).set (List.length w) ([]:List Int)))) (some ((b.2),([]:List Int),([]:List (List Int)))))) (some ((a.2),v,w))
def PG:=(PF e o v).bind (fun a=>EU d e a.1 a.2.1 a.2.2)
def wV:=(ES e o).bind (fun a=>PG d e a.1 a.2)
@[irreducible] def wW:=wV d e o
def rV (R0:Int->Option ByteArray) (a:Int):Option (ByteArray):=cond (decide (a<10)) (some (bytesOf ([(wrap .u8 (wrap .i64 (48+(imax a 0))))]))) ((quo .i64 a 10).bind fun b=>(rem a 10).bind fun c=>(R0 b).bind fun d=>(cat d (bytesOf ([(wrap .u8 (wrap .i64 (48+c)))]))).bind fun e=>some e)
def EV (R0:Int->Option ByteArray) (a:Int):Option (ByteArray):=rV R0 a
def kz:Nat->(Int->Option ByteArray)
 |0=>(fun _=>none)
 |n+1=>(fun N=>EV (kz n) N)
def rW (n:Nat):Int->Option ByteArray:=(kz n)
@[irreducible] def cG:=rW RR d
def EW:Option (Unit):=some ()
def EX:Option (Bool):=cond (d==0) ((gh o 0 99).bind fun a=>cond a ((gh p 0 99).bind fun b=>some b) (some false)) (some false)
def EY:Option (ByteArray):=(cG d).bind fun a=>(cat (ByteArray.mk #[104,101,97,100,32]) a).bind fun b=>(cat b (ByteArray.mk #[32])).bind fun c=>(cG o).bind fun e=>(cat c e).bind fun f=>some f
def EZ:Option (Bool):=cond (d==1) ((gh o 0 99).bind fun a=>cond a (some (p==0)) (some false)) (some false)
def wX:Option (Unit⊕ByteArray):=cond a ((cG o).bind fun b=>(cat (ByteArray.mk #[97,100,100,32]) b).bind fun c=>some (Sum.inr c)) (cond ((d==2)&&((o==0)&&((p==0)&&true))) (some (Sum.inr (ByteArray.mk #[100,114,111,112]))) (cond ((d==3)&&((o==0)&&((p==0)&&true))) (some (Sum.inr (ByteArray.mk #[116,117,114,110]))) (cond ((d==4)&&((o==0)&&((p==0)&&true))) (some (Sum.inr (ByteArray.mk #[102,108,97,116]))) (cond ((d==5)&&((o==0)&&((p==0)&&true))) (some (Sum.inr (ByteArray.mk #[98,97,99,107]))) (some (Sum.inl ()))))))
def PH:=(EZ d o p).bind (fun a=>wX a d o p)
def E0:Option (Unit⊕ByteArray):=cond a ((EY o p).map (fun b=>(Sum.inr b))) (PH d o p)
def PI:=(EX d o p).bind (fun a=>E0 a d o p)
def PJ:=(PI d o p).map (Sum.elim (fun a=>(Sum.inl ())) (fun a=>(Sum.inr a)))
def PK:Option (ByteArray):=some empty
def PL:=(PJ d o p).bind (Sum.elim (fun a=>PK) (fun b=>some ((fun a=>a) b)))
def wY:=(EW).bind (fun a=>PL d o p)
@[irreducible] def iE:=wY d o p
def rX:Option ((ByteArray×Int)):=(bC 7 v B).bind fun a=>cond ((a.1)==0) (cond ((a.1)==0) ((bC 15 v (a.2)).bind fun b=>(al (b.1) (List.length ([(ByteArray.mk #[104,101,97,100,115]),(ByteArray.mk #[100,101,112,116,104,115]),(ByteArray.mk #[111,114,100,101,114]),(ByteArray.mk #[114,111,111,116]),(ByteArray.mk #[99,114,111,115,115,105,110,103,115]),(ByteArray.mk #[103,97,112,115]),(ByteArray.mk #[101,120,99,104,97,110,103,101,115]),(ByteArray.mk #[108,101,110,103,116,104]),(ByteArray.mk #[108,101,97,115,116]),(ByteArray.mk #[97,112,97,114,116]),(ByteArray.mk #[112,114,111,106,101,99,116,105,118,101]),(ByteArray.mk #[110,101,115,116,101,100]),(ByteArray.mk #[109,111,118,101,115]),(ByteArray.mk #[101,97,103,101,114]),(ByteArray.mk #[112,108,97,99,101])]))).bind fun c=>(([(ByteArray.mk #[104,101,97,100,115]),(ByteArray.mk #[100,101,112,116,104,115]),(ByteArray.mk #[111,114,100,101,114]),(ByteArray.mk #[114,111,111,116]),(ByteArray.mk #[99,114,111,115,115,105,110,103,115]),(ByteArray.mk #[103,97,112,115]),(ByteArray.mk #[101,120,99,104,97,110,103,101,115]),(ByteArray.mk #[108,101,110,103,116,104]),(ByteArray.mk #[108,101,97,115,116]),(ByteArray.mk #[97,112,97,114,116]),(ByteArray.mk #[112,114,111,106,101,99,116,105,118,101]),(ByteArray.mk #[110,101,115,116,101,100]),(ByteArray.mk #[109,111,118,101,115]),(ByteArray.mk #[101,97,103,101,114]),(ByteArray.mk #[112,108,97,99,101])])[c]?).bind fun d=>some (d,(b.2))) (cond ((a.1)==3) ((bC 13 v (a.2)).bind fun f=>(al (f.1) (List.length ([empty,(ByteArray.mk #[104,101,97,100]),(ByteArray.mk #[104,101,97,100,32,49]),(ByteArray.mk #[104,101,97,100,32,49,32,120]),(ByteArray.mk #[104,101,97,100,32,48,49,32,49]),(ByteArray.mk #[97,100,100]),(ByteArray.mk #[97,100,100,32,120]),(ByteArray.mk #[121,105,101,108,100]),(ByteArray.mk #[121,105,101,108,100,32,48]),(ByteArray.mk #[121,105,101,108,100,32,57]),(ByteArray.mk #[121,105,101,108,100,32,120]),(ByteArray.mk #[32,114,111,111,116]),(ByteArray.mk #[100,114,111,112,32,48])]))).bind fun g=>(([empty,(ByteArray.mk #[104,101,97,100]),(ByteArray.mk #[104,101,97,100,32,49]),(ByteArray.mk #[104,101,97,100,32,49,32,120]),(ByteArray.mk #[104,101,97,100,32,48,49,32,49]),(ByteArray.mk #[97,100,100]),(ByteArray.mk #[97,100,100,32,120]),(ByteArray.mk #[121,105,101,108,100]),(ByteArray.mk #[121,105,101,108,100,32,48]),(ByteArray.mk #[121,105,101,108,100,32,57]),(ByteArray.mk #[121,105,101,108,100,32,120]),(ByteArray.mk #[32,114,111,111,116]),(ByteArray.mk #[100,114,111,112,32,48])])[g]?).bind fun h=>some (h,(f.2))) (cond ((a.1)==4) ((bC 9 v (a.2)).bind fun i=>(cG (i.1)).bind fun j=>(cat (ByteArray.mk #[121,105,101,108,100,32]) j).bind fun k=>some (k,(i.2))) ((ky e v (a.2)).bind fun l=>(iE (l.2.1) (l.2.2.1) (l.2.2.2)).bind fun m=>some (m,(l.1)))))) (cond ((a.1)==1) (cond ((a.1)==1) ((bC 15 v (a.2)).bind fun n=>(al (n.1) (List.length ([(ByteArray.mk #[104,101,97,100,115]),(ByteArray.mk #[100,101,112,116,104,115]),(ByteArray.mk #[111,114,100,101,114]),(ByteArray.mk #[114,111,111,116]),(ByteArray.mk #[99,114,111,115,115,105,110,103,115]),(ByteArray.mk #[103,97,112,115]),(ByteArray.mk #[101,120,99,104,97,110,103,101,115]),(ByteArray.mk #[108,101,110,103,116,104]),(ByteArray.mk #[108,101,97,115,116]),(ByteArray.mk #[97,112,97,114,116]),(ByteArray.mk #[112,114,111,106,101,99,116,105,118,101]),(ByteArray.mk #[110,101,115,116,101,100]),(ByteArray.mk #[109,111,118,101,115]),(ByteArray.mk #[101,97,103,101,114]),(ByteArray.mk #[112,108,97,99,101])]))).bind fun o=>(([(ByteArray.mk #[104,101,97,100,115]),(ByteArray.mk #[100,101,112,116,104,115]),(ByteArray.mk #[111,114,100,101,114]),(ByteArray.mk #[114,111,111,116]),(ByteArray.mk #[99,114,111,115,115,105,110,103,115]),(ByteArray.mk #[103,97,112,115]),(ByteArray.mk #[101,120,99,104,97,110,103,101,115]),(ByteArray.mk #[108,101,110,103,116,104]),(ByteArray.mk #[108,101,97,115,116]),(ByteArray.mk #[97,112,97,114,116]),(ByteArray.mk #[112,114,111,106,101,99,116,105,118,101]),(ByteArray.mk #[110,101,115,116,101,100]),(ByteArray.mk #[109,111,118,101,115]),(ByteArray.mk #[101,97,103,101,114]),(ByteArray.mk #[112,108,97,99,101])])[o]?).bind fun p=>some (p,(n.2))) (cond ((a.1)==3) ((bC 13 v (a.2)).bind fun q=>(al (q.1) (List.length ([empty,(ByteArray.mk #[104,101,97,100]),(ByteArray.mk #[104,101,97,100,32,49]),(ByteArray.mk #[104,101,97,100,32,49,32,120]),(ByteArray.mk #[104,101,97,100,32,48,49,32,49]),(ByteArray.mk #[97,100,100]),(ByteArray.mk #[97,100,100,32,120]),(ByteArray.mk #[121,105,101,108,100]),(ByteArray.mk #[121,105,101,108,100,32,48]),(ByteArray.mk #[121,105,101,108,100,32,57]),(ByteArray.mk #[121,105,101,108,100,32,120]),(ByteArray.mk #[32,114,111,111,116]),(ByteArray.mk #[100,114,111,112,32,48])]))).bind fun r=>(([empty,(ByteArray.mk #[104,101,97,100]),(ByteArray.mk #[104,101,97,100,32,49]),(ByteArray.mk #[104,101,97,100,32,49,32,120]),(ByteArray.mk #[104,101,97,100,32,48,49,32,49]),(ByteArray.mk #[97,100,100]),(ByteArray.mk #[97,100,100,32,120]),(ByteArray.mk #[121,105,101,108,100]),(ByteArray.mk #[121,105,101,108,100,32,48]),(ByteArray.mk #[121,105,101,108,100,32,57]),(ByteArray.mk #[121,105,101,108,100,32,120]),(ByteArray.mk #[32,114,111,111,116]),(ByteArray.mk #[100,114,111,112,32,48])])[r]?).bind fun s=>some (s,(q.2))) (cond ((a.1)==4) ((bC 9 v (a.2)).bind fun t=>(cG (t.1)).bind fun u=>(cat (ByteArray.mk #[121,105,101,108,100,32]) u).bind fun w=>some (w,(t.2))) ((ky e v (a.2)).bind fun x=>(iE (x.2.1) (x.2.2.1) (x.2.2.2)).bind fun y=>some (y,(x.1)))))) (cond ((a.1)==2) ((bC 15 v (a.2)).bind fun z=>(al (z.1) (List.length ([(ByteArray.mk #[104,101,97,100,115]),(ByteArray.mk #[100,101,112,116,104,115]),(ByteArray.mk #[111,114,100,101,114]),(ByteArray.mk #[114,111,111,116]),(ByteArray.mk #[99,114,111,115,115,105,110,103,115]),(ByteArray.mk #[103,97,112,115]),(ByteArray.mk #[101,120,99,104,97,110,103,101,115]),(ByteArray.mk #[108,101,110,103,116,104]),(ByteArray.mk #[108,101,97,115,116]),(ByteArray.mk #[97,112,97,114,116]),(ByteArray.mk #[112,114,111,106,101,99,116,105,118,101]),(ByteArray.mk #[110,101,115,116,101,100]),(ByteArray.mk #[109,111,118,101,115]),(ByteArray.mk #[101,97,103,101,114]),(ByteArray.mk #[112,108,97,99,101])]))).bind fun A=>(([(ByteArray.mk #[104,101,97,100,115]),(ByteArray.mk #[100,101,112,116,104,115]),(ByteArray.mk #[111,114,100,101,114]),(ByteArray.mk #[114,111,111,116]),(ByteArray.mk #[99,114,111,115,115,105,110,103,115]),(ByteArray.mk #[103,97,112,115]),(ByteArray.mk #[101,120,99,104,97,110,103,101,115]),(ByteArray.mk #[108,101,110,103,116,104]),(ByteArray.mk #[108,101,97,115,116]),(ByteArray.mk #[97,112,97,114,116]),(ByteArray.mk #[112,114,111,106,101,99,116,105,118,101]),(ByteArray.mk #[110,101,115,116,101,100]),(ByteArray.mk #[109,111,118,101,115]),(ByteArray.mk #[101,97,103,101,114]),(ByteArray.mk #[112,108,97,99,101])])[A]?).bind fun C=>some (C,(z.2))) (cond ((a.1)==3) ((bC 13 v (a.2)).bind fun D=>(al (D.1) (List.length ([empty,(ByteArray.mk #[104,101,97,100]),(ByteArray.mk #[104,101,97,100,32,49]),(ByteArray.mk #[104,101,97,100,32,49,32,120]),(ByteArray.mk #[104,101,97,100,32,48,49,32,49]),(ByteArray.mk #[97,100,100]),(ByteArray.mk #[97,100,100,32,120]),(ByteArray.mk #[121,105,101,108,100]),(ByteArray.mk #[121,105,101,108,100,32,48]),(ByteArray.mk #[121,105,101,108,100,32,57]),(ByteArray.mk #[121,105,101,108,100,32,120]),(ByteArray.mk #[32,114,111,111,116]),(ByteArray.mk #[100,114,111,112,32,48])]))).bind fun E=>(([empty,(ByteArray.mk #[104,101,97,100]),(ByteArray.mk #[104,101,97,100,32,49]),(ByteArray.mk #[104,101,97,100,32,49,32,120]),(ByteArray.mk #[104,101,97,100,32,48,49,32,49]),(ByteArray.mk #[97,100,100]),(ByteArray.mk #[97,100,100,32,120]),(ByteArray.mk #[121,105,101,108,100]),(ByteArray.mk #[121,105,101,108,100,32,48]),(ByteArray.mk #[121,105,101,108,100,32,57]),(ByteArray.mk #[121,105,101,108,100,32,120]),(ByteArray.mk #[32,114,111,111,116]),(ByteArray.mk #[100,114,111,112,32,48])])[E]?).bind fun F=>some (F,(D.2))) (cond ((a.1)==4) ((bC 9 v (a.2)).bind fun G=>(cG (G.1)).bind fun H=>(cat (ByteArray.mk #[121,105,101,108,100,32]) H).bind fun I=>some (I,(G.2))) ((ky e v (a.2)).bind fun J=>(iE (J.2.1) (J.2.2.1) (J.2.2.2)).bind fun K=>some (K,(J.1)))))))
@[irreducible] def wZ:=rX e v B
def w2:Option ((ByteArray×(List Int)×(List (List Int)))):=(DR e).bind fun a=>(wW 12 a 0).bind fun b=>(wZ (b.2.1) a (b.1)).bind fun c=>some ((c.1),(b.2.1),(b.2.2))
@[irreducible] def E1:=w2 e
def E2:Option (Unit):=some ()
def E3:Option (Int):=some (e.length:Int)
def rY:Option ((Int×Int)⊕Bool⊕Int):=cond (decide (q<p)) ((idx e q).bind fun a=>cond (decide (a<0)) (some (Sum.inr (Sum.inl false))) (cond (decide (a>(e.length:Int))) (some (Sum.inr (Sum.inl false))) (cond (a==0) (some (Sum.inl ((wrap .i64 (o+1)),(wrap .i64 (q+1))))) (some (Sum.inl (o,(wrap .i64 (q+1)))))))) (some (Sum.inr (Sum.inr o)))
def PM:Option (Bool⊕Int):=ai (fun(a:Int×Int)=>((rY e a.1 o a.2).map (Sum.elim (fun b=>Sum.inl (b.1,b.2)) (Sum.elim (fun b=>Sum.inr (Sum.inl b)) (fun b=>Sum.inr (Sum.inr b)))))) LL (0,0)
def PN:=(PM e o).map (Sum.elim (fun a=>(Sum.inr a)) (fun a=>(Sum.inl a)))
def PO:=(E3 e).bind (fun a=>PN e a)
def E4:Option (Bool):=some (d==1)
def PP:=(PO e).bind (Sum.elim (fun a=>E4 a) (fun b=>some ((fun a=>a) b)))
def E5:=(E2).bind (fun a=>PP e)
@[irreducible] def E6:=E5 e
def w3:Option ((Bool×Int×Int)):=(idx e (wrap .i64 (o-1))).bind fun a=>cond (a==0) (some (false,o,p)) (some (true,a,(wrap .i64 (p+1))))
@[irreducible] def w4:=w3 e o p
def E7:Option (Unit):=some ()
def w5:Option ((Int×Int)⊕(Int×Bool)⊕(Int×Int)):=(w4 e o p).bind fun a=>cond (a.1) (cond (decide ((a.2.2)>=(e.length:Int))) (some (Sum.inr (Sum.inl (0,false)))) (some (Sum.inl ((a.2.1),(a.2.2))))) (some (Sum.inr (Sum.inr ((a.2.1),(a.2.2)))))
def PQ:Option ((Int×Bool)⊕(Int×Int)):=ai (fun(a:Int×Int)=>((w5 e a.1 a.2).map (Sum.elim (fun b=>Sum.inl (b.1,b.2)) (Sum.elim (fun b=>Sum.inr (Sum.inl b)) (fun b=>Sum.inr (Sum.inr b)))))) LL (o,0)
def PR:=(PQ e o).map (Sum.elim (fun a=>(Sum.inr a)) (fun a=>(Sum.inl (a.1,a.2))))
def E8:Option ((Int×Bool)):=some (d,true)
def PS:=(PR e o).bind (Sum.elim (fun a=>E8 a.2) (fun b=>some ((fun a=>a) b)))
def E9:=(E7).bind (fun a=>PS e o)
@[irreducible] def w6:=E9 e o
def Fa:Option (Unit⊕Bool):=cond (decide ((e.length:Int)<1)) (some (Sum.inr false)) (cond (decide ((e.length:Int)>8)) (some (Sum.inr false)) ((E6 e).bind fun a=>cond (!a) (some (Sum.inr false)) (some (Sum.inl ()))))
def Fb:Option (Int):=some (e.length:Int)
def rZ:Option (Int⊕Bool⊕Unit):=cond (decide (p<o)) ((w6 e (wrap .i64 (p+1))).bind fun a=>cond (!(a.2)) (some (Sum.inr (Sum.inl false))) (some (Sum.inl (wrap .i64 (p+1))))) (some (Sum.inr (Sum.inr ())))
def PT:Option (Bool⊕Unit):=ai (fun(a:Int)=>((rZ e o a).map (Sum.elim (fun b=>Sum.inl b) (Sum.elim (fun b=>Sum.inr (Sum.inl b)) (fun b=>Sum.inr (Sum.inr b)))))) LL 0
def PU:=(PT e o).map (Sum.elim (fun a=>(Sum.inr a)) (fun a=>(Sum.inl ())))
def PV:=(Fb e).bind (fun a=>PU e a)
def PW:Option (Bool):=some true
def PX:=(PV e).bind (Sum.elim (fun a=>PW) (fun b=>some ((fun a=>a) b)))
def Fc:=(Fa e).bind (Sum.elim (fun a=>PX e) (fun b=>some ((fun a=>a) b)))
@[irreducible] def eF:=Fc e
def Fe:Option (Unit⊕Bool):=(eF e).bind fun a=>cond (!a) (some (Sum.inr false)) (cond (decide ((w.length:Int)>8)) (some (Sum.inr false)) (some (Sum.inl ())))
def Ff:Option (Int):=some (w.length:Int)
def px:Option (Int⊕Bool⊕Unit):=cond (decide (D<B)) ((idx w D).bind fun a=>(eF a).bind fun b=>cond (!b) (some (Sum.inr (Sum.inl false))) (some (Sum.inl (wrap .i64 (D+1))))) (some (Sum.inr (Sum.inr ())))
def PY:Option (Bool⊕Unit):=ai (fun(a:Int)=>((px w B a).map (Sum.elim (fun b=>Sum.inl b) (Sum.elim (fun b=>Sum.inr (Sum.inl b)) (fun b=>Sum.inr (Sum.inr b)))))) LL 0
def PZ:=(PY w B).map (Sum.elim (fun a=>(Sum.inr a)) (fun a=>(Sum.inl ())))
def P0:=(Ff w).bind (fun a=>PZ w a)
def P1:Option (Bool):=some true
def P2:=(P0 w).bind (Sum.elim (fun a=>P1) (fun b=>some ((fun a=>a) b)))
def w7:=(Fe e w).bind (Sum.elim (fun a=>P2 w) (fun b=>some ((fun a=>a) b)))
@[irreducible] def nz:=w7 e w
def P3:Option (Int):=kx b i
def w8:Option (Int):=(P3 b i).bind fun a=>some a
@[irreducible] def Fg:=w8 b i
def Fh:Option ((Int×(List ByteArray))⊕(Nat×(List ByteArray))):=cond (o==0) (some (Sum.inr ((List.length ([]:List ByteArray)),([]:List ByteArray)))) (cond (aD i empty) (none) (cond (decide (o<0)) (none) ((mk (bX o (wrap .i64 ((((ByteArray.size b:Nat):Int))+1))) (bX o (wrap .i64 ((((ByteArray.size b:Nat):Int))+1)))).bind fun a=>some (Sum.inl ((wrap .i64 ((bX o (wrap .i64 ((((ByteArray.size b:Nat):Int))+1)))-1)),(replicate a empty))))))
def py:Option ((ByteArray×Int×(List ByteArray))⊕(ByteArray×Int×(List ByteArray))):=cond (decide (q<p)) ((Fg b i).bind fun a=>cond (decide (a<0)) (some (Sum.inr (b,q,E))) ((inc (wrap .i64 (a+o)) (ByteArray.size b)).bind fun c=>(al q (List.length E)).bind fun d=>(inc (wrap .i64 (a+(((ByteArray.size i:Nat):Int)))) (ByteArray.size b)).bind fun e=>some (Sum.inl ((b.extract e (ByteArray.size b)),(wrap .i64 (q+1)),(E.set d (b.extract 0 c)))))) (some (Sum.inr (b,q,E)))
def P4:Option ((ByteArray×Int×(List ByteArray))):=ai (fun(a:ByteArray×Int×(List ByteArray))=>((py a.1 i o p a.2.1 a.2.2).map (Sum.elim (fun c=>Sum.inl (c.1,c.2.1,c.2.2)) (fun c=>Sum.inr c)))) LL (b,0,E)
def P5:=(P4 b i o p E).map (fun a=>(a.1,a.2.1,a.2.2))
def w9:Option ((Nat×(List ByteArray))):=(al d (List.length E)).bind fun a=>(inc (wrap .i64 (d+1)) (List.length (E.set a b))).bind fun c=>some ((c-0),(E.set a b))
def P6:=(P5 b i o p E).bind (fun a=>w9 a.1 a.2.1 a.2.2)
def xa:=(Fh b i p).bind (Sum.elim (fun a=>P6 b i o a.1 a.2) (fun c=>some ((fun a=>a) c)))
@[irreducible] def Fi:=xa b i o p
def r0:Option ((Nat×(List ByteArray))):=(Fi b i 0 o).bind fun a=>some ((a.1),(a.2))
@[irreducible] def xb:=r0 b i o
def Fj:Option (Unit):=some ()
def Fk:Option ((ByteArray×ByteArray×ByteArray×ByteArray×ByteArray×ByteArray)):=(same (List.length cM) 6).bind fun a=>some ((cM.getD 0 empty),(cM.getD 1 empty),(cM.getD 2 empty),(cM.getD 3 empty),(cM.getD 4 empty),(cM.getD 5 empty))
def xc:Option (Int⊕Int⊕Unit):=cond (decide (t<6)) ((idx [i,k,l,m,n,s] t).bind fun a=>cond (aD a b) (some (Sum.inr (Sum.inl t))) (some (Sum.inl (wrap .i64 (t+1))))) (some (Sum.inr (Sum.inr ())))
def P7:Option (Int⊕Unit):=ai (fun(a:Int)=>((xc b i k l m n s a).map (Sum.elim (fun c=>Sum.inl c) (Sum.elim (fun c=>Sum.inr (Sum.inl c)) (fun c=>Sum.inr (Sum.inr c)))))) LL 0
def P8:=(P7 b i k l m n s).map (Sum.elim (fun a=>(Sum.inr a)) (fun a=>(Sum.inl ())))
def P9:=(Fk).bind (fun a=>P8 b a.1 a.2.1 a.2.2.1 a.2.2.2.1 a.2.2.2.2.1 a.2.2.2.2.2)
def Fl:Option (Int):=some (-1)
def Qa:=(P9 b).bind (Sum.elim (fun a=>Fl) (fun c=>some ((fun a=>a) c)))
def xd:=(Fj).bind (fun a=>Qa b)
@[irreducible] def jt:=xd b
def strconv_Atoi:Option (Int×Bool):=rt b
def r1:Option (Int):=cond (d==0) (some 2) (cond (d==1) (some 1) (some 0))
@[irreducible] def kA:=r1 d
def xe:Option (Bool):=(kA d).bind fun a=>cond (decide (a>0)) (cond (decide (a>1)) (some true) (some (p==0))) (cond (o==0) (cond (decide (a>1)) (some true) (some (p==0))) (some false))
@[irreducible] def xf:=xe d o p
def xg:Option (Bool):=cond (decide (d>=0)) (cond (decide (d<6)) ((xf d o p).bind fun a=>cond a (cond (decide (o>=0)) (cond (decide (o<=99)) (cond (decide (p>=0)) (some (decide (p<=99))) (some false)) (some false)) (some false)) (some false)) (some false)) (some false)
@[irreducible] def Fm:=xg d o p
def strconv_Itoa:Option (ByteArray):=pj d
def Fo:Option (ByteArray⊕ByteArray):=(Fm d o p).bind fun a=>cond (!a) (some (Sum.inr empty)) ((same (List.length cM) 6).bind fun b=>(idx cM d).bind fun c=>some (Sum.inl c))
def r2:Option (((List Int)×Int)):=(kA d).bind fun a=>(inc a (List.length ([o,p]))).bind fun b=>some (((([o,p]).take b).drop 0),(List.length ((([o,p]).take b).drop 0):Int))
def r3:Option ((ByteArray×Int)⊕ByteArray):=cond (decide (p<o)) ((idx e p).bind fun a=>(strconv_Itoa a).bind fun c=>(cat (ByteArray.mk #[32]) c).bind fun d=>(cat b d).bind fun f=>some (Sum.inl (f,(wrap .i64 (p+1))))) (some (Sum.inr b))
def xh:Option (ByteArray):=ai (fun(a:ByteArray×Int)=>((r3 a.1 e o a.2).map (Sum.elim (fun c=>Sum.inl (c.1,c.2)) (fun c=>Sum.inr c)))) LL (b,0)
def xi:=(xh b e o).map (fun a=>a)
def xj:=(r2 d o p).bind (fun a=>xi b a.1 a.2)
def r4:Option (ByteArray):=some b
def xk:=(xj b d o p).bind (fun a=>r4 a)
def xl:=(Fo d o p).bind (Sum.elim (fun a=>xk a d o p) (fun b=>some ((fun a=>a) b)))
@[irreducible] def nA:=xl d o p
def r5:Option ((Bool×Int×Int×Int)):=(xb b (ByteArray.mk #[32]) 3).bind fun a=>(al 0 (a.1)).bind fun c=>((a.2)[(0+c)]?).bind fun d=>(jt d).bind fun e=>cond (decide (((((a.1):Nat):Int))>1)) ((al 1 (a.1)).bind fun f=>((a.2)[(0+f)]?).bind fun g=>(strconv_Atoi g).bind fun h=>cond (decide (((((a.1):Nat):Int))>2)) ((al 2 (a.1)).bind fun i=>((a.2)[(0+i)]?).bind fun j=>(strconv_Atoi j).bind fun k=>cond (aD b empty) (some (false,0,0,0)) ((nA e (h.1) (k.1)).bind fun l=>cond (!(aD l b)) (some (false,0,0,0)) (some (true,e,(h.1),(k.1))))) (cond (aD b empty) (some (false,0,0,0)) ((nA e (h.1) 0).bind fun m=>cond (!(aD m b)) (some (false,0,0,0)) (some (true,e,(h.1),0))))) (cond (decide (((((a.1):Nat):Int))>2)) ((al 2 (a.1)).bind fun n=>((a.2)[(0+n)]?).bind fun o=>(strconv_Atoi o).bind fun p=>cond (aD b empty) (some (false,0,0,0)) ((nA e 0 (p.1)).bind fun q=>cond (!(aD q b)) (some (false,0,0,0)) (some (true,e,0,(p.1))))) (cond (aD b empty) (some (false,0,0,0)) ((nA e 0 0).bind fun r=>cond (!(aD r b)) (some (false,0,0,0)) (some (true,e,0,0)))))
@[irreducible] def r6:=r5 b
def nB:Option (List Int):=pi e
def Fp:Option (((List Int))):=(nB e).bind fun a=>some a
def Fq:Option (Int):=some (w.length:Int)
def r7:Option ((Int×(List (List Int)))⊕((List (List Int)))):=cond (decide (D<B)) ((idx w D).bind fun a=>(nB a).bind fun b=>(room (List.length G+1)).bind fun c=>some (Sum.inl ((wrap .i64 (D+1)),((G++ [[]]).set (List.length G) b)))) (some (Sum.inr G))
def Qb:Option (((List (List Int)))):=ai (fun(a:Int×(List (List Int)))=>((r7 w B a.1 a.2).map (Sum.elim (fun b=>Sum.inl (b.1,b.2)) (fun b=>Sum.inr b)))) LL (0,([]:List (List Int)))
def Qc:=(Qb w B).map (fun a=>a)
def Qd:=(Fq w).bind (fun a=>Qc w a)
def Fr:Option (((List Int)×(List (List Int)))):=some (e,w)
def Qe:=(Qd w).bind (fun a=>Fr F a)
def xm:=(Fp e).bind (fun a=>Qe w a)
@[irreducible] def ju:=xm e w
@[irreducible] def Fs:=some ()
def strings_Join:Option (ByteArray):=vZ c i
def Ft:Option (((List ByteArray))):=(mk (e.length:Int) (e.length:Int)).bind fun a=>some (replicate a empty)
def Fu:Option (Int):=some (e.length:Int)
def r8:Option ((Int×(List ByteArray))⊕((List ByteArray))):=cond (decide (p<o)) ((idx e p).bind fun a=>(strconv_Itoa a).bind fun b=>(al p (List.length E)).bind fun c=>some (Sum.inl ((wrap .i64 (p+1)),(E.set c b)))) (some (Sum.inr E))
def Qf:Option (((List ByteArray))):=ai (fun(a:Int×(List ByteArray))=>((r8 e o a.1 a.2).map (Sum.elim (fun b=>Sum.inl (b.1,b.2)) (fun b=>Sum.inr b)))) LL (0,E)
def Qg:=(Qf e o E).map (fun a=>a)
def Qh:=(Fu e).bind (fun a=>Qg e a E)
def Fv:Option (ByteArray):=(strings_Join c (ByteArray.mk #[44])).bind fun a=>some a
def Qi:=(Qh e E).bind (fun a=>Fv a)
def xn:=(Ft e).bind (fun a=>Qi e a)
@[irreducible] def nC:=xn e
def xo:Option (ByteArray):=(nC e).bind fun a=>some a
@[irreducible] def Fw (a:List Int) (b:List (List Int)):=xo a
def Fx:Option (((List Int))⊕((List Int))):=(eF e).bind fun a=>cond (!a) (some (Sum.inr ([]:List Int))) ((mk (e.length:Int) (e.length:Int)).bind fun b=>some (Sum.inl (replicate b (0:Int))))
def Fy:Option (Int):=some (e.length:Int)
def r9:Option ((Int×(List Int))⊕((List Int))):=cond (decide (p<o)) ((w6 e (wrap .i64 (p+1))).bind fun a=>(al p (List.length v)).bind fun b=>some (Sum.inl ((wrap .i64 (p+1)),(v.set b (a.1))))) (some (Sum.inr v))
def Qj:Option (((List Int))):=ai (fun(a:Int×(List Int))=>((r9 e o a.1 a.2).map (Sum.elim (fun b=>Sum.inl (b.1,b.2)) (fun b=>Sum.inr b)))) LL (0,v)
def Qk:=(Qj e o v).map (fun a=>a)
def Ql:=(Fy e).bind (fun a=>Qk e a v)
def Fz:Option (((List Int))):=some e
def Qm:=(Ql e v).bind (fun a=>Fz a)
def FA:=(Fx e).bind (Sum.elim (fun a=>Qm e a) (fun b=>some ((fun a=>a) b)))
@[irreducible] def FB:=FA e
def sa:Option (ByteArray):=(FB e).bind fun a=>(nC a).bind fun b=>some b
@[irreducible] def xp (a:List Int) (b:List (List Int)):=sa a
def FC:Option (Unit⊕Int):=(eF e).bind fun a=>cond (!a) (some (Sum.inr (-1))) (some (Sum.inl ()))
def xq:Option ((Int×Int)⊕(Int×Int)):=(w4 e o p).bind fun a=>cond (a.1) (some (Sum.inl ((a.2.1),(a.2.2)))) (some (Sum.inr ((a.2.1),(a.2.2))))
def Qn:Option ((Int×Int)):=ai (fun(a:Int×Int)=>((xq e a.1 a.2).map (Sum.elim (fun b=>Sum.inl (b.1,b.2)) (fun b=>Sum.inr b)))) LL (1,0)
def Qo:=(Qn e).map (fun a=>(a.1,a.2))
def FD:Option (Int):=some d
def Qp:=(Qo e).bind (fun a=>FD a.1)
def FE:=(FC e).bind (Sum.elim (fun a=>Qp e) (fun b=>some ((fun a=>a) b)))
@[irreducible] def pz:=FE e
def FF:Option (Int):=(shl .u64 1 (wrap .i64 (d-1))).bind fun a=>some a
@[irreducible] def kB:=FF d
def FG:Option (Unit):=some ()
def FH:Option (Int):=some (e.length:Int)
def sb:Option ((Int×Int)⊕Int):=cond (decide (t<q)) ((idx e t).bind fun a=>cond (a==o) ((kB (wrap .i64 (t+1))).bind fun b=>some (Sum.inl ((ji .u64 p b),(wrap .i64 (t+1))))) (some (Sum.inl (p,(wrap .i64 (t+1)))))) (some (Sum.inr p))
def Qq:Option (Int):=ai (fun(a:Int×Int)=>((sb e o a.1 p a.2).map (Sum.elim (fun b=>Sum.inl (b.1,b.2)) (fun b=>Sum.inr b)))) LL (0,0)
def Qr:=(Qq e o p).map (fun a=>a)
def Qs:=(FH e).bind (fun a=>Qr e o a)
def Qt:Option (Int):=some d
def Qu:=(Qs e o).bind (fun a=>Qt a)
def xr:=(FG).bind (fun a=>Qu e o)
@[irreducible] def lP:=xr e o
def FI:Option (Int):=(kB d).bind fun a=>some (wrap .u64 (a-1))
@[irreducible] def xt:=FI d
def sc:Option ((Int×Int)):=(lP e o).bind fun a=>(xt o).bind fun b=>(xt o).bind fun c=>some ((dO .u64 a b),(qK .u64 a c))
@[irreducible] def sd:=sc e o
def Qv:Option (Int):=(shr .u64 d 1).bind fun a=>some (wrap .u64 ((dO .u64 a 6148914691236517205)+(dO .u64 d 6148914691236517205)))
def Qw:Option (Int):=(shr .u64 d 2).bind fun a=>some (wrap .u64 ((dO .u64 a 3689348814741910323)+(dO .u64 d 3689348814741910323)))
def Qx:Option (Int):=(shr .u64 d 4).bind fun a=>some (dO .u64 (wrap .u64 (a+d)) 1085102592571150095)
def Qy:Option (Int):=(shr .u64 d 8).bind fun a=>some (wrap .u64 (d+a))
def Qz:Option (Int):=(shr .u64 d 16).bind fun a=>some (wrap .u64 (d+a))
def QA:Option (Int):=(shr .u64 d 32).bind fun a=>some (wrap .u64 (d+a))
def QB:Option (Int):=some (dO .i64 (wrap .i64 d) 127)
def QC:Option (Int):=some d
def aeQ:=(QB d).bind (fun a=>QC a)
def aeR:=(QA d).bind (fun a=>aeQ a)
def aeS:=(Qz d).bind (fun a=>aeR a)
def aeT:=(Qy d).bind (fun a=>aeS a)
def aeU:=(Qx d).bind (fun a=>aeT a)
def aeV:=(Qw d).bind (fun a=>aeU a)
def QD:=(Qv d).bind (fun a=>aeV a)
@[irreducible] def aeW:=QD d
def FJ:Option (Int):=(aeW d).bind fun a=>some a
@[irreducible] def aeX:=FJ d
def FK:Option (Int):=(aeX d).bind fun a=>some a
@[irreducible] def se:=FK d
def FL:Option (Int):=cond (d==0) (some 64) ((shr .u64 (wrap .u64 ((dO .u64 d (wrap .u64 (0-d)))*285870213051353865)) 58).bind fun a=>(same (List.length u3) 64).bind fun b=>(idx u3 a).bind fun c=>some (wrap .i64 c))
@[irreducible] def aeY:=FL d
def FM:Option (Int):=(aeY d).bind fun a=>some a
@[irreducible] def aeZ:=FM d
def QE:Option (((List Int))):=(se d).bind fun a=>(mk 0 a).bind fun b=>some (replicate b (0:Int))
def QF:Option (Unit):=some ()
def QG:Option ((Int×(List Int))⊕((List Int))):=cond (d !=0) ((aeZ d).bind fun a=>(room ((List.length e)+List.length ([(wrap .i64 (a+1))]))).bind fun b=>some (Sum.inl ((dO .u64 d (wrap .u64 (d-1))),(e++([(wrap .i64 (a+1))]))))) (some (Sum.inr e))
def ae0:=ai (fun(a:Int×(List Int))=>((QG a.1 a.2).map (Sum.elim (fun b=>Sum.inl (b.1,b.2)) (fun b=>Sum.inr b)))) LL (d,e)
def ae1:=(ae0 d e).map (fun a=>a)
def ae2:=(QF).bind (fun a=>ae1 d e)
def QH:Option (((List Int))):=some e
def ae3:=(ae2 d e).bind (fun a=>QH a)
def QI:=(QE d).bind (fun a=>ae3 d a)
@[irreducible] def jv:=QI d
def sf (R0 R1:(List Int)->Int->(List Int)->Option ((List Int))) (a:List Int) (b:Int) (c:List Int):Option (((List Int))):=(sd a b).bind fun d=>(R1 a (d.1) c).bind fun e=>(room ((List.length e)+List.length ([b]))).bind fun f=>(R1 a (d.2) (e++([b]))).bind fun g=>some g
def ae4 (R0 R1:(List Int)->Int->(List Int)->Option ((List Int))) (a:List Int) (b:Int) (c:List Int):Option ((List Int)):=sf R0 R1 a b c
def FN (R0 R1:(List Int)->Int->(List Int)->Option ((List Int))):Option (Unit):=some ()
def FO (R0 R1:(List Int)->Int->(List Int)->Option ((List Int))) (a:Int):Option ((Int×(List Int))):=(jv a).bind fun b=>some ((b.length:Int),b)
def sg (R0 R1:(List Int)->Int->(List Int)->Option ((List Int))) (a:List Int) (b c:Int) (d e:List Int):Option ((Int×(List Int))⊕((List Int))):=cond (decide (c<b)) ((al c (List.length e)).bind fun f=>(e[f]?).bind fun g=>(R0 a g d).bind fun h=>some (Sum.inl ((wrap .i64 (c+1)),h))) (some (Sum.inr d))
def QJ (R0 R1:(List Int)->Int->(List Int)->Option ((List Int))) (a:List Int) (b:Int) (c d:List Int):Option (((List Int))):=ai (fun(e:Int×(List Int))=>((sg R0 R1 a b e.1 e.2 d).map (Sum.elim (fun f=>Sum.inl (f.1,f.2)) (fun f=>Sum.inr f)))) LL (0,c)
def QK (R0 R1:(List Int)->Int->(List Int)->Option ((List Int))) (a:List Int) (b:Int) (c d:List Int):=(QJ R0 R1 a b c d).map (fun e=>e)
def QL (R0 R1:(List Int)->Int->(List Int)->Option ((List Int))) (a:List Int) (b:Int) (c:List Int):=(FO R0 R1 b).bind (fun d=>QK R0 R1 a d.1 c d.2)
def FP (R0 R1:(List Int)->Int->(List Int)->Option ((List Int))) (a:List Int):Option (((List Int))):=some a
def QM (R0 R1:(List Int)->Int->(List Int)->Option ((List Int))) (a:List Int) (b:Int) (c:List Int):=(QL R0 R1 a b c).bind (fun d=>FP R0 R1 d)
def FQ (R0 R1:(List Int)->Int->(List Int)->Option ((List Int))) (a:List Int) (b:Int) (c:List Int):=(FN R0 R1).bind (fun d=>QM R0 R1 a b c)
def xu (R0 R1:(List Int)->Int->(List Int)->Option ((List Int))) (a:List Int) (b:Int) (c:List Int):Option ((List Int)):=FQ R0 R1 a b c
def fo:Nat->((List Int)->Int->(List Int)->Option ((List Int)))×((List Int)->Int->(List Int)->Option ((List Int)))
 |0=>((fun _ _ _=>none),(fun _ _ _=>none))
 |n+1=>((fun N O P=>ae4 (fo n).1 (fo n).2 N O P),(fun N O P=>xu (fo n).1 (fo n).2 N O P))
def kC (n:Nat):(List Int)->Int->(List Int)->Option ((List Int)):=(fo n).1
@[irreducible] def sh:=kC RR e o v
def pA (n:Nat):(List Int)->Int->(List Int)->Option ((List Int)):=(fo n).2
@[irreducible] def QN:=pA RR e o v
def si:Option (((List Int))):=(eF e).bind fun a=>cond (!a) (some ([]:List Int)) ((pz e).bind fun b=>(mk 0 (e.length:Int)).bind fun c=>(sh e b (replicate c (0:Int))).bind fun d=>some d)
@[irreducible] def pB:=si e
def sj:Option (ByteArray):=(pB e).bind fun a=>(nC a).bind fun b=>some b
@[irreducible] def xv (a:List Int) (b:List (List Int)):=sj a
def xw:Option (ByteArray):=(pz e).bind fun a=>(strconv_Itoa a).bind fun b=>some b
@[irreducible] def FR (a:List Int) (b:List (List Int)):=xw a
def xx:Option ((Bool×Int×Int)):=cond (decide (d<1)) (some (false,0,0)) (cond (decide (o<1)) (some (false,0,0)) (cond (d==o) (some (false,0,0)) (some (true,(bX d o),(imax d o)))))
@[irreducible] def sk:=xx d o
def FT:Option (((List (Int×Int×Unit)))):=(mk 0 (e.length:Int)).bind fun a=>some (replicate a ((0:Int),((0:Int),())))
def FU:Option (Int):=some (e.length:Int)
def sl:Option ((Int×(List (Int×Int×Unit)))⊕((List (Int×Int×Unit)))):=cond (decide (p<o)) ((idx e p).bind fun a=>(sk (wrap .i64 (p+1)) a).bind fun b=>cond (b.1) ((room ((List.length r)+List.length ([((b.2.1),((b.2.2),()))]))).bind fun c=>some (Sum.inl ((wrap .i64 (p+1)),(r++([((b.2.1),((b.2.2),()))]))))) (some (Sum.inl ((wrap .i64 (p+1)),r)))) (some (Sum.inr r))
def QO:Option (((List (Int×Int×Unit)))):=ai (fun(a:Int×(List (Int×Int×Unit)))=>((sl e o a.1 a.2).map (Sum.elim (fun b=>Sum.inl (b.1,b.2)) (fun b=>Sum.inr b)))) LL (0,r)
def QP:=(QO e o r).map (fun a=>a)
def QQ:=(FU e).bind (fun a=>QP e a r)
def FV:Option (((List (Int×Int×Unit)))):=some r
def QR:=(QQ e r).bind (fun a=>FV a)
def xy:=(FT e).bind (fun a=>QR e a)
@[irreducible] def pC:=xy e
def xz:Option (Bool):=cond (decide (d<p)) (some (decide (p<o))) (some false)
@[irreducible] def sn:=xz d o p
def xA:Option (Bool):=cond (decide (p<d)) (some true) (some (decide (o<p)))
@[irreducible] def so:=xA d o p
def xB:Option (Bool):=(sn d o p).bind fun a=>cond a ((so d o q).bind fun b=>cond b (some true) ((sn d o q).bind fun c=>cond c ((so d o p).bind fun e=>some e) (some false))) ((sn d o q).bind fun f=>cond f ((so d o p).bind fun g=>some g) (some false))
@[irreducible] def xC:=xB d o p q
def FW:Option (Unit):=some ()
def FX:Option (Int):=some (r.length:Int)
def FY:Option (Unit⊕Int):=cond (decide (p<o)) (some (Sum.inl ())) (some (Sum.inr d))
def FZ:Option (((List (Int×Int×Unit))×Int×Int×Int)):=(idx r t).bind fun a=>(inc (wrap .i64 (t+1)) (List.length r)).bind fun b=>some (((r.take (List.length r)).drop b),(List.length ((r.take (List.length r)).drop b):Int),(a.1),((a.2).1))
def sp:Option ((Int×Int)⊕Int):=cond (decide (u<t)) ((idx r u).bind fun a=>(xC B D (a.1) ((a.2).1)).bind fun b=>cond b (some (Sum.inl ((wrap .i64 (d+1)),(wrap .i64 (u+1))))) (some (Sum.inl (d,(wrap .i64 (u+1)))))) (some (Sum.inr d))
def QS:Option (Int):=ai (fun(a:Int×Int)=>((sp a.1 r t a.2 u B).map (Sum.elim (fun b=>Sum.inl (b.1,b.2)) (fun b=>Sum.inr b)))) LL (d,0)
def F0:=(QS d r t u B).map (fun a=>a)
def QT:=(FZ r u).bind (fun a=>F0 t a.1 a.2.1 a.2.2.1 a.2.2.2)
def QU:=(QT r t u).map (fun a=>a)
def F1:Option (Int):=some (wrap .i64 (d+1))
def QV:=(QU r t u).bind (fun a=>(F1 u).map (fun b=>(a,b)))
def F2:=(FY t u B).bind (Sum.elim (fun a=>(QV r t B).map (fun a=>(Sum.inl (a.1,a.2)))) (fun b=>some ((fun a=>(Sum.inr a)) b)))
def QW:Option (Int):=ai (fun(a:Int×Int)=>((F2 r a.1 t a.2).map (Sum.elim (fun b=>Sum.inl (b.1,b.2)) (fun b=>Sum.inr b)))) LL (0,0)
def QX:=(QW r t).map (fun a=>a)
def QY:=(FX r).bind (fun a=>QX r a)
def F3:Option (Int):=some d
def QZ:=(QY r).bind (fun a=>F3 a)
def xD:=(FW).bind (fun a=>QZ r)
@[irreducible] def xE:=xD r
def sr:Option (Int):=(eF e).bind fun a=>cond (!a) (some (-1)) ((pC e).bind fun b=>(xE b).bind fun c=>some c)
@[irreducible] def xF:=sr e
def xG:Option (ByteArray):=(xF e).bind fun a=>(strconv_Itoa a).bind fun b=>some b
@[irreducible] def F4 (a:List Int) (b:List (List Int)):=xG a
def F5 (R0:(List Int)->Int->(List Int)->Option (Int×(List Int))) (a:Int):Option (Int):=(kB a).bind fun b=>some b
def F6 (R0:(List Int)->Int->(List Int)->Option (Int×(List Int))) (a:List Int) (b:Int):Option ((Int×(List Int))):=(lP a b).bind fun c=>(jv c).bind fun d=>some ((d.length:Int),d)
def pD (R0:(List Int)->Int->(List Int)->Option (Int×(List Int))) (a:List Int) (b c d:Int) (e f:List Int):Option ((Int×Int×(List Int))⊕(Int×(List Int))):=cond (decide (d<c)) ((al d (List.length f)).bind fun g=>(f[g]?).bind fun h=>(R0 a h e).bind fun i=>some (Sum.inl ((ji .u64 b (i.1)),(wrap .i64 (d+1)),(i.2)))) (some (Sum.inr (b,e)))
def Q0 (R0:(List Int)->Int->(List Int)->Option (Int×(List Int))) (a:List Int) (b c:Int) (d e:List Int):Option ((Int×(List Int))):=ai (fun(f:Int×Int×(List Int))=>((pD R0 a f.1 c f.2.1 f.2.2 e).map (Sum.elim (fun g=>Sum.inl (g.1,g.2.1,g.2.2)) (fun g=>Sum.inr g)))) LL (b,0,d)
def Q1 (R0:(List Int)->Int->(List Int)->Option (Int×(List Int))) (a:List Int) (b c:Int) (d e:List Int):=(Q0 R0 a b c d e).map (fun f=>(f.1,f.2))
def Q2 (R0:(List Int)->Int->(List Int)->Option (Int×(List Int))) (a:List Int) (b c:Int) (d:List Int):=(F6 R0 a b).bind (fun e=>Q1 R0 a c e.1 d e.2)
def F7 (R0:(List Int)->Int->(List Int)->Option (Int×(List Int))) (a b:Int) (c:List Int):Option ((Int×(List Int))):=(al (wrap .i64 (a-1)) (List.length c)).bind fun d=>some (b,(c.set d b))
def Q3 (R0:(List Int)->Int->(List Int)->Option (Int×(List Int))) (a:List Int) (b c:Int) (d:List Int):=(Q2 R0 a b c d).bind (fun e=>F7 R0 b e.1 e.2)
def F8 (R0:(List Int)->Int->(List Int)->Option (Int×(List Int))) (a:List Int) (b:Int) (c:List Int):=(F5 R0 b).bind (fun d=>Q3 R0 a b d c)
def Q4 (R0:(List Int)->Int->(List Int)->Option (Int×(List Int))) (a:List Int) (b:Int) (c:List Int):Option (Int×(List Int)):=F8 R0 a b c
def lQ:Nat->((List Int)->Int->(List Int)->Option (Int×(List Int)))
 |0=>(fun _ _ _=>none)
 |n+1=>(fun N O P=>Q4 (lQ n) N O P)
def pE (n:Nat):(List Int)->Int->(List Int)->Option (Int×(List Int)):=(lQ n)
@[irreducible] def ss:=pE RR e o v
def su:Option (((List Int))):=(mk (e.length:Int) (e.length:Int)).bind fun a=>(pz e).bind fun b=>(ss e b (replicate a (0:Int))).bind fun c=>some (c.2)
@[irreducible] def lR:=su e
def F9:Option (Int):=(shl .u64 d 1).bind fun a=>some (qK .u64 d a)
@[irreducible] def ae5:=F9 d
def Ga:Option (Int):=(ae5 d).bind fun a=>(se a).bind fun b=>some (wrap .i64 (b-1))
@[irreducible] def Gb:=Ga d
def Gc:Option (Unit⊕Int):=(eF e).bind fun a=>cond (!a) (some (Sum.inr (-1))) (some (Sum.inl ()))
def Gd:Option ((Int×(List Int))):=(lR e).bind fun a=>some ((a.length:Int),a)
def sv:Option ((Int×Int)⊕Int):=cond (decide (p<o)) ((al p (List.length v)).bind fun a=>(v[a]?).bind fun b=>(Gb b).bind fun c=>some (Sum.inl ((imax d c),(wrap .i64 (p+1))))) (some (Sum.inr d))
def Q5:Option (Int):=ai (fun(a:Int×Int)=>((sv a.1 d a.2 e).map (Sum.elim (fun b=>Sum.inl (b.1,b.2)) (fun b=>Sum.inr b)))) LL (0,0)
def Q6:=(Q5 d e).map (fun a=>a)
def Q7:=(Gd e).bind (fun a=>Q6 a.1 a.2)
def Ge:Option (Int):=some d
def Q8:=(Q7 e).bind (fun a=>Ge a)
def xH:=(Gc e).bind (Sum.elim (fun a=>Q8 e) (fun b=>some ((fun a=>a) b)))
@[irreducible] def xI:=xH e
def xJ:Option (ByteArray):=(xI e).bind fun a=>(strconv_Itoa a).bind fun b=>some b
@[irreducible] def Gf (a:List Int) (b:List (List Int)):=xJ a
def Gg:Option (Unit⊕Bool):=cond (decide (o<1)) (some (Sum.inr false)) (cond (decide (o>8)) (some (Sum.inr false)) (cond ((e.length:Int) !=o) (some (Sum.inr false)) (some (Sum.inl ()))))
def Gh:Option (Int):=some (e.length:Int)
def xK:Option ((Int×(List Bool))⊕Bool⊕Unit):=cond (decide (p<o)) ((idx e p).bind fun a=>cond (decide (a<1)) (some (Sum.inr (Sum.inl false))) (cond (decide (a>d)) (some (Sum.inr (Sum.inl false))) ((same (List.length C) 9).bind fun b=>(al a 9).bind fun c=>(C[c]?).bind fun f=>cond f (some (Sum.inr (Sum.inl false))) ((same (List.length C) 9).bind fun g=>(al a 9).bind fun h=>some (Sum.inl ((wrap .i64 (p+1)),(C.set h true))))))) (some (Sum.inr (Sum.inr ())))
def Q9:Option (Bool⊕Unit):=ai (fun(a:Int×(List Bool))=>((xK d e o a.1 a.2).map (Sum.elim (fun b=>Sum.inl (b.1,b.2)) (Sum.elim (fun b=>Sum.inr (Sum.inl b)) (fun b=>Sum.inr (Sum.inr b)))))) LL (0,(replicate 9 false))
def Ra:=(Q9 d e o).map (Sum.elim (fun a=>(Sum.inr a)) (fun a=>(Sum.inl ())))
def Rb:=(Gh e).bind (fun a=>Ra o e a)
def Gi:Option (Bool):=some true
def Rc:=(Rb e o).bind (Sum.elim (fun a=>Gi) (fun b=>some ((fun a=>a) b)))
def Gj:=(Gg e o).bind (Sum.elim (fun a=>Rc e o) (fun b=>some ((fun a=>a) b)))
@[irreducible] def xL:=Gj e o
def sw:Option ((Nat×(List Int))):=cond (decide (d<0)) (none) ((sure true).bind fun a=>cond (decide ((wrap .i64 (d-(wrap .i64 (0-((0:Nat):Int)))))>0)) ((sure true).bind fun b=>(sure ((0:Int)==0)).bind fun c=>(oK (wrap .i64 (d-(wrap .i64 (0-((0:Nat):Int)))))).bind fun e=>(inc ((0:Nat):Int) (List.length (replicate e (0:Int)))).bind fun f=>some ((f-0),(replicate e (0:Int)))) (some ((List.length ([]:List Int)),([]:List Int))))
@[irreducible] def xM:=sw d
def Gk:Option (Unit):=some ()
def Gl:Option (Int):=some (w.length:Int)
def sx:Option ((Int×Int)⊕Int):=cond (decide (H<D)) ((idx w H).bind fun a=>cond (decide ((wrap .i64 (B+(a.length:Int)))<0)) (none) (some (Sum.inl ((wrap .i64 (B+(a.length:Int))),(wrap .i64 (H+1)))))) (some (Sum.inr B))
def Rd:Option (Int):=ai (fun(a:Int×Int)=>((sx w a.1 B a.2).map (Sum.elim (fun b=>Sum.inl (b.1,b.2)) (fun b=>Sum.inr b)))) LL (0,0)
def Re:=(Rd w B).map (fun a=>a)
def Rf:=(Gl w).bind (fun a=>Re w a)
def Gm:Option ((Nat×(List Int))):=(xM d).bind fun a=>some ((a.1),(a.2))
def Gn:Option (Int):=some (w.length:Int)
def sy:Option ((Nat×Int×(List Int))⊕(Nat×(List Int))):=cond (decide (D<B)) ((idx w D).bind fun a=>(room (f+List.length a)).bind fun b=>some (Sum.inl ((List.length (((F.drop 0).take f)++a)),(wrap .i64 (D+1)),(((F.drop 0).take f)++a)))) (some (Sum.inr (f,F)))
def Rg:Option ((Nat×(List Int))):=ai (fun(a:Nat×Int×(List Int))=>((sy a.1 w B a.2.1 a.2.2).map (Sum.elim (fun b=>Sum.inl (b.1,b.2.1,b.2.2)) (fun b=>Sum.inr b)))) LL (f,0,F)
def Rh:=(Rg f w B F).map (fun a=>(a.1,a.2))
def Ri:=(Gn w).bind (fun a=>Rh z w a F)
def Gp:Option ((Nat×(List Int))):=some (f,v)
def Rj:=(Ri w z F).bind (fun a=>Gp a.1 a.2)
def Rk:=(Gm B).bind (fun a=>Rj w a.1 a.2)
def Rl:=(Rf w).bind (fun a=>Rk w a)
def xN:=(Gk).bind (fun a=>Rl w)
@[irreducible] def xO:=xN w
def Gq:Option (((List Int))):=(mk 0 (wrap .i64 ((e.length:Int)+(v.length:Int)))).bind fun a=>some (replicate a (0:Int))
def pF:Option (((List Int)×(List Int)×Int×(List Int))⊕((List Int)×(List Int)×Int×(List Int))):=cond (decide ((e.length:Int)>0)) (cond (decide ((v.length:Int)>0)) ((idx e 0).bind fun a=>(idx v 0).bind fun b=>cond (decide (a<b)) ((idx e 0).bind fun c=>(room ((List.length F)+List.length ([c]))).bind fun d=>(inc 1 (List.length e)).bind fun f=>some (Sum.inl (((e.take (List.length e)).drop f),v,B,(F++([c]))))) ((idx v 0).bind fun g=>(room ((List.length F)+List.length ([g]))).bind fun h=>(inc 1 (List.length v)).bind fun i=>some (Sum.inl (e,((v.take (List.length v)).drop i),(wrap .i64 (B+(e.length:Int))),(F++([g])))))) (some (Sum.inr (e,v,B,F)))) (some (Sum.inr (e,v,B,F)))
def Rm:Option (((List Int)×(List Int)×Int×(List Int))):=ai (fun(a:(List Int)×(List Int)×Int×(List Int))=>((pF a.1 a.2.1 a.2.2.1 a.2.2.2).map (Sum.elim (fun b=>Sum.inl (b.1,b.2.1,b.2.2.1,b.2.2.2)) (fun b=>Sum.inr b)))) LL (e,v,0,F)
def Rn:=(Rm e v F).map (fun a=>(a.1,a.2.1,a.2.2.1,a.2.2.2))
def Gr:Option ((Nat×Int×(List Int))):=(xO ([F,e,v])).bind fun a=>some ((a.1),B,(a.2))
def Ro:=(Rn e v F).bind (fun a=>Gr a.1 a.2.1 a.2.2.1 a.2.2.2)
def xP:=(Gq e v).bind (fun a=>Ro e v a)
@[irreducible] def xQ:=xP e v
def sz (R0:(List Int)->Option ((List Int)×Int)) (a:List Int):Option (((List Int)×Int)):=cond (decide ((a.length:Int)<2)) (some (a,0)) ((quo .i64 (a.length:Int) 2).bind fun b=>(inc b (List.length a)).bind fun c=>(R0 ((a.take c).drop 0)).bind fun d=>(inc b (List.length a)).bind fun e=>(R0 ((a.take (List.length a)).drop e)).bind fun f=>(xQ (d.1) (f.1)).bind fun g=>some ((((g.2.2).drop 0).take (g.1)),(wrap .i64 ((wrap .i64 ((d.2)+(f.2)))+(g.2.1)))))
def ae6 (R0:(List Int)->Option ((List Int)×Int)) (a:List Int):Option ((List Int)×Int):=sz R0 a
def pG:Nat->((List Int)->Option ((List Int)×Int))
 |0=>(fun _=>none)
 |n+1=>(fun N=>ae6 (pG n) N)
def lS (n:Nat):(List Int)->Option ((List Int)×Int):=(pG n)
@[irreducible] def xR:=lS RR e
def sA:Option (Int):=(xL e (e.length:Int)).bind fun a=>cond (!a) (some (-1)) ((xR e).bind fun b=>some (b.2))
@[irreducible] def xS:=sA e
def sB:Option (Int):=(pB e).bind fun a=>(xS a).bind fun b=>some b
@[irreducible] def xT:=sB e
def xU:Option (ByteArray):=(xT e).bind fun a=>(strconv_Itoa a).bind fun b=>some b
@[irreducible] def Gs (a:List Int) (b:List (List Int)):=xU a
def Gt:Option (Int):=some (wrap .i64 (o-d))
@[irreducible] def Gu:=Gt d o
def Gv:Option (Unit⊕Int):=(eF e).bind fun a=>cond (!a) (some (Sum.inr (-1))) (some (Sum.inl ()))
def Gw:Option ((Int×(List (Int×Int×Unit)))):=(pC e).bind fun a=>some ((a.length:Int),a)
def sC:Option ((Int×Int)⊕Int):=cond (decide (p<o)) ((al p (List.length r)).bind fun a=>(r[a]?).bind fun b=>(Gu (b.1) ((b.2).1)).bind fun c=>some (Sum.inl ((wrap .i64 (d+c)),(wrap .i64 (p+1))))) (some (Sum.inr d))
def Rp:Option (Int):=ai (fun(a:Int×Int)=>((sC a.1 d a.2 r).map (Sum.elim (fun b=>Sum.inl (b.1,b.2)) (fun b=>Sum.inr b)))) LL (0,0)
def Rq:=(Rp d r).map (fun a=>a)
def Rr:=(Gw e).bind (fun a=>Rq a.1 a.2)
def Rs:Option (Int):=some d
def Rt:=(Rr e).bind (fun a=>Rs a)
def xV:=(Gv e).bind (Sum.elim (fun a=>Rt e) (fun b=>some ((fun a=>a) b)))
@[irreducible] def xW:=xV e
def xX:Option (ByteArray):=(xW e).bind fun a=>(strconv_Itoa a).bind fun b=>some b
@[irreducible] def Gx (a:List Int) (b:List (List Int)):=xX a
def Ru:Option (List Int):=rr e d v
def Gy:Option (Int):=some (e.length:Int)
def pH:Option (Int⊕Int):=cond (decide (o>0)) ((al (wrap .i64 (o-1)) (List.length v)).bind fun a=>(v[a]?).bind fun b=>cond (decide (d<b)) (some (Sum.inl (wrap .i64 (o-1)))) (some (Sum.inr o))) (some (Sum.inr o))
def Rw:=ai (fun(a:Int)=>((pH d a v).map (Sum.elim (fun b=>Sum.inl b) (fun b=>Sum.inr b)))) LL o
def Rx:=(Rw d o v).map (fun a=>a)
def Gz:Option (((List Int))):=(Ru o v ([d])).bind fun a=>some a
def Ry:=(Rx d o v).bind (fun a=>Gz d a v)
def xY:=(Gy e).bind (fun a=>Ry d a e)
@[irreducible] def xZ:=xY d e
def GA:Option (Unit):=some ()
def GB:Option ((Int×(List Int))):=(lP e o).bind fun a=>(jv a).bind fun b=>some ((b.length:Int),b)
def sD:Option ((Int×(List Int))⊕((List Int))):=cond (decide (p<o)) ((al p (List.length F)).bind fun a=>(F[a]?).bind fun b=>(idx e (wrap .i64 (b-1))).bind fun c=>(se c).bind fun d=>(xZ d v).bind fun f=>some (Sum.inl ((wrap .i64 (p+1)),f))) (some (Sum.inr v))
def Rz:Option (((List Int))):=ai (fun(a:Int×(List Int))=>((sD e o a.1 a.2 v).map (Sum.elim (fun b=>Sum.inl (b.1,b.2)) (fun b=>Sum.inr b)))) LL (0,([]:List Int))
def RA:=(Rz e o v).map (fun a=>a)
def RB:=(GB e B).bind (fun a=>RA v a.1 a.2)
def RC:Option (((List Int))):=some e
def RD:=(RB e v B).bind (fun a=>RC a)
def x0:=(GA).bind (fun a=>RD e v B)
@[irreducible] def x1:=x0 e v B
def GC:Option (Unit):=some ()
def GD:Option (Int):=some (e.length:Int)
def sE:Option ((Int×Int×(List Int))⊕(Int×(List Int))):=cond (decide (D<B)) ((idx v D).bind fun a=>(shr .u64 d D).bind fun b=>(same (List.length F) 2).bind fun c=>(al (dO .u64 b 1) 2).bind fun e=>(F[e]?).bind fun f=>(same (List.length F) 2).bind fun g=>(al (dO .u64 b 1) 2).bind fun h=>(F[h]?).bind fun i=>(same (List.length F) 2).bind fun j=>(al (dO .u64 b 1) 2).bind fun k=>some (Sum.inl ((wrap .i64 (o+(wrap .i64 (f+1)))),(wrap .i64 (D+1)),(F.set k (wrap .i64 (i+a)))))) (some (Sum.inr (o,F)))
def RE:Option ((Int×(List Int))):=ai (fun(a:Int×Int×(List Int))=>((sE d a.1 e o a.2.1 a.2.2).map (Sum.elim (fun b=>Sum.inl (b.1,b.2.1,b.2.2)) (fun b=>Sum.inr b)))) LL (0,0,(replicate 2 (0:Int)))
def RF:=(RE d e o).map (fun a=>(a.1,a.2))
def RG:=(GD e).bind (fun a=>RF o e a)
def GF:Option (Int):=cond a ((same (List.length e) 2).bind fun b=>(al 0 2).bind fun c=>(e[c]?).bind fun f=>some (wrap .i64 (d+f))) (some d)
def RH:=(RG e o).bind (fun a=>GF x a.1 a.2)
def x2:=(GC).bind (fun a=>RH e o x)
@[irreducible] def pI:=x2 e o x
def GG:Option (Int):=(pI e 0 g).bind fun a=>some a
def GH:Option (Int):=(shl .u64 1 (e.length:Int)).bind fun a=>some a
def sF:Option ((Int×Int)⊕Int):=cond (decide (q<p)) ((pI e q g).bind fun a=>some (Sum.inl ((bX o a),(wrap .u64 (q+1))))) (some (Sum.inr o))
def RI:Option (Int):=ai (fun(a:Int×Int)=>((sF e g a.1 p a.2).map (Sum.elim (fun b=>Sum.inl (b.1,b.2)) (fun b=>Sum.inr b)))) LL (o,0)
def RJ:=(RI e g o p).map (fun a=>a)
def RL:=(GH e).bind (fun a=>RJ e g o a)
def GI:Option (Int):=some d
def RM:=(RL e g o).bind (fun a=>GI a)
def x3:=(GG e g).bind (fun a=>RM e g a)
@[irreducible] def x4:=x3 e g
def GJ:Option (((List Int))⊕Int):=(eF e).bind fun a=>cond (!a) (some (Sum.inr (-1))) ((lR e).bind fun b=>some (Sum.inl b))
def GK:Option (Int):=some (e.length:Int)
def sG:Option ((Int×Int)⊕Int):=cond (decide (q<p)) ((idx e q).bind fun a=>(x1 e v (wrap .i64 (q+1))).bind fun b=>(x4 b (a !=0)).bind fun c=>some (Sum.inl ((wrap .i64 (o+c)),(wrap .i64 (q+1))))) (some (Sum.inr o))
def RN:Option (Int):=ai (fun(a:Int×Int)=>((sG e a.1 o a.2 v).map (Sum.elim (fun b=>Sum.inl (b.1,b.2)) (fun b=>Sum.inr b)))) LL (0,0)
def RO:=(RN e o v).map (fun a=>a)
def RP:=(GK e).bind (fun a=>RO e a v)
def RQ:Option (Int):=some d
def RS:=(RP e v).bind (fun a=>RQ a)
def x5:=(GJ e).bind (Sum.elim (fun a=>RS e a) (fun b=>some ((fun a=>a) b)))
@[irreducible] def x6:=x5 e
def x7:Option (ByteArray):=(x6 e).bind fun a=>(strconv_Itoa a).bind fun b=>some b
@[irreducible] def GL (a:List Int) (b:List (List Int)):=x7 a
def sH:Option (Int):=(quo .i64 (wrap .i64 (d*(wrap .i64 (d-1)))) 2).bind fun a=>some a
@[irreducible] def sJ:=sH d
def GM:Option (Unit):=some ()
def GN:Option (Int):=some (r.length:Int)
def sK:Option ((Int×(List Int))⊕((List Int))):=cond (decide (u<t)) ((idx r u).bind fun a=>(same (List.length v) 9).bind fun b=>(al (a.1) 9).bind fun c=>(v[c]?).bind fun d=>(same (List.length v) 9).bind fun e=>(al (a.1) 9).bind fun f=>(same (List.length (v.set f (wrap .i64 (d+1)))) 9).bind fun g=>(al ((a.2).1) 9).bind fun h=>((v.set f (wrap .i64 (d+1)))[h]?).bind fun i=>(same (List.length (v.set f (wrap .i64 (d+1)))) 9).bind fun j=>(al ((a.2).1) 9).bind fun k=>some (Sum.inl ((wrap .i64 (u+1)),((v.set f (wrap .i64 (d+1))).set k (wrap .i64 (i+1)))))) (some (Sum.inr v))
def RT:Option (((List Int))):=ai (fun(a:Int×(List Int))=>((sK r t a.1 a.2).map (Sum.elim (fun b=>Sum.inl (b.1,b.2)) (fun b=>Sum.inr b)))) LL (0,(replicate 9 (0:Int)))
def RU:=(RT r t).map (fun a=>a)
def RV:=(GN r).bind (fun a=>RU r a)
def GO:Option ((Int×Int×Int×Int×Int×Int×Int×Int×Int)):=(same (List.length e) 9).bind fun a=>(same (List.length (replicate 9 (0:Int))) 9).bind fun b=>some ((e.getD 0 (0:Int)),(e.getD 1 (0:Int)),(e.getD 2 (0:Int)),(e.getD 3 (0:Int)),(e.getD 4 (0:Int)),(e.getD 5 (0:Int)),(e.getD 6 (0:Int)),(e.getD 7 (0:Int)),(e.getD 8 (0:Int)))
def RW:=(RV r).bind (fun a=>GO a)
def x8:=(GM).bind (fun a=>RW r)
@[irreducible] def sL:=x8 r
def GP:Option ((Int×(List (Int×Int×Unit)))⊕Int):=(eF e).bind fun a=>cond (!a) (some (Sum.inr (-1))) ((pC e).bind fun b=>(sJ (b.length:Int)).bind fun c=>some (Sum.inl (c,b)))
def x9:Option ((Int×Int×Int×Int×Int×Int×Int×Int×Int)):=(sL r).bind fun a=>some ((a.1),(a.2.1),(a.2.2.1),(a.2.2.2.1),(a.2.2.2.2.1),(a.2.2.2.2.2.1),(a.2.2.2.2.2.2.1),(a.2.2.2.2.2.2.2.1),(a.2.2.2.2.2.2.2.2))
def sM:Option ((Int×Int)⊕Int):=cond (decide (M<9)) ((idx [o,p,q,t,u,B,D,H,K] M).bind fun a=>(sJ a).bind fun b=>some (Sum.inl ((wrap .i64 (d-b)),(wrap .i64 (M+1))))) (some (Sum.inr d))
def RX:Option (Int):=ai (fun(a:Int×Int)=>((sM a.1 o p q t u B D H K a.2).map (Sum.elim (fun b=>Sum.inl (b.1,b.2)) (fun b=>Sum.inr b)))) LL (d,0)
def RY:=(RX d o p q t u B D H K).map (fun a=>a)
def RZ:=(x9 r).bind (fun a=>RY d a.1 a.2.1 a.2.2.1 a.2.2.2.1 a.2.2.2.2.1 a.2.2.2.2.2.1 a.2.2.2.2.2.2.1 a.2.2.2.2.2.2.2.1 a.2.2.2.2.2.2.2.2)
def GQ:Option (Int):=some d
def R2:=(RZ d r).bind (fun a=>GQ a)
def ya:=(GP e).bind (Sum.elim (fun a=>R2 a.1 a.2) (fun b=>some ((fun a=>a) b)))
@[irreducible] def yb:=ya e
def yc:Option (ByteArray):=(yb e).bind fun a=>(strconv_Itoa a).bind fun b=>some b
@[irreducible] def GR (a:List Int) (b:List (List Int)):=yc a
def GS:Option (Bool):=some ((dO .u64 d (wrap .u64 (d+(dO .u64 d (wrap .u64 (0-d))))))==0)
@[irreducible] def GU:=GS d
def GV:Option (Unit⊕Bool):=(eF e).bind fun a=>cond (!a) (some (Sum.inr false)) (some (Sum.inl ()))
def GW:Option ((Int×(List Int))):=(lR e).bind fun a=>some ((a.length:Int),a)
def pJ:Option (Int⊕Bool⊕Unit):=cond (decide (o<d)) ((al o (List.length v)).bind fun a=>(v[a]?).bind fun b=>(GU b).bind fun c=>cond (!c) (some (Sum.inr (Sum.inl false))) (some (Sum.inl (wrap .i64 (o+1))))) (some (Sum.inr (Sum.inr ())))
def R3:Option (Bool⊕Unit):=ai (fun(a:Int)=>((pJ d a e).map (Sum.elim (fun b=>Sum.inl b) (Sum.elim (fun b=>Sum.inr (Sum.inl b)) (fun b=>Sum.inr (Sum.inr b)))))) LL 0
def R4:=(R3 d e).map (Sum.elim (fun a=>(Sum.inr a)) (fun a=>(Sum.inl ())))
def R5:=(GW e).bind (fun a=>R4 a.1 a.2)
def GX:Option (Bool):=some true
def R6:=(R5 e).bind (Sum.elim (fun a=>GX) (fun b=>some ((fun a=>a) b)))
def yd:=(GV e).bind (Sum.elim (fun a=>R6 e) (fun b=>some ((fun a=>a) b)))
@[irreducible] def nD:=yd e
def ye:Option (ByteArray):=cond a (some (ByteArray.mk #[121,101,115])) (some (ByteArray.mk #[110,111]))
@[irreducible] def sN:=ye a
def yf:Option (ByteArray):=(nD e).bind fun a=>(sN a).bind fun b=>some b
@[irreducible] def GY (a:List Int) (b:List (List Int)):=yf a
def yg:Option (Bool):=(sk d o).bind fun a=>(sk p q).bind fun b=>cond (a.1) (cond (b.1) ((xC (a.2.1) (a.2.2) (b.2.1) (b.2.2)).bind fun c=>some c) (some false)) (some false)
@[irreducible] def GZ:=yg d o p q
def yh:Option (Bool):=(GZ p q d o).bind fun a=>some a
@[irreducible] def G0:=yh d o p q
def R7:Option (Unit):=some ()
def R8:Option (Int):=some (e.length:Int)
def R9:Option (Unit⊕Int):=cond (decide (p<o)) (some (Sum.inl ())) (some (Sum.inr d))
def Sa:Option ((Int×(List Int)×Int)):=(idx e o).bind fun a=>(inc (wrap .i64 (o+1)) (List.length e)).bind fun b=>some (a,((e.take (List.length e)).drop b),(List.length ((e.take (List.length e)).drop b):Int))
def Sb:Option ((Int×Int)⊕Int):=cond (decide (D<B)) ((idx v D).bind fun a=>(G0 o a H K).bind fun b=>cond b (some (Sum.inl ((wrap .i64 (d+1)),(wrap .i64 (D+1))))) (some (Sum.inl (d,(wrap .i64 (D+1)))))) (some (Sum.inr d))
def ae7:Option (Int):=ai (fun(a:Int×Int)=>((Sb a.1 o v B a.2 D H).map (Sum.elim (fun b=>Sum.inl (b.1,b.2)) (fun b=>Sum.inr b)))) LL (d,0)
def ae8:=(ae7 d o v B D H).map (fun a=>a)
def ae9:=(Sa e p).bind (fun a=>ae8 o a.1 a.2.1 a.2.2 q t)
def afa:=(ae9 e o p q t).map (fun a=>a)
def Sc:Option (Int):=some (wrap .i64 (d+1))
def afb:=(afa e o p q t).bind (fun a=>(Sc p).map (fun b=>(a,b)))
def afc:=(R9 o p q).bind (Sum.elim (fun a=>(afb e o q t u).map (fun a=>(Sum.inl (a.1,a.2)))) (fun b=>some ((fun a=>(Sum.inr a)) b)))
def afd:Option (Int):=ai (fun(a:Int×Int)=>((afc e a.1 o a.2 p q).map (Sum.elim (fun b=>Sum.inl (b.1,b.2)) (fun b=>Sum.inr b)))) LL (0,0)
def afe:=(afd e o p q).map (fun a=>a)
def aff:=(R8 e).bind (fun a=>afe e a o p)
def Sd:Option (Int):=some d
def afg:=(aff e o p).bind (fun a=>Sd a)
def Se:=(R7).bind (fun a=>afg e o p)
@[irreducible] def G1:=Se e o p
def sO:Option (Bool):=(G1 v d o).bind fun a=>some (decide (a>0))
@[irreducible] def sP:=sO d o v
def Sf:Option (Unit):=some ()
def Sg:Option (Int):=some (e.length:Int)
def Sh:Option (Unit⊕Int):=cond (decide (p<o)) (some (Sum.inl ())) (some (Sum.inr d))
def Si:Option ((Int×(List Int)×Int)):=(idx e o).bind fun a=>(inc (wrap .i64 (o+1)) (List.length e)).bind fun b=>some (a,((e.take (List.length e)).drop b),(List.length ((e.take (List.length e)).drop b):Int))
def Sj:Option ((Int×Int)⊕Int):=cond (decide (D<B)) ((idx v D).bind fun a=>(sP o a F).bind fun b=>cond b (some (Sum.inl ((wrap .i64 (d+1)),(wrap .i64 (D+1))))) (some (Sum.inl (d,(wrap .i64 (D+1)))))) (some (Sum.inr d))
def afh:Option (Int):=ai (fun(a:Int×Int)=>((Sj a.1 o v B a.2 F).map (Sum.elim (fun b=>Sum.inl (b.1,b.2)) (fun b=>Sum.inr b)))) LL (d,0)
def afi:=(afh d o v B F).map (fun a=>a)
def afj:=(Si e p).bind (fun a=>afi o a.1 a.2.1 a.2.2 v)
def afk:=(afj e o p v).map (fun a=>a)
def Sk:Option (Int):=some (wrap .i64 (d+1))
def afl:=(afk e o p v).bind (fun a=>(Sk p).map (fun b=>(a,b)))
def afm:=(Sh o p q).bind (Sum.elim (fun a=>(afl e o q v).map (fun a=>(Sum.inl (a.1,a.2)))) (fun b=>some ((fun a=>(Sum.inr a)) b)))
def afn:Option (Int):=ai (fun(a:Int×Int)=>((afm e a.1 o a.2 v).map (Sum.elim (fun b=>Sum.inl (b.1,b.2)) (fun b=>Sum.inr b)))) LL (0,0)
def afo:=(afn e o v).map (fun a=>a)
def afp:=(Sg e).bind (fun a=>afo e a v)
def Sl:Option (Int):=some d
def afq:=(afp e v).bind (fun a=>Sl a)
def Sm:=(Sf).bind (fun a=>afq e v)
@[irreducible] def G2:=Sm e v
def sQ:Option (Bool):=cond ((dO .u64 d o) !=0) (some false) ((jv o).bind fun a=>(jv d).bind fun b=>(G2 b a).bind fun c=>some (decide (c>0)))
@[irreducible] def sR:=sQ d o
def Sn:Option (Unit):=some ()
def So:Option (Int):=some (e.length:Int)
def Sp:Option (Unit⊕Int):=cond (decide (p<o)) (some (Sum.inl ())) (some (Sum.inr d))
def Sq:Option ((Int×(List Int)×Int)):=(idx e o).bind fun a=>(inc (wrap .i64 (o+1)) (List.length e)).bind fun b=>some (a,((e.take (List.length e)).drop b),(List.length ((e.take (List.length e)).drop b):Int))
def Sr:Option ((Int×Int)⊕Int):=cond (decide (D<B)) ((idx v D).bind fun a=>(sR o a).bind fun b=>cond b (some (Sum.inl ((wrap .i64 (d+1)),(wrap .i64 (D+1))))) (some (Sum.inl (d,(wrap .i64 (D+1)))))) (some (Sum.inr d))
def afr:Option (Int):=ai (fun(a:Int×Int)=>((Sr a.1 o v B a.2).map (Sum.elim (fun b=>Sum.inl (b.1,b.2)) (fun b=>Sum.inr b)))) LL (d,0)
def afs:=(afr d o v B).map (fun a=>a)
def aft:=(Sq e p).bind (fun a=>afs o a.1 a.2.1 a.2.2)
def afu:=(aft e o p).map (fun a=>a)
def Ss:Option (Int):=some (wrap .i64 (d+1))
def afv:=(afu e o p).bind (fun a=>(Ss p).map (fun b=>(a,b)))
def afw:=(Sp o p q).bind (Sum.elim (fun a=>(afv e o q).map (fun a=>(Sum.inl (a.1,a.2)))) (fun b=>some ((fun a=>(Sum.inr a)) b)))
def afx:Option (Int):=ai (fun(a:Int×Int)=>((afw e a.1 o a.2).map (Sum.elim (fun b=>Sum.inl (b.1,b.2)) (fun b=>Sum.inr b)))) LL (0,0)
def afy:=(afx e o).map (fun a=>a)
def afz:=(So e).bind (fun a=>afy e a)
def Su:Option (Int):=some d
def afA:=(afz e).bind (fun a=>Su a)
def Sv:=(Sn).bind (fun a=>afA e)
@[irreducible] def G3:=Sv e
def sS:Option (Bool):=(eF e).bind fun a=>cond a ((lR e).bind fun b=>(G3 b).bind fun c=>some (c==0)) (some false)
@[irreducible] def yi:=sS e
def yj:Option (ByteArray):=(yi e).bind fun a=>(sN a).bind fun b=>some b
@[irreducible] def G4 (a:List Int) (b:List (List Int)):=yj a
def sT:Option (((List Int))):=(mk d d).bind fun a=>some (replicate a (0:Int))
@[irreducible] def sV:=sT d
@[irreducible] def G5:=some ()
def yk:Option (Unit):=some ()
@[irreducible] def G6 (a:List Int) (b c:Int) (d:List Int):=yk
def pK:Option ((Int×Int×Bool)):=cond (decide ((e.length:Int)<2)) (some (0,0,false)) ((al (wrap .i64 ((e.length:Int)-2)) (List.length e)).bind fun a=>(e[a]?).bind fun b=>(al (wrap .i64 ((e.length:Int)-1)) (List.length e)).bind fun c=>(e[c]?).bind fun d=>some (b,d,true))
@[irreducible] def lT (a b:Int) (c d:List Int):=pK d
def yl:Option (Bool):=(idx v (wrap .i64 (d-1))).bind fun a=>cond (a==o) ((lP v d).bind fun b=>(lP F d).bind fun c=>some (b==c)) (some false)
@[irreducible] def sW (a b:Int) (c:List Int) (d e:Int) (f g:List Int):=yl a b c f
def ym:Option (Int):=(lT d o F I).bind fun a=>cond (a.2.2) ((sW (a.1) (a.2.1) v d o F I).bind fun b=>cond b (some 76) (cond (a.2.2) ((sW (a.2.1) (a.1) v d o F I).bind fun c=>cond c (some 82) (some 83)) (some 83))) (cond (a.2.2) ((sW (a.2.1) (a.1) v d o F I).bind fun e=>cond e (some 82) (some 83)) (some 83))
@[irreducible] def G7:=ym d o v F I
def yn:Option ((Bool×Int×Int×(List Int))):=cond (d==(v.length:Int)) (some (false,d,o,F)) ((room ((List.length F)+List.length ([(wrap .i64 (d+1))]))).bind fun a=>some (true,(wrap .i64 (d+1)),(imax o (List.length (F++([(wrap .i64 (d+1))])):Int)),(F++([(wrap .i64 (d+1))]))))
@[irreducible] def G8:=yn d o v F
def yo:Option (((List Int)×(List Int))):=(al (wrap .i64 (d-1)) (List.length v)).bind fun a=>(inc (wrap .i64 ((F.length:Int)-2)) (List.length F)).bind fun b=>(room ((b-0)+List.length ([o]))).bind fun c=>some ((v.set a o),(((F.drop 0).take (b-0))++([o])))
@[irreducible] def sX (a b c d:Int) (e f:List Int):=(yo a b e f).map (fun g=>(g.1,g.2))
def yp:Option ((Bool×(List Int)×(List Int))):=(lT d o v F).bind fun a=>cond (a.2.2) ((sX (a.1) (a.2.1) d o v F).bind fun b=>some ((a.2.2),(b.1),(b.2))) (some ((a.2.2),v,F))
@[irreducible] def G9:=yp d o v F
def yq:Option ((Bool×(List Int)×(List Int))):=(lT d o v F).bind fun a=>cond (a.2.2) ((sX (a.2.1) (a.1) d o v F).bind fun b=>some ((a.2.2),(b.1),(b.2))) (some ((a.2.2),v,F))
@[irreducible] def Ha:=yq d o v F
def Hb:Option (((List Int))⊕(ByteArray×Bool)):=(nD e).bind fun a=>cond (!a) (some (Sum.inr (empty,false))) ((sV (e.length:Int)).bind fun b=>(G5).bind fun c=>(G6 e 0 0 b).bind fun d=>some (Sum.inl b))
def Hc:Option (Int):=some (wrap .i64 ((wrap .i64 (2*(e.length:Int)))-1))
def pL:Option ((Int×Int×Int×(List Int)×(List Int)×(List Int))⊕((List Int))):=cond (decide (o<d)) ((G7 p q L F I).bind fun a=>cond (a==83) ((G8 p q F I).bind fun b=>(room ((List.length v)+List.length ([a]))).bind fun c=>some (Sum.inl ((wrap .i64 (o+1)),(b.2.1),(b.2.2.1),(v++([a])),F,(b.2.2.2)))) (cond (a==76) ((G9 p q F I).bind fun e=>(room ((List.length v)+List.length ([a]))).bind fun f=>some (Sum.inl ((wrap .i64 (o+1)),p,q,(v++([a])),(e.2.1),(e.2.2)))) (cond (a==82) ((Ha p q F I).bind fun g=>(room ((List.length v)+List.length ([a]))).bind fun h=>some (Sum.inl ((wrap .i64 (o+1)),p,q,(v++([a])),(g.2.1),(g.2.2)))) (none)))) (some (Sum.inr v))
def Sw:Option (((List Int))):=ai (fun(a:Int×Int×Int×(List Int)×(List Int)×(List Int))=>((pL d a.1 a.2.1 a.2.2.1 a.2.2.2.1 a.2.2.2.2.1 a.2.2.2.2.2 v).map (Sum.elim (fun b=>Sum.inl (b.1,b.2.1,b.2.2.1,b.2.2.2.1,b.2.2.2.2.1,b.2.2.2.2.2)) (fun b=>Sum.inr b)))) LL (0,0,0,([]:List Int),e,([]:List Int))
def Sx:=(Sw d e v).map (fun a=>a)
def Sy:=(Hc e).bind (fun a=>Sx a v e)
def Hd:Option ((ByteArray×Bool)):=some ((bytesOf e),true)
def Sz:=(Sy e v).bind (fun a=>Hd a)
def yr:=(Hb e).bind (Sum.elim (fun a=>Sz e a) (fun b=>some ((fun a=>a) b)))
@[irreducible] def yt:=yr e
def sY:Option (ByteArray):=cond (aD b empty) (some (ByteArray.mk #[110,111,110,101])) (some b)
@[irreducible] def lU:=sY b
def sZ:Option (ByteArray):=(yt e).bind fun a=>(lU (a.1)).bind fun b=>some b
@[irreducible] def yu (a:List Int) (b:List (List Int)):=sZ a
def yv:Option (((List Int))):=(sV d).bind fun a=>some a
@[irreducible] def He:=yv d
@[irreducible] def Hf:=some ()
def s0:Option ((Int×Int×Bool)):=cond ((((h:Nat):Int))==0) (some (0,0,false)) (cond (o==(v.length:Int)) (some (0,0,false)) ((al (wrap .i64 ((((h:Nat):Int))-1)) h).bind fun a=>(F[(f+a)]?).bind fun b=>some (b,(wrap .i64 (o+1)),true)))
@[irreducible] def pM (a b:Nat) (c d e:Int) (f g:List Int):=s0 a b c f g
def s1:Option (Bool):=(idx e (wrap .i64 (o-1))).bind fun a=>cond (a==d) (some true) ((idx e (wrap .i64 (d-1))).bind fun b=>some (b==o))
@[irreducible] def yw:=s1 d e o
def Hg:Option (Unit):=some ()
def Hh:Option (Int):=some (e.length:Int)
def s2:Option (Int⊕Int⊕Unit):=cond (decide (p<o)) ((idx e p).bind fun a=>(yw a v B).bind fun b=>cond b (some (Sum.inr (Sum.inl p))) (some (Sum.inl (wrap .i64 (p+1))))) (some (Sum.inr (Sum.inr ())))
def SA:Option (Int⊕Unit):=ai (fun(a:Int)=>((s2 e o a v B).map (Sum.elim (fun b=>Sum.inl b) (Sum.elim (fun b=>Sum.inr (Sum.inl b)) (fun b=>Sum.inr (Sum.inr b)))))) LL 0
def SB:=(SA e o v B).map (Sum.elim (fun a=>(Sum.inr a)) (fun a=>(Sum.inl ())))
def SC:=(Hh e).bind (fun a=>SB e a v B)
def SD:Option (Int):=some (-1)
def SE:=(SC e v B).bind (Sum.elim (fun a=>SD) (fun b=>some ((fun a=>a) b)))
def yx:=(Hg).bind (fun a=>SE e v B)
@[irreducible] def Hi:=yx e v B
def yy:Option (Bool):=(Hi e v B).bind fun a=>some (decide (a>=0))
@[irreducible] def Hj:=yy e v B
def s3:Option (Bool):=(inc (wrap .i64 ((((A:Nat):Int))-1)) A).bind fun a=>(Hj ((F.drop (z+0)).take (a-0)) e o).bind fun b=>some b
@[irreducible] def yz (a:List Int) (b:Int) (c d:Nat) (e f g:Int) (h i:List Int):=s3 a b c d i
def s4:Option (Int):=(pM f h o p q v F).bind fun a=>cond (!(a.2.2)) (some 83) ((idx e (wrap .i64 ((a.1)-1))).bind fun b=>cond (b==(a.2.1)) (some 76) ((idx e (wrap .i64 ((a.2.1)-1))).bind fun c=>cond (c==(a.1)) (some 82) ((yz e (a.2.1) f h o p q v F).bind fun d=>cond d (some 68) (some 83))))
@[irreducible] def yA:=s4 e f h o p q v F
def s5:Option ((Bool×Nat×Nat×Int×Int×(List Int))):=cond (o==(v.length:Int)) (some (false,f,h,o,p,F)) ((room (h+List.length ([(wrap .i64 (o+1))]))).bind fun a=>some (true,0,(List.length (((F.drop f).take h)++([(wrap .i64 (o+1))]))),(wrap .i64 (o+1)),(imax p (List.length (((F.drop f).take h)++([(wrap .i64 (o+1))])):Int)),(((F.drop f).take h)++([(wrap .i64 (o+1))]))))
@[irreducible] def pN (a b:Nat) (c d e:Int) (f g:List Int):=s5 a b c d f g
def Hk:Option (Bool):=some ((dO .u64 d o)==o)
@[irreducible] def Hl:=Hk d o
def s6:Option (Bool):=(kB d).bind fun a=>(Hl o a).bind fun b=>some b
@[irreducible] def s7 (a:Int) (b c:Nat) (d e f:Int) (g h:List Int):=s6 a f
def s8:Option ((Int×(List Int))):=(al (wrap .i64 (d-1)) (List.length v)).bind fun a=>(kB d).bind fun b=>some ((ji .u64 p b),(v.set a o))
@[irreducible] def pO (a b:Int) (c d:Nat) (e f g:Int) (h i:List Int):=(s8 a b g h).map (fun j=>(j.1,j.2))
def yB:Option ((Nat×Nat)):=(inc (wrap .i64 ((((h:Nat):Int))-1)) h).bind fun a=>some ((f+0),(a-0))
@[irreducible] def s9 (a b:Nat) (c d e:Int) (f g:List Int):=(yB a b).map (fun h=>(h.1,h.2))
def nE:Option ((Bool×Nat×Nat×Int×(List Int))):=(pM f h o p q v F).bind fun a=>cond (!(a.2.2)) (some (false,f,h,q,v)) ((s7 (a.1) f h o p q v F).bind fun b=>cond b (some (false,f,h,q,v)) ((pO (a.1) (a.2.1) f h o p q v F).bind fun c=>(s9 f h o p (c.1) (c.2) F).bind fun d=>some (true,(d.1),(d.2),(c.1),(c.2))))
@[irreducible] def nF:=nE f h o p q v F
def pP:Option ((Bool×Nat×Nat×Int×Int×Int×(List Int)×(List Int))):=(pM f h o p q v F).bind fun a=>cond (!(a.2.2)) (some (false,f,h,o,p,q,v,F)) ((pO (a.2.1) (a.1) f h o p q v F).bind fun b=>(pN f h o p (b.1) (b.2) F).bind fun c=>some ((c.1),(c.2.1),(c.2.2.1),(c.2.2.2.1),(c.2.2.2.2.1),(b.1),(b.2),(c.2.2.2.2.2)))
@[irreducible] def pQ:=pP f h o p q v F
def ta:Option ((Bool×Nat×Nat)):=cond ((((h:Nat):Int))==0) (some (false,f,h)) ((al (wrap .i64 ((((h:Nat):Int))-1)) h).bind fun a=>(F[(f+a)]?).bind fun b=>(s7 b f h o p q v F).bind fun c=>cond (!c) (some (false,f,h)) ((s9 f h o p q v F).bind fun d=>some (true,(d.1),(d.2))))
@[irreducible] def pR:=ta f h o p q v F
def Hm:Option ((Nat×(List Int))⊕(ByteArray×Bool)):=(nD e).bind fun a=>cond (!a) (some (Sum.inr (empty,false))) ((He (e.length:Int)).bind fun b=>(Hf).bind fun c=>some (Sum.inl ((List.length ([]:List Int)),b)))
def pS:Option ((Nat×Nat×Int×Int×Int×(List Int)×(List Int)×(List Int))⊕((List Int))):=cond (decide (o<(e.length:Int))) ((yA e f h o p q F I).bind fun a=>cond (a==83) ((pN f h o p q F I).bind fun b=>(room ((List.length v)+List.length ([a]))).bind fun c=>some (Sum.inl ((b.2.1),(b.2.2.1),(b.2.2.2.1),(b.2.2.2.2.1),q,(v++([a])),F,(b.2.2.2.2.2)))) (cond (a==76) ((nF f h o p q F I).bind fun d=>(room ((List.length v)+List.length ([a]))).bind fun g=>some (Sum.inl ((d.2.1),(d.2.2.1),o,p,(d.2.2.2.1),(v++([a])),(d.2.2.2.2),I))) (cond (a==82) ((pQ f h o p q F I).bind fun i=>(room ((List.length v)+List.length ([a]))).bind fun j=>some (Sum.inl ((i.2.1),(i.2.2.1),(i.2.2.2.1),(i.2.2.2.2.1),(i.2.2.2.2.2.1),(v++([a])),(i.2.2.2.2.2.2.1),(i.2.2.2.2.2.2.2)))) (cond (a==68) ((pR f h o p q F I).bind fun k=>(room ((List.length v)+List.length ([a]))).bind fun l=>some (Sum.inl ((k.2.1),(k.2.2),o,p,q,(v++([a])),F,I))) (none))))) (some (Sum.inr v))
def SF:Option (((List Int))):=ai (fun(a:Nat×Nat×Int×Int×Int×(List Int)×(List Int)×(List Int))=>((pS e a.1 a.2.1 a.2.2.1 a.2.2.2.1 a.2.2.2.2.1 a.2.2.2.2.2.1 a.2.2.2.2.2.2.1 a.2.2.2.2.2.2.2).map (Sum.elim (fun b=>Sum.inl (b.1,b.2.1,b.2.2.1,b.2.2.2.1,b.2.2.2.2.1,b.2.2.2.2.2.1,b.2.2.2.2.2.2.1,b.2.2.2.2.2.2.2)) (fun b=>Sum.inr b)))) LL (0,f,0,0,0,([]:List Int),v,([]:List Int))
def SG:=(SF e f v).map (fun a=>a)
def Hn:Option ((ByteArray×Bool)):=some ((bytesOf e),true)
def SH:=(SG e f v).bind (fun a=>Hn a)
def yC:=(Hm e).bind (Sum.elim (fun a=>SH e a.1 a.2) (fun b=>some ((fun a=>a) b)))
@[irreducible] def yD:=yC e
def tb:Option (ByteArray):=(yD e).bind fun a=>(lU (a.1)).bind fun b=>some b
@[irreducible] def yE (a:List Int) (b:List (List Int)):=tb a
def Ho:Option (Unit):=some ()
@[irreducible] def SI (a b c d e f g h i j k l m n:Int):=Ho
def SJ:Option (Unit):=some ()
def SK:Option (Unit):=some ()
def SL (a b c d e f g h i j k l m n o p q r:Int):Option ((Int×Int)⊕Int):=cond (decide (d<c)) ((al d 7).bind fun s=>([e,f,g,h,i,j,k,l,m,n,o,p,q,r][s]?).bind fun t=>(al (wrap .i64 (a-d)) 7).bind fun u=>([l,m,n,o,p,q,r][u]?).bind fun v=>some (Sum.inl ((wrap .i64 (b+(wrap .i64 (t*v)))),(wrap .i64 (d+1))))) (some (Sum.inr b))
def afB (a b c d e f g h i j k l m n o p:Int):Option (Int):=ai (fun(q:Int×Int)=>((SL a q.1 b q.2 c d e f g h i j k l m n o p).map (Sum.elim (fun r=>Sum.inl (r.1,r.2)) (fun r=>Sum.inr r)))) LL (0,0)
def afC (a b c d e f g h i j k l m n o p:Int):=(afB a b c d e f g h i j k l m n o p).map (fun q=>q)
def afD (a b c d e f g h i j k l m n o p:Int):=(SK).bind (fun q=>afC a b c d e f g h i j k l m n o p)
def SM:Option (Int):=some d
def afE (a b c d e f g h i j k l m n o p:Int):=(afD a b c d e f g h i j k l m n o p).bind (fun q=>SM q)
def SN (a b c d e f g h i j k l m n o p:Int):=(SJ).bind (fun q=>afE o p a b c d e f g h i j k l m n)
@[irreducible] def SO (a b c d e f g h i j k l m n o p:Int):=SN a b c d e f g h i j k l m n o p
def Hp (a b c d e f g h i j k l m n o:Int):Option (Int):=(SO a b c d e f g h i j k l m n o (wrap .i64 (o+1))).bind fun p=>some p
@[irreducible] def SP (a b c d e f g h i j k l m n o:Int):=Hp a b c d e f g h i j k l m n o
def Hq:Option (Unit):=some ()
@[irreducible] def SQ (a b c d e f g h i j k l m n:Int):=Hq
def SR:Option ((Int×Int×Int×Int×Int×Int×Int)):=(al 0 7).bind fun a=>(within a 7).bind fun b=>some ((cond (a==0) 1 0),(cond (a==1) 1 0),(cond (a==2) 1 0),(cond (a==3) 1 0),(cond (a==4) 1 0),(cond (a==5) 1 0),(cond (a==6) 1 0))
def SS:Option (Unit):=some ()
def SU (a b c d e f g h i j k l m n o:Int):Option ((Int×Int×Int×Int×Int×Int×Int×Int×Int×Int×Int×Int×Int×Int×Int)⊕(Int×Int×Int×Int×Int×Int×Int×Int×Int×Int×Int×Int×Int×Int)):=cond (decide (a<=6)) ((SI b c d e f g h i j k l m n o).bind fun p=>(SP i j k l m n o i j k l m n o (wrap .i64 (a-1))).bind fun q=>(al a 7).bind fun r=>(within r 14).bind fun s=>(SQ (cond (r==0) q b) (cond (r==1) q c) (cond (r==2) q d) (cond (r==3) q e) (cond (r==4) q f) (cond (r==5) q g) (cond (r==6) q h) (cond (r==7) q i) (cond (r==8) q j) (cond (r==9) q k) (cond (r==10) q l) (cond (r==11) q m) (cond (r==12) q n) (cond (r==13) q o)).bind fun t=>(SP (cond (r==0) q b) (cond (r==1) q c) (cond (r==2) q d) (cond (r==3) q e) (cond (r==4) q f) (cond (r==5) q g) (cond (r==6) q h) (cond (r==7) q i) (cond (r==8) q j) (cond (r==9) q k) (cond (r==10) q l) (cond (r==11) q m) (cond (r==12) q n) (cond (r==13) q o) a).bind fun u=>(al a 7).bind fun v=>(within v 7).bind fun w=>some (Sum.inl ((wrap .i64 (a+1)),(cond (r==0) q b),(cond (r==1) q c),(cond (r==2) q d),(cond (r==3) q e),(cond (r==4) q f),(cond (r==5) q g),(cond (r==6) q h),(cond (v==0) u (cond (r==7) q i)),(cond (v==1) u (cond (r==8) q j)),(cond (v==2) u (cond (r==9) q k)),(cond (v==3) u (cond (r==10) q l)),(cond (v==4) u (cond (r==11) q m)),(cond (v==5) u (cond (r==12) q n)),(cond (v==6) u (cond (r==13) q o))))) (some (Sum.inr (b,c,d,e,f,g,h,i,j,k,l,m,n,o)))
def afF:Option ((Int×Int×Int×Int×Int×Int×Int×Int×Int×Int×Int×Int×Int×Int)):=ai (fun(a:Int×Int×Int×Int×Int×Int×Int×Int×Int×Int×Int×Int×Int×Int×Int)=>((SU a.1 a.2.1 a.2.2.1 a.2.2.2.1 a.2.2.2.2.1 a.2.2.2.2.2.1 a.2.2.2.2.2.2.1 a.2.2.2.2.2.2.2.1 a.2.2.2.2.2.2.2.2.1 a.2.2.2.2.2.2.2.2.2.1 a.2.2.2.2.2.2.2.2.2.2.1 a.2.2.2.2.2.2.2.2.2.2.2.1 a.2.2.2.2.2.2.2.2.2.2.2.2.1 a.2.2.2.2.2.2.2.2.2.2.2.2.2.1 a.2.2.2.2.2.2.2.2.2.2.2.2.2.2).map (Sum.elim (fun b=>Sum.inl (b.1,b.2.1,b.2.2.1,b.2.2.2.1,b.2.2.2.2.1,b.2.2.2.2.2.1,b.2.2.2.2.2.2.1,b.2.2.2.2.2.2.2.1,b.2.2.2.2.2.2.2.2.1,b.2.2.2.2.2.2.2.2.2.1,b.2.2.2.2.2.2.2.2.2.2.1,b.2.2.2.2.2.2.2.2.2.2.2.1,b.2.2.2.2.2.2.2.2.2.2.2.2.1,b.2.2.2.2.2.2.2.2.2.2.2.2.2.1,b.2.2.2.2.2.2.2.2.2.2.2.2.2.2)) (fun b=>Sum.inr b)))) LL (1,0,0,0,0,0,0,0,d,o,p,q,t,u,B)
def afG:=(afF d o p q t u B).map (fun a=>(a.1,a.2.1,a.2.2.1,a.2.2.2.1,a.2.2.2.2.1,a.2.2.2.2.2.1,a.2.2.2.2.2.2.1,a.2.2.2.2.2.2.2.1,a.2.2.2.2.2.2.2.2.1,a.2.2.2.2.2.2.2.2.2.1,a.2.2.2.2.2.2.2.2.2.2.1,a.2.2.2.2.2.2.2.2.2.2.2.1,a.2.2.2.2.2.2.2.2.2.2.2.2.1,a.2.2.2.2.2.2.2.2.2.2.2.2.2))
def afH:=(SS).bind (fun a=>afG d o p q t u B)
def SV (a b c d e f g h i j k l m n:Int):Option ((Int×Int×Int×Int×Int×Int×Int×Int×Int×Int×Int×Int×Int×Int)):=some (a,b,c,d,e,f,g,h,i,j,k,l,m,n)
def afI:=(afH d o p q t u B).bind (fun a=>SV a.1 a.2.1 a.2.2.1 a.2.2.2.1 a.2.2.2.2.1 a.2.2.2.2.2.1 a.2.2.2.2.2.2.1 a.2.2.2.2.2.2.2.1 a.2.2.2.2.2.2.2.2.1 a.2.2.2.2.2.2.2.2.2.1 a.2.2.2.2.2.2.2.2.2.2.1 a.2.2.2.2.2.2.2.2.2.2.2.1 a.2.2.2.2.2.2.2.2.2.2.2.2.1 a.2.2.2.2.2.2.2.2.2.2.2.2.2)
def SW:=(SR).bind (fun a=>afI a.1 a.2.1 a.2.2.1 a.2.2.2.1 a.2.2.2.2.1 a.2.2.2.2.2.1 a.2.2.2.2.2.2)
@[irreducible] def SX:=SW
def Hr (a b c d e f g h i j k l m n o p q r:Int):Option (Int):=(al q 7).bind fun s=>([h,i,j,k,l,m,n][s]?).bind fun t=>(SO a b c d e f g h i j k l m n (wrap .i64 (o+q)) o).bind fun u=>some (wrap .i64 ((wrap .i64 (u+(wrap .i64 (p*t))))+r))
@[irreducible] def SY (a b c d e f g h i j k l m n o p q r:Int):=Hr a b c d e f g h i j k l m n o p q r
def Hs (R0:Int->Int->Int->Int->Int->Int->Int->Int->Int->Int->Int->Int->Int->Int->(List Int)->Int->Option (Int×Int)) (R1:Int->Int->Int->Int->Int->Int->Int->Int->Int->Int->Int->Int->Int->Int->(List Int)->(List Int)->Option (Int×Int)) (a b c d e f g h i j k l m n:Int) (o:List Int) (p:Int):Option ((Int×Int)):=(sd o p).bind fun q=>(jv (q.1)).bind fun r=>(R1 a b c d e f g h i j k l m n o r).bind fun s=>(jv (q.2)).bind fun t=>(R1 a b c d e f g h i j k l m n o t).bind fun u=>(SI a b c d e f g h i j k l m n).bind fun v=>(SY h i j k l m n h i j k l m n (s.1) (s.2) (u.1) (u.2)).bind fun w=>some ((wrap .i64 ((wrap .i64 ((s.1)+1))+(u.1))),w)
def afJ (R0:Int->Int->Int->Int->Int->Int->Int->Int->Int->Int->Int->Int->Int->Int->(List Int)->Int->Option (Int×Int)) (R1:Int->Int->Int->Int->Int->Int->Int->Int->Int->Int->Int->Int->Int->Int->(List Int)->(List Int)->Option (Int×Int)) (a b c d e f g h i j k l m n:Int) (o:List Int) (p:Int):Option (Int×Int):=Hs R0 R1 a b c d e f g h i j k l m n o p
def Ht (R0:Int->Int->Int->Int->Int->Int->Int->Int->Int->Int->Int->Int->Int->Int->(List Int)->Int->Option (Int×Int)) (R1:Int->Int->Int->Int->Int->Int->Int->Int->Int->Int->Int->Int->Int->Int->(List Int)->(List Int)->Option (Int×Int)) (a b c d e f g h i j k l m n:Int) (o p:List Int):Option ((Int×Int)):=cond ((p.length:Int)==0) (some (0,0)) ((idx p 0).bind fun q=>(R0 a b c d e f g h i j k l m n o q).bind fun r=>(inc 1 (List.length p)).bind fun s=>(R1 a b c d e f g h i j k l m n o ((p.take (List.length p)).drop s)).bind fun t=>(SQ a b c d e f g h i j k l m n).bind fun u=>(SY a b c d e f g h i j k l m n (r.1) (r.2) (t.1) (t.2)).bind fun v=>some ((wrap .i64 ((r.1)+(t.1))),v))
def afK (R0:Int->Int->Int->Int->Int->Int->Int->Int->Int->Int->Int->Int->Int->Int->(List Int)->Int->Option (Int×Int)) (R1:Int->Int->Int->Int->Int->Int->Int->Int->Int->Int->Int->Int->Int->Int->(List Int)->(List Int)->Option (Int×Int)) (a b c d e f g h i j k l m n:Int) (o p:List Int):Option (Int×Int):=Ht R0 R1 a b c d e f g h i j k l m n o p
def lV:Nat->(Int->Int->Int->Int->Int->Int->Int->Int->Int->Int->Int->Int->Int->Int->(List Int)->Int->Option (Int×Int))×(Int->Int->Int->Int->Int->Int->Int->Int->Int->Int->Int->Int->Int->Int->(List Int)->(List Int)->Option (Int×Int))
 |0=>((fun _ _ _ _ _ _ _ _ _ _ _ _ _ _ _ _=>none),(fun _ _ _ _ _ _ _ _ _ _ _ _ _ _ _ _=>none))
 |n+1=>((fun N O V W X Y Z a0 a1 a2 P Q R S T U=>afJ (lV n).1 (lV n).2 N O V W X Y Z a0 a1 a2 P Q R S T U),(fun N O V W X Y Z a0 a1 a2 P Q R S T U=>afK (lV n).1 (lV n).2 N O V W X Y Z a0 a1 a2 P Q R S T U))
def pT (n:Nat):Int->Int->Int->Int->Int->Int->Int->Int->Int->Int->Int->Int->Int->Int->(List Int)->Int->Option (Int×Int):=(lV n).1
@[irreducible] def yF (a b c d e f g h i j k l m n:Int) (o:List Int) (p:Int):=pT RR a b c d e f g h i j k l m n o p
def pU (n:Nat):Int->Int->Int->Int->Int->Int->Int->Int->Int->Int->Int->Int->Int->Int->(List Int)->(List Int)->Option (Int×Int):=(lV n).2
@[irreducible] def SZ (a b c d e f g h i j k l m n:Int) (o p:List Int):=pU RR a b c d e f g h i j k l m n o p
def yG:Option (Int):=cond (decide ((e.length:Int)>6)) (some (-1)) ((nD e).bind fun a=>cond (!a) (some (-1)) ((SX).bind fun b=>(pz e).bind fun c=>(yF (b.1) (b.2.1) (b.2.2.1) (b.2.2.2.1) (b.2.2.2.2.1) (b.2.2.2.2.2.1) (b.2.2.2.2.2.2.1) (b.2.2.2.2.2.2.2.1) (b.2.2.2.2.2.2.2.2.1) (b.2.2.2.2.2.2.2.2.2.1) (b.2.2.2.2.2.2.2.2.2.2.1) (b.2.2.2.2.2.2.2.2.2.2.2.1) (b.2.2.2.2.2.2.2.2.2.2.2.2.1) (b.2.2.2.2.2.2.2.2.2.2.2.2.2) e c).bind fun d=>some (d.2)))
@[irreducible] def Hu:=yG e
def tc:Option (ByteArray):=(Hu e).bind fun a=>cond (decide (a<0)) ((lU empty).bind fun b=>some b) ((strconv_Itoa a).bind fun c=>some c)
@[irreducible] def yH (a:List Int) (b:List (List Int)):=tc a
def td:Option (Bool):=cond (decide ((((ByteArray.size b:Nat):Int))>=(((ByteArray.size i:Nat):Int)))) ((inc (((ByteArray.size i:Nat):Int)) (ByteArray.size b)).bind fun a=>some (aD (b.extract 0 a) i)) (some false)
@[irreducible] def yI:=td b i
def te:Option ((ByteArray×Bool)):=(yI b i).bind fun a=>cond (!a) (some (b,false)) ((inc (((ByteArray.size i:Nat):Int)) (ByteArray.size b)).bind fun c=>some ((b.extract c (ByteArray.size b)),true))
@[irreducible] def Hv:=te b i
def tf:Option ((ByteArray×Bool)):=(Hv b i).bind fun a=>some ((a.1),(a.2))
@[irreducible] def tg:=tf b i
def yJ:Option (Bool):=(eF e).bind fun a=>cond a (cond (decide (o>=1)) (some (decide (o<=(e.length:Int)))) (some false)) (some false)
@[irreducible] def yK:=yJ e o
def th:Option (((List Int))):=(yK e o).bind fun a=>cond (!a) (some ([]:List Int)) ((lR e).bind fun b=>(al (wrap .i64 (o-1)) (List.length b)).bind fun c=>(b[c]?).bind fun d=>(jv d).bind fun f=>some f)
@[irreducible] def yL:=th e o
def tj:Option (ByteArray):=(strconv_Atoi i).bind fun a=>cond (a.2) (some (ByteArray.mk #[119,104,97,116])) (cond (decide ((a.1)<0)) (some (ByteArray.mk #[119,104,97,116])) (cond (decide ((a.1)>999999)) (some (ByteArray.mk #[119,104,97,116])) ((strconv_Itoa (a.1)).bind fun b=>cond (!(aD b i)) (some (ByteArray.mk #[119,104,97,116])) ((yL e (a.1)).bind fun c=>(nC c).bind fun d=>(lU d).bind fun f=>some f))))
@[irreducible] def yM (a:List Int) (b:List (List Int)) (c:ByteArray):=tj a c
def tk:Option (ByteArray):=(Fs).bind fun a=>cond (y==(ByteArray.mk #[104,101,97,100,115])) ((Fw e w).bind fun b=>some b) (cond (y==(ByteArray.mk #[100,101,112,116,104,115])) ((xp e w).bind fun c=>some c) (cond (y==(ByteArray.mk #[111,114,100,101,114])) ((xv e w).bind fun d=>some d) (cond (y==(ByteArray.mk #[114,111,111,116])) ((FR e w).bind fun f=>some f) (cond (y==(ByteArray.mk #[99,114,111,115,115,105,110,103,115])) ((F4 e w).bind fun g=>some g) (cond (y==(ByteArray.mk #[103,97,112,115])) ((Gf e w).bind fun h=>some h) (cond (y==(ByteArray.mk #[101,120,99,104,97,110,103,101,115])) ((Gs e w).bind fun i=>some i) (cond (y==(ByteArray.mk #[108,101,110,103,116,104])) ((Gx e w).bind fun j=>some j) (cond (y==(ByteArray.mk #[108,101,97,115,116])) ((GL e w).bind fun k=>some k) (cond (y==(ByteArray.mk #[97,112,97,114,116])) ((GR e w).bind fun l=>some l) (cond (y==(ByteArray.mk #[112,114,111,106,101,99,116,105,118,101])) ((GY e w).bind fun m=>some m) (cond (y==(ByteArray.mk #[110,101,115,116,101,100])) ((G4 e w).bind fun n=>some n) (cond (y==(ByteArray.mk #[109,111,118,101,115])) ((yu e w).bind fun o=>some o) (cond (y==(ByteArray.mk #[101,97,103,101,114])) ((yE e w).bind fun p=>some p) (cond (y==(ByteArray.mk #[112,108,97,99,101])) ((yH e w).bind fun q=>some q) ((tg y (ByteArray.mk #[121,105,101,108,100,32])).bind fun r=>cond (r.2) ((yM e w (r.1)).bind fun s=>some s) (some (ByteArray.mk #[119,104,97,116])))))))))))))))))
@[irreducible] def yN:=tk e w y
def tl:Option ((Bool×(List Int)×(List (List Int)))):=cond (decide ((wrap .i64 ((w.length:Int)-1))<0)) ((ju e ([]:List (List Int))).bind fun a=>some (false,(a.1),(a.2))) ((idx w (wrap .i64 ((w.length:Int)-1))).bind fun b=>(inc (wrap .i64 ((w.length:Int)-1)) (List.length w)).bind fun c=>(ju b ((w.take c).drop 0)).bind fun d=>some (true,(d.1),(d.2)))
@[irreducible] def yO:=tl e w
def Hw:Option (((List Int))):=(mk d d).bind fun a=>some (replicate a (0:Int))
def Hy:Option (Int):=some (e.length:Int)
def tm:Option ((Int×(List Int))⊕((List Int))):=cond (decide (p<o)) ((al p (List.length v)).bind fun a=>some (Sum.inl ((wrap .i64 (p+1)),(v.set a (wrap .i64 (d-p)))))) (some (Sum.inr v))
def S1:Option (((List Int))):=ai (fun(a:Int×(List Int))=>((tm d o a.1 a.2).map (Sum.elim (fun b=>Sum.inl (b.1,b.2)) (fun b=>Sum.inr b)))) LL (0,v)
def S2:=(S1 d o v).map (fun a=>a)
def S3:=(Hy e).bind (fun a=>S2 d a e)
def Hz:Option (((List Int))):=some e
def S4:=(S3 d e).bind (fun a=>Hz a)
def yP:=(Hw d).bind (fun a=>S4 d a)
@[irreducible] def yQ:=yP d
def HA:Option (((List Int))):=(mk (wrap .i64 ((e.length:Int)+1)) (wrap .i64 ((e.length:Int)+1))).bind fun a=>some (replicate a (0:Int))
def HB:Option (Int):=some (e.length:Int)
def tn:Option ((Int×(List Int))⊕((List Int))):=cond (decide (p<o)) ((idx e p).bind fun a=>(al a (List.length v)).bind fun b=>some (Sum.inl ((wrap .i64 (p+1)),(v.set b (wrap .i64 (p+1)))))) (some (Sum.inr v))
def S5:Option (((List Int))):=ai (fun(a:Int×(List Int))=>((tn e o a.1 a.2).map (Sum.elim (fun b=>Sum.inl (b.1,b.2)) (fun b=>Sum.inr b)))) LL (0,v)
def S6:=(S5 e o v).map (fun a=>a)
def S7:=(HB e).bind (fun a=>S6 e a v)
def HC:Option (((List Int))):=some e
def S8:=(S7 e v).bind (fun a=>HC a)
def HD:=(HA e).bind (fun a=>S8 e a)
@[irreducible] def HE:=HD e
def yR:Option (Int):=(al d (List.length e)).bind fun a=>(e[a]?).bind fun b=>some b
@[irreducible] def HF:=yR d e
def HG:Option (((List Int))):=(mk (e.length:Int) (e.length:Int)).bind fun a=>some (replicate a (0:Int))
def HH:Option (Int):=some (e.length:Int)
def yS:Option ((Int×(List Int))⊕((List Int))):=cond (decide (D<B)) ((idx v D).bind fun a=>(idx e (wrap .i64 (a-1))).bind fun b=>(HF b F).bind fun c=>(al D (List.length I)).bind fun d=>some (Sum.inl ((wrap .i64 (D+1)),(I.set d c)))) (some (Sum.inr I))
def S9:Option (((List Int))):=ai (fun(a:Int×(List Int))=>((yS e v B a.1 F a.2).map (Sum.elim (fun b=>Sum.inl (b.1,b.2)) (fun b=>Sum.inr b)))) LL (0,I)
def Ta:=(S9 e v B F I).map (fun a=>a)
def Tb:=(HH v).bind (fun a=>Ta e v a F I)
def HI:Option (((List Int))):=some e
def Tc:=(Tb e v F I).bind (fun a=>HI a)
def HJ:=(HG v).bind (fun a=>Tc e v F a)
@[irreducible] def Td:=HJ e v F
def yT:Option ((Bool×(List Int))):=(eF e).bind fun a=>cond (!a) (some (false,([]:List Int))) ((xL v (e.length:Int)).bind fun b=>cond (!b) (some (false,([]:List Int))) ((HE v).bind fun c=>(Td e v c).bind fun d=>some (true,d)))
@[irreducible] def yU:=yT e v
def to:Option (((List Int))):=(eF e).bind fun a=>cond (!a) (some ([]:List Int)) ((yQ (e.length:Int)).bind fun b=>(yU e b).bind fun c=>some (c.2))
@[irreducible] def yV:=to e
def tp:Option (((List Int))):=(pB e).bind fun a=>(yU e a).bind fun b=>some (b.2)
@[irreducible] def yW:=tp e
def tq:Option (((List Int))):=cond (o==0) ((yK e p).bind fun a=>cond (!a) (some ([]:List Int)) ((nB e).bind fun b=>(al (wrap .i64 (p-1)) (List.length b)).bind fun c=>some (b.set c q))) (cond (o==1) ((nB e).bind fun d=>(room ((List.length d)+List.length ([p]))).bind fun f=>some (d++([p]))) (cond (o==2) ((inc (wrap .i64 ((e.length:Int)-1)) (List.length e)).bind fun g=>(nB ((e.take g).drop 0)).bind fun h=>some h) (cond (o==3) ((yV e).bind fun i=>some i) (cond (o==4) ((yW e).bind fun j=>some j) (some ([]:List Int))))))
@[irreducible] def yX:=tq e o p q
def HK:Option (Unit⊕Bool):=cond ((e.length:Int) !=(v.length:Int)) (some (Sum.inr false)) (some (Sum.inl ()))
def HL:Option (Int):=some (e.length:Int)
def pV:Option (Int⊕Bool⊕Unit):=cond (decide (D<B)) ((idx e D).bind fun a=>(idx v D).bind fun b=>cond (a !=b) (some (Sum.inr (Sum.inl false))) (some (Sum.inl (wrap .i64 (D+1))))) (some (Sum.inr (Sum.inr ())))
def Te:Option (Bool⊕Unit):=ai (fun(a:Int)=>((pV e v B a).map (Sum.elim (fun b=>Sum.inl b) (Sum.elim (fun b=>Sum.inr (Sum.inl b)) (fun b=>Sum.inr (Sum.inr b)))))) LL 0
def Tf:=(Te e v B).map (Sum.elim (fun a=>(Sum.inr a)) (fun a=>(Sum.inl ())))
def Tg:=(HL e).bind (fun a=>Tf e v a)
def Th:Option (Bool):=some true
def Ti:=(Tg e v).bind (Sum.elim (fun a=>Th) (fun b=>some ((fun a=>a) b)))
def yY:=(HK e v).bind (Sum.elim (fun a=>Ti e v) (fun b=>some ((fun a=>a) b)))
@[irreducible] def yZ:=yY e v
def HM:Option (List (List Int)):=pi w
def tr:Option ((Bool×(List Int)×(List (List Int)))):=(yX e B D H).bind fun a=>(eF a).bind fun b=>cond (!b) ((ju e w).bind fun c=>some (false,(c.1),(c.2))) ((yZ a e).bind fun d=>cond d ((ju e w).bind fun f=>some (false,(f.1),(f.2))) ((HM w).bind fun g=>(room ((List.length g)+List.length ([e]))).bind fun h=>(inc (imax 0 (wrap .i64 ((List.length (g++([e])):Int)-8))) (List.length (g++([e])))).bind fun i=>(ju a (((g++([e])).drop i).take ((List.length (g++([e])))-i))).bind fun j=>some (true,(j.1),(j.2))))
@[irreducible] def y0:=tr e w B D H
def ts:Option ((Bool×(List Int)×(List (List Int)))):=(nz e w).bind fun a=>cond (!a) (some (false,([]:List Int),([]:List (List Int)))) ((xf B D H).bind fun b=>cond (!b) ((ju e w).bind fun c=>some (false,(c.1),(c.2))) (cond (B==5) ((yO e w).bind fun d=>some ((d.1),(d.2.1),(d.2.2))) ((y0 e w B D H).bind fun f=>some ((f.1),(f.2.1),(f.2.2)))))
@[irreducible] def y1:=ts e w B D H
def tt:Option ((ByteArray×(List Int)×(List (List Int)))):=(nz e w).bind fun a=>cond (!a) (some (empty,([]:List Int),([]:List (List Int)))) ((r6 y).bind fun b=>cond (!(b.1)) ((ju e w).bind fun c=>(yN e w y).bind fun d=>some (d,(c.1),(c.2))) ((y1 e w (b.2.1) (b.2.2.1) (b.2.2.2)).bind fun f=>cond (!(f.1)) (some ((ByteArray.mk #[110,111,116]),(f.2.1),(f.2.2))) (some ((ByteArray.mk #[111,107]),(f.2.1),(f.2.2)))))
@[irreducible] def tu:=tt e w y
def HN:Option (Unit):=some ()
def HO:Option (Unit):=some ()
def pW:Option ((Int×Int×(List ByteArray))⊕(Int×(List ByteArray))):=cond (decide (p<(((ByteArray.size b:Nat):Int)))) ((hE b p).bind fun a=>cond (a==d) ((inc p (ByteArray.size b)).bind fun c=>(inc o c).bind fun e=>(room ((List.length E)+List.length ([(b.extract e c)]))).bind fun f=>some (Sum.inl ((wrap .i64 (p+1)),(wrap .i64 (p+1)),(E++([(b.extract e c)]))))) (some (Sum.inl (o,(wrap .i64 (p+1)),E)))) (some (Sum.inr (o,E)))
def Tj:Option ((Int×(List ByteArray))):=ai (fun(a:Int×Int×(List ByteArray))=>((pW b d a.1 a.2.1 a.2.2).map (Sum.elim (fun c=>Sum.inl (c.1,c.2.1,c.2.2)) (fun c=>Sum.inr c)))) LL (0,0,([]:List ByteArray))
def Tk:=(Tj b d).map (fun a=>(a.1,a.2))
def Tl:=(HO).bind (fun a=>Tk b d)
def HP:Option (((List ByteArray))):=(inc d (ByteArray.size b)).bind fun a=>(room ((List.length E)+List.length ([(b.extract a (ByteArray.size b))]))).bind fun c=>some (E++([(b.extract a (ByteArray.size b))]))
def Tm:=(Tl b d).bind (fun a=>HP b a.1 a.2)
def y2:=(HN).bind (fun a=>Tm b d)
@[irreducible] def kD:=y2 b d
def y3:Option (Unit⊕Int):=(gh (((ByteArray.size b:Nat):Int)) 1 6).bind fun a=>cond (!a) (some (Sum.inr (-1))) (cond (decide ((((ByteArray.size b:Nat):Int))>1)) ((hE b 0).bind fun c=>cond (c==48) (some (Sum.inr (-1))) (some (Sum.inl ()))) (some (Sum.inl ())))
def y4:Option (Unit):=some ()
def nG:Option ((Int×Int)⊕Int⊕Int):=cond (decide (o<(((ByteArray.size b:Nat):Int)))) ((hE b o).bind fun a=>cond (decide (a<48)) (some (Sum.inr (Sum.inl (-1)))) ((hE b o).bind fun c=>cond (decide (c>57)) (some (Sum.inr (Sum.inl (-1)))) ((hE b o).bind fun e=>some (Sum.inl ((wrap .i64 ((wrap .i64 (10*d))+(wrap .i64 (wrap .u8 (e-48))))),(wrap .i64 (o+1))))))) (some (Sum.inr (Sum.inr d)))
def HQ:Option (Int⊕Int):=ai (fun(a:Int×Int)=>((nG b a.1 a.2).map (Sum.elim (fun c=>Sum.inl (c.1,c.2)) (Sum.elim (fun c=>Sum.inr (Sum.inl c)) (fun c=>Sum.inr (Sum.inr c)))))) LL (0,0)
def HR:=(HQ b).map (Sum.elim (fun a=>(Sum.inr a)) (fun a=>(Sum.inl a)))
def HS:=(y4).bind (fun a=>HR b)
def y5:Option (Int):=some d
def tv:=(HS b).bind (Sum.elim (fun a=>y5 a) (fun c=>some ((fun a=>a) c)))
def pX:=(y3 b).bind (Sum.elim (fun a=>tv b) (fun c=>some ((fun a=>a) c)))
@[irreducible] def gN:=pX b
def HT:Option (((List ByteArray)×(List (Int×Int×Int×Unit)))):=(kD b 32).bind fun a=>some (a,([(2,(0,(0,()))),(3,(0,(0,()))),(4,(0,(0,()))),(5,(0,(0,())))]))
def HU:Option (Bool):=some ((c.length:Int)==3)
def HV:Option (((List (Int×Int×Int×Unit)))):=(al 1 (List.length c)).bind fun a=>(c[a]?).bind fun b=>(al 2 (List.length c)).bind fun d=>(c[d]?).bind fun e=>(gN b).bind fun f=>(gN e).bind fun g=>(room ((List.length j)+List.length ([(0,(f,(g,())))]))).bind fun h=>some (j++([(0,(f,(g,())))]))
def HW:Option (Unit):=some ()
def Tn:Option (((List (Int×Int×Int×Unit)))):=cond a ((HV c j).map (fun b=>b)) ((HW).map (fun b=>j))
def To:=(HU c).bind (fun a=>Tn a c j)
def y6:Option (((List (Int×Int×Int×Unit)))):=cond ((c.length:Int)==2) ((al 1 (List.length c)).bind fun a=>(c[a]?).bind fun b=>(gN b).bind fun d=>(room ((List.length j)+List.length ([(1,(d,(0,())))]))).bind fun e=>some (j++([(1,(d,(0,())))]))) (some j)
def HX:Option (Unit):=some ()
def tw:Option (Int⊕(Bool×Int×Int×Int)⊕Unit):=cond (decide (d<(j.length:Int))) (cond (!(aD b empty)) ((al d (List.length j)).bind fun a=>(j[a]?).bind fun c=>(iE (c.1) ((c.2).1) (((c.2).2).1)).bind fun e=>cond (aD e b) ((al d (List.length j)).bind fun f=>(j[f]?).bind fun g=>some (Sum.inr (Sum.inl (true,(g.1),((g.2).1),(((g.2).2).1))))) (some (Sum.inl (wrap .i64 (d+1))))) (some (Sum.inl (wrap .i64 (d+1))))) (some (Sum.inr (Sum.inr ())))
def Tp:Option ((Bool×Int×Int×Int)⊕Unit):=ai (fun(a:Int)=>((tw b a j).map (Sum.elim (fun c=>Sum.inl c) (Sum.elim (fun c=>Sum.inr (Sum.inl c)) (fun c=>Sum.inr (Sum.inr c)))))) LL 0
def Tq:=(Tp b j).map (Sum.elim (fun a=>(Sum.inr a)) (fun a=>(Sum.inl ())))
def Tr:=(HX).bind (fun a=>Tq b j)
def HY:Option ((Bool×Int×Int×Int)):=some (false,0,0,0)
def HZ:=(Tr b j).bind (Sum.elim (fun a=>HY) (fun c=>some ((fun a=>a) c)))
def H0:=(y6 c j).bind (fun a=>HZ b a)
def Ts:=(To c j).bind (fun a=>H0 b c a)
def y7:=(HT b).bind (fun a=>Ts b a.1 a.2)
@[irreducible] def y8:=y7 b
def H1:Option (Unit):=some ()
def H2:Option (Unit):=some ()
def tx:Option ((ByteArray×Int)⊕ByteArray):=cond (decide (o<(e.length:Int))) (cond (decide (o>0)) ((cat i (ByteArray.mk #[44])).bind fun a=>(idx e o).bind fun b=>(cG b).bind fun c=>(cat a c).bind fun d=>some (Sum.inl (d,(wrap .i64 (o+1))))) ((idx e o).bind fun f=>(cG f).bind fun g=>(cat i g).bind fun h=>some (Sum.inl (h,(wrap .i64 (o+1)))))) (some (Sum.inr i))
def Tt:Option (ByteArray):=ai (fun(a:ByteArray×Int)=>((tx e a.1 a.2).map (Sum.elim (fun b=>Sum.inl (b.1,b.2)) (fun b=>Sum.inr b)))) LL (empty,0)
def Tu:=(Tt e).map (fun a=>a)
def Tv:=(H2).bind (fun a=>Tu e)
def H3:Option (ByteArray):=cond ((e.length:Int)==0) (some (ByteArray.mk #[110,111,110,101])) (some i)
def Tw:=(Tv e).bind (fun a=>H3 e a)
def y9:=(H1).bind (fun a=>Tw e)
@[irreducible] def lW:=y9 e
def H4:Option (Unit):=some ()
def H5:Option (Unit):=some ()
def za:Option (Unit⊕((List Int))):=cond (decide (o<(e.length:Int))) ((di e).bind fun a=>cond a (some (Sum.inl ())) (some (Sum.inr v))) (some (Sum.inr v))
def H6:Option (Unit):=some ()
def H7:Option (Int):=some (wrap .i64 (d+1))
def zb:Option ((Int×Int)⊕Int):=(idx e (wrap .i64 (p-1))).bind fun a=>cond (decide (a>0)) ((idx e (wrap .i64 (p-1))).bind fun b=>some (Sum.inl ((wrap .i64 (o+1)),b))) (some (Sum.inr o))
def H8:Option (Int):=ai (fun(a:Int×Int)=>((zb e a.1 a.2).map (Sum.elim (fun b=>Sum.inl (b.1,b.2)) (fun b=>Sum.inr b)))) LL (0,o)
def Tx:=(H8 e o).map (fun a=>a)
def Tz:=(H7 o).bind (fun a=>Tx e a)
def H9:Option (((List Int))):=(room ((List.length e)+List.length ([d]))).bind fun a=>some (e++([d]))
def TA:=(Tz e o).bind (fun a=>H9 a v)
def TB:=(H6).bind (fun a=>TA e o v)
def TC:=(TB e o v).map (fun a=>a)
def Ia:Option (Int):=some (wrap .i64 (d+1))
def TD:=(TC e o v).bind (fun a=>(Ia o).map (fun b=>(b,a)))
def tz:=(za e o v).bind (Sum.elim (fun a=>(TD e o v).map (fun a=>(Sum.inl (a.1,a.2)))) (fun b=>some ((fun a=>(Sum.inr a)) b)))
def TE:Option (((List Int))):=ai (fun(a:Int×(List Int))=>((tz e a.1 a.2).map (Sum.elim (fun b=>Sum.inl (b.1,b.2)) (fun b=>Sum.inr b)))) LL (0,([]:List Int))
def TF:=(TE e).map (fun a=>a)
def TG:=(H5).bind (fun a=>TF e)
def Ib:Option (((List Int))):=some e
def TH:=(TG e).bind (fun a=>Ib a)
def Ic:=(H4).bind (fun a=>TH e)
@[irreducible] def Ie:=Ic e
def If:Option (Unit):=some ()
def Ig:Option (Unit):=some ()
def tA:Option ((Int×(List (List Int)))⊕((List (List Int)))):=cond (decide (o<(e.length:Int))) ((idx e o).bind fun a=>cond (decide (a>0)) ((idx e o).bind fun b=>(idx e o).bind fun c=>(room ((List.length w)+List.length ([([(bX (wrap .i64 (o+1)) b),(imax (wrap .i64 (o+1)) c)])]))).bind fun d=>some (Sum.inl ((wrap .i64 (o+1)),(w++([([(bX (wrap .i64 (o+1)) b),(imax (wrap .i64 (o+1)) c)])]))))) (some (Sum.inl ((wrap .i64 (o+1)),w)))) (some (Sum.inr w))
def TJ:Option (((List (List Int)))):=ai (fun(a:Int×(List (List Int)))=>((tA e a.1 a.2).map (Sum.elim (fun b=>Sum.inl (b.1,b.2)) (fun b=>Sum.inr b)))) LL (0,([]:List (List Int)))
def TL:=(TJ e).map (fun a=>a)
def TM:=(Ig).bind (fun a=>TL e)
def Ih:Option (((List (List Int)))):=some w
def TN:=(TM e).bind (fun a=>Ih a)
def zc:=(If).bind (fun a=>TN e)
@[irreducible] def zd:=zc e
def Ii:Option ((Int×Int×Int×Int)⊕Bool):=cond (decide (d<1)) (some (Sum.inr false)) (cond (decide (o<1)) (some (Sum.inr false)) (cond (decide (p<1)) (some (Sum.inr false)) (cond (decide (q<1)) (some (Sum.inr false)) (cond (d==o) (some (Sum.inr false)) (cond (p==q) (some (Sum.inr false)) (some (Sum.inl ((bX d o),(imax d o),(bX p q),(imax p q)))))))))
def Ij:Option (Bool):=cond (decide (d<p)) (cond (decide (p<o)) (cond (decide (o<q)) (some true) (cond (decide (p<d)) (cond (decide (d<q)) (some (decide (q<o))) (some false)) (some false))) (cond (decide (p<d)) (cond (decide (d<q)) (some (decide (q<o))) (some false)) (some false))) (cond (decide (p<d)) (cond (decide (d<q)) (some (decide (q<o))) (some false)) (some false))
def Ik:=(Ii d o p q).bind (Sum.elim (fun a=>Ij a.1 a.2.1 a.2.2.1 a.2.2.2) (fun b=>some ((fun a=>a) b)))
@[irreducible] def Il:=Ik d o p q
def Im:Option (((List (List Int)))⊕Int):=(di e).bind fun a=>cond (!a) (some (Sum.inr (-1))) ((zd e).bind fun b=>some (Sum.inl b))
def In:Option (Unit):=some ()
def ze:Option (Unit⊕Int):=cond (decide (o<(w.length:Int))) (some (Sum.inl ())) (some (Sum.inr d))
def Io:Option (Unit):=some ()
def tB:Option ((Int×Int)⊕Int):=cond (decide (p<o)) ((al p (List.length w)).bind fun a=>(w[a]?).bind fun b=>(idx b 0).bind fun c=>(al p (List.length w)).bind fun e=>(w[e]?).bind fun f=>(idx f 1).bind fun g=>(al o (List.length w)).bind fun h=>(w[h]?).bind fun i=>(idx i 0).bind fun j=>(al o (List.length w)).bind fun k=>(w[k]?).bind fun l=>(idx l 1).bind fun m=>(Il c g j m).bind fun n=>cond n (some (Sum.inl ((wrap .i64 (d+1)),(wrap .i64 (p+1))))) (some (Sum.inl (d,(wrap .i64 (p+1)))))) (some (Sum.inr d))
def TO:Option (Int):=ai (fun(a:Int×Int)=>((tB a.1 o a.2 w).map (Sum.elim (fun b=>Sum.inl (b.1,b.2)) (fun b=>Sum.inr b)))) LL (d,0)
def TP:=(TO d o w).map (fun a=>a)
def Ip:=(Io).bind (fun a=>TP d o w)
def TQ:=(Ip d o w).map (fun a=>a)
def Iq:Option (Int):=some (wrap .i64 (d+1))
def TR:=(TQ d o w).bind (fun a=>(Iq o).map (fun b=>(a,b)))
def zf:=(ze d o w).bind (Sum.elim (fun a=>(TR d o w).map (fun a=>(Sum.inl (a.1,a.2)))) (fun b=>some ((fun a=>(Sum.inr a)) b)))
def TS:Option (Int):=ai (fun(a:Int×Int)=>((zf a.1 a.2 w).map (Sum.elim (fun b=>Sum.inl (b.1,b.2)) (fun b=>Sum.inr b)))) LL (0,0)
def TU:=(TS w).map (fun a=>a)
def TV:=(In).bind (fun a=>TU w)
def Ir:Option (Int):=some d
def TW:=(TV w).bind (fun a=>Ir a)
def zg:=(Im e).bind (Sum.elim (fun a=>TW a) (fun b=>some ((fun a=>a) b)))
@[irreducible] def zh:=zg e
def Is (R0:(List Int)->Int->Option Int) (a:Int):Option (Int):=(shl .i64 1 (wrap .i64 (a-1))).bind fun b=>some b
def It (R0:(List Int)->Int->Option Int):Option (Unit):=some ()
def tC (R0:(List Int)->Int->Option Int) (a:List Int) (b c d:Int):Option ((Int×Int)⊕Int):=cond (decide (d<(a.length:Int))) ((idx a d).bind fun e=>cond (e==b) ((R0 a (wrap .i64 (d+1))).bind fun f=>some (Sum.inl ((ji .i64 c f),(wrap .i64 (d+1))))) (some (Sum.inl (c,(wrap .i64 (d+1)))))) (some (Sum.inr c))
def TX (R0:(List Int)->Int->Option Int) (a:List Int) (b c:Int):Option (Int):=ai (fun(d:Int×Int)=>((tC R0 a b d.1 d.2).map (Sum.elim (fun e=>Sum.inl (e.1,e.2)) (fun e=>Sum.inr e)))) LL (c,0)
def TY (R0:(List Int)->Int->Option Int) (a:List Int) (b c:Int):=(TX R0 a b c).map (fun d=>d)
def TZ (R0:(List Int)->Int->Option Int) (a:List Int) (b c:Int):=(It R0).bind (fun d=>TY R0 a b c)
def Iu (R0:(List Int)->Int->Option Int) (a:Int):Option (Int):=some a
def T0 (R0:(List Int)->Int->Option Int) (a:List Int) (b c:Int):=(TZ R0 a b c).bind (fun d=>Iu R0 d)
def Iv (R0:(List Int)->Int->Option Int) (a:List Int) (b:Int):=(Is R0 b).bind (fun c=>T0 R0 a b c)
def T1 (R0:(List Int)->Int->Option Int) (a:List Int) (b:Int):Option (Int):=Iv R0 a b
def lX:Nat->((List Int)->Int->Option Int)
 |0=>(fun _ _=>none)
 |n+1=>(fun N O=>T1 (lX n) N O)
def pY (n:Nat):(List Int)->Int->Option Int:=(lX n)
@[irreducible] def hO:=pY RR e o
def T2:Option (Unit):=some ()
def T3:Option ((Int×Int)⊕Int):=cond (decide (d>0)) ((rem d 4).bind fun a=>cond (a==1) ((quo .i64 d 2).bind fun b=>some (Sum.inl (b,(wrap .i64 (o+1))))) ((quo .i64 d 2).bind fun c=>some (Sum.inl (c,o)))) (some (Sum.inr o))
def afL:Option (Int):=ai (fun(a:Int×Int)=>((T3 a.1 a.2).map (Sum.elim (fun b=>Sum.inl (b.1,b.2)) (fun b=>Sum.inr b)))) LL (d,0)
def afM:=(afL d).map (fun a=>a)
def T4:Option (Int):=some d
def afN:=(afM d).bind (fun a=>T4 a)
def T5:=(T2).bind (fun a=>afN d)
@[irreducible] def Iw:=T5 d
def tD:Option (Int):=(di e).bind fun a=>cond (!a) (some (-1)) ((gh o 1 (e.length:Int)).bind fun b=>cond (!b) (some (-1)) ((hO e o).bind fun c=>(Iw c).bind fun d=>some (wrap .i64 (d-1))))
@[irreducible] def zi:=tD e o
def Ix:Option (Unit):=some ()
def Iy:Option (Unit):=some ()
def nH:Option ((Int×Int)⊕Int):=cond (decide (p<=(e.length:Int))) ((di e).bind fun a=>cond a ((zi e p).bind fun b=>some (Sum.inl ((imax o b),(wrap .i64 (p+1))))) (some (Sum.inr o))) (some (Sum.inr o))
def T6:Option (Int):=ai (fun(a:Int×Int)=>((nH e a.1 a.2).map (Sum.elim (fun b=>Sum.inl (b.1,b.2)) (fun b=>Sum.inr b)))) LL ((-1),1)
def T7:=(T6 e).map (fun a=>a)
def T8:=(Iy).bind (fun a=>T7 e)
def T9:Option (Int):=some d
def Ua:=(T8 e).bind (fun a=>T9 a)
def zj:=(Ix).bind (fun a=>Ua e)
@[irreducible] def zk:=zj e
def Iz:Option (Unit⊕Int):=(wH e (e.length:Int)).bind fun a=>cond (!a) (some (Sum.inr (-1))) (some (Sum.inl ()))
def IA:Option (Unit):=some ()
def zl:Option (Unit⊕Int):=cond (decide (p<(e.length:Int))) (some (Sum.inl ())) (some (Sum.inr o))
def IB:Option (Unit):=some ()
def tE:Option ((Int×Int)⊕Int):=cond (decide (q<p)) ((idx e q).bind fun a=>(idx e p).bind fun b=>cond (decide (a>b)) (some (Sum.inl ((wrap .i64 (o+1)),(wrap .i64 (q+1))))) (some (Sum.inl (o,(wrap .i64 (q+1)))))) (some (Sum.inr o))
def IC:Option (Int):=ai (fun(a:Int×Int)=>((tE e a.1 p a.2).map (Sum.elim (fun b=>Sum.inl (b.1,b.2)) (fun b=>Sum.inr b)))) LL (o,0)
def Ub:=(IC e o p).map (fun a=>a)
def Uc:=(IB).bind (fun a=>Ub e o p)
def Ud:=(Uc e o p).map (fun a=>a)
def ID:Option (Int):=some (wrap .i64 (d+1))
def Ue:=(Ud e o p).bind (fun a=>(ID p).map (fun b=>(a,b)))
def zm:=(zl e o p).bind (Sum.elim (fun a=>(Ue e o p).map (fun a=>(Sum.inl (a.1,a.2)))) (fun b=>some ((fun a=>(Sum.inr a)) b)))
def Uf:Option (Int):=ai (fun(a:Int×Int)=>((zm e a.1 a.2).map (Sum.elim (fun b=>Sum.inl (b.1,b.2)) (fun b=>Sum.inr b)))) LL (0,0)
def Ug:=(Uf e).map (fun a=>a)
def Uh:=(IA).bind (fun a=>Ug e)
def IE:Option (Int):=some d
def Ui:=(Uh e).bind (fun a=>IE a)
def zn:=(Iz e).bind (Sum.elim (fun a=>Ui e) (fun b=>some ((fun a=>a) b)))
@[irreducible] def zo:=zn e
def zp:Option (Int):=(di e).bind fun a=>cond (!a) (some (-1)) ((rR e).bind fun b=>(zo b).bind fun c=>some c)
@[irreducible] def IF:=zp e
def IG:Option (Unit⊕Int):=(di e).bind fun a=>cond (!a) (some (Sum.inr (-1))) (some (Sum.inl ()))
def IH:Option (Unit):=some ()
def tF:Option ((Int×Int)⊕Int):=cond (decide (p<(e.length:Int))) ((idx e p).bind fun a=>cond (decide (a>0)) ((idx e p).bind fun b=>(idx e p).bind fun c=>some (Sum.inl ((wrap .i64 ((wrap .i64 (o+(imax b (wrap .i64 (p+1)))))-(bX c (wrap .i64 (p+1))))),(wrap .i64 (p+1))))) (some (Sum.inl (o,(wrap .i64 (p+1)))))) (some (Sum.inr o))
def Uj:Option (Int):=ai (fun(a:Int×Int)=>((tF e a.1 a.2).map (Sum.elim (fun b=>Sum.inl (b.1,b.2)) (fun b=>Sum.inr b)))) LL (0,0)
def Uk:=(Uj e).map (fun a=>a)
def Ul:=(IH).bind (fun a=>Uk e)
def Um:Option (Int):=some d
def Un:=(Ul e).bind (fun a=>Um a)
def zq:=(IG e).bind (Sum.elim (fun a=>Un e) (fun b=>some ((fun a=>a) b)))
@[irreducible] def zr:=zq e
def Uo:Option (Unit):=some ()
def Up:Option (Unit):=some ()
def Uq:Option ((Int×(List Int))⊕((List Int))):=(shr .i64 d o).bind fun a=>cond (decide (a>0)) ((shr .i64 d o).bind fun b=>(rem b 2).bind fun c=>cond (c==1) ((room ((List.length v)+List.length ([(wrap .i64 (o+1))]))).bind fun e=>some (Sum.inl ((wrap .i64 (o+1)),(v++([(wrap .i64 (o+1))]))))) (some (Sum.inl ((wrap .i64 (o+1)),v)))) (some (Sum.inr v))
def afO:Option (((List Int))):=ai (fun(a:Int×(List Int))=>((Uq d a.1 a.2).map (Sum.elim (fun b=>Sum.inl (b.1,b.2)) (fun b=>Sum.inr b)))) LL (0,([]:List Int))
def afP:=(afO d).map (fun a=>a)
def afQ:=(Up).bind (fun a=>afP d)
def Ur:Option (((List Int))):=some e
def afR:=(afQ d).bind (fun a=>Ur a)
def Us:=(Uo).bind (fun a=>afR d)
@[irreducible] def zt:=Us d
def II:Option (Unit):=some ()
def IJ:Option (Unit):=some ()
def zu:Option (Unit⊕((List Int))):=cond (decide (o<(e.length:Int))) (some (Sum.inl ())) (some (Sum.inr v))
def IK:Option (Int⊕Unit):=(idx e p).bind fun a=>cond (a !=o) (some (Sum.inr ())) ((hO e (wrap .i64 (p+1))).bind fun b=>(zt b).bind fun c=>some (Sum.inl (c.length:Int)))
def tG:Option (Int⊕Int):=cond (decide (o<(v.length:Int))) ((al o (List.length v)).bind fun a=>(v[a]?).bind fun b=>cond (decide (b<d)) (some (Sum.inl (wrap .i64 (o+1)))) (some (Sum.inr o))) (some (Sum.inr o))
def IL:Option (Int):=ai (fun(a:Int)=>((tG d a e).map (Sum.elim (fun b=>Sum.inl b) (fun b=>Sum.inr b)))) LL 0
def Ut:=(IL d e).map (fun a=>a)
def IM:Option (((List Int))):=(inc o (List.length v)).bind fun a=>(room ((List.length ([]:List Int))+List.length ((v.drop 0).take (a-0)))).bind fun b=>(room ((List.length (([]:List Int)++((v.drop 0).take (a-0))))+List.length ([d]))).bind fun c=>(inc o (List.length v)).bind fun e=>(room ((List.length ((([]:List Int)++((v.drop 0).take (a-0)))++([d])))+List.length ((v.drop e).take ((List.length v)-e)))).bind fun f=>some (((([]:List Int)++((v.drop 0).take (a-0)))++([d]))++((v.drop e).take ((List.length v)-e)))
def IN:=(Ut d e).bind (fun a=>IM d a e)
def Uu:=(IK e o p).bind (Sum.elim (fun a=>(IN a v).map (fun b=>(Sum.inl b))) (fun c=>some ((fun a=>(Sum.inr a)) c)))
def Uv:=(Uu e o p v).map (Sum.elim (fun a=>a) (fun a=>v))
def IP:Option (Int):=some (wrap .i64 (d+1))
def Uw:=(Uv e o p v).bind (fun a=>(IP p).map (fun b=>(b,a)))
def zv:=(zu e p v).bind (Sum.elim (fun a=>(Uw e o p v).map (fun a=>(Sum.inl (a.1,a.2)))) (fun b=>some ((fun a=>(Sum.inr a)) b)))
def Ux:Option (((List Int))):=ai (fun(a:Int×(List Int))=>((zv e o a.1 a.2).map (Sum.elim (fun b=>Sum.inl (b.1,b.2)) (fun b=>Sum.inr b)))) LL (0,([]:List Int))
def Uy:=(Ux e o).map (fun a=>a)
def Uz:=(IJ).bind (fun a=>Uy e o)
def IQ:Option (((List Int))):=some e
def UA:=(Uz e o).bind (fun a=>IQ a)
def zw:=(II).bind (fun a=>UA e o)
@[irreducible] def zx:=zw e o
def IR:Option (Unit):=some ()
def IS:Option (Unit):=some ()
def zy:Option (Unit⊕Int):=(shl .i64 1 (e.length:Int)).bind fun a=>cond (decide (p<a)) (some (Sum.inl ())) (some (Sum.inr o))
def IT:Option (Unit):=some ()
def IU:Option (Unit):=some ()
def zz:Option (Unit⊕Int):=cond (decide (o<2)) (some (Sum.inl ())) (some (Sum.inr d))
def IV:Option (Int):=some (wrap .i64 ((e.length:Int)-1))
def tH:Option ((Int×Int×Int)⊕Int):=cond (decide (u>=0)) ((shr .i64 o u).bind fun a=>(rem a 2).bind fun b=>cond (b==q) ((idx e u).bind fun c=>cond (q==1) (cond (!g) ((idx e u).bind fun d=>some (Sum.inl ((wrap .i64 ((wrap .i64 (p+(wrap .i64 (t*c))))+d)),(wrap .i64 (t+1)),(wrap .i64 (u-1))))) (some (Sum.inl ((wrap .i64 (p+(wrap .i64 (t*c)))),(wrap .i64 (t+1)),(wrap .i64 (u-1)))))) (some (Sum.inl ((wrap .i64 (p+(wrap .i64 (t*c)))),(wrap .i64 (t+1)),(wrap .i64 (u-1)))))) (some (Sum.inl (p,t,(wrap .i64 (u-1)))))) (some (Sum.inr p))
def IW:Option (Int):=ai (fun(a:Int×Int×Int)=>((tH e g o a.1 q a.2.1 a.2.2).map (Sum.elim (fun b=>Sum.inl (b.1,b.2.1,b.2.2)) (fun b=>Sum.inr b)))) LL (p,0,t)
def UB:=(IW e g o p q t).map (fun a=>a)
def UC:=(IV e).bind (fun a=>UB e g o p q a)
def UD:=(UC e g o p q).map (fun a=>a)
def IX:Option (Int):=some (wrap .i64 (d+1))
def UE:=(UD e g o p q).bind (fun a=>(IX q).map (fun b=>(a,b)))
def zA:=(zz p q).bind (Sum.elim (fun a=>(UE e g o p q).map (fun a=>(Sum.inl (a.1,a.2)))) (fun b=>some ((fun a=>(Sum.inr a)) b)))
def IY:Option (Int):=ai (fun(a:Int×Int)=>((zA e g o a.1 a.2).map (Sum.elim (fun b=>Sum.inl (b.1,b.2)) (fun b=>Sum.inr b)))) LL (0,0)
def UF:=(IY e g o).map (fun a=>a)
def UG:=(IU).bind (fun a=>UF e g o)
def IZ:Option (Int):=cond (decide (d<0)) (some o) (cond (decide (o<d)) (some o) (some d))
def UH:=(UG e g p).bind (fun a=>IZ o a)
def UI:=(IT).bind (fun a=>UH e g o p)
def UJ:=(UI e g o p).map (fun a=>a)
def I0:Option (Int):=some (wrap .i64 (d+1))
def UK:=(UJ e g o p).bind (fun a=>(I0 p).map (fun b=>(a,b)))
def zB:=(zy e o p).bind (Sum.elim (fun a=>(UK e g o p).map (fun a=>(Sum.inl (a.1,a.2)))) (fun b=>some ((fun a=>(Sum.inr a)) b)))
def UL:Option (Int):=ai (fun(a:Int×Int)=>((zB e g a.1 a.2).map (Sum.elim (fun b=>Sum.inl (b.1,b.2)) (fun b=>Sum.inr b)))) LL ((-1),0)
def UM:=(UL e g).map (fun a=>a)
def UN:=(IS).bind (fun a=>UM e g)
def I1:Option (Int):=some d
def UO:=(UN e g).bind (fun a=>I1 a)
def zC:=(IR).bind (fun a=>UO e g)
@[irreducible] def zD:=zC e g
def I2:Option (Int⊕Int):=(di e).bind fun a=>cond (!a) (some (Sum.inr (-1))) (some (Sum.inl (wrap .i64 ((e.length:Int)-1))))
def I3:Option (Unit):=some ()
def tI:Option ((Int×Int)⊕Int):=cond (decide (p<=(e.length:Int))) ((idx e (wrap .i64 (p-1))).bind fun a=>(zx e p).bind fun b=>(zD b (a==0)).bind fun c=>some (Sum.inl ((wrap .i64 (o+c)),(wrap .i64 (p+1))))) (some (Sum.inr o))
def UP:Option (Int):=ai (fun(a:Int×Int)=>((tI e a.1 a.2).map (Sum.elim (fun b=>Sum.inl (b.1,b.2)) (fun b=>Sum.inr b)))) LL (o,1)
def UQ:=(UP e o).map (fun a=>a)
def UR:=(I3).bind (fun a=>UQ e o)
def US:Option (Int):=some d
def UT:=(UR e o).bind (fun a=>US a)
def zE:=(I2 e).bind (Sum.elim (fun a=>UT e a) (fun b=>some ((fun a=>a) b)))
@[irreducible] def zF:=zE e
def I4:Option (Unit):=some ()
def I5:Option (Unit):=some ()
def tJ:Option (Unit⊕((List Int))):=cond (decide (o<(e.length:Int))) ((di e).bind fun a=>cond a (some (Sum.inl ())) (some (Sum.inr v))) (some (Sum.inr v))
def I6:Option (Int):=(idx e o).bind fun a=>cond (decide (a>0)) (some 1) (some 0)
def I7:Option (Unit):=some ()
def tK:Option ((Int×Int)⊕Int):=cond (decide (q<(e.length:Int))) ((idx e q).bind fun a=>cond (a==(wrap .i64 (o+1))) (some (Sum.inl ((wrap .i64 (p+1)),(wrap .i64 (q+1))))) (some (Sum.inl (p,(wrap .i64 (q+1)))))) (some (Sum.inr p))
def zG:Option (Int):=ai (fun(a:Int×Int)=>((tK e o a.1 a.2).map (Sum.elim (fun b=>Sum.inl (b.1,b.2)) (fun b=>Sum.inr b)))) LL (p,0)
def UU:=(zG e o p).map (fun a=>a)
def UV:=(I7).bind (fun a=>UU e o p)
def zH:Option (((List Int))):=(room ((List.length e)+List.length ([d]))).bind fun a=>some (e++([d]))
def UW:=(UV e o p).bind (fun a=>zH a v)
def UX:=(I6 e o).bind (fun a=>UW e o a v)
def UY:=(UX e o v).map (fun a=>a)
def I8:Option (Int):=some (wrap .i64 (d+1))
def UZ:=(UY e o v).bind (fun a=>(I8 o).map (fun b=>(b,a)))
def pZ:=(tJ e o v).bind (Sum.elim (fun a=>(UZ e o v).map (fun a=>(Sum.inl (a.1,a.2)))) (fun b=>some ((fun a=>(Sum.inr a)) b)))
def U0:Option (((List Int))):=ai (fun(a:Int×(List Int))=>((pZ e a.1 a.2).map (Sum.elim (fun b=>Sum.inl (b.1,b.2)) (fun b=>Sum.inr b)))) LL (0,([]:List Int))
def U1:=(U0 e).map (fun a=>a)
def U2:=(I5).bind (fun a=>U1 e)
def I9:Option (((List Int))):=some e
def U3:=(U2 e).bind (fun a=>I9 a)
def zI:=(I4).bind (fun a=>U3 e)
@[irreducible] def zJ:=zI e
def Ja:Option ((Int×(List Int))⊕Int):=(di e).bind fun a=>cond (!a) (some (Sum.inr (-1))) ((quo .i64 (wrap .i64 ((wrap .i64 ((e.length:Int)-1))*(wrap .i64 ((e.length:Int)-2)))) 2).bind fun b=>(zJ e).bind fun c=>some (Sum.inl (b,c)))
def Jb:Option (Unit):=some ()
def tL:Option ((Int×Int)⊕Int):=cond (decide (o<(v.length:Int))) ((al o (List.length v)).bind fun a=>(v[a]?).bind fun b=>(al o (List.length v)).bind fun c=>(v[c]?).bind fun e=>(quo .i64 (wrap .i64 (b*(wrap .i64 (e-1)))) 2).bind fun f=>some (Sum.inl ((wrap .i64 (d-f)),(wrap .i64 (o+1))))) (some (Sum.inr d))
def U4:Option (Int):=ai (fun(a:Int×Int)=>((tL a.1 a.2 e).map (Sum.elim (fun b=>Sum.inl (b.1,b.2)) (fun b=>Sum.inr b)))) LL (d,0)
def U5:=(U4 d e).map (fun a=>a)
def U6:=(Jb).bind (fun a=>U5 d e)
def Jc:Option (Int):=some d
def U7:=(U6 d e).bind (fun a=>Jc a)
def zK:=(Ja e).bind (Sum.elim (fun a=>U7 a.1 a.2) (fun b=>some ((fun a=>a) b)))
@[irreducible] def zL:=zK e
def U8:Option (Unit):=some ()
def U9:Option (Int⊕Int):=(rem d 2).bind fun a=>cond (a==0) ((quo .i64 d 2).bind fun b=>some (Sum.inl b)) (some (Sum.inr d))
def afS:=ai (fun(a:Int)=>((U9 a).map (Sum.elim (fun b=>Sum.inl b) (fun b=>Sum.inr b)))) LL d
def afT:=(afS d).map (fun a=>a)
def Va:Option (Bool):=some ((dO .i64 d (wrap .i64 (d+1)))==0)
def afU:=(afT d).bind (fun a=>Va a)
def Vb:=(U8).bind (fun a=>afU d)
@[irreducible] def Jd:=Vb d
def Je:Option (Unit):=some ()
def Jf:Option (Unit):=some ()
def lY:Option (Int⊕Bool⊕Unit):=cond (decide (o<=(e.length:Int))) ((di e).bind fun a=>cond a ((hO e o).bind fun b=>(Jd b).bind fun c=>cond (!c) (some (Sum.inr (Sum.inl false))) (some (Sum.inl (wrap .i64 (o+1))))) (some (Sum.inr (Sum.inr ())))) (some (Sum.inr (Sum.inr ())))
def Vc:Option (Bool⊕Unit):=ai (fun(a:Int)=>((lY e a).map (Sum.elim (fun b=>Sum.inl b) (Sum.elim (fun b=>Sum.inr (Sum.inl b)) (fun b=>Sum.inr (Sum.inr b)))))) LL 1
def Vd:=(Vc e).map (Sum.elim (fun a=>(Sum.inr a)) (fun a=>(Sum.inl ())))
def Ve:=(Jf).bind (fun a=>Vd e)
def Jg:Option (Bool):=(di e).bind fun a=>some a
def Vf:=(Ve e).bind (Sum.elim (fun a=>Jg e) (fun b=>some ((fun a=>a) b)))
def zM:=(Je).bind (fun a=>Vf e)
@[irreducible] def nI:=zM e
def tM:Option (ByteArray):=cond a (some (ByteArray.mk #[121,101,115])) (some (ByteArray.mk #[110,111]))
@[irreducible] def zN:=tM a
def Jh:Option (Unit):=some ()
def Ji:Option (Unit):=some ()
def zO:Option ((Int×Int×Int)⊕Int):=cond (decide (t<8)) ((shr .i64 d t).bind fun a=>(rem a 2).bind fun b=>(shr .i64 o t).bind fun c=>(rem c 2).bind fun e=>cond (decide ((wrap .i64 (b+(wrap .i64 (2*e))))>0)) (cond ((wrap .i64 (b+(wrap .i64 (2*e)))) !=p) (some (Sum.inl ((wrap .i64 (b+(wrap .i64 (2*e)))),(wrap .i64 (q+1)),(wrap .i64 (t+1))))) (some (Sum.inl (p,q,(wrap .i64 (t+1)))))) (some (Sum.inl (p,q,(wrap .i64 (t+1)))))) (some (Sum.inr q))
def Vg:Option (Int):=ai (fun(a:Int×Int×Int)=>((zO d o a.1 a.2.1 a.2.2).map (Sum.elim (fun b=>Sum.inl (b.1,b.2.1,b.2.2)) (fun b=>Sum.inr b)))) LL (0,0,0)
def Vh:=(Vg d o).map (fun a=>a)
def Vi:=(Ji).bind (fun a=>Vh d o)
def Jj:Option (Bool):=some (decide (d>=4))
def Vj:=(Vi d o).bind (fun a=>Jj a)
def zP:=(Jh).bind (fun a=>Vj d o)
@[irreducible] def zQ:=zP d o
def tN:Option (Bool):=(di e).bind fun a=>cond (!a) (some false) ((gh o 1 (e.length:Int)).bind fun b=>cond (!b) (some false) ((gh p 1 (e.length:Int)).bind fun c=>cond (!c) (some false) ((hO e o).bind fun d=>(hO e p).bind fun f=>cond ((dO .i64 d f)==0) ((zQ d f).bind fun g=>some g) (some false))))
@[irreducible] def zR:=tN e o p
def Jk:Option (Unit):=some ()
def Jl:Option (Unit):=some ()
def tO:Option (Unit⊕Unit):=cond (decide (o<=(e.length:Int))) (some (Sum.inl ())) (some (Sum.inr ()))
def zS:Option (Unit):=some ()
def p3:Option (Int⊕Bool⊕Unit):=cond (decide (p<o)) ((zR e o p).bind fun a=>cond a (some (Sum.inr (Sum.inl false))) (some (Sum.inl (wrap .i64 (p+1))))) (some (Sum.inr (Sum.inr ())))
def Jm:Option (Bool⊕Unit):=ai (fun(a:Int)=>((p3 e o a).map (Sum.elim (fun b=>Sum.inl b) (Sum.elim (fun b=>Sum.inr (Sum.inl b)) (fun b=>Sum.inr (Sum.inr b)))))) LL 1
def Jn:=(Jm e o).map (Sum.elim (fun a=>(Sum.inr a)) (fun a=>(Sum.inl ())))
def Jo:=(zS).bind (fun a=>Jn e o)
def Jp:=(Jo e o).map (Sum.elim (fun a=>(Sum.inl ())) (fun a=>(Sum.inr a)))
def Jq:Option (Int):=some (wrap .i64 (d+1))
def Jr:=(Jp e o).bind (Sum.elim (fun a=>(Jq o).map (fun a=>(Sum.inl a))) (fun b=>some ((fun a=>(Sum.inr a)) b)))
def tP:=(tO e o).bind (Sum.elim (fun a=>(Jr e o).map (Sum.elim (fun a=>(Sum.inl a)) (fun a=>(Sum.inr (Sum.inl a))))) (fun b=>some ((fun a=>(Sum.inr (Sum.inr a))) b)))
def Vk:Option (Bool⊕Unit):=ai (fun(a:Int)=>((tP e a).map (Sum.elim (fun b=>Sum.inl b) (Sum.elim (fun b=>Sum.inr (Sum.inl b)) (fun b=>Sum.inr (Sum.inr b)))))) LL 1
def Vl:=(Vk e).map (Sum.elim (fun a=>(Sum.inr a)) (fun a=>(Sum.inl ())))
def Vm:=(Jl).bind (fun a=>Vl e)
def Js:Option (Bool):=(di e).bind fun a=>some a
def Vn:=(Vm e).bind (Sum.elim (fun a=>Js e) (fun b=>some ((fun a=>a) b)))
def zT:=(Jk).bind (fun a=>Vn e)
@[irreducible] def zU:=zT e
def Jt:Option (Unit):=some ()
def Ju:Option (Unit):=some ()
def p4:Option (Int⊕Bool⊕Unit):=cond (decide (D<(e.length:Int))) ((idx e D).bind fun a=>cond (a==o) ((idx C D).bind fun b=>cond (!b) (some (Sum.inr (Sum.inl false))) (some (Sum.inl (wrap .i64 (D+1))))) (some (Sum.inl (wrap .i64 (D+1))))) (some (Sum.inr (Sum.inr ())))
def Vo:Option (Bool⊕Unit):=ai (fun(a:Int)=>((p4 e o C a).map (Sum.elim (fun b=>Sum.inl b) (Sum.elim (fun b=>Sum.inr (Sum.inl b)) (fun b=>Sum.inr (Sum.inr b)))))) LL 0
def Vp:=(Vo e o C).map (Sum.elim (fun a=>(Sum.inr a)) (fun a=>(Sum.inl ())))
def Vq:=(Ju).bind (fun a=>Vp e o C)
def Jv:Option (Bool):=some true
def Vr:=(Vq e o C).bind (Sum.elim (fun a=>Jv) (fun b=>some ((fun a=>a) b)))
def zV:=(Jt).bind (fun a=>Vr e o C)
@[irreducible] def lZ:=zV e o C
def zW:Option (((List Bool))⊕(ByteArray×Bool)):=(nI e).bind fun a=>cond (!a) (some (Sum.inr (empty,false))) ((mk (e.length:Int) (e.length:Int)).bind fun b=>some (Sum.inl (replicate b false)))
def tQ:Option (Unit⊕ByteArray):=cond (decide (o<=(e.length:Int))) (some (Sum.inl ())) (cond (decide ((v.length:Int)>1)) (some (Sum.inl ())) (some (Sum.inr i)))
def zX:Option ((ByteArray×Int×(List Bool)×(List Int))):=cond (decide ((wrap .i64 ((F.length:Int)-1))>=1)) ((al (wrap .i64 ((wrap .i64 ((F.length:Int)-1))-1)) (List.length F)).bind fun a=>(F[a]?).bind fun b=>(idx e (wrap .i64 (b-1))).bind fun c=>(al (wrap .i64 ((F.length:Int)-1)) (List.length F)).bind fun d=>(F[d]?).bind fun f=>cond (c==f) ((al (wrap .i64 ((wrap .i64 ((F.length:Int)-1))-1)) (List.length F)).bind fun g=>(F[g]?).bind fun h=>(lZ e h C).bind fun j=>cond j ((cat i (ByteArray.mk #[76])).bind fun k=>(al (wrap .i64 ((wrap .i64 ((F.length:Int)-1))-1)) (List.length F)).bind fun l=>(F[l]?).bind fun m=>(al (wrap .i64 (m-1)) (List.length C)).bind fun n=>(inc (wrap .i64 ((wrap .i64 ((F.length:Int)-1))-1)) (List.length F)).bind fun p=>(al (wrap .i64 ((F.length:Int)-1)) (List.length F)).bind fun q=>(F[q]?).bind fun r=>(room (List.length ((F.drop 0).take (p-0)))).bind fun s=>(room ((List.length ((F.drop 0).take (p-0)))+List.length ([r]))).bind fun t=>some (k,o,(C.set n true),(((F.drop 0).take (p-0))++([r])))) (cond (decide ((wrap .i64 ((F.length:Int)-1))>=1)) ((al (wrap .i64 ((F.length:Int)-1)) (List.length F)).bind fun u=>(F[u]?).bind fun v=>(idx e (wrap .i64 (v-1))).bind fun w=>(al (wrap .i64 ((wrap .i64 ((F.length:Int)-1))-1)) (List.length F)).bind fun x=>(F[x]?).bind fun y=>cond (w==y) ((al (wrap .i64 ((F.length:Int)-1)) (List.length F)).bind fun z=>(F[z]?).bind fun A=>(lZ e A C).bind fun B=>cond B ((cat i (ByteArray.mk #[82])).bind fun D=>(al (wrap .i64 ((F.length:Int)-1)) (List.length F)).bind fun E=>(F[E]?).bind fun G=>(al (wrap .i64 (G-1)) (List.length C)).bind fun H=>(inc (wrap .i64 ((F.length:Int)-1)) (List.length F)).bind fun I=>(room ((List.length ([]:List Int))+List.length ((F.drop 0).take (I-0)))).bind fun J=>some (D,o,(C.set H true),(([]:List Int)++((F.drop 0).take (I-0))))) ((cat i (ByteArray.mk #[83])).bind fun K=>(room ((List.length F)+List.length ([o]))).bind fun L=>some (K,(wrap .i64 (o+1)),C,(F++([o]))))) ((cat i (ByteArray.mk #[83])).bind fun M=>(room ((List.length F)+List.length ([o]))).bind fun N=>some (M,(wrap .i64 (o+1)),C,(F++([o]))))) ((cat i (ByteArray.mk #[83])).bind fun V=>(room ((List.length F)+List.length ([o]))).bind fun P=>some (V,(wrap .i64 (o+1)),C,(F++([o])))))) (cond (decide ((wrap .i64 ((F.length:Int)-1))>=1)) ((al (wrap .i64 ((F.length:Int)-1)) (List.length F)).bind fun Q=>(F[Q]?).bind fun R=>(idx e (wrap .i64 (R-1))).bind fun S=>(al (wrap .i64 ((wrap .i64 ((F.length:Int)-1))-1)) (List.length F)).bind fun T=>(F[T]?).bind fun W=>cond (S==W) ((al (wrap .i64 ((F.length:Int)-1)) (List.length F)).bind fun Y=>(F[Y]?).bind fun Z=>(lZ e Z C).bind fun X=>cond X ((cat i (ByteArray.mk #[82])).bind fun a0=>(al (wrap .i64 ((F.length:Int)-1)) (List.length F)).bind fun a1=>(F[a1]?).bind fun a2=>(al (wrap .i64 (a2-1)) (List.length C)).bind fun a3=>(inc (wrap .i64 ((F.length:Int)-1)) (List.length F)).bind fun O=>(room ((List.length ([]:List Int))+List.length ((F.drop 0).take (O-0)))).bind fun c2=>some (a0,o,(C.set a3 true),(([]:List Int)++((F.drop 0).take (O-0))))) ((cat i (ByteArray.mk #[83])).bind fun a4=>(room ((List.length F)+List.length ([o]))).bind fun c3=>some (a4,(wrap .i64 (o+1)),C,(F++([o]))))) ((cat i (ByteArray.mk #[83])).bind fun a5=>(room ((List.length F)+List.length ([o]))).bind fun c4=>some (a5,(wrap .i64 (o+1)),C,(F++([o]))))) ((cat i (ByteArray.mk #[83])).bind fun a6=>(room ((List.length F)+List.length ([o]))).bind fun c5=>some (a6,(wrap .i64 (o+1)),C,(F++([o])))))) (cond (decide ((wrap .i64 ((F.length:Int)-1))>=1)) ((al (wrap .i64 ((F.length:Int)-1)) (List.length F)).bind fun a7=>(F[a7]?).bind fun a8=>(idx e (wrap .i64 (a8-1))).bind fun a9=>(al (wrap .i64 ((wrap .i64 ((F.length:Int)-1))-1)) (List.length F)).bind fun b0=>(F[b0]?).bind fun b1=>cond (a9==b1) ((al (wrap .i64 ((F.length:Int)-1)) (List.length F)).bind fun b2=>(F[b2]?).bind fun b3=>(lZ e b3 C).bind fun b4=>cond b4 ((cat i (ByteArray.mk #[82])).bind fun b5=>(al (wrap .i64 ((F.length:Int)-1)) (List.length F)).bind fun b6=>(F[b6]?).bind fun b7=>(al (wrap .i64 (b7-1)) (List.length C)).bind fun b8=>(inc (wrap .i64 ((F.length:Int)-1)) (List.length F)).bind fun U=>(room ((List.length ([]:List Int))+List.length ((F.drop 0).take (U-0)))).bind fun c6=>some (b5,o,(C.set b8 true),(([]:List Int)++((F.drop 0).take (U-0))))) ((cat i (ByteArray.mk #[83])).bind fun b9=>(room ((List.length F)+List.length ([o]))).bind fun c7=>some (b9,(wrap .i64 (o+1)),C,(F++([o]))))) ((cat i (ByteArray.mk #[83])).bind fun c0=>(room ((List.length F)+List.length ([o]))).bind fun c8=>some (c0,(wrap .i64 (o+1)),C,(F++([o]))))) ((cat i (ByteArray.mk #[83])).bind fun c1=>(room ((List.length F)+List.length ([o]))).bind fun c9=>some (c1,(wrap .i64 (o+1)),C,(F++([o])))))
def zY:=(tQ e i o F).bind (Sum.elim (fun a=>(zX e i o C F).map (fun a=>(Sum.inl (a.1,a.2.1,a.2.2.1,a.2.2.2)))) (fun b=>some ((fun a=>(Sum.inr a)) b)))
def Vs:Option (ByteArray):=ai (fun(a:ByteArray×Int×(List Bool)×(List Int))=>((zY e a.1 a.2.1 a.2.2.1 a.2.2.2).map (Sum.elim (fun b=>Sum.inl (b.1,b.2.1,b.2.2.1,b.2.2.2)) (fun b=>Sum.inr b)))) LL (empty,1,C,([]:List Int))
def Vt:=(Vs e C).map (fun a=>a)
def Jw:Option ((ByteArray×Bool)):=some (b,true)
def Vu:=(Vt e C).bind (fun a=>Jw a)
def tR:=(zW e).bind (Sum.elim (fun a=>Vu e a) (fun b=>some ((fun a=>a) b)))
@[irreducible] def jw:=tR e
def Jx:Option (Int⊕ByteArray):=cond (decide ((wrap .i64 ((v.length:Int)-1))<0)) (some (Sum.inr (ByteArray.mk #[83]))) ((idx v (wrap .i64 ((v.length:Int)-1))).bind fun a=>(idx e (wrap .i64 (a-1))).bind fun b=>cond (b==B) (some (Sum.inr (ByteArray.mk #[76]))) ((idx e (wrap .i64 (B-1))).bind fun c=>cond (c==a) (some (Sum.inr (ByteArray.mk #[82]))) (some (Sum.inl (wrap .i64 ((v.length:Int)-1))))))
def Jy:Option (Unit):=some ()
def p5:Option (Int⊕ByteArray⊕Unit):=cond (decide (H<D)) ((idx e (wrap .i64 (B-1))).bind fun a=>(idx v H).bind fun b=>cond (a==b) (some (Sum.inr (Sum.inl (ByteArray.mk #[68])))) ((idx v H).bind fun c=>(idx e (wrap .i64 (c-1))).bind fun d=>cond (d==B) (some (Sum.inr (Sum.inl (ByteArray.mk #[68])))) (some (Sum.inl (wrap .i64 (H+1)))))) (some (Sum.inr (Sum.inr ())))
def Vv:Option (ByteArray⊕Unit):=ai (fun(a:Int)=>((p5 e v B D a).map (Sum.elim (fun b=>Sum.inl b) (Sum.elim (fun b=>Sum.inr (Sum.inl b)) (fun b=>Sum.inr (Sum.inr b)))))) LL 0
def Vw:=(Vv e v B D).map (Sum.elim (fun a=>(Sum.inr a)) (fun a=>(Sum.inl ())))
def Vx:=(Jy).bind (fun a=>Vw e v B D)
def Vy:Option (ByteArray):=some (ByteArray.mk #[83])
def Vz:=(Vx e v B D).bind (Sum.elim (fun a=>Vy) (fun b=>some ((fun a=>a) b)))
def zZ:=(Jx e v B).bind (Sum.elim (fun a=>Vz e v B a) (fun b=>some ((fun a=>a) b)))
@[irreducible] def z1:=zZ e v B
def Jz:Option (Int):=some (wrap .i64 ((e.length:Int)-1))
def JA:Option (Bool):=cond (o==83) (some (decide (d<=(v.length:Int)))) (some false)
def JB:Option (((List Int)×Int×Bool×(List Int))):=(room ((List.length ([]:List Int))+List.length e)).bind fun a=>(room ((List.length (([]:List Int)++e))+List.length ([o]))).bind fun b=>some (((([]:List Int)++e)++([o])),(wrap .i64 (o+1)),true,v)
def JC:Option (Bool):=cond (p==76) (cond (decide (o<=(v.length:Int))) (cond (decide (q>=0)) ((idx e q).bind fun a=>(al (wrap .i64 (a-1)) (List.length v)).bind fun b=>(v[b]?).bind fun c=>some (decide (c<0))) (some false)) (some false)) (some false)
def JD:Option (Unit⊕((List Int)×Int×Bool×(List Int))):=cond x ((idx e q).bind fun a=>(al (wrap .i64 (a-1)) (List.length F)).bind fun b=>(inc q (List.length e)).bind fun c=>(room ((List.length ([]:List Int))+List.length ((e.take c).drop 0))).bind fun d=>some (Sum.inr ((([]:List Int)++((e.take c).drop 0)),o,true,(F.set b o)))) (cond (p==82) (cond (decide (o<=(F.length:Int))) (cond (decide (q>=0)) ((idx e q).bind fun f=>(al (wrap .i64 (o-1)) (List.length F)).bind fun g=>(room ((List.length ([]:List Int))+List.length e)).bind fun h=>(room ((List.length (([]:List Int)++e))+List.length ([o]))).bind fun i=>some (Sum.inr (((([]:List Int)++e)++([o])),(wrap .i64 (o+1)),true,(F.set g f)))) (cond (p==68) (cond (decide (q>=0)) ((idx e q).bind fun j=>(al (wrap .i64 (j-1)) (List.length F)).bind fun k=>(F[k]?).bind fun l=>cond (decide (l>0)) ((inc q (List.length e)).bind fun m=>(room ((List.length ([]:List Int))+List.length ((e.take m).drop 0))).bind fun n=>some (Sum.inr ((([]:List Int)++((e.take m).drop 0)),o,true,F))) (some (Sum.inl ()))) (some (Sum.inl ()))) (some (Sum.inl ())))) (cond (p==68) (cond (decide (q>=0)) ((idx e q).bind fun r=>(al (wrap .i64 (r-1)) (List.length F)).bind fun s=>(F[s]?).bind fun t=>cond (decide (t>0)) ((inc q (List.length e)).bind fun u=>(room ((List.length ([]:List Int))+List.length ((e.take u).drop 0))).bind fun v=>some (Sum.inr ((([]:List Int)++((e.take u).drop 0)),o,true,F))) (some (Sum.inl ()))) (some (Sum.inl ()))) (some (Sum.inl ())))) (cond (p==68) (cond (decide (q>=0)) ((idx e q).bind fun w=>(al (wrap .i64 (w-1)) (List.length F)).bind fun y=>(F[y]?).bind fun z=>cond (decide (z>0)) ((inc q (List.length e)).bind fun A=>(room ((List.length ([]:List Int))+List.length ((e.take A).drop 0))).bind fun B=>some (Sum.inr ((([]:List Int)++((e.take A).drop 0)),o,true,F))) (some (Sum.inl ()))) (some (Sum.inl ()))) (some (Sum.inl ()))))
def VA:=(JC e o p q v).bind (fun a=>JD e o p q a v)
def VB:Option (Unit⊕((List Int)×Int×Bool×(List Int))):=cond x ((JB e o F).map (fun a=>(Sum.inr a))) (VA e o p q F)
def VC:=(JA o p v).bind (fun a=>VB e o p q a v)
def VD:=(VC e o p q v).map (Sum.elim (fun a=>(Sum.inl ())) (fun a=>(Sum.inr a)))
def JE:Option (((List Int)×Int×Bool×(List Int))):=some (e,o,false,v)
def VE:=(VD e o p q v).bind (Sum.elim (fun a=>JE e o v) (fun b=>some ((fun a=>a) b)))
def JF:=(Jz e).bind (fun a=>VE e o p a v)
@[irreducible] def JG:=JF e o p v
def z6:Option (Unit⊕(ByteArray×Bool)):=(nI e).bind fun a=>cond (!a) (some (Sum.inr (empty,false))) (some (Sum.inl ()))
def JH:Option (Unit):=some ()
def tS:Option ((Int×(List Int))⊕((List Int))):=cond (decide (o<(e.length:Int))) ((room ((List.length v)+List.length ([(-1)]))).bind fun a=>some (Sum.inl ((wrap .i64 (o+1)),(v++([(-1)]))))) (some (Sum.inr v))
def VF:Option (((List Int))):=ai (fun(a:Int×(List Int))=>((tS e a.1 a.2).map (Sum.elim (fun b=>Sum.inl (b.1,b.2)) (fun b=>Sum.inr b)))) LL (0,([]:List Int))
def VG:=(VF e).map (fun a=>a)
def VH:=(JH).bind (fun a=>VG e)
def JI:Option (Unit):=some ()
def tT:Option (((List Int)×ByteArray×Int×(List Int))⊕(ByteArray×Bool)⊕ByteArray):=cond (decide (B<=(e.length:Int))) ((z1 e v B).bind fun a=>(hE a 0).bind fun b=>(JG v B b F).bind fun c=>cond (!(c.2.2.1)) (some (Sum.inr (Sum.inl (empty,false)))) ((cat y a).bind fun d=>some (Sum.inl ((c.1),d,(c.2.1),(c.2.2.2))))) (some (Sum.inr (Sum.inr y)))
def VI:Option ((ByteArray×Bool)⊕ByteArray):=ai (fun(a:(List Int)×ByteArray×Int×(List Int))=>((tT e a.1 a.2.1 a.2.2.1 a.2.2.2).map (Sum.elim (fun b=>Sum.inl (b.1,b.2.1,b.2.2.1,b.2.2.2)) (Sum.elim (fun b=>Sum.inr (Sum.inl b)) (fun b=>Sum.inr (Sum.inr b)))))) LL (([]:List Int),empty,1,v)
def VJ:=(VI e v).map (Sum.elim (fun a=>(Sum.inr a)) (fun a=>(Sum.inl a)))
def JJ:Option ((ByteArray×Bool)):=some (b,true)
def VK:=(VJ e v).bind (Sum.elim (fun a=>JJ a) (fun b=>some ((fun a=>a) b)))
def VL:=(JI).bind (fun a=>VK e v)
def VM:=(VH e).bind (fun a=>VL e a)
def tU:=(z6 e).bind (Sum.elim (fun a=>VM e) (fun b=>some ((fun a=>a) b)))
@[irreducible] def jx:=tU e
def VN (R0 R1:Int->Option Int) (a:Int):Option (Unit⊕Int):=cond (a==0) (some (Sum.inr 1)) (some (Sum.inl ()))
def VO (R0 R1:Int->Option Int):Option (Unit):=some ()
def VP (R0 R1:Int->Option Int) (a b c:Int):Option ((Int×Int)⊕Int):=cond (decide (c<=a)) ((R1 c).bind fun d=>(R0 (wrap .i64 (a-c))).bind fun e=>some (Sum.inl ((wrap .i64 (b+(wrap .i64 (d*e)))),(wrap .i64 (c+1))))) (some (Sum.inr b))
def afV (R0 R1:Int->Option Int) (a:Int):Option (Int):=ai (fun(b:Int×Int)=>((VP R0 R1 a b.1 b.2).map (Sum.elim (fun c=>Sum.inl (c.1,c.2)) (fun c=>Sum.inr c)))) LL (0,1)
def afW (R0 R1:Int->Option Int) (a:Int):=(afV R0 R1 a).map (fun b=>b)
def afX (R0 R1:Int->Option Int) (a:Int):=(VO R0 R1).bind (fun b=>afW R0 R1 a)
def VQ (R0 R1:Int->Option Int) (a:Int):Option (Int):=some a
def afY (R0 R1:Int->Option Int) (a:Int):=(afX R0 R1 a).bind (fun b=>VQ R0 R1 b)
def VR (R0 R1:Int->Option Int) (a:Int):=(VN R0 R1 a).bind (Sum.elim (fun b=>afY R0 R1 a) (fun c=>some ((fun b=>b) c)))
def afZ (R0 R1:Int->Option Int) (a:Int):Option (Int):=VR R0 R1 a
def VS (R0 R1:Int->Option Int):Option (Unit):=some ()
def VT (R0 R1:Int->Option Int):Option (Unit):=some ()
def VU (R0 R1:Int->Option Int) (a b c:Int):Option ((Int×Int)⊕Int):=cond (decide (c<a)) ((R0 c).bind fun d=>(R0 (wrap .i64 ((wrap .i64 (a-1))-c))).bind fun e=>some (Sum.inl ((wrap .i64 (b+(wrap .i64 (d*e)))),(wrap .i64 (c+1))))) (some (Sum.inr b))
def af0 (R0 R1:Int->Option Int) (a:Int):Option (Int):=ai (fun(b:Int×Int)=>((VU R0 R1 a b.1 b.2).map (Sum.elim (fun c=>Sum.inl (c.1,c.2)) (fun c=>Sum.inr c)))) LL (0,0)
def af1 (R0 R1:Int->Option Int) (a:Int):=(af0 R0 R1 a).map (fun b=>b)
def af2 (R0 R1:Int->Option Int) (a:Int):=(VT R0 R1).bind (fun b=>af1 R0 R1 a)
def VV (R0 R1:Int->Option Int) (a:Int):Option (Int):=some a
def af3 (R0 R1:Int->Option Int) (a:Int):=(af2 R0 R1 a).bind (fun b=>VV R0 R1 b)
def VW (R0 R1:Int->Option Int) (a:Int):=(VS R0 R1).bind (fun b=>af3 R0 R1 a)
def af4 (R0 R1:Int->Option Int) (a:Int):Option (Int):=VW R0 R1 a
def ma:Nat->(Int->Option Int)×(Int->Option Int)
 |0=>((fun _=>none),(fun _=>none))
 |n+1=>((fun N=>afZ (ma n).1 (ma n).2 N),(fun N=>af4 (ma n).1 (ma n).2 N))
def p6 (n:Nat):Int->Option Int:=(ma n).1
@[irreducible] def mb:=p6 RR d
def p7 (n:Nat):Int->Option Int:=(ma n).2
@[irreducible] def z7:=p7 RR d
def VX (R0 R1:(List Int)->Int->Int->Int->Option Int):Option (Unit):=some ()
def VY (R0 R1:(List Int)->Int->Int->Int->Option Int):Option (Unit):=some ()
def JK (R0 R1:(List Int)->Int->Int->Int->Option Int) (a b c d e:Int):Option ((Int×Int)⊕Int):=cond (decide (e<c)) ((mb (wrap .i64 (e-a))).bind fun f=>(mb (wrap .i64 (b-e))).bind fun g=>some (Sum.inl ((wrap .i64 (d+(wrap .i64 (f*g)))),(wrap .i64 (e+1))))) (some (Sum.inr d))
def VZ (R0 R1:(List Int)->Int->Int->Int->Option Int) (a b c:Int):Option (Int):=ai (fun(d:Int×Int)=>((JK R0 R1 a b c d.1 d.2).map (Sum.elim (fun e=>Sum.inl (e.1,e.2)) (fun e=>Sum.inr e)))) LL (0,a)
def V0 (R0 R1:(List Int)->Int->Int->Int->Option Int) (a b c:Int):=(VZ R0 R1 a b c).map (fun d=>d)
def V1 (R0 R1:(List Int)->Int->Int->Int->Option Int) (a b c:Int):=(VY R0 R1).bind (fun d=>V0 R0 R1 a b c)
def JL (R0 R1:(List Int)->Int->Int->Int->Option Int) (a:List Int) (b c d e:Int):Option (Int):=(R1 a b (wrap .i64 (d-1)) d).bind fun f=>(mb (wrap .i64 (c-d))).bind fun g=>(R1 a (wrap .i64 (d+1)) c d).bind fun h=>some (wrap .i64 ((wrap .i64 (e+(wrap .i64 (f*g))))+h))
def V2 (R0 R1:(List Int)->Int->Int->Int->Option Int) (a:List Int) (b c d:Int):=(V1 R0 R1 b c d).bind (fun e=>JL R0 R1 a b c d e)
def JM (R0 R1:(List Int)->Int->Int->Int->Option Int) (a:List Int) (b c d:Int):=(VX R0 R1).bind (fun e=>V2 R0 R1 a b c d)
def z8 (R0 R1:(List Int)->Int->Int->Int->Option Int) (a:List Int) (b c d:Int):Option (Int):=JM R0 R1 a b c d
def V3 (R0 R1:(List Int)->Int->Int->Int->Option Int) (a b:Int):Option (Unit⊕Int):=cond (decide (a>b)) (some (Sum.inr 0)) (some (Sum.inl ()))
def V4 (R0 R1:(List Int)->Int->Int->Int->Option Int) (a:List Int) (b c:Int):Option (Int⊕Int):=(idx a (wrap .i64 (c-1))).bind fun d=>cond (d !=b) (some (Sum.inl (wrap .i64 (c+1)))) (some (Sum.inr c))
def af5 (R0 R1:(List Int)->Int->Int->Int->Option Int) (a:List Int) (b c:Int):=ai (fun(d:Int)=>((V4 R0 R1 a c d).map (Sum.elim (fun e=>Sum.inl e) (fun e=>Sum.inr e)))) LL b
def af6 (R0 R1:(List Int)->Int->Int->Int->Option Int) (a:List Int) (b c:Int):=(af5 R0 R1 a b c).map (fun d=>d)
def V5 (R0 R1:(List Int)->Int->Int->Int->Option Int):Option (Unit):=some ()
def V6 (R0 R1:(List Int)->Int->Int->Int->Option Int) (a:List Int) (b c d:Int):Option (Int⊕Int):=cond (decide (d<b)) ((hO a c).bind fun e=>(shr .i64 e d).bind fun f=>(rem f 2).bind fun g=>cond (g==1) (some (Sum.inl (wrap .i64 (d+1)))) (some (Sum.inr d))) (some (Sum.inr d))
def af7 (R0 R1:(List Int)->Int->Int->Int->Option Int) (a:List Int) (b c d:Int):=ai (fun(e:Int)=>((V6 R0 R1 a c d e).map (Sum.elim (fun f=>Sum.inl f) (fun f=>Sum.inr f)))) LL b
def af8 (R0 R1:(List Int)->Int->Int->Int->Option Int) (a:List Int) (b c d:Int):=(af7 R0 R1 a b c d).map (fun e=>e)
def V7 (R0 R1:(List Int)->Int->Int->Int->Option Int):Option (Unit):=some ()
def V8 (R0 R1:(List Int)->Int->Int->Int->Option Int):Option (Unit):=some ()
def JN (R0 R1:(List Int)->Int->Int->Int->Option Int) (a b c d e:Int):Option ((Int×Int)⊕Int):=cond (decide (e<c)) ((z7 (wrap .i64 ((wrap .i64 (e-a))+1))).bind fun f=>(mb (wrap .i64 (b-e))).bind fun g=>some (Sum.inl ((wrap .i64 (d+(wrap .i64 (f*g)))),(wrap .i64 (e+1))))) (some (Sum.inr d))
def V9 (R0 R1:(List Int)->Int->Int->Int->Option Int) (a b c:Int):Option (Int):=ai (fun(d:Int×Int)=>((JN R0 R1 a b c d.1 d.2).map (Sum.elim (fun e=>Sum.inl (e.1,e.2)) (fun e=>Sum.inr e)))) LL (0,a)
def Wa (R0 R1:(List Int)->Int->Int->Int->Option Int) (a b c:Int):=(V9 R0 R1 a b c).map (fun d=>d)
def Wb (R0 R1:(List Int)->Int->Int->Int->Option Int) (a b c:Int):=(V8 R0 R1).bind (fun d=>Wa R0 R1 a b c)
def JO (R0 R1:(List Int)->Int->Int->Int->Option Int) (a:List Int) (b c d e f g:Int):Option (Int):=(R0 a b f e).bind fun h=>(mb (wrap .i64 (c-f))).bind fun i=>(R1 a (wrap .i64 (f+1)) c d).bind fun j=>some (wrap .i64 ((wrap .i64 (g+(wrap .i64 (h*i))))+j))
def Wc (R0 R1:(List Int)->Int->Int->Int->Option Int) (a:List Int) (b c d e f:Int):=(Wb R0 R1 b c f).bind (fun g=>JO R0 R1 a b c d e f g)
def Wd (R0 R1:(List Int)->Int->Int->Int->Option Int) (a:List Int) (b c d e f:Int):=(V7 R0 R1).bind (fun g=>Wc R0 R1 a b c d e f)
def We (R0 R1:(List Int)->Int->Int->Int->Option Int) (a:List Int) (b c d e:Int):=(af8 R0 R1 a b c e).bind (fun f=>Wd R0 R1 a b c d e f)
def Wf (R0 R1:(List Int)->Int->Int->Int->Option Int) (a:List Int) (b c d e:Int):=(V5 R0 R1).bind (fun f=>We R0 R1 a b c d e)
def Wg (R0 R1:(List Int)->Int->Int->Int->Option Int) (a:List Int) (b c d:Int):=(af6 R0 R1 a b d).bind (fun e=>Wf R0 R1 a b c d e)
def JP (R0 R1:(List Int)->Int->Int->Int->Option Int) (a:List Int) (b c d:Int):=(V3 R0 R1 b c).bind (Sum.elim (fun e=>Wg R0 R1 a b c d) (fun f=>some ((fun e=>e) f)))
def Aa (R0 R1:(List Int)->Int->Int->Int->Option Int) (a:List Int) (b c d:Int):Option (Int):=JP R0 R1 a b c d
def hh:Nat->((List Int)->Int->Int->Int->Option Int)×((List Int)->Int->Int->Int->Option Int)
 |0=>((fun _ _ _ _=>none),(fun _ _ _ _=>none))
 |n+1=>((fun N O P Q=>z8 (hh n).1 (hh n).2 N O P Q),(fun N O P Q=>Aa (hh n).1 (hh n).2 N O P Q))
def p8 (n:Nat):(List Int)->Int->Int->Int->Option Int:=(hh n).1
@[irreducible] def tV:=p8 RR e o p q
def p9 (n:Nat):(List Int)->Int->Int->Int->Option Int:=(hh n).2
@[irreducible] def Wh:=p9 RR e o p q
def Ab:Option (Int):=(nI e).bind fun a=>cond (!a) (some (-1)) (cond (decide ((e.length:Int)>6)) (some (-1)) ((rN e).bind fun b=>(tV e 1 (e.length:Int) b).bind fun c=>some c))
@[irreducible] def JQ:=Ab e
def tW:Option (((List Int))):=(di e).bind fun a=>cond (!a) (some ([]:List Int)) ((gh o 1 (e.length:Int)).bind fun b=>cond (!b) (some ([]:List Int)) ((hO e o).bind fun c=>(zt c).bind fun d=>some d))
@[irreducible] def Ac:=tW e o
def JR:Option (((List Int)×(List (List Int)))⊕(ByteArray×(List Int)×(List (List Int)))):=(nw e w).bind fun a=>cond (!a) (some (Sum.inr (empty,([]:List Int),([]:List (List Int))))) ((rM e w).bind fun b=>(y8 y).bind fun c=>cond (c.1) ((rU e w (c.2.1) (c.2.2.1) (c.2.2.2)).bind fun d=>cond (!(d.1)) (some (Sum.inr ((ByteArray.mk #[110,111,116]),(d.2.1),(d.2.2)))) (some (Sum.inr ((ByteArray.mk #[111,107]),(d.2.1),(d.2.2))))) (some (Sum.inl ((b.1),(b.2)))))
def JS:Option (Unit):=some ()
def JT:Option (Bool):=some (aD b (ByteArray.mk #[104,101,97,100,115]))
def JU:Option ((ByteArray×(List Int)×(List (List Int)))):=(lW e).bind fun a=>some (a,v,w)
def JV:Option (Bool):=some (aD b (ByteArray.mk #[100,101,112,116,104,115]))
def JW:Option ((ByteArray×(List Int)×(List (List Int)))):=(Ie e).bind fun a=>(lW a).bind fun b=>some (b,v,w)
def JX:Option (Bool):=some (aD b (ByteArray.mk #[111,114,100,101,114]))
def JY:Option ((ByteArray×(List Int)×(List (List Int)))):=(rR e).bind fun a=>(lW a).bind fun b=>some (b,v,w)
def JZ:Option (Bool):=some (aD b (ByteArray.mk #[114,111,111,116]))
def J0:Option ((ByteArray×(List Int)×(List (List Int)))):=(rN e).bind fun a=>(cG a).bind fun b=>some (b,v,w)
def J1:Option (Bool):=some (aD b (ByteArray.mk #[99,114,111,115,115,105,110,103,115]))
def J2:Option ((ByteArray×(List Int)×(List (List Int)))):=(zh e).bind fun a=>(cG a).bind fun b=>some (b,v,w)
def J3:Option (Unit⊕(ByteArray×(List Int)×(List (List Int)))):=cond (aD b (ByteArray.mk #[103,97,112,115])) ((zk e).bind fun a=>(cG a).bind fun c=>some (Sum.inr (c,v,w))) (cond (aD b (ByteArray.mk #[101,120,99,104,97,110,103,101,115])) ((IF e).bind fun d=>(cG d).bind fun f=>some (Sum.inr (f,v,w))) (cond (aD b (ByteArray.mk #[108,101,110,103,116,104])) ((zr e).bind fun g=>(cG g).bind fun h=>some (Sum.inr (h,v,w))) (cond (aD b (ByteArray.mk #[108,101,97,115,116])) ((zF e).bind fun i=>(cG i).bind fun j=>some (Sum.inr (j,v,w))) (cond (aD b (ByteArray.mk #[97,112,97,114,116])) ((zL e).bind fun k=>(cG k).bind fun l=>some (Sum.inr (l,v,w))) (cond (aD b (ByteArray.mk #[112,114,111,106,101,99,116,105,118,101])) ((nI e).bind fun m=>(zN m).bind fun n=>some (Sum.inr (n,v,w))) (cond (aD b (ByteArray.mk #[110,101,115,116,101,100])) ((zU e).bind fun o=>(zN o).bind fun p=>some (Sum.inr (p,v,w))) (cond (aD b (ByteArray.mk #[109,111,118,101,115])) ((jw e).bind fun q=>cond (!(q.2)) (some (Sum.inr ((ByteArray.mk #[110,111,110,101]),v,w))) (some (Sum.inr ((q.1),v,w)))) (cond (aD b (ByteArray.mk #[101,97,103,101,114])) ((jx e).bind fun r=>cond (!(r.2)) (some (Sum.inr ((ByteArray.mk #[110,111,110,101]),v,w))) (some (Sum.inr ((r.1),v,w)))) (cond (aD b (ByteArray.mk #[112,108,97,99,101])) ((JQ e).bind fun s=>cond (decide (s<0)) (some (Sum.inr ((ByteArray.mk #[110,111,110,101]),v,w))) ((cG s).bind fun t=>some (Sum.inr (t,v,w)))) (some (Sum.inl ())))))))))))
def Wi:Option (Unit⊕(ByteArray×(List Int)×(List (List Int)))):=cond g ((J2 e v w).map (fun a=>(Sum.inr a))) (J3 b e v w)
def Wj:=(J1 b).bind (fun a=>Wi b e a v w)
def Wk:Option (Unit⊕(ByteArray×(List Int)×(List (List Int)))):=cond g ((J0 e v w).map (fun a=>(Sum.inr a))) (Wj b e v w)
def Wl:=(JZ b).bind (fun a=>Wk b e a v w)
def Wm:Option (Unit⊕(ByteArray×(List Int)×(List (List Int)))):=cond g ((JY e v w).map (fun a=>(Sum.inr a))) (Wl b e v w)
def Wn:=(JX b).bind (fun a=>Wm b e a v w)
def Wo:Option (Unit⊕(ByteArray×(List Int)×(List (List Int)))):=cond g ((JW e v w).map (fun a=>(Sum.inr a))) (Wn b e v w)
def Wp:=(JV b).bind (fun a=>Wo b e a v w)
def Wq:Option (Unit⊕(ByteArray×(List Int)×(List (List Int)))):=cond g ((JU e v w).map (fun a=>(Sum.inr a))) (Wp b e v w)
def Wr:=(JT b).bind (fun a=>Wq b e a v w)
def Ws:=(Wr b e v w).map (Sum.elim (fun a=>(Sum.inl ())) (fun a=>(Sum.inr a)))
def Wt:=(JS).bind (fun a=>Ws b e v w)
def Ad:Option ((ByteArray×(List Int)×(List (List Int)))):=(kD b 32).bind fun a=>cond ((a.length:Int) !=2) (some ((ByteArray.mk #[119,104,97,116]),v,w)) ((al 0 (List.length a)).bind fun c=>(a[c]?).bind fun d=>cond (!(aD d (ByteArray.mk #[121,105,101,108,100]))) (some ((ByteArray.mk #[119,104,97,116]),v,w)) ((al 1 (List.length a)).bind fun f=>(a[f]?).bind fun g=>(gN g).bind fun h=>cond (decide (h<0)) (some ((ByteArray.mk #[119,104,97,116]),v,w)) ((al 1 (List.length a)).bind fun i=>(a[i]?).bind fun j=>(gN j).bind fun k=>(Ac e k).bind fun l=>(lW l).bind fun m=>some (m,v,w))))
def Wu:=(Wt b e v w).bind (Sum.elim (fun a=>Ad b e v w) (fun c=>some ((fun a=>a) c)))
def Ae:=(JR e w y).bind (Sum.elim (fun a=>Wu y e a.1 a.2) (fun b=>some ((fun a=>a) b)))
@[irreducible] def Af:=Ae e w y
def J4:Option (Unit⊕Bool):=cond ((e.length:Int) !=(v.length:Int)) (some (Sum.inr false)) (some (Sum.inl ()))
def J5:Option (Unit):=some ()
def tX:Option (Int⊕Bool⊕Unit):=cond (decide (B<(e.length:Int))) ((idx e B).bind fun a=>(idx v B).bind fun b=>cond (a !=b) (some (Sum.inr (Sum.inl false))) (some (Sum.inl (wrap .i64 (B+1))))) (some (Sum.inr (Sum.inr ())))
def Wv:Option (Bool⊕Unit):=ai (fun(a:Int)=>((tX e v a).map (Sum.elim (fun b=>Sum.inl b) (Sum.elim (fun b=>Sum.inr (Sum.inl b)) (fun b=>Sum.inr (Sum.inr b)))))) LL 0
def Ww:=(Wv e v).map (Sum.elim (fun a=>(Sum.inr a)) (fun a=>(Sum.inl ())))
def Wx:=(J5).bind (fun a=>Ww e v)
def J6:Option (Bool):=some true
def Wy:=(Wx e v).bind (Sum.elim (fun a=>J6) (fun b=>some ((fun a=>a) b)))
def Ag:=(J4 e v).bind (Sum.elim (fun a=>Wy e v) (fun b=>some ((fun a=>a) b)))
@[irreducible] def qa:=Ag e v
def J7:Option (Unit⊕Bool):=cond ((w.length:Int) !=(G.length:Int)) (some (Sum.inr false)) (some (Sum.inl ()))
def J8:Option (Unit):=some ()
def tY:Option (Int⊕Bool⊕Unit):=cond (decide (H<(w.length:Int))) ((idx w H).bind fun a=>(idx G H).bind fun b=>(qa a b).bind fun c=>cond (!c) (some (Sum.inr (Sum.inl false))) (some (Sum.inl (wrap .i64 (H+1))))) (some (Sum.inr (Sum.inr ())))
def Wz:Option (Bool⊕Unit):=ai (fun(a:Int)=>((tY w G a).map (Sum.elim (fun b=>Sum.inl b) (Sum.elim (fun b=>Sum.inr (Sum.inl b)) (fun b=>Sum.inr (Sum.inr b)))))) LL 0
def WA:=(Wz w G).map (Sum.elim (fun a=>(Sum.inr a)) (fun a=>(Sum.inl ())))
def WB:=(J8).bind (fun a=>WA w G)
def J9:Option (Bool):=some true
def WC:=(WB w G).bind (Sum.elim (fun a=>J9) (fun b=>some ((fun a=>a) b)))
def Ah:=(J7 w G).bind (Sum.elim (fun a=>WC w G) (fun b=>some ((fun a=>a) b)))
@[irreducible] def tZ:=Ah w G
def Ai:Option (Bool):=(qa e F).bind fun a=>cond a ((tZ w G).bind fun b=>some b) (some false)
@[irreducible] def kE:=Ai e w F G
def Aj:Option (Bool):=(qa e ([]:List Int)).bind fun a=>cond a ((tZ w ([]:List (List Int))).bind fun b=>some b) (some false)
@[irreducible] def Ak:=Aj e w
def Al:Option (Bool):=(Ak e w).bind fun a=>some a
@[irreducible] def Ka:=Al e w
def Am:Option (Bool):=(eF ([0])).bind fun a=>cond a ((eF ([1])).bind fun b=>some (!b)) (some false)
@[irreducible] def Kb:=Am
def An:Option (Bool):=cond (decide ((e.length:Int)>1048576)) (some true) ((E1 e).bind fun a=>(tu (a.2.1) (a.2.2) (a.1)).bind fun b=>(Af (a.2.1) (a.2.2) (a.1)).bind fun c=>(kE (b.2.1) (b.2.2) (c.2.1) (c.2.2)).bind fun d=>cond (!d) (some false) (cond (!(aD (b.1) (c.1))) (some false) ((nw (a.2.1) (a.2.2)).bind fun f=>cond (!f) (cond (aD (b.1) empty) ((Ka (b.2.1) (b.2.2)).bind fun g=>cond g ((Kb).bind fun h=>some h) (some false)) (some false)) ((tu (a.2.1) (a.2.2) empty).bind fun i=>(nz (b.2.1) (b.2.2)).bind fun j=>cond j (cond (aD (b.1) (ByteArray.mk #[111,107])) ((kE (i.2.1) (i.2.2) (a.2.1) (a.2.2)).bind fun k=>cond k (some (aD (i.1) (ByteArray.mk #[119,104,97,116]))) (some false)) ((kE (b.2.1) (b.2.2) (a.2.1) (a.2.2)).bind fun l=>cond l ((kE (i.2.1) (i.2.2) (a.2.1) (a.2.2)).bind fun m=>cond m (some (aD (i.1) (ByteArray.mk #[119,104,97,116]))) (some false)) (some false))) (some false)))))
@[irreducible] def Kc:=An e
end Go.Rv
