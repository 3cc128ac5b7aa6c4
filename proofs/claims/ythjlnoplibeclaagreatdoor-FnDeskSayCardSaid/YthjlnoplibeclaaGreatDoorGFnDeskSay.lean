/-
  Plain functions,written by program for functions of the checked code. Conditions: none.
-/
import Derived.Test.YthjlnoplibeclaaGreatDoorFB
open Go.IntKind (wrap)
open ByteArray (empty)
open List (replicate)
set_option linter.all false
namespace Go.Rv
variable (a : Bool)(b : ByteArray)(c : List ByteArray)(d : Int)(e : List Int)(f : Nat)(g : Bool)(h : Nat)(i : ByteArray)(j : List (Int × Int × Int × Unit))(k l m : ByteArray)(n o : List ByteArray)(p : ByteArray)(q : List ByteArray)(r s t : Int)(u : List (Int × Int × Unit))(v : ByteArray)(w x : Int)(y : List Int)(z : List (List Int))(A : List ByteArray)(B : Bool)(C : ByteArray)(D E : Nat)(F : Int)(G : List Bool)(H : Int)(I : List Int)(J : List (List Int))(K : Int)(L : List Int)(M : List (List Int))(N : Int)(O : List Int)(P : Int)
def wv:Option (((List Int))):=cond (decide ((e.length:Int)>2000)) ((inc 2000 (List.length e)).bind fun a=>some ((e.take a).drop 0)) (some e)
@[irreducible] def DR:=wv e
def ww:Option ((Int×Int)):=cond (decide (d<1)) (some (0,(wrap .i64 (r+1)))) (cond ((e.length:Int)==0) (some (0,(wrap .i64 (r+1)))) (cond (decide ((wrap .i64 ((wrap .i64 (r+1))-1))<(e.length:Int))) ((idx e (wrap .i64 ((wrap .i64 (r+1))-1))).bind fun a=>(rem (wrap .i64 a) d).bind fun b=>some (b,(wrap .i64 (r+1)))) ((rem (wrap .i64 ((wrap .i64 (r+1))-1)) (e.length:Int)).bind fun c=>(idx e c).bind fun f=>(rem (wrap .i64 ((wrap .i64 ((wrap .i64 ((wrap .i64 (r+1))-1))*7))+3)) (e.length:Int)).bind fun g=>(idx e g).bind fun h=>(quo .i64 (wrap .i64 ((wrap .i64 (r+1))-1)) (e.length:Int)).bind fun i=>(quo .i64 (wrap .i64 ((wrap .i64 ((wrap .i64 ((wrap .i64 ((wrap .i64 f)*131))+(wrap .i64 ((wrap .i64 h)*1117))))+(wrap .i64 ((wrap .i64 ((wrap .i64 (r+1))-1))*29))))+(wrap .i64 (i*53)))) 64).bind fun j=>(rem (oH .i64 (wrap .i64 ((wrap .i64 ((wrap .i64 ((wrap .i64 ((wrap .i64 f)*131))+(wrap .i64 ((wrap .i64 h)*1117))))+(wrap .i64 ((wrap .i64 ((wrap .i64 (r+1))-1))*29))))+(wrap .i64 (i*53)))) j) d).bind fun k=>some (k,(wrap .i64 (r+1))))))
@[irreducible] def bC:=ww d e r
def DS:Option ((Int×Int)):=(bC 2 e r).bind fun a=>some ((a.1),(a.2))
def DT:Option (Unit):=some ()
def wx:Option ((Int×Int×(List Int))⊕(Int×(List Int))):=cond (decide (s<=d)) (cond (r==0) ((bC s y F).bind fun a=>(inc (a.1) (List.length I)).bind fun b=>(room ((List.length ([]:List Int))+List.length ((I.drop 0).take (b-0)))).bind fun c=>(room ((List.length (([]:List Int)++((I.drop 0).take (b-0))))+List.length ([s]))).bind fun e=>(inc (a.1) (List.length I)).bind fun f=>(room ((List.length ((([]:List Int)++((I.drop 0).take (b-0)))++([s])))+List.length ((I.drop f).take ((List.length I)-f)))).bind fun g=>some (Sum.inl ((wrap .i64 (s+1)),(a.2),(((([]:List Int)++((I.drop 0).take (b-0)))++([s]))++((I.drop f).take ((List.length I)-f)))))) ((bC 3 y F).bind fun h=>cond ((h.1)==0) ((bC s y (h.2)).bind fun i=>(inc (i.1) (List.length I)).bind fun j=>(room ((List.length ([]:List Int))+List.length ((I.drop 0).take (j-0)))).bind fun k=>(room ((List.length (([]:List Int)++((I.drop 0).take (j-0))))+List.length ([s]))).bind fun l=>(inc (i.1) (List.length I)).bind fun m=>(room ((List.length ((([]:List Int)++((I.drop 0).take (j-0)))++([s])))+List.length ((I.drop m).take ((List.length I)-m)))).bind fun n=>some (Sum.inl ((wrap .i64 (s+1)),(i.2),(((([]:List Int)++((I.drop 0).take (j-0)))++([s]))++((I.drop m).take ((List.length I)-m)))))) ((inc (I.length:Int) (List.length I)).bind fun o=>(room ((List.length ([]:List Int))+List.length ((I.drop 0).take (o-0)))).bind fun p=>(room ((List.length (([]:List Int)++((I.drop 0).take (o-0))))+List.length ([s]))).bind fun q=>(inc (I.length:Int) (List.length I)).bind fun t=>(room ((List.length ((([]:List Int)++((I.drop 0).take (o-0)))++([s])))+List.length ((I.drop t).take ((List.length I)-t)))).bind fun u=>some (Sum.inl ((wrap .i64 (s+1)),(h.2),(((([]:List Int)++((I.drop 0).take (o-0)))++([s]))++((I.drop t).take ((List.length I)-t)))))))) (some (Sum.inr (F,I)))
def Ot:Option ((Int×(List Int))):=ai (fun(a:Int×Int×(List Int))=>((wx d r a.1 y a.2.1 a.2.2).map (Sum.elim (fun b=>Sum.inl (b.1,b.2.1,b.2.2)) (fun b=>Sum.inr b)))) LL (1,F,([]:List Int))
def Ou:=(Ot d r y F).map (fun a=>(a.1,a.2))
def Ov:=(DT).bind (fun a=>Ou d r y F)
def Ow:Option ((Int×(List Int))):=some (d,e)
def Ox:=(Ov d r y F).bind (fun a=>Ow a.1 a.2)
def DU:=(DS e r).bind (fun a=>Ox d a.1 e a.2)
@[irreducible] def wy:=DU d e r
def wz:Option ((Bool×Int)):=cond (decide (d>0)) ((bC d e r).bind fun a=>some (((a.1)==(wrap .i64 (d-1))),(a.2))) (some (false,r))
@[irreducible] def lN:=wz d e r
def DV:Option ((Int×Int×Int×(List Int)×(List Int))):=(bC 7 e r).bind fun a=>(wy (wrap .i64 (1+(a.1))) e (a.2)).bind fun b=>(mk (wrap .i64 (1+(a.1))) (wrap .i64 (1+(a.1)))).bind fun c=>(bC 2 e (b.1)).bind fun d=>some ((wrap .i64 (1+(a.1))),(d.1),(d.2),(b.2),(replicate c (0:Int)))
def DW:Option (Unit):=some ()
def wA:Option ((Int×Int×(List Int))⊕(Int×(List Int))):=cond (decide (s<d)) ((bC s y F).bind fun a=>cond (r==1) ((bC 2 y (a.2)).bind fun b=>cond ((b.1)==0) ((al s (List.length I)).bind fun c=>(I[c]?).bind fun e=>(al (wrap .i64 (s-1)) (List.length I)).bind fun f=>(I[f]?).bind fun g=>(al (wrap .i64 (e-1)) (List.length L)).bind fun h=>some (Sum.inl ((wrap .i64 (s+1)),(b.2),(L.set h g)))) ((al s (List.length I)).bind fun i=>(I[i]?).bind fun j=>(al (a.1) (List.length I)).bind fun k=>(I[k]?).bind fun l=>(al (wrap .i64 (j-1)) (List.length L)).bind fun m=>some (Sum.inl ((wrap .i64 (s+1)),(b.2),(L.set m l))))) ((al s (List.length I)).bind fun n=>(I[n]?).bind fun o=>(al (a.1) (List.length I)).bind fun p=>(I[p]?).bind fun q=>(al (wrap .i64 (o-1)) (List.length L)).bind fun t=>some (Sum.inl ((wrap .i64 (s+1)),(a.2),(L.set t q))))) (some (Sum.inr (F,L)))
def Oy:Option ((Int×(List Int))):=ai (fun(a:Int×Int×(List Int))=>((wA d r a.1 y a.2.1 I a.2.2).map (Sum.elim (fun b=>Sum.inl (b.1,b.2.1,b.2.2)) (fun b=>Sum.inr b)))) LL (1,F,L)
def Oz:=(Oy d r y F I L).map (fun a=>(a.1,a.2))
def OA:=(DW).bind (fun a=>Oz d r y F I L)
def DX:Option ((Int×(List Int))):=(lN d y F).bind fun a=>cond (a.1) ((bC 4 y (a.2)).bind fun b=>cond ((b.1)==0) (some ((b.2),([]:List Int))) (cond ((b.1)==1) (some ((b.2),([2,1,0]))) (cond ((b.1)==2) ((bC r y (b.2)).bind fun c=>(al (c.1) (List.length I)).bind fun e=>(room ((List.length (I.set e 0))+List.length ([0]))).bind fun f=>some ((c.2),((I.set e 0)++([0])))) ((bC 3 y (b.2)).bind fun g=>(al (g.1) (List.length ([1,(wrap .i64 (r+1)),(-1)]))).bind fun h=>(([1,(wrap .i64 (r+1)),(-1)])[h]?).bind fun i=>(al 0 (List.length I)).bind fun j=>some ((g.2),(I.set j i)))))) (some ((a.2),I))
def OB:=(OA r s y F I L).bind (fun a=>DX d r y a.1 a.2)
def DY:=(DV e r).bind (fun a=>OB d a.1 a.2.1 e a.2.2.1 a.2.2.2.1 a.2.2.2.2)
@[irreducible] def wB:=DY d e r
def wC:Option (Bool):=cond (decide (d>=r)) (some (decide (d<=s))) (some false)
@[irreducible] def gh:=wC d r s
def DZ:Option (Int⊕Bool):=(gh (e.length:Int) 1 8).bind fun a=>cond (!a) (some (Sum.inr false)) (some (Sum.inl (e.length:Int)))
def D0:Option (Unit):=some ()
def wD:Option (Unit⊕Int):=cond (decide (s<d)) (some (Sum.inl ())) (some (Sum.inr r))
def D1:Option ((Int×Int)⊕Bool):=(idx e t).bind fun a=>(gh a 0 r).bind fun b=>cond (!b) (some (Sum.inr false)) ((idx e t).bind fun c=>cond (c==(wrap .i64 (t+1))) (some (Sum.inr false)) ((idx e t).bind fun d=>cond (d==0) (some (Sum.inl ((wrap .i64 (s+1)),(wrap .i64 (t+1))))) (some (Sum.inl (s,(wrap .i64 (t+1)))))))
def D2:Option (Unit):=some ()
def wE:Option ((Int×Int)⊕Bool⊕Int):=cond (decide (s>0)) (cond (decide (t<r)) ((idx e (wrap .i64 (s-1))).bind fun a=>(gh a 0 r).bind fun b=>cond (!b) (some (Sum.inr (Sum.inl false))) (some (Sum.inl (a,(wrap .i64 (t+1)))))) (some (Sum.inr (Sum.inr s)))) (some (Sum.inr (Sum.inr s)))
def D3:Option (Bool⊕Int):=ai (fun(a:Int×Int)=>((wE e r a.1 a.2).map (Sum.elim (fun b=>Sum.inl (b.1,b.2)) (Sum.elim (fun b=>Sum.inr (Sum.inl b)) (fun b=>Sum.inr (Sum.inr b)))))) LL (s,0)
def OC:=(D3 e r s).map (Sum.elim (fun a=>(Sum.inr a)) (fun a=>(Sum.inl a)))
def OD:=(D2).bind (fun a=>OC e r s)
def D4:Option (Unit⊕Bool):=cond (decide (d>0)) (some (Sum.inr false)) (some (Sum.inl ()))
def OE:=(OD e r s).bind (Sum.elim (fun a=>D4 a) (fun b=>some ((fun a=>(Sum.inr a)) b)))
def OF:=(D1 e r s t).bind (Sum.elim (fun a=>(OE e r a.2).map (Sum.elim (fun b=>(Sum.inl a.1)) (fun b=>(Sum.inr b)))) (fun c=>some ((fun a=>(Sum.inr a)) c)))
def OG:=(OF e r s t).map (Sum.elim (fun a=>(Sum.inl a)) (fun a=>(Sum.inr a)))
def D5:Option (Int):=some (wrap .i64 (d+1))
def OH:=(OG e r s t).bind (Sum.elim (fun a=>(D5 t).map (fun b=>(Sum.inl (a,b)))) (fun c=>some ((fun a=>(Sum.inr a)) c)))
def wF:=(wD r s t).bind (Sum.elim (fun a=>(OH e r s t).map (Sum.elim (fun a=>(Sum.inl (a.1,a.2))) (fun a=>(Sum.inr (Sum.inl a))))) (fun b=>some ((fun a=>(Sum.inr (Sum.inr a))) b)))
def OI:Option (Bool⊕Int):=ai (fun(a:Int×Int)=>((wF e r a.1 a.2).map (Sum.elim (fun b=>Sum.inl (b.1,b.2)) (Sum.elim (fun b=>Sum.inr (Sum.inl b)) (fun b=>Sum.inr (Sum.inr b)))))) LL (0,0)
def OJ:=(OI e r).map (Sum.elim (fun a=>(Sum.inr a)) (fun a=>(Sum.inl a)))
def OK:=(D0).bind (fun a=>OJ e r)
def D6:Option (Bool):=some (d==1)
def OL:=(OK e r).bind (Sum.elim (fun a=>D6 a) (fun b=>some ((fun a=>a) b)))
def D7:=(DZ e).bind (Sum.elim (fun a=>OL e a) (fun b=>some ((fun a=>a) b)))
@[irreducible] def di:=D7 e
def D8:Option (Unit):=some ()
def D9:Option (Unit):=some ()
def Ea:Option (Unit⊕Unit):=cond (decide (r<(e.length:Int))) (some (Sum.inl ())) (some (Sum.inr ()))
def Eb:Option (Unit⊕Bool):=(idx e s).bind fun a=>(gh a 1 r).bind fun b=>cond (!b) (some (Sum.inr false)) (some (Sum.inl ()))
def wG:Option (Int⊕Bool⊕Unit):=cond (decide (s<r)) ((idx e s).bind fun a=>(idx e r).bind fun b=>cond (a==b) (some (Sum.inr (Sum.inl false))) (some (Sum.inl (wrap .i64 (s+1))))) (some (Sum.inr (Sum.inr ())))
def Ec:Option (Bool⊕Unit):=ai (fun(a:Int)=>((wG e r a).map (Sum.elim (fun b=>Sum.inl b) (Sum.elim (fun b=>Sum.inr (Sum.inl b)) (fun b=>Sum.inr (Sum.inr b)))))) LL 0
def OM:=(Ec e r).map (Sum.elim (fun a=>(Sum.inr a)) (fun a=>(Sum.inl ())))
def ON:=(Eb e r s).bind (Sum.elim (fun a=>OM e s) (fun b=>some ((fun a=>(Sum.inr a)) b)))
def OO:=(ON e r s).map (Sum.elim (fun a=>(Sum.inl ())) (fun a=>(Sum.inr a)))
def Ed:Option (Int):=some (wrap .i64 (d+1))
def OP:=(OO e r s).bind (Sum.elim (fun a=>(Ed s).map (fun a=>(Sum.inl a))) (fun b=>some ((fun a=>(Sum.inr a)) b)))
def Ee:=(Ea e s).bind (Sum.elim (fun a=>(OP e r s).map (Sum.elim (fun a=>(Sum.inl a)) (fun a=>(Sum.inr (Sum.inl a))))) (fun b=>some ((fun a=>(Sum.inr (Sum.inr a))) b)))
def OQ:Option (Bool⊕Unit):=ai (fun(a:Int)=>((Ee e r a).map (Sum.elim (fun b=>Sum.inl b) (Sum.elim (fun b=>Sum.inr (Sum.inl b)) (fun b=>Sum.inr (Sum.inr b)))))) LL 0
def OR:=(OQ e r).map (Sum.elim (fun a=>(Sum.inr a)) (fun a=>(Sum.inl ())))
def OS:=(D9).bind (fun a=>OR e r)
def Ef:Option (Bool):=(gh r 1 8).bind fun a=>cond a (some ((e.length:Int)==r)) (some false)
def OT:=(OS e r).bind (Sum.elim (fun a=>Ef e r) (fun b=>some ((fun a=>a) b)))
def Eg:=(D8).bind (fun a=>OT e r)
@[irreducible] def wH:=Eg e r
def Eh:Option (((List Int))⊕(Bool×(List Int))):=(di e).bind fun a=>cond (!a) (some (Sum.inr (false,([]:List Int)))) ((wH y (e.length:Int)).bind fun b=>cond (!b) (some (Sum.inr (false,([]:List Int)))) ((mk (wrap .i64 ((e.length:Int)+1)) (wrap .i64 ((e.length:Int)+1))).bind fun c=>some (Sum.inl (replicate c (0:Int)))))
def Ei:Option (Unit):=some ()
def rF:Option ((Int×(List Int))⊕((List Int))):=cond (decide (r<(e.length:Int))) ((idx e r).bind fun a=>(al a (List.length y)).bind fun b=>some (Sum.inl ((wrap .i64 (r+1)),(y.set b (wrap .i64 (r+1)))))) (some (Sum.inr y))
def OU:Option (((List Int))):=ai (fun(a:Int×(List Int))=>((rF e a.1 a.2).map (Sum.elim (fun b=>Sum.inl (b.1,b.2)) (fun b=>Sum.inr b)))) LL (0,y)
def OV:=(OU e y).map (fun a=>a)
def OW:=(Ei).bind (fun a=>OV e y)
def Ej:Option (Unit):=some ()
def Ek:Option (Unit):=some ()
def wI:Option ((Int×(List Int))⊕((List Int))):=cond (decide (F<(y.length:Int))) ((idx y F).bind fun a=>(idx e (wrap .i64 (a-1))).bind fun b=>(al b (List.length I)).bind fun c=>(I[c]?).bind fun d=>(room ((List.length L)+List.length ([d]))).bind fun f=>some (Sum.inl ((wrap .i64 (F+1)),(L++([d]))))) (some (Sum.inr L))
def OX:Option (((List Int))):=ai (fun(a:Int×(List Int))=>((wI e y a.1 I a.2).map (Sum.elim (fun b=>Sum.inl (b.1,b.2)) (fun b=>Sum.inr b)))) LL (0,([]:List Int))
def OY:=(OX e y I).map (fun a=>a)
def OZ:=(Ek).bind (fun a=>OY e y I)
def El:Option ((Bool×(List Int))):=some (true,e)
def O0:=(OZ e y I).bind (fun a=>El a)
def O1:=(Ej).bind (fun a=>O0 e y I)
def O2:=(OW y I).bind (fun a=>O1 e y a)
def Em:=(Eh e y).bind (Sum.elim (fun a=>O2 e y a) (fun b=>some ((fun a=>a) b)))
@[irreducible] def wJ:=Em e y
def En (R0:Int->Int->Int->(List Int)->Int->(List Int)->Option (Int×(List Int))) (a b c:Int) (d:List Int) (e:Int) (f:List Int):Option ((Int×Int×(List Int))⊕(Int×(List Int))):=cond (decide (a>b)) (some (Sum.inr (e,f))) ((bC (wrap .i64 ((wrap .i64 (b-a))+1)) d e).bind fun g=>(al (wrap .i64 ((wrap .i64 (a+(g.1)))-1)) (List.length f)).bind fun h=>some (Sum.inl ((wrap .i64 (a+(g.1))),(g.2),(f.set h c))))
def wK (R0:Int->Int->Int->(List Int)->Int->(List Int)->Option (Int×(List Int))) (a b:Int) (c:List Int) (d:Int) (e:List Int):Option ((Int×Int×(List Int))⊕(Int×(List Int))):=cond (decide (b<a)) ((bC (wrap .i64 (a-b)) c d).bind fun f=>(R0 b (wrap .i64 (b+(f.1))) a c (f.2) e).bind fun g=>some (Sum.inl ((wrap .i64 ((wrap .i64 (b+(f.1)))+1)),(g.1),(g.2)))) (some (Sum.inr (d,e)))
def O3 (R0:Int->Int->Int->(List Int)->Int->(List Int)->Option (Int×(List Int))) (a b:Int) (c:List Int) (d:Int) (e:List Int):=ai (fun(f:Int×Int×(List Int))=>((wK R0 a f.1 c f.2.1 f.2.2).map (Sum.elim (fun g=>Sum.inl (g.1,g.2.1,g.2.2)) (fun g=>Sum.inr g)))) LL (b,d,e)
def O4 (R0:Int->Int->Int->(List Int)->Int->(List Int)->Option (Int×(List Int))) (a b:Int) (c:List Int) (d:Int) (e:List Int):=(O3 R0 a b c d e).map (fun f=>(f.1,f.2))
def Eo (R0:Int->Int->Int->(List Int)->Int->(List Int)->Option (Int×(List Int))) (a:Int):Option (Int):=some (wrap .i64 (a+1))
def wL (R0:Int->Int->Int->(List Int)->Int->(List Int)->Option (Int×(List Int))) (a b c:Int) (d:List Int) (e:Int) (f:List Int):Option ((Int×Int×(List Int))⊕(Int×(List Int))):=cond (decide (c<=a)) ((bC (wrap .i64 ((wrap .i64 (a-c))+1)) d e).bind fun g=>(R0 c (wrap .i64 (c+(g.1))) b d (g.2) f).bind fun h=>some (Sum.inl ((wrap .i64 ((wrap .i64 (c+(g.1)))+1)),(h.1),(h.2)))) (some (Sum.inr (e,f)))
def O5 (R0:Int->Int->Int->(List Int)->Int->(List Int)->Option (Int×(List Int))) (a b c:Int) (d:List Int) (e:Int) (f:List Int):=ai (fun(g:Int×Int×(List Int))=>((wL R0 a b g.1 d g.2.1 g.2.2).map (Sum.elim (fun h=>Sum.inl (h.1,h.2.1,h.2.2)) (fun h=>Sum.inr h)))) LL (c,e,f)
def O6 (R0:Int->Int->Int->(List Int)->Int->(List Int)->Option (Int×(List Int))) (a b c:Int) (d:List Int) (e:Int) (f:List Int):=(O5 R0 a b c d e f).map (fun g=>(g.1,g.2))
def O7 (R0:Int->Int->Int->(List Int)->Int->(List Int)->Option (Int×(List Int))) (a b:Int) (c:List Int) (d:Int) (e:List Int):=(Eo R0 b).bind (fun f=>O6 R0 a b f c d e)
def O8 (R0:Int->Int->Int->(List Int)->Int->(List Int)->Option (Int×(List Int))) (a b c:Int) (d:List Int) (e:Int) (f:List Int):=(O4 R0 b c d e f).bind (fun g=>O7 R0 a b d g.1 g.2)
def Ep (R0:Int->Int->Int->(List Int)->Int->(List Int)->Option (Int×(List Int))) (a b c:Int) (d:List Int) (f:Int) (g:List Int):=(En R0 a b c d f g).bind (Sum.elim (fun e=>(O8 R0 b e.1 a d e.2.1 e.2.2).map (fun h=>(Sum.inl (h.1,h.2)))) (fun i=>some ((fun e=>(Sum.inr e)) i)))
def O9 (R0:Int->Int->Int->(List Int)->Int->(List Int)->Option (Int×(List Int))) (a b c:Int) (d:List Int) (e:Int) (f:List Int):=(Ep R0 a b c d e f).map (Sum.elim (fun g=>(g.1,g.2)) (fun g=>g))
def nv:Nat->(Int->Int->Int->(List Int)->Int->(List Int)->Option (Int×(List Int)))
 |0=>(fun _ _ _ _ _ _=>none)
 |n+1=>(fun Q R S T U V=>O9 (nv n) Q R S T U V)
def pp (n:Nat):Int->Int->Int->(List Int)->Int->(List Int)->Option (Int×(List Int)):=(nv n)
@[irreducible] def rG:=pp RR d r s y F I
def rH:Option ((Int×(List Int))):=(bC 3 e r).bind fun a=>cond ((a.1)==0) ((wB d e (a.2)).bind fun b=>some ((b.1),(b.2))) ((bC 7 e (a.2)).bind fun c=>(mk (wrap .i64 (1+(c.1))) (wrap .i64 (1+(c.1)))).bind fun f=>(rG 1 (wrap .i64 (1+(c.1))) 0 e (c.2) (replicate f (0:Int))).bind fun g=>some ((g.1),(g.2)))
@[irreducible] def pq:=rH d e r
def rI:Option ((Int×(List Int))):=(wB d e r).bind fun a=>(bC 2 e (a.1)).bind fun b=>cond ((b.1)==0) ((di (a.2)).bind fun c=>cond c ((wy (List.length (a.2):Int) e (b.2)).bind fun f=>(wJ (a.2) (f.2)).bind fun g=>some ((f.1),(g.2))) ((bC 3 e (b.2)).bind fun h=>cond ((h.1)==0) ((pq d e (h.2)).bind fun i=>some ((i.1),(i.2))) (some ((h.2),(a.2))))) ((bC 3 e (b.2)).bind fun j=>cond ((j.1)==0) ((pq d e (j.2)).bind fun k=>some ((k.1),(k.2))) (some ((j.2),(a.2))))
@[irreducible] def wM:=rI d e r
def rJ:Option ((Bool×(List Int))):=(di e).bind fun a=>cond (!a) (some (false,([]:List Int))) ((room ((List.length ([]:List Int))+List.length e)).bind fun b=>some (true,(([]:List Int)++e)))
@[irreducible] def wN:=rJ e
def rK:Option ((Int×Int×Int×Int)):=(bC 8 y F).bind fun a=>(idx ([0,0,1,1,2,3,4,5]) (a.1)).bind fun b=>(bC 60 y (a.2)).bind fun c=>(quo .i64 (c.1) 59).bind fun d=>cond ((wrap .i64 (b+(wrap .i64 (d*6))))==0) ((bC (imax (e.length:Int) 1) y (c.2)).bind fun f=>(bC (wrap .i64 ((e.length:Int)+1)) y (f.2)).bind fun g=>(lN 40 y (g.2)).bind fun h=>cond (h.1) ((bC 3 y (h.2)).bind fun i=>(al (i.1) (List.length ([(-1),9,100]))).bind fun j=>(([(-1),9,100])[j]?).bind fun k=>some ((i.2),(wrap .i64 (b+(wrap .i64 (d*6)))),(wrap .i64 (1+(f.1))),k)) (some ((h.2),(wrap .i64 (b+(wrap .i64 (d*6)))),(wrap .i64 (1+(f.1))),(g.1)))) (cond ((wrap .i64 (b+(wrap .i64 (d*6))))==1) ((bC (wrap .i64 ((e.length:Int)+1)) y (c.2)).bind fun l=>(bC 9 y (l.2)).bind fun m=>(quo .i64 (m.1) 8).bind fun n=>(lN 40 y (m.2)).bind fun o=>cond (o.1) ((bC 3 y (o.2)).bind fun p=>(al (p.1) (List.length ([(-1),9,100]))).bind fun q=>(([(-1),9,100])[q]?).bind fun r=>some ((p.2),(wrap .i64 (b+(wrap .i64 (d*6)))),(wrap .i64 ((l.1)+n)),r)) (some ((o.2),(wrap .i64 (b+(wrap .i64 (d*6)))),(wrap .i64 ((l.1)+n)),0))) ((lN 40 y (c.2)).bind fun s=>cond (s.1) ((bC 3 y (s.2)).bind fun t=>(al (t.1) (List.length ([(-1),9,100]))).bind fun u=>(([(-1),9,100])[u]?).bind fun v=>some ((t.2),(wrap .i64 (b+(wrap .i64 (d*6)))),0,v)) (some ((s.2),(wrap .i64 (b+(wrap .i64 (d*6)))),0,0))))
@[irreducible] def ky:=rK e y F
def Er:Option (Unit):=some ()
def Es:Option (Unit):=some ()
def pr:Option (Int⊕Bool⊕Unit):=cond (decide (d<(z.length:Int))) ((idx z d).bind fun a=>(di a).bind fun b=>cond (!b) (some (Sum.inr (Sum.inl false))) (some (Sum.inl (wrap .i64 (d+1))))) (some (Sum.inr (Sum.inr ())))
def Pb:Option (Bool⊕Unit):=ai (fun(a:Int)=>((pr a z).map (Sum.elim (fun b=>Sum.inl b) (Sum.elim (fun b=>Sum.inr (Sum.inl b)) (fun b=>Sum.inr (Sum.inr b)))))) LL 0
def Pc:=(Pb z).map (Sum.elim (fun a=>(Sum.inr a)) (fun a=>(Sum.inl ())))
def Pd:=(Es).bind (fun a=>Pc z)
def Et:Option (Bool):=(di e).bind fun a=>cond a (some (decide ((z.length:Int)<=8))) (some false)
def Pe:=(Pd z).bind (Sum.elim (fun a=>Et e z) (fun b=>some ((fun a=>a) b)))
def wO:=(Er).bind (fun a=>Pe e z)
@[irreducible] def nw:=wO e z
def Eu:Option (((List Int))):=(room ((List.length ([]:List Int))+List.length e)).bind fun a=>some (([]:List Int)++e)
def Ev:Option (Unit):=some ()
def rL:Option ((Int×(List (List Int)))⊕((List (List Int)))):=cond (decide (d<(z.length:Int))) ((idx z d).bind fun a=>(room (List.length a)).bind fun b=>(room (List.length J+1)).bind fun c=>some (Sum.inl ((wrap .i64 (d+1)),((J++ [[]]).set (List.length J) a)))) (some (Sum.inr J))
def Pf:Option (((List (List Int)))):=ai (fun(a:Int×(List (List Int)))=>((rL a.1 z a.2).map (Sum.elim (fun b=>Sum.inl (b.1,b.2)) (fun b=>Sum.inr b)))) LL (0,([]:List (List Int)))
def Pg:=(Pf z).map (fun a=>a)
def Ph:=(Ev).bind (fun a=>Pg z)
def Ew:Option (((List Int)×(List (List Int)))):=some (e,z)
def Pj:=(Ph z).bind (fun a=>Ew I a)
def wP:=(Eu e).bind (fun a=>Pj z a)
@[irreducible] def rM:=wP e z
def Ex:Option (Int):=some (e.length:Int)
def Ey:Option (Int):=some (wrap .i64 (d-1))
def nx:Option ((Int×(List Int))⊕((List Int))):=cond (decide (s>=0)) ((di e).bind fun a=>cond a ((idx e s).bind fun b=>cond (b==0) ((room ((List.length y)+List.length ([0]))).bind fun c=>some (Sum.inl ((wrap .i64 (s-1)),(y++([0]))))) ((idx e s).bind fun d=>(room ((List.length y)+List.length ([(wrap .i64 ((wrap .i64 (r+1))-d))]))).bind fun f=>some (Sum.inl ((wrap .i64 (s-1)),(y++([(wrap .i64 ((wrap .i64 (r+1))-d))])))))) (some (Sum.inr y))) (some (Sum.inr y))
def Pk:=ai (fun(a:Int×(List Int))=>((nx e r a.1 a.2).map (Sum.elim (fun b=>Sum.inl (b.1,b.2)) (fun b=>Sum.inr b)))) LL (s,([]:List Int))
def Pl:=(Pk e r s).map (fun a=>a)
def Pm:=(Ey r).bind (fun a=>Pl e r a)
def Ez:Option (((List Int))):=some e
def Pn:=(Pm e r).bind (fun a=>Ez a)
def wQ:=(Ex e).bind (fun a=>Pn e a)
@[irreducible] def ps:=wQ e
def EA:Option (Unit):=some ()
def EB:Option (Unit):=some ()
def pt:Option (Int⊕Int⊕Unit):=cond (decide (r<(e.length:Int))) ((di e).bind fun a=>cond a ((idx e r).bind fun b=>cond (b==0) (some (Sum.inr (Sum.inl (wrap .i64 (r+1))))) (some (Sum.inl (wrap .i64 (r+1))))) (some (Sum.inr (Sum.inr ())))) (some (Sum.inr (Sum.inr ())))
def Po:Option (Int⊕Unit):=ai (fun(a:Int)=>((pt e a).map (Sum.elim (fun b=>Sum.inl b) (Sum.elim (fun b=>Sum.inr (Sum.inl b)) (fun b=>Sum.inr (Sum.inr b)))))) LL 0
def Pp:=(Po e).map (Sum.elim (fun a=>(Sum.inr a)) (fun a=>(Sum.inl ())))
def Pq:=(EB).bind (fun a=>Pp e)
def EC:Option (Int):=some (-1)
def Pr:=(Pq e).bind (Sum.elim (fun a=>EC) (fun b=>some ((fun a=>a) b)))
def ED:=(EA).bind (fun a=>Pr e)
@[irreducible] def rN:=ED e
def EE (R0:(List Int)->Int->Option ((List Int))):Option (Unit):=some ()
def EF (R0:(List Int)->Int->Option ((List Int))):Option (Unit):=some ()
def rO (R0:(List Int)->Int->Option ((List Int))) (a:List Int) (b c:Int) (d:List Int):Option ((Int×(List Int))⊕((List Int))):=cond (decide (c<b)) ((idx a (wrap .i64 (c-1))).bind fun e=>cond (e==b) ((R0 a c).bind fun f=>(room ((List.length d)+List.length f)).bind fun g=>some (Sum.inl ((wrap .i64 (c+1)),(d++f)))) (some (Sum.inl ((wrap .i64 (c+1)),d)))) (some (Sum.inr d))
def Ps (R0:(List Int)->Int->Option ((List Int))) (a:List Int) (b:Int):Option (((List Int))):=ai (fun(c:Int×(List Int))=>((rO R0 a b c.1 c.2).map (Sum.elim (fun d=>Sum.inl (d.1,d.2)) (fun d=>Sum.inr d)))) LL (1,([]:List Int))
def Pt (R0:(List Int)->Int->Option ((List Int))) (a:List Int) (b:Int):=(Ps R0 a b).map (fun c=>c)
def Pu (R0:(List Int)->Int->Option ((List Int))) (a:List Int) (b:Int):=(EF R0).bind (fun c=>Pt R0 a b)
def EG (R0:(List Int)->Int->Option ((List Int))) (a:Int) (b:List Int):Option (((List Int))):=(room ((List.length b)+List.length ([a]))).bind fun c=>some (b++([a]))
def EH (R0:(List Int)->Int->Option ((List Int))) (a:Int):Option (Int):=some (wrap .i64 (a+1))
def rP (R0:(List Int)->Int->Option ((List Int))) (a:List Int) (b c:Int) (d:List Int):Option ((Int×(List Int))⊕((List Int))):=cond (decide (c<=(a.length:Int))) ((idx a (wrap .i64 (c-1))).bind fun e=>cond (e==b) ((R0 a c).bind fun f=>(room ((List.length d)+List.length f)).bind fun g=>some (Sum.inl ((wrap .i64 (c+1)),(d++f)))) (some (Sum.inl ((wrap .i64 (c+1)),d)))) (some (Sum.inr d))
def Pv (R0:(List Int)->Int->Option ((List Int))) (a:List Int) (b c:Int) (d:List Int):=ai (fun(e:Int×(List Int))=>((rP R0 a b e.1 e.2).map (Sum.elim (fun f=>Sum.inl (f.1,f.2)) (fun f=>Sum.inr f)))) LL (c,d)
def Pw (R0:(List Int)->Int->Option ((List Int))) (a:List Int) (b c:Int) (d:List Int):=(Pv R0 a b c d).map (fun e=>e)
def Px (R0:(List Int)->Int->Option ((List Int))) (a:List Int) (b:Int) (c:List Int):=(EH R0 b).bind (fun d=>Pw R0 a b d c)
def EI (R0:(List Int)->Int->Option ((List Int))) (a:List Int):Option (((List Int))):=some a
def Py (R0:(List Int)->Int->Option ((List Int))) (a:List Int) (b:Int) (c:List Int):=(Px R0 a b c).bind (fun d=>EI R0 d)
def Pz (R0:(List Int)->Int->Option ((List Int))) (a:List Int) (b:Int) (c:List Int):=(EG R0 b c).bind (fun d=>Py R0 a b d)
def PA (R0:(List Int)->Int->Option ((List Int))) (a:List Int) (b:Int):=(Pu R0 a b).bind (fun c=>Pz R0 a b c)
def EJ (R0:(List Int)->Int->Option ((List Int))) (a:List Int) (b:Int):=(EE R0).bind (fun c=>PA R0 a b)
def EL (R0:(List Int)->Int->Option ((List Int))) (a:List Int) (b:Int):Option ((List Int)):=EJ R0 a b
def ny:Nat->((List Int)->Int->Option ((List Int)))
 |0=>(fun _ _=>none)
 |n+1=>(fun Q R=>EL (ny n) Q R)
def lO (n:Nat):(List Int)->Int->Option ((List Int)):=(ny n)
@[irreducible] def rQ:=lO RR e r
def wR:Option (((List Int))):=(di e).bind fun a=>cond (!a) (some ([]:List Int)) ((rN e).bind fun b=>(rQ e b).bind fun c=>some c)
@[irreducible] def rR:=wR e
def wS:Option (((List Int))):=(rR e).bind fun a=>(wJ e a).bind fun b=>some (b.2)
@[irreducible] def rS:=wS e
def rT:Option ((Nat×(List Int))):=(room ((List.length ([]:List Int))+List.length e)).bind fun a=>cond (r==0) ((gh s 1 (e.length:Int)).bind fun b=>cond b ((al (wrap .i64 (s-1)) (List.length (([]:List Int)++e))).bind fun c=>some ((List.length ((([]:List Int)++e).set c t)),((([]:List Int)++e).set c t))) (cond ((r==1)&&((s==s)&&((t==0)&&true))) ((room ((List.length (([]:List Int)++e))+List.length ([s]))).bind fun d=>some ((List.length ((([]:List Int)++e)++([s]))),((([]:List Int)++e)++([s])))) (cond ((r==2)&&((s==0)&&((t==0)&&true))) ((inc (wrap .i64 ((List.length (([]:List Int)++e):Int)-1)) (List.length (([]:List Int)++e))).bind fun f=>some ((f-0),(([]:List Int)++e))) (cond ((r==3)&&((s==0)&&((t==0)&&true))) ((ps e).bind fun g=>some ((List.length g),g)) (cond ((r==4)&&((s==0)&&((t==0)&&true))) ((rS e).bind fun h=>some ((List.length h),h)) (some ((List.length ([]:List Int)),([]:List Int)))))))) (cond ((r==1)&&((s==s)&&((t==0)&&true))) ((room ((List.length (([]:List Int)++e))+List.length ([s]))).bind fun i=>some ((List.length ((([]:List Int)++e)++([s]))),((([]:List Int)++e)++([s])))) (cond ((r==2)&&((s==0)&&((t==0)&&true))) ((inc (wrap .i64 ((List.length (([]:List Int)++e):Int)-1)) (List.length (([]:List Int)++e))).bind fun j=>some ((j-0),(([]:List Int)++e))) (cond ((r==3)&&((s==0)&&((t==0)&&true))) ((ps e).bind fun k=>some ((List.length k),k)) (cond ((r==4)&&((s==0)&&((t==0)&&true))) ((rS e).bind fun l=>some ((List.length l),l)) (some ((List.length ([]:List Int)),([]:List Int)))))))
@[irreducible] def pu:=rT e r s t
def EM:Option ((Nat×Bool×(List Int)×(List Int)×(List (List Int)))⊕(Bool×(List Int)×(List (List Int)))):=(nw e z).bind fun a=>cond (!a) (some (Sum.inr (false,([]:List Int),([]:List (List Int))))) ((rM e z).bind fun b=>cond ((F==5)&&((H==0)&&((K==0)&&true))) (cond (decide ((z.length:Int)>0)) ((al (wrap .i64 ((List.length (b.2):Int)-1)) (List.length (b.2))).bind fun c=>(((b.2))[c]?).bind fun d=>(inc (wrap .i64 ((List.length (b.2):Int)-1)) (List.length (((b.2)).set c []))).bind fun f=>(sure (Nat.blt c 0||Nat.ble f c)).bind fun g=>some (Sum.inr (true,d,(((((b.2)).set c []).take f).drop 0)))) ((pu e F H K).bind fun h=>some (Sum.inl ((h.1),(((((h.1):Nat):Int))==(e.length:Int)),(h.2),(b.1),(b.2))))) ((pu e F H K).bind fun i=>some (Sum.inl ((i.1),(((((i.1):Nat):Int))==(e.length:Int)),(i.2),(b.1),(b.2)))))
def EN:Option (Unit):=some ()
def pw:Option ((Bool×Int)⊕Bool):=cond (decide (r<(((f:Nat):Int)))) (cond g ((al r f).bind fun a=>(I[(0+a)]?).bind fun b=>(idx y r).bind fun c=>some (Sum.inl ((b==c),(wrap .i64 (r+1))))) (some (Sum.inr g))) (some (Sum.inr g))
def EP:Option (Bool):=ai (fun(a:Bool×Int)=>((pw f a.1 a.2 y I).map (Sum.elim (fun b=>Sum.inl (b.1,b.2)) (fun b=>Sum.inr b)))) LL (g,0)
def PB:=(EP f g y I).map (fun a=>a)
def PC:=(EN).bind (fun a=>PB f g y I)
def EQ:Option ((Bool×(List Int)×(List (List Int)))):=cond g (some (false,I,J)) ((di ((y.drop 0).take f)).bind fun a=>cond (!a) (some (false,I,J)) ((room (List.length J+1)).bind fun b=>cond (decide ((List.length ((J++ [[]]).set (List.length J) I):Int)>8)) ((inc 1 (List.length ((J++ [[]]).set (List.length J) I))).bind fun c=>(room ((List.length ([]:List Int))+List.length ((y.drop 0).take f))).bind fun d=>some (true,(([]:List Int)++((y.drop 0).take f)),((((J++ [[]]).set (List.length J) I).take (List.length ((J++ [[]]).set (List.length J) I))).drop c))) ((room ((List.length ([]:List Int))+List.length ((y.drop 0).take f))).bind fun e=>some (true,(([]:List Int)++((y.drop 0).take f)),((J++ [[]]).set (List.length J) I)))))
def ER:=(PC f g y I).bind (fun a=>EQ f a I L M)
def wT:=(EM e z F H K).bind (Sum.elim (fun a=>ER a.1 a.2.1 e a.2.2.1 a.2.2.2.1 a.2.2.2.2) (fun b=>some ((fun a=>a) b)))
@[irreducible] def rU:=wT e z F H K
def ES:Option ((Int×(List Int))):=(wM 0 e r).bind fun a=>(wN (a.2)).bind fun b=>some ((a.1),(b.2))
def ET:Option ((Int×Int)):=(bC 6 e r).bind fun a=>some ((a.1),(a.2))
def wU:Option ((Int×Int×(List Int)×(List (List Int)))⊕(Int×(List Int)×(List (List Int)))):=cond (decide (d>0)) ((ky y e r).bind fun a=>(rU y z (a.2.1) (a.2.2.1) (a.2.2.2)).bind fun b=>cond (b.1) (some (Sum.inl ((wrap .i64 (d-1)),(a.1),(b.2.1),(b.2.2)))) (some (Sum.inl ((wrap .i64 (d-1)),(a.1),y,z)))) (some (Sum.inr (r,y,z)))
def PD:=ai (fun(a:Int×Int×(List Int)×(List (List Int)))=>((wU a.1 e a.2.1 a.2.2.1 a.2.2.2).map (Sum.elim (fun b=>Sum.inl (b.1,b.2.1,b.2.2.1,b.2.2.2)) (fun b=>Sum.inr b)))) LL (d,r,y,([]:List (List Int)))
def PE:=(PD d e r y).map (fun a=>(a.1,a.2.1,a.2.2))
def PF:=(ET e r).bind (fun a=>PE a.1 e a.2 y)
def EU:Option ((Int×(List Int)×(List (List Int)))):=(lN d e r).bind fun a=>cond (a.1) ((bC 3 e (a.2)).bind fun b=>cond ((b.1)==0) (some ((b.2),([1]),z)) (cond ((b.1)==1) ((room (List.length z+1)).bind fun c=>some ((b.2),y,((z++ [[]]).set (List.length z) ([]:List Int)))) (some ((b.2),([]:List Int),([]:List (List Int)))))) (some ((a.2),y,z))
def PG:=(PF e r y).bind (fun a=>EU d e a.1 a.2.1 a.2.2)
def wV:=(ES e r).bind (fun a=>PG d e a.1 a.2)
@[irreducible] def wW:=wV d e r
def rV (R0:Int->Option ByteArray) (a:Int):Option (ByteArray):=cond (decide (a<10)) (some (bytesOf ([(wrap .u8 (wrap .i64 (48+(imax a 0))))]))) ((quo .i64 a 10).bind fun b=>(rem a 10).bind fun c=>(R0 b).bind fun d=>(cat d (bytesOf ([(wrap .u8 (wrap .i64 (48+c)))]))).bind fun e=>some e)
def EV (R0:Int->Option ByteArray) (a:Int):Option (ByteArray):=rV R0 a
def kz:Nat->(Int->Option ByteArray)
 |0=>(fun _=>none)
 |n+1=>(fun Q=>EV (kz n) Q)
def rW (n:Nat):Int->Option ByteArray:=(kz n)
@[irreducible] def cG:=rW RR d
def EW:Option (Unit):=some ()
def EX:Option (Bool):=cond (d==0) ((gh r 0 99).bind fun a=>cond a ((gh s 0 99).bind fun b=>some b) (some false)) (some false)
def EY:Option (ByteArray):=(cG d).bind fun a=>(cat (ByteArray.mk #[104,101,97,100,32]) a).bind fun b=>(cat b (ByteArray.mk #[32])).bind fun c=>(cG r).bind fun e=>(cat c e).bind fun f=>some f
def EZ:Option (Bool):=cond (d==1) ((gh r 0 99).bind fun a=>cond a (some (s==0)) (some false)) (some false)
def wX:Option (Unit⊕ByteArray):=cond a ((cG r).bind fun b=>(cat (ByteArray.mk #[97,100,100,32]) b).bind fun c=>some (Sum.inr c)) (cond ((d==2)&&((r==0)&&((s==0)&&true))) (some (Sum.inr (ByteArray.mk #[100,114,111,112]))) (cond ((d==3)&&((r==0)&&((s==0)&&true))) (some (Sum.inr (ByteArray.mk #[116,117,114,110]))) (cond ((d==4)&&((r==0)&&((s==0)&&true))) (some (Sum.inr (ByteArray.mk #[102,108,97,116]))) (cond ((d==5)&&((r==0)&&((s==0)&&true))) (some (Sum.inr (ByteArray.mk #[98,97,99,107]))) (some (Sum.inl ()))))))
def PH:=(EZ d r s).bind (fun a=>wX a d r s)
def E0:Option (Unit⊕ByteArray):=cond a ((EY r s).map (fun b=>(Sum.inr b))) (PH d r s)
def PI:=(EX d r s).bind (fun a=>E0 a d r s)
def PJ:=(PI d r s).map (Sum.elim (fun a=>(Sum.inl ())) (fun a=>(Sum.inr a)))
def PK:Option (ByteArray):=some empty
def PL:=(PJ d r s).bind (Sum.elim (fun a=>PK) (fun b=>some ((fun a=>a) b)))
def wY:=(EW).bind (fun a=>PL d r s)
@[irreducible] def iE:=wY d r s
def rX:Option ((ByteArray×Int)):=(bC 7 y F).bind fun a=>cond ((a.1)==0) (cond ((a.1)==0) ((bC 15 y (a.2)).bind fun b=>(al (b.1) (List.length ([(ByteArray.mk #[104,101,97,100,115]),(ByteArray.mk #[100,101,112,116,104,115]),(ByteArray.mk #[111,114,100,101,114]),(ByteArray.mk #[114,111,111,116]),(ByteArray.mk #[99,114,111,115,115,105,110,103,115]),(ByteArray.mk #[103,97,112,115]),(ByteArray.mk #[101,120,99,104,97,110,103,101,115]),(ByteArray.mk #[108,101,110,103,116,104]),(ByteArray.mk #[108,101,97,115,116]),(ByteArray.mk #[97,112,97,114,116]),(ByteArray.mk #[112,114,111,106,101,99,116,105,118,101]),(ByteArray.mk #[110,101,115,116,101,100]),(ByteArray.mk #[109,111,118,101,115]),(ByteArray.mk #[101,97,103,101,114]),(ByteArray.mk #[112,108,97,99,101])]))).bind fun c=>(([(ByteArray.mk #[104,101,97,100,115]),(ByteArray.mk #[100,101,112,116,104,115]),(ByteArray.mk #[111,114,100,101,114]),(ByteArray.mk #[114,111,111,116]),(ByteArray.mk #[99,114,111,115,115,105,110,103,115]),(ByteArray.mk #[103,97,112,115]),(ByteArray.mk #[101,120,99,104,97,110,103,101,115]),(ByteArray.mk #[108,101,110,103,116,104]),(ByteArray.mk #[108,101,97,115,116]),(ByteArray.mk #[97,112,97,114,116]),(ByteArray.mk #[112,114,111,106,101,99,116,105,118,101]),(ByteArray.mk #[110,101,115,116,101,100]),(ByteArray.mk #[109,111,118,101,115]),(ByteArray.mk #[101,97,103,101,114]),(ByteArray.mk #[112,108,97,99,101])])[c]?).bind fun d=>some (d,(b.2))) (cond ((a.1)==3) ((bC 13 y (a.2)).bind fun f=>(al (f.1) (List.length ([empty,(ByteArray.mk #[104,101,97,100]),(ByteArray.mk #[104,101,97,100,32,49]),(ByteArray.mk #[104,101,97,100,32,49,32,120]),(ByteArray.mk #[104,101,97,100,32,48,49,32,49]),(ByteArray.mk #[97,100,100]),(ByteArray.mk #[97,100,100,32,120]),(ByteArray.mk #[121,105,101,108,100]),(ByteArray.mk #[121,105,101,108,100,32,48]),(ByteArray.mk #[121,105,101,108,100,32,57]),(ByteArray.mk #[121,105,101,108,100,32,120]),(ByteArray.mk #[32,114,111,111,116]),(ByteArray.mk #[100,114,111,112,32,48])]))).bind fun g=>(([empty,(ByteArray.mk #[104,101,97,100]),(ByteArray.mk #[104,101,97,100,32,49]),(ByteArray.mk #[104,101,97,100,32,49,32,120]),(ByteArray.mk #[104,101,97,100,32,48,49,32,49]),(ByteArray.mk #[97,100,100]),(ByteArray.mk #[97,100,100,32,120]),(ByteArray.mk #[121,105,101,108,100]),(ByteArray.mk #[121,105,101,108,100,32,48]),(ByteArray.mk #[121,105,101,108,100,32,57]),(ByteArray.mk #[121,105,101,108,100,32,120]),(ByteArray.mk #[32,114,111,111,116]),(ByteArray.mk #[100,114,111,112,32,48])])[g]?).bind fun h=>some (h,(f.2))) (cond ((a.1)==4) ((bC 9 y (a.2)).bind fun i=>(cG (i.1)).bind fun j=>(cat (ByteArray.mk #[121,105,101,108,100,32]) j).bind fun k=>some (k,(i.2))) ((ky e y (a.2)).bind fun l=>(iE (l.2.1) (l.2.2.1) (l.2.2.2)).bind fun m=>some (m,(l.1)))))) (cond ((a.1)==1) (cond ((a.1)==1) ((bC 15 y (a.2)).bind fun n=>(al (n.1) (List.length ([(ByteArray.mk #[104,101,97,100,115]),(ByteArray.mk #[100,101,112,116,104,115]),(ByteArray.mk #[111,114,100,101,114]),(ByteArray.mk #[114,111,111,116]),(ByteArray.mk #[99,114,111,115,115,105,110,103,115]),(ByteArray.mk #[103,97,112,115]),(ByteArray.mk #[101,120,99,104,97,110,103,101,115]),(ByteArray.mk #[108,101,110,103,116,104]),(ByteArray.mk #[108,101,97,115,116]),(ByteArray.mk #[97,112,97,114,116]),(ByteArray.mk #[112,114,111,106,101,99,116,105,118,101]),(ByteArray.mk #[110,101,115,116,101,100]),(ByteArray.mk #[109,111,118,101,115]),(ByteArray.mk #[101,97,103,101,114]),(ByteArray.mk #[112,108,97,99,101])]))).bind fun o=>(([(ByteArray.mk #[104,101,97,100,115]),(ByteArray.mk #[100,101,112,116,104,115]),(ByteArray.mk #[111,114,100,101,114]),(ByteArray.mk #[114,111,111,116]),(ByteArray.mk #[99,114,111,115,115,105,110,103,115]),(ByteArray.mk #[103,97,112,115]),(ByteArray.mk #[101,120,99,104,97,110,103,101,115]),(ByteArray.mk #[108,101,110,103,116,104]),(ByteArray.mk #[108,101,97,115,116]),(ByteArray.mk #[97,112,97,114,116]),(ByteArray.mk #[112,114,111,106,101,99,116,105,118,101]),(ByteArray.mk #[110,101,115,116,101,100]),(ByteArray.mk #[109,111,118,101,115]),(ByteArray.mk #[101,97,103,101,114]),(ByteArray.mk #[112,108,97,99,101])])[o]?).bind fun p=>some (p,(n.2))) (cond ((a.1)==3) ((bC 13 y (a.2)).bind fun q=>(al (q.1) (List.length ([empty,(ByteArray.mk #[104,101,97,100]),(ByteArray.mk #[104,101,97,100,32,49]),(ByteArray.mk #[104,101,97,100,32,49,32,120]),(ByteArray.mk #[104,101,97,100,32,48,49,32,49]),(ByteArray.mk #[97,100,100]),(ByteArray.mk #[97,100,100,32,120]),(ByteArray.mk #[121,105,101,108,100]),(ByteArray.mk #[121,105,101,108,100,32,48]),(ByteArray.mk #[121,105,101,108,100,32,57]),(ByteArray.mk #[121,105,101,108,100,32,120]),(ByteArray.mk #[32,114,111,111,116]),(ByteArray.mk #[100,114,111,112,32,48])]))).bind fun r=>(([empty,(ByteArray.mk #[104,101,97,100]),(ByteArray.mk #[104,101,97,100,32,49]),(ByteArray.mk #[104,101,97,100,32,49,32,120]),(ByteArray.mk #[104,101,97,100,32,48,49,32,49]),(ByteArray.mk #[97,100,100]),(ByteArray.mk #[97,100,100,32,120]),(ByteArray.mk #[121,105,101,108,100]),(ByteArray.mk #[121,105,101,108,100,32,48]),(ByteArray.mk #[121,105,101,108,100,32,57]),(ByteArray.mk #[121,105,101,108,100,32,120]),(ByteArray.mk #[32,114,111,111,116]),(ByteArray.mk #[100,114,111,112,32,48])])[r]?).bind fun s=>some (s,(q.2))) (cond ((a.1)==4) ((bC 9 y (a.2)).bind fun t=>(cG (t.1)).bind fun u=>(cat (ByteArray.mk #[121,105,101,108,100,32]) u).bind fun v=>some (v,(t.2))) ((ky e y (a.2)).bind fun w=>(iE (w.2.1) (w.2.2.1) (w.2.2.2)).bind fun x=>some (x,(w.1)))))) (cond ((a.1)==2) ((bC 15 y (a.2)).bind fun z=>(al (z.1) (List.length ([(ByteArray.mk #[104,101,97,100,115]),(ByteArray.mk #[100,101,112,116,104,115]),(ByteArray.mk #[111,114,100,101,114]),(ByteArray.mk #[114,111,111,116]),(ByteArray.mk #[99,114,111,115,115,105,110,103,115]),(ByteArray.mk #[103,97,112,115]),(ByteArray.mk #[101,120,99,104,97,110,103,101,115]),(ByteArray.mk #[108,101,110,103,116,104]),(ByteArray.mk #[108,101,97,115,116]),(ByteArray.mk #[97,112,97,114,116]),(ByteArray.mk #[112,114,111,106,101,99,116,105,118,101]),(ByteArray.mk #[110,101,115,116,101,100]),(ByteArray.mk #[109,111,118,101,115]),(ByteArray.mk #[101,97,103,101,114]),(ByteArray.mk #[112,108,97,99,101])]))).bind fun A=>(([(ByteArray.mk #[104,101,97,100,115]),(ByteArray.mk #[100,101,112,116,104,115]),(ByteArray.mk #[111,114,100,101,114]),(ByteArray.mk #[114,111,111,116]),(ByteArray.mk #[99,114,111,115,115,105,110,103,115]),(ByteArray.mk #[103,97,112,115]),(ByteArray.mk #[101,120,99,104,97,110,103,101,115]),(ByteArray.mk #[108,101,110,103,116,104]),(ByteArray.mk #[108,101,97,115,116]),(ByteArray.mk #[97,112,97,114,116]),(ByteArray.mk #[112,114,111,106,101,99,116,105,118,101]),(ByteArray.mk #[110,101,115,116,101,100]),(ByteArray.mk #[109,111,118,101,115]),(ByteArray.mk #[101,97,103,101,114]),(ByteArray.mk #[112,108,97,99,101])])[A]?).bind fun B=>some (B,(z.2))) (cond ((a.1)==3) ((bC 13 y (a.2)).bind fun C=>(al (C.1) (List.length ([empty,(ByteArray.mk #[104,101,97,100]),(ByteArray.mk #[104,101,97,100,32,49]),(ByteArray.mk #[104,101,97,100,32,49,32,120]),(ByteArray.mk #[104,101,97,100,32,48,49,32,49]),(ByteArray.mk #[97,100,100]),(ByteArray.mk #[97,100,100,32,120]),(ByteArray.mk #[121,105,101,108,100]),(ByteArray.mk #[121,105,101,108,100,32,48]),(ByteArray.mk #[121,105,101,108,100,32,57]),(ByteArray.mk #[121,105,101,108,100,32,120]),(ByteArray.mk #[32,114,111,111,116]),(ByteArray.mk #[100,114,111,112,32,48])]))).bind fun D=>(([empty,(ByteArray.mk #[104,101,97,100]),(ByteArray.mk #[104,101,97,100,32,49]),(ByteArray.mk #[104,101,97,100,32,49,32,120]),(ByteArray.mk #[104,101,97,100,32,48,49,32,49]),(ByteArray.mk #[97,100,100]),(ByteArray.mk #[97,100,100,32,120]),(ByteArray.mk #[121,105,101,108,100]),(ByteArray.mk #[121,105,101,108,100,32,48]),(ByteArray.mk #[121,105,101,108,100,32,57]),(ByteArray.mk #[121,105,101,108,100,32,120]),(ByteArray.mk #[32,114,111,111,116]),(ByteArray.mk #[100,114,111,112,32,48])])[D]?).bind fun E=>some (E,(C.2))) (cond ((a.1)==4) ((bC 9 y (a.2)).bind fun G=>(cG (G.1)).bind fun H=>(cat (ByteArray.mk #[121,105,101,108,100,32]) H).bind fun I=>some (I,(G.2))) ((ky e y (a.2)).bind fun J=>(iE (J.2.1) (J.2.2.1) (J.2.2.2)).bind fun K=>some (K,(J.1)))))))
@[irreducible] def wZ:=rX e y F
def E2:Option (Unit):=some ()
def E3:Option (Int):=some (e.length:Int)
def rY:Option ((Int×Int)⊕Bool⊕Int):=cond (decide (t<s)) ((idx e t).bind fun a=>cond (decide (a<0)) (some (Sum.inr (Sum.inl false))) (cond (decide (a>(e.length:Int))) (some (Sum.inr (Sum.inl false))) (cond (a==0) (some (Sum.inl ((wrap .i64 (r+1)),(wrap .i64 (t+1))))) (some (Sum.inl (r,(wrap .i64 (t+1)))))))) (some (Sum.inr (Sum.inr r)))
def PM:Option (Bool⊕Int):=ai (fun(a:Int×Int)=>((rY e a.1 r a.2).map (Sum.elim (fun b=>Sum.inl (b.1,b.2)) (Sum.elim (fun b=>Sum.inr (Sum.inl b)) (fun b=>Sum.inr (Sum.inr b)))))) LL (0,0)
def PN:=(PM e r).map (Sum.elim (fun a=>(Sum.inr a)) (fun a=>(Sum.inl a)))
def PO:=(E3 e).bind (fun a=>PN e a)
def E4:Option (Bool):=some (d==1)
def PP:=(PO e).bind (Sum.elim (fun a=>E4 a) (fun b=>some ((fun a=>a) b)))
def E5:=(E2).bind (fun a=>PP e)
@[irreducible] def E6:=E5 e
def w3:Option ((Bool×Int×Int)):=(idx e (wrap .i64 (r-1))).bind fun a=>cond (a==0) (some (false,r,s)) (some (true,a,(wrap .i64 (s+1))))
@[irreducible] def w4:=w3 e r s
def E7:Option (Unit):=some ()
def w5:Option ((Int×Int)⊕(Int×Bool)⊕(Int×Int)):=(w4 e r s).bind fun a=>cond (a.1) (cond (decide ((a.2.2)>=(e.length:Int))) (some (Sum.inr (Sum.inl (0,false)))) (some (Sum.inl ((a.2.1),(a.2.2))))) (some (Sum.inr (Sum.inr ((a.2.1),(a.2.2)))))
def PQ:Option ((Int×Bool)⊕(Int×Int)):=ai (fun(a:Int×Int)=>((w5 e a.1 a.2).map (Sum.elim (fun b=>Sum.inl (b.1,b.2)) (Sum.elim (fun b=>Sum.inr (Sum.inl b)) (fun b=>Sum.inr (Sum.inr b)))))) LL (r,0)
def PR:=(PQ e r).map (Sum.elim (fun a=>(Sum.inr a)) (fun a=>(Sum.inl (a.1,a.2))))
def E8:Option ((Int×Bool)):=some (d,true)
def PS:=(PR e r).bind (Sum.elim (fun a=>E8 a.2) (fun b=>some ((fun a=>a) b)))
def E9:=(E7).bind (fun a=>PS e r)
@[irreducible] def w6:=E9 e r
def Fa:Option (Unit⊕Bool):=cond (decide ((e.length:Int)<1)) (some (Sum.inr false)) (cond (decide ((e.length:Int)>8)) (some (Sum.inr false)) ((E6 e).bind fun a=>cond (!a) (some (Sum.inr false)) (some (Sum.inl ()))))
def Fb:Option (Int):=some (e.length:Int)
def rZ:Option (Int⊕Bool⊕Unit):=cond (decide (s<r)) ((w6 e (wrap .i64 (s+1))).bind fun a=>cond (!(a.2)) (some (Sum.inr (Sum.inl false))) (some (Sum.inl (wrap .i64 (s+1))))) (some (Sum.inr (Sum.inr ())))
def PT:Option (Bool⊕Unit):=ai (fun(a:Int)=>((rZ e r a).map (Sum.elim (fun b=>Sum.inl b) (Sum.elim (fun b=>Sum.inr (Sum.inl b)) (fun b=>Sum.inr (Sum.inr b)))))) LL 0
def PU:=(PT e r).map (Sum.elim (fun a=>(Sum.inr a)) (fun a=>(Sum.inl ())))
def PV:=(Fb e).bind (fun a=>PU e a)
def PW:Option (Bool):=some true
def PX:=(PV e).bind (Sum.elim (fun a=>PW) (fun b=>some ((fun a=>a) b)))
def Fc:=(Fa e).bind (Sum.elim (fun a=>PX e) (fun b=>some ((fun a=>a) b)))
@[irreducible] def eF:=Fc e
def Fe:Option (Unit⊕Bool):=(eF e).bind fun a=>cond (!a) (some (Sum.inr false)) (cond (decide ((z.length:Int)>8)) (some (Sum.inr false)) (some (Sum.inl ())))
def Ff:Option (Int):=some (z.length:Int)
def px:Option (Int⊕Bool⊕Unit):=cond (decide (H<F)) ((idx z H).bind fun a=>(eF a).bind fun b=>cond (!b) (some (Sum.inr (Sum.inl false))) (some (Sum.inl (wrap .i64 (H+1))))) (some (Sum.inr (Sum.inr ())))
def PY:Option (Bool⊕Unit):=ai (fun(a:Int)=>((px z F a).map (Sum.elim (fun b=>Sum.inl b) (Sum.elim (fun b=>Sum.inr (Sum.inl b)) (fun b=>Sum.inr (Sum.inr b)))))) LL 0
def PZ:=(PY z F).map (Sum.elim (fun a=>(Sum.inr a)) (fun a=>(Sum.inl ())))
def P0:=(Ff z).bind (fun a=>PZ z a)
def P1:Option (Bool):=some true
def P2:=(P0 z).bind (Sum.elim (fun a=>P1) (fun b=>some ((fun a=>a) b)))
def w7:=(Fe e z).bind (Sum.elim (fun a=>P2 z) (fun b=>some ((fun a=>a) b)))
@[irreducible] def nz:=w7 e z
def P3:Option (Int):=kx b i
def w8:Option (Int):=(P3 b i).bind fun a=>some a
@[irreducible] def Fg:=w8 b i
def Fh:Option ((Int×(List ByteArray))⊕(Nat×(List ByteArray))):=cond (r==0) (some (Sum.inr ((List.length ([]:List ByteArray)),([]:List ByteArray)))) (cond (aD i empty) (none) (cond (decide (r<0)) (none) ((mk (bX r (wrap .i64 ((((ByteArray.size b:Nat):Int))+1))) (bX r (wrap .i64 ((((ByteArray.size b:Nat):Int))+1)))).bind fun a=>some (Sum.inl ((wrap .i64 ((bX r (wrap .i64 ((((ByteArray.size b:Nat):Int))+1)))-1)),(replicate a empty))))))
def py:Option ((ByteArray×Int×(List ByteArray))⊕(ByteArray×Int×(List ByteArray))):=cond (decide (t<s)) ((Fg b i).bind fun a=>cond (decide (a<0)) (some (Sum.inr (b,t,A))) ((inc (wrap .i64 (a+r)) (ByteArray.size b)).bind fun c=>(al t (List.length A)).bind fun d=>(inc (wrap .i64 (a+(((ByteArray.size i:Nat):Int)))) (ByteArray.size b)).bind fun e=>some (Sum.inl ((b.extract e (ByteArray.size b)),(wrap .i64 (t+1)),(A.set d (b.extract 0 c)))))) (some (Sum.inr (b,t,A)))
def P4:Option ((ByteArray×Int×(List ByteArray))):=ai (fun(a:ByteArray×Int×(List ByteArray))=>((py a.1 i r s a.2.1 a.2.2).map (Sum.elim (fun c=>Sum.inl (c.1,c.2.1,c.2.2)) (fun c=>Sum.inr c)))) LL (b,0,A)
def P5:=(P4 b i r s A).map (fun a=>(a.1,a.2.1,a.2.2))
def w9:Option ((Nat×(List ByteArray))):=(al d (List.length n)).bind fun a=>(inc (wrap .i64 (d+1)) (List.length (n.set a b))).bind fun c=>some ((c-0),(n.set a b))
def P6:=(P5 b i r s A).bind (fun a=>w9 a.1 a.2.1 a.2.2)
def xa:=(Fh b i s).bind (Sum.elim (fun a=>P6 b i r a.1 a.2) (fun c=>some ((fun a=>a) c)))
@[irreducible] def Fi:=xa b i r s
def r0:Option ((Nat×(List ByteArray))):=(Fi b i 0 r).bind fun a=>some ((a.1),(a.2))
@[irreducible] def xb:=r0 b i r
def Fj:Option (Unit):=some ()
def Fk:Option ((ByteArray×ByteArray×ByteArray×ByteArray×ByteArray×ByteArray)):=(same (List.length cM) 6).bind fun a=>some ((cM.getD 0 empty),(cM.getD 1 empty),(cM.getD 2 empty),(cM.getD 3 empty),(cM.getD 4 empty),(cM.getD 5 empty))
def xc:Option (Int⊕Int⊕Unit):=cond (decide (w<6)) ((idx [i,k,l,m,p,v] w).bind fun a=>cond (aD a b) (some (Sum.inr (Sum.inl w))) (some (Sum.inl (wrap .i64 (w+1))))) (some (Sum.inr (Sum.inr ())))
def P7:Option (Int⊕Unit):=ai (fun(a:Int)=>((xc b i k l m p v a).map (Sum.elim (fun c=>Sum.inl c) (Sum.elim (fun c=>Sum.inr (Sum.inl c)) (fun c=>Sum.inr (Sum.inr c)))))) LL 0
def P8:=(P7 b i k l m p v).map (Sum.elim (fun a=>(Sum.inr a)) (fun a=>(Sum.inl ())))
def P9:=(Fk).bind (fun a=>P8 b a.1 a.2.1 a.2.2.1 a.2.2.2.1 a.2.2.2.2.1 a.2.2.2.2.2)
def Fl:Option (Int):=some (-1)
def Qa:=(P9 b).bind (Sum.elim (fun a=>Fl) (fun c=>some ((fun a=>a) c)))
def xd:=(Fj).bind (fun a=>Qa b)
@[irreducible] def jt:=xd b
def strconv_Atoi:Option (Int×Bool):=rt b
def r1:Option (Int):=cond (d==0) (some 2) (cond (d==1) (some 1) (some 0))
@[irreducible] def kA:=r1 d
def xe:Option (Bool):=(kA d).bind fun a=>cond (decide (a>0)) (cond (decide (a>1)) (some true) (some (s==0))) (cond (r==0) (cond (decide (a>1)) (some true) (some (s==0))) (some false))
@[irreducible] def xf:=xe d r s
def xg:Option (Bool):=cond (decide (d>=0)) (cond (decide (d<6)) ((xf d r s).bind fun a=>cond a (cond (decide (r>=0)) (cond (decide (r<=99)) (cond (decide (s>=0)) (some (decide (s<=99))) (some false)) (some false)) (some false)) (some false)) (some false)) (some false)
@[irreducible] def Fm:=xg d r s
def strconv_Itoa:Option (ByteArray):=pj d
def Fo:Option (ByteArray⊕ByteArray):=(Fm d r s).bind fun a=>cond (!a) (some (Sum.inr empty)) ((same (List.length cM) 6).bind fun b=>(idx cM d).bind fun c=>some (Sum.inl c))
def r2:Option (((List Int)×Int)):=(kA d).bind fun a=>(inc a (List.length ([r,s]))).bind fun b=>some (((([r,s]).take b).drop 0),(List.length ((([r,s]).take b).drop 0):Int))
def r3:Option ((ByteArray×Int)⊕ByteArray):=cond (decide (s<r)) ((idx e s).bind fun a=>(strconv_Itoa a).bind fun c=>(cat (ByteArray.mk #[32]) c).bind fun d=>(cat b d).bind fun f=>some (Sum.inl (f,(wrap .i64 (s+1))))) (some (Sum.inr b))
def xh:Option (ByteArray):=ai (fun(a:ByteArray×Int)=>((r3 a.1 e r a.2).map (Sum.elim (fun c=>Sum.inl (c.1,c.2)) (fun c=>Sum.inr c)))) LL (b,0)
def xi:=(xh b e r).map (fun a=>a)
def xj:=(r2 d r s).bind (fun a=>xi b a.1 a.2)
def r4:Option (ByteArray):=some b
def xk:=(xj b d r s).bind (fun a=>r4 a)
def xl:=(Fo d r s).bind (Sum.elim (fun a=>xk a d r s) (fun b=>some ((fun a=>a) b)))
@[irreducible] def nA:=xl d r s
def r5:Option ((Bool×Int×Int×Int)):=(xb b (ByteArray.mk #[32]) 3).bind fun a=>(al 0 (a.1)).bind fun c=>((a.2)[(0+c)]?).bind fun d=>(jt d).bind fun e=>cond (decide (((((a.1):Nat):Int))>1)) ((al 1 (a.1)).bind fun f=>((a.2)[(0+f)]?).bind fun g=>(strconv_Atoi g).bind fun h=>cond (decide (((((a.1):Nat):Int))>2)) ((al 2 (a.1)).bind fun i=>((a.2)[(0+i)]?).bind fun j=>(strconv_Atoi j).bind fun k=>cond (aD b empty) (some (false,0,0,0)) ((nA e (h.1) (k.1)).bind fun l=>cond (!(aD l b)) (some (false,0,0,0)) (some (true,e,(h.1),(k.1))))) (cond (aD b empty) (some (false,0,0,0)) ((nA e (h.1) 0).bind fun m=>cond (!(aD m b)) (some (false,0,0,0)) (some (true,e,(h.1),0))))) (cond (decide (((((a.1):Nat):Int))>2)) ((al 2 (a.1)).bind fun n=>((a.2)[(0+n)]?).bind fun o=>(strconv_Atoi o).bind fun p=>cond (aD b empty) (some (false,0,0,0)) ((nA e 0 (p.1)).bind fun q=>cond (!(aD q b)) (some (false,0,0,0)) (some (true,e,0,(p.1))))) (cond (aD b empty) (some (false,0,0,0)) ((nA e 0 0).bind fun r=>cond (!(aD r b)) (some (false,0,0,0)) (some (true,e,0,0)))))
@[irreducible] def r6:=r5 b
def nB:Option (List Int):=pi e
def Fp:Option (((List Int))):=(nB e).bind fun a=>some a
def Fq:Option (Int):=some (z.length:Int)
def r7:Option ((Int×(List (List Int)))⊕((List (List Int)))):=cond (decide (H<F)) ((idx z H).bind fun a=>(nB a).bind fun b=>(room (List.length J+1)).bind fun c=>some (Sum.inl ((wrap .i64 (H+1)),((J++ [[]]).set (List.length J) b)))) (some (Sum.inr J))
def Qb:Option (((List (List Int)))):=ai (fun(a:Int×(List (List Int)))=>((r7 z F a.1 a.2).map (Sum.elim (fun b=>Sum.inl (b.1,b.2)) (fun b=>Sum.inr b)))) LL (0,([]:List (List Int)))
def Qc:=(Qb z F).map (fun a=>a)
def Qd:=(Fq z).bind (fun a=>Qc z a)
def Fr:Option (((List Int)×(List (List Int)))):=some (e,z)
def Qe:=(Qd z).bind (fun a=>Fr I a)
def xm:=(Fp e).bind (fun a=>Qe z a)
@[irreducible] def ju:=xm e z
@[irreducible] def Fs:=some ()
def strings_Join:Option (ByteArray):=vZ c i
def Ft:Option (((List ByteArray))):=(mk (e.length:Int) (e.length:Int)).bind fun a=>some (replicate a empty)
def Fu:Option (Int):=some (e.length:Int)
def r8:Option ((Int×(List ByteArray))⊕((List ByteArray))):=cond (decide (s<r)) ((idx e s).bind fun a=>(strconv_Itoa a).bind fun b=>(al s (List.length A)).bind fun c=>some (Sum.inl ((wrap .i64 (s+1)),(A.set c b)))) (some (Sum.inr A))
def Qf:Option (((List ByteArray))):=ai (fun(a:Int×(List ByteArray))=>((r8 e r a.1 a.2).map (Sum.elim (fun b=>Sum.inl (b.1,b.2)) (fun b=>Sum.inr b)))) LL (0,A)
def Qg:=(Qf e r A).map (fun a=>a)
def Qh:=(Fu e).bind (fun a=>Qg e a n)
def Fv:Option (ByteArray):=(strings_Join c (ByteArray.mk #[44])).bind fun a=>some a
def Qi:=(Qh e n).bind (fun a=>Fv a)
def xn:=(Ft e).bind (fun a=>Qi e a)
@[irreducible] def nC:=xn e
def xo:Option (ByteArray):=(nC e).bind fun a=>some a
@[irreducible] def Fw (a:List Int) (b:List (List Int)):=xo a
def Fx:Option (((List Int))⊕((List Int))):=(eF e).bind fun a=>cond (!a) (some (Sum.inr ([]:List Int))) ((mk (e.length:Int) (e.length:Int)).bind fun b=>some (Sum.inl (replicate b (0:Int))))
def Fy:Option (Int):=some (e.length:Int)
def r9:Option ((Int×(List Int))⊕((List Int))):=cond (decide (s<r)) ((w6 e (wrap .i64 (s+1))).bind fun a=>(al s (List.length y)).bind fun b=>some (Sum.inl ((wrap .i64 (s+1)),(y.set b (a.1))))) (some (Sum.inr y))
def Qj:Option (((List Int))):=ai (fun(a:Int×(List Int))=>((r9 e r a.1 a.2).map (Sum.elim (fun b=>Sum.inl (b.1,b.2)) (fun b=>Sum.inr b)))) LL (0,y)
def Qk:=(Qj e r y).map (fun a=>a)
def Ql:=(Fy e).bind (fun a=>Qk e a y)
def Fz:Option (((List Int))):=some e
def Qm:=(Ql e y).bind (fun a=>Fz a)
def FA:=(Fx e).bind (Sum.elim (fun a=>Qm e a) (fun b=>some ((fun a=>a) b)))
@[irreducible] def FB:=FA e
def sa:Option (ByteArray):=(FB e).bind fun a=>(nC a).bind fun b=>some b
@[irreducible] def xp (a:List Int) (b:List (List Int)):=sa a
def FC:Option (Unit⊕Int):=(eF e).bind fun a=>cond (!a) (some (Sum.inr (-1))) (some (Sum.inl ()))
def xq:Option ((Int×Int)⊕(Int×Int)):=(w4 e r s).bind fun a=>cond (a.1) (some (Sum.inl ((a.2.1),(a.2.2)))) (some (Sum.inr ((a.2.1),(a.2.2))))
def Qn:Option ((Int×Int)):=ai (fun(a:Int×Int)=>((xq e a.1 a.2).map (Sum.elim (fun b=>Sum.inl (b.1,b.2)) (fun b=>Sum.inr b)))) LL (1,0)
def Qo:=(Qn e).map (fun a=>(a.1,a.2))
def FD:Option (Int):=some d
def Qp:=(Qo e).bind (fun a=>FD a.1)
def FE:=(FC e).bind (Sum.elim (fun a=>Qp e) (fun b=>some ((fun a=>a) b)))
@[irreducible] def pz:=FE e
def FF:Option (Int):=(shl .u64 1 (wrap .i64 (d-1))).bind fun a=>some a
@[irreducible] def kB:=FF d
def FG:Option (Unit):=some ()
def FH:Option (Int):=some (e.length:Int)
def sb:Option ((Int×Int)⊕Int):=cond (decide (w<t)) ((idx e w).bind fun a=>cond (a==r) ((kB (wrap .i64 (w+1))).bind fun b=>some (Sum.inl ((ji .u64 s b),(wrap .i64 (w+1))))) (some (Sum.inl (s,(wrap .i64 (w+1)))))) (some (Sum.inr s))
def Qq:Option (Int):=ai (fun(a:Int×Int)=>((sb e r a.1 s a.2).map (Sum.elim (fun b=>Sum.inl (b.1,b.2)) (fun b=>Sum.inr b)))) LL (0,0)
def Qr:=(Qq e r s).map (fun a=>a)
def Qs:=(FH e).bind (fun a=>Qr e r a)
def Qt:Option (Int):=some d
def Qu:=(Qs e r).bind (fun a=>Qt a)
def xr:=(FG).bind (fun a=>Qu e r)
@[irreducible] def lP:=xr e r
def FI:Option (Int):=(kB d).bind fun a=>some (wrap .u64 (a-1))
@[irreducible] def xt:=FI d
def sc:Option ((Int×Int)):=(lP e r).bind fun a=>(xt r).bind fun b=>(xt r).bind fun c=>some ((dO .u64 a b),(qK .u64 a c))
@[irreducible] def sd:=sc e r
def Qv:Option (Int):=(shr .u64 d 1).bind fun a=>some (wrap .u64 ((dO .u64 a 6148914691236517205)+(dO .u64 d 6148914691236517205)))
def Qw:Option (Int):=(shr .u64 d 2).bind fun a=>some (wrap .u64 ((dO .u64 a 3689348814741910323)+(dO .u64 d 3689348814741910323)))
def Qx:Option (Int):=(shr .u64 d 4).bind fun a=>some (dO .u64 (wrap .u64 (a+d)) 1085102592571150095)
def Qy:Option (Int):=(shr .u64 d 8).bind fun a=>some (wrap .u64 (d+a))
def Qz:Option (Int):=(shr .u64 d 16).bind fun a=>some (wrap .u64 (d+a))
def QA:Option (Int):=(shr .u64 d 32).bind fun a=>some (wrap .u64 (d+a))
def QB:Option (Int):=some (dO .i64 (wrap .i64 d) 127)
def QC:Option (Int):=some d
def aeQ:=(QB d).bind (fun a=>QC a)
def aeR:=(QA d).bind (fun a=>aeQ a)
def aeS:=(Qz d).bind (fun a=>aeR a)
def aeT:=(Qy d).bind (fun a=>aeS a)
def aeU:=(Qx d).bind (fun a=>aeT a)
def aeV:=(Qw d).bind (fun a=>aeU a)
def QD:=(Qv d).bind (fun a=>aeV a)
@[irreducible] def aeW:=QD d
def FJ:Option (Int):=(aeW d).bind fun a=>some a
@[irreducible] def aeX:=FJ d
def FK:Option (Int):=(aeX d).bind fun a=>some a
@[irreducible] def se:=FK d
def FL:Option (Int):=cond (d==0) (some 64) ((shr .u64 (wrap .u64 ((dO .u64 d (wrap .u64 (0-d)))*285870213051353865)) 58).bind fun a=>(same (List.length u3) 64).bind fun b=>(idx u3 a).bind fun c=>some (wrap .i64 c))
@[irreducible] def aeY:=FL d
def FM:Option (Int):=(aeY d).bind fun a=>some a
@[irreducible] def aeZ:=FM d
def QE:Option (((List Int))):=(se d).bind fun a=>(mk 0 a).bind fun b=>some (replicate b (0:Int))
def QF:Option (Unit):=some ()
def QG:Option ((Int×(List Int))⊕((List Int))):=cond (d !=0) ((aeZ d).bind fun a=>(room ((List.length e)+List.length ([(wrap .i64 (a+1))]))).bind fun b=>some (Sum.inl ((dO .u64 d (wrap .u64 (d-1))),(e++([(wrap .i64 (a+1))]))))) (some (Sum.inr e))
def ae0:=ai (fun(a:Int×(List Int))=>((QG a.1 a.2).map (Sum.elim (fun b=>Sum.inl (b.1,b.2)) (fun b=>Sum.inr b)))) LL (d,e)
def ae1:=(ae0 d e).map (fun a=>a)
def ae2:=(QF).bind (fun a=>ae1 d e)
def QH:Option (((List Int))):=some e
def ae3:=(ae2 d e).bind (fun a=>QH a)
def QI:=(QE d).bind (fun a=>ae3 d a)
@[irreducible] def jv:=QI d
def sf (R0 R1:(List Int)->Int->(List Int)->Option ((List Int))) (a:List Int) (b:Int) (c:List Int):Option (((List Int))):=(sd a b).bind fun d=>(R1 a (d.1) c).bind fun e=>(room ((List.length e)+List.length ([b]))).bind fun f=>(R1 a (d.2) (e++([b]))).bind fun g=>some g
def ae4 (R0 R1:(List Int)->Int->(List Int)->Option ((List Int))) (a:List Int) (b:Int) (c:List Int):Option ((List Int)):=sf R0 R1 a b c
def FN (R0 R1:(List Int)->Int->(List Int)->Option ((List Int))):Option (Unit):=some ()
def FO (R0 R1:(List Int)->Int->(List Int)->Option ((List Int))) (a:Int):Option ((Int×(List Int))):=(jv a).bind fun b=>some ((b.length:Int),b)
def sg (R0 R1:(List Int)->Int->(List Int)->Option ((List Int))) (a:List Int) (b c:Int) (d e:List Int):Option ((Int×(List Int))⊕((List Int))):=cond (decide (c<b)) ((al c (List.length e)).bind fun f=>(e[f]?).bind fun g=>(R0 a g d).bind fun h=>some (Sum.inl ((wrap .i64 (c+1)),h))) (some (Sum.inr d))
def QJ (R0 R1:(List Int)->Int->(List Int)->Option ((List Int))) (a:List Int) (b:Int) (c d:List Int):Option (((List Int))):=ai (fun(e:Int×(List Int))=>((sg R0 R1 a b e.1 e.2 d).map (Sum.elim (fun f=>Sum.inl (f.1,f.2)) (fun f=>Sum.inr f)))) LL (0,c)
def QK (R0 R1:(List Int)->Int->(List Int)->Option ((List Int))) (a:List Int) (b:Int) (c d:List Int):=(QJ R0 R1 a b c d).map (fun e=>e)
def QL (R0 R1:(List Int)->Int->(List Int)->Option ((List Int))) (a:List Int) (b:Int) (c:List Int):=(FO R0 R1 b).bind (fun d=>QK R0 R1 a d.1 c d.2)
def FP (R0 R1:(List Int)->Int->(List Int)->Option ((List Int))) (a:List Int):Option (((List Int))):=some a
def QM (R0 R1:(List Int)->Int->(List Int)->Option ((List Int))) (a:List Int) (b:Int) (c:List Int):=(QL R0 R1 a b c).bind (fun d=>FP R0 R1 d)
def FQ (R0 R1:(List Int)->Int->(List Int)->Option ((List Int))) (a:List Int) (b:Int) (c:List Int):=(FN R0 R1).bind (fun d=>QM R0 R1 a b c)
def xu (R0 R1:(List Int)->Int->(List Int)->Option ((List Int))) (a:List Int) (b:Int) (c:List Int):Option ((List Int)):=FQ R0 R1 a b c
def fo:Nat->((List Int)->Int->(List Int)->Option ((List Int)))×((List Int)->Int->(List Int)->Option ((List Int)))
 |0=>((fun _ _ _=>none),(fun _ _ _=>none))
 |n+1=>((fun Q R S=>ae4 (fo n).1 (fo n).2 Q R S),(fun Q R S=>xu (fo n).1 (fo n).2 Q R S))
def kC (n:Nat):(List Int)->Int->(List Int)->Option ((List Int)):=(fo n).1
@[irreducible] def sh:=kC RR e r y
def pA (n:Nat):(List Int)->Int->(List Int)->Option ((List Int)):=(fo n).2
@[irreducible] def QN:=pA RR e r y
def si:Option (((List Int))):=(eF e).bind fun a=>cond (!a) (some ([]:List Int)) ((pz e).bind fun b=>(mk 0 (e.length:Int)).bind fun c=>(sh e b (replicate c (0:Int))).bind fun d=>some d)
@[irreducible] def pB:=si e
def sj:Option (ByteArray):=(pB e).bind fun a=>(nC a).bind fun b=>some b
@[irreducible] def xv (a:List Int) (b:List (List Int)):=sj a
def xw:Option (ByteArray):=(pz e).bind fun a=>(strconv_Itoa a).bind fun b=>some b
@[irreducible] def FR (a:List Int) (b:List (List Int)):=xw a
def xx:Option ((Bool×Int×Int)):=cond (decide (d<1)) (some (false,0,0)) (cond (decide (r<1)) (some (false,0,0)) (cond (d==r) (some (false,0,0)) (some (true,(bX d r),(imax d r)))))
@[irreducible] def sk:=xx d r
def FT:Option (((List (Int×Int×Unit)))):=(mk 0 (e.length:Int)).bind fun a=>some (replicate a ((0:Int),((0:Int),())))
def FU:Option (Int):=some (e.length:Int)
def sl:Option ((Int×(List (Int×Int×Unit)))⊕((List (Int×Int×Unit)))):=cond (decide (s<r)) ((idx e s).bind fun a=>(sk (wrap .i64 (s+1)) a).bind fun b=>cond (b.1) ((room ((List.length u)+List.length ([((b.2.1),((b.2.2),()))]))).bind fun c=>some (Sum.inl ((wrap .i64 (s+1)),(u++([((b.2.1),((b.2.2),()))]))))) (some (Sum.inl ((wrap .i64 (s+1)),u)))) (some (Sum.inr u))
def QO:Option (((List (Int×Int×Unit)))):=ai (fun(a:Int×(List (Int×Int×Unit)))=>((sl e r a.1 a.2).map (Sum.elim (fun b=>Sum.inl (b.1,b.2)) (fun b=>Sum.inr b)))) LL (0,u)
def QP:=(QO e r u).map (fun a=>a)
def QQ:=(FU e).bind (fun a=>QP e a u)
def FV:Option (((List (Int×Int×Unit)))):=some u
def QR:=(QQ e u).bind (fun a=>FV a)
def xy:=(FT e).bind (fun a=>QR e a)
@[irreducible] def pC:=xy e
def xz:Option (Bool):=cond (decide (d<s)) (some (decide (s<r))) (some false)
@[irreducible] def sn:=xz d r s
def xA:Option (Bool):=cond (decide (s<d)) (some true) (some (decide (r<s)))
@[irreducible] def so:=xA d r s
def xB:Option (Bool):=(sn d r s).bind fun a=>cond a ((so d r t).bind fun b=>cond b (some true) ((sn d r t).bind fun c=>cond c ((so d r s).bind fun e=>some e) (some false))) ((sn d r t).bind fun f=>cond f ((so d r s).bind fun g=>some g) (some false))
@[irreducible] def xC:=xB d r s t
def FW:Option (Unit):=some ()
def FX:Option (Int):=some (u.length:Int)
def FY:Option (Unit⊕Int):=cond (decide (s<r)) (some (Sum.inl ())) (some (Sum.inr d))
def FZ:Option (((List (Int×Int×Unit))×Int×Int×Int)):=(idx u w).bind fun a=>(inc (wrap .i64 (w+1)) (List.length u)).bind fun b=>some (((u.take (List.length u)).drop b),(List.length ((u.take (List.length u)).drop b):Int),(a.1),((a.2).1))
def sp:Option ((Int×Int)⊕Int):=cond (decide (x<w)) ((idx u x).bind fun a=>(xC F H (a.1) ((a.2).1)).bind fun b=>cond b (some (Sum.inl ((wrap .i64 (d+1)),(wrap .i64 (x+1))))) (some (Sum.inl (d,(wrap .i64 (x+1)))))) (some (Sum.inr d))
def QS:Option (Int):=ai (fun(a:Int×Int)=>((sp a.1 u w a.2 x F).map (Sum.elim (fun b=>Sum.inl (b.1,b.2)) (fun b=>Sum.inr b)))) LL (d,0)
def F0:=(QS d u w x F).map (fun a=>a)
def QT:=(FZ u x).bind (fun a=>F0 w a.1 a.2.1 a.2.2.1 a.2.2.2)
def QU:=(QT u w x).map (fun a=>a)
def F1:Option (Int):=some (wrap .i64 (d+1))
def QV:=(QU u w x).bind (fun a=>(F1 x).map (fun b=>(a,b)))
def F2:=(FY w x F).bind (Sum.elim (fun a=>(QV u w F).map (fun a=>(Sum.inl (a.1,a.2)))) (fun b=>some ((fun a=>(Sum.inr a)) b)))
def QW:Option (Int):=ai (fun(a:Int×Int)=>((F2 u a.1 w a.2).map (Sum.elim (fun b=>Sum.inl (b.1,b.2)) (fun b=>Sum.inr b)))) LL (0,0)
def QX:=(QW u w).map (fun a=>a)
def QY:=(FX u).bind (fun a=>QX u a)
def F3:Option (Int):=some d
def QZ:=(QY u).bind (fun a=>F3 a)
def xD:=(FW).bind (fun a=>QZ u)
@[irreducible] def xE:=xD u
def sr:Option (Int):=(eF e).bind fun a=>cond (!a) (some (-1)) ((pC e).bind fun b=>(xE b).bind fun c=>some c)
@[irreducible] def xF:=sr e
def xG:Option (ByteArray):=(xF e).bind fun a=>(strconv_Itoa a).bind fun b=>some b
@[irreducible] def F4 (a:List Int) (b:List (List Int)):=xG a
def F5 (R0:(List Int)->Int->(List Int)->Option (Int×(List Int))) (a:Int):Option (Int):=(kB a).bind fun b=>some b
def F6 (R0:(List Int)->Int->(List Int)->Option (Int×(List Int))) (a:List Int) (b:Int):Option ((Int×(List Int))):=(lP a b).bind fun c=>(jv c).bind fun d=>some ((d.length:Int),d)
def pD (R0:(List Int)->Int->(List Int)->Option (Int×(List Int))) (a:List Int) (b c d:Int) (e f:List Int):Option ((Int×Int×(List Int))⊕(Int×(List Int))):=cond (decide (d<c)) ((al d (List.length f)).bind fun g=>(f[g]?).bind fun h=>(R0 a h e).bind fun i=>some (Sum.inl ((ji .u64 b (i.1)),(wrap .i64 (d+1)),(i.2)))) (some (Sum.inr (b,e)))
def Q0 (R0:(List Int)->Int->(List Int)->Option (Int×(List Int))) (a:List Int) (b c:Int) (d e:List Int):Option ((Int×(List Int))):=ai (fun(f:Int×Int×(List Int))=>((pD R0 a f.1 c f.2.1 f.2.2 e).map (Sum.elim (fun g=>Sum.inl (g.1,g.2.1,g.2.2)) (fun g=>Sum.inr g)))) LL (b,0,d)
def Q1 (R0:(List Int)->Int->(List Int)->Option (Int×(List Int))) (a:List Int) (b c:Int) (d e:List Int):=(Q0 R0 a b c d e).map (fun f=>(f.1,f.2))
def Q2 (R0:(List Int)->Int->(List Int)->Option (Int×(List Int))) (a:List Int) (b c:Int) (d:List Int):=(F6 R0 a b).bind (fun e=>Q1 R0 a c e.1 d e.2)
def F7 (R0:(List Int)->Int->(List Int)->Option (Int×(List Int))) (a b:Int) (c:List Int):Option ((Int×(List Int))):=(al (wrap .i64 (a-1)) (List.length c)).bind fun d=>some (b,(c.set d b))
def Q3 (R0:(List Int)->Int->(List Int)->Option (Int×(List Int))) (a:List Int) (b c:Int) (d:List Int):=(Q2 R0 a b c d).bind (fun e=>F7 R0 b e.1 e.2)
def F8 (R0:(List Int)->Int->(List Int)->Option (Int×(List Int))) (a:List Int) (b:Int) (c:List Int):=(F5 R0 b).bind (fun d=>Q3 R0 a b d c)
def Q4 (R0:(List Int)->Int->(List Int)->Option (Int×(List Int))) (a:List Int) (b:Int) (c:List Int):Option (Int×(List Int)):=F8 R0 a b c
def lQ:Nat->((List Int)->Int->(List Int)->Option (Int×(List Int)))
 |0=>(fun _ _ _=>none)
 |n+1=>(fun Q R S=>Q4 (lQ n) Q R S)
def pE (n:Nat):(List Int)->Int->(List Int)->Option (Int×(List Int)):=(lQ n)
@[irreducible] def ss:=pE RR e r y
def su:Option (((List Int))):=(mk (e.length:Int) (e.length:Int)).bind fun a=>(pz e).bind fun b=>(ss e b (replicate a (0:Int))).bind fun c=>some (c.2)
@[irreducible] def lR:=su e
def F9:Option (Int):=(shl .u64 d 1).bind fun a=>some (qK .u64 d a)
@[irreducible] def ae5:=F9 d
def Ga:Option (Int):=(ae5 d).bind fun a=>(se a).bind fun b=>some (wrap .i64 (b-1))
@[irreducible] def Gb:=Ga d
def Gc:Option (Unit⊕Int):=(eF e).bind fun a=>cond (!a) (some (Sum.inr (-1))) (some (Sum.inl ()))
def Gd:Option ((Int×(List Int))):=(lR e).bind fun a=>some ((a.length:Int),a)
def sv:Option ((Int×Int)⊕Int):=cond (decide (s<r)) ((al s (List.length y)).bind fun a=>(y[a]?).bind fun b=>(Gb b).bind fun c=>some (Sum.inl ((imax d c),(wrap .i64 (s+1))))) (some (Sum.inr d))
def Q5:Option (Int):=ai (fun(a:Int×Int)=>((sv a.1 d a.2 e).map (Sum.elim (fun b=>Sum.inl (b.1,b.2)) (fun b=>Sum.inr b)))) LL (0,0)
def Q6:=(Q5 d e).map (fun a=>a)
def Q7:=(Gd e).bind (fun a=>Q6 a.1 a.2)
def Ge:Option (Int):=some d
def Q8:=(Q7 e).bind (fun a=>Ge a)
def xH:=(Gc e).bind (Sum.elim (fun a=>Q8 e) (fun b=>some ((fun a=>a) b)))
@[irreducible] def xI:=xH e
def xJ:Option (ByteArray):=(xI e).bind fun a=>(strconv_Itoa a).bind fun b=>some b
@[irreducible] def Gf (a:List Int) (b:List (List Int)):=xJ a
def Gg:Option (Unit⊕Bool):=cond (decide (r<1)) (some (Sum.inr false)) (cond (decide (r>8)) (some (Sum.inr false)) (cond ((e.length:Int) !=r) (some (Sum.inr false)) (some (Sum.inl ()))))
def Gh:Option (Int):=some (e.length:Int)
def xK:Option ((Int×(List Bool))⊕Bool⊕Unit):=cond (decide (s<r)) ((idx e s).bind fun a=>cond (decide (a<1)) (some (Sum.inr (Sum.inl false))) (cond (decide (a>d)) (some (Sum.inr (Sum.inl false))) ((same (List.length G) 9).bind fun b=>(al a 9).bind fun c=>(G[c]?).bind fun f=>cond f (some (Sum.inr (Sum.inl false))) ((same (List.length G) 9).bind fun g=>(al a 9).bind fun h=>some (Sum.inl ((wrap .i64 (s+1)),(G.set h true))))))) (some (Sum.inr (Sum.inr ())))
def Q9:Option (Bool⊕Unit):=ai (fun(a:Int×(List Bool))=>((xK d e r a.1 a.2).map (Sum.elim (fun b=>Sum.inl (b.1,b.2)) (Sum.elim (fun b=>Sum.inr (Sum.inl b)) (fun b=>Sum.inr (Sum.inr b)))))) LL (0,(replicate 9 false))
def Ra:=(Q9 d e r).map (Sum.elim (fun a=>(Sum.inr a)) (fun a=>(Sum.inl ())))
def Rb:=(Gh e).bind (fun a=>Ra r e a)
def Gi:Option (Bool):=some true
def Rc:=(Rb e r).bind (Sum.elim (fun a=>Gi) (fun b=>some ((fun a=>a) b)))
def Gj:=(Gg e r).bind (Sum.elim (fun a=>Rc e r) (fun b=>some ((fun a=>a) b)))
@[irreducible] def xL:=Gj e r
def sw:Option ((Nat×(List Int))):=cond (decide (d<0)) (none) ((sure true).bind fun a=>cond (decide ((wrap .i64 (d-(wrap .i64 (0-((0:Nat):Int)))))>0)) ((sure true).bind fun b=>(sure ((0:Int)==0)).bind fun c=>(oK (wrap .i64 (d-(wrap .i64 (0-((0:Nat):Int)))))).bind fun e=>(inc ((0:Nat):Int) (List.length (replicate e (0:Int)))).bind fun f=>some ((f-0),(replicate e (0:Int)))) (some ((List.length ([]:List Int)),([]:List Int))))
@[irreducible] def xM:=sw d
def Gk:Option (Unit):=some ()
def Gl:Option (Int):=some (z.length:Int)
def sx:Option ((Int×Int)⊕Int):=cond (decide (K<H)) ((idx z K).bind fun a=>cond (decide ((wrap .i64 (F+(a.length:Int)))<0)) (none) (some (Sum.inl ((wrap .i64 (F+(a.length:Int))),(wrap .i64 (K+1)))))) (some (Sum.inr F))
def Rd:Option (Int):=ai (fun(a:Int×Int)=>((sx z a.1 F a.2).map (Sum.elim (fun b=>Sum.inl (b.1,b.2)) (fun b=>Sum.inr b)))) LL (0,0)
def Re:=(Rd z F).map (fun a=>a)
def Rf:=(Gl z).bind (fun a=>Re z a)
def Gm:Option ((Nat×(List Int))):=(xM d).bind fun a=>some ((a.1),(a.2))
def Gn:Option (Int):=some (z.length:Int)
def sy:Option ((Nat×Int×(List Int))⊕(Nat×(List Int))):=cond (decide (H<F)) ((idx z H).bind fun a=>(room (f+List.length a)).bind fun b=>some (Sum.inl ((List.length (((I.drop 0).take f)++a)),(wrap .i64 (H+1)),(((I.drop 0).take f)++a)))) (some (Sum.inr (f,I)))
def Rg:Option ((Nat×(List Int))):=ai (fun(a:Nat×Int×(List Int))=>((sy a.1 z F a.2.1 a.2.2).map (Sum.elim (fun b=>Sum.inl (b.1,b.2.1,b.2.2)) (fun b=>Sum.inr b)))) LL (f,0,I)
def Rh:=(Rg f z F I).map (fun a=>(a.1,a.2))
def Ri:=(Gn z).bind (fun a=>Rh D z a I)
def Gp:Option ((Nat×(List Int))):=some (f,y)
def Rj:=(Ri z D I).bind (fun a=>Gp a.1 a.2)
def Rk:=(Gm F).bind (fun a=>Rj z a.1 a.2)
def Rl:=(Rf z).bind (fun a=>Rk z a)
def xN:=(Gk).bind (fun a=>Rl z)
@[irreducible] def xO:=xN z
def Gq:Option (((List Int))):=(mk 0 (wrap .i64 ((e.length:Int)+(y.length:Int)))).bind fun a=>some (replicate a (0:Int))
def pF:Option (((List Int)×(List Int)×Int×(List Int))⊕((List Int)×(List Int)×Int×(List Int))):=cond (decide ((e.length:Int)>0)) (cond (decide ((y.length:Int)>0)) ((idx e 0).bind fun a=>(idx y 0).bind fun b=>cond (decide (a<b)) ((idx e 0).bind fun c=>(room ((List.length I)+List.length ([c]))).bind fun d=>(inc 1 (List.length e)).bind fun f=>some (Sum.inl (((e.take (List.length e)).drop f),y,F,(I++([c]))))) ((idx y 0).bind fun g=>(room ((List.length I)+List.length ([g]))).bind fun h=>(inc 1 (List.length y)).bind fun i=>some (Sum.inl (e,((y.take (List.length y)).drop i),(wrap .i64 (F+(e.length:Int))),(I++([g])))))) (some (Sum.inr (e,y,F,I)))) (some (Sum.inr (e,y,F,I)))
def Rm:Option (((List Int)×(List Int)×Int×(List Int))):=ai (fun(a:(List Int)×(List Int)×Int×(List Int))=>((pF a.1 a.2.1 a.2.2.1 a.2.2.2).map (Sum.elim (fun b=>Sum.inl (b.1,b.2.1,b.2.2.1,b.2.2.2)) (fun b=>Sum.inr b)))) LL (e,y,0,I)
def Rn:=(Rm e y I).map (fun a=>(a.1,a.2.1,a.2.2.1,a.2.2.2))
def Gr:Option ((Nat×Int×(List Int))):=(xO ([I,e,y])).bind fun a=>some ((a.1),F,(a.2))
def Ro:=(Rn e y I).bind (fun a=>Gr a.1 a.2.1 a.2.2.1 a.2.2.2)
def xP:=(Gq e y).bind (fun a=>Ro e y a)
@[irreducible] def xQ:=xP e y
def sz (R0:(List Int)->Option ((List Int)×Int)) (a:List Int):Option (((List Int)×Int)):=cond (decide ((a.length:Int)<2)) (some (a,0)) ((quo .i64 (a.length:Int) 2).bind fun b=>(inc b (List.length a)).bind fun c=>(R0 ((a.take c).drop 0)).bind fun d=>(inc b (List.length a)).bind fun e=>(R0 ((a.take (List.length a)).drop e)).bind fun f=>(xQ (d.1) (f.1)).bind fun g=>some ((((g.2.2).drop 0).take (g.1)),(wrap .i64 ((wrap .i64 ((d.2)+(f.2)))+(g.2.1)))))
def ae6 (R0:(List Int)->Option ((List Int)×Int)) (a:List Int):Option ((List Int)×Int):=sz R0 a
def pG:Nat->((List Int)->Option ((List Int)×Int))
 |0=>(fun _=>none)
 |n+1=>(fun Q=>ae6 (pG n) Q)
def lS (n:Nat):(List Int)->Option ((List Int)×Int):=(pG n)
@[irreducible] def xR:=lS RR e
def sA:Option (Int):=(xL e (e.length:Int)).bind fun a=>cond (!a) (some (-1)) ((xR e).bind fun b=>some (b.2))
@[irreducible] def xS:=sA e
def sB:Option (Int):=(pB e).bind fun a=>(xS a).bind fun b=>some b
@[irreducible] def xT:=sB e
def xU:Option (ByteArray):=(xT e).bind fun a=>(strconv_Itoa a).bind fun b=>some b
@[irreducible] def Gs (a:List Int) (b:List (List Int)):=xU a
def Gt:Option (Int):=some (wrap .i64 (r-d))
@[irreducible] def Gu:=Gt d r
def Gv:Option (Unit⊕Int):=(eF e).bind fun a=>cond (!a) (some (Sum.inr (-1))) (some (Sum.inl ()))
def Gw:Option ((Int×(List (Int×Int×Unit)))):=(pC e).bind fun a=>some ((a.length:Int),a)
def sC:Option ((Int×Int)⊕Int):=cond (decide (s<r)) ((al s (List.length u)).bind fun a=>(u[a]?).bind fun b=>(Gu (b.1) ((b.2).1)).bind fun c=>some (Sum.inl ((wrap .i64 (d+c)),(wrap .i64 (s+1))))) (some (Sum.inr d))
def Rp:Option (Int):=ai (fun(a:Int×Int)=>((sC a.1 d a.2 u).map (Sum.elim (fun b=>Sum.inl (b.1,b.2)) (fun b=>Sum.inr b)))) LL (0,0)
def Rq:=(Rp d u).map (fun a=>a)
def Rr:=(Gw e).bind (fun a=>Rq a.1 a.2)
def Rs:Option (Int):=some d
def Rt:=(Rr e).bind (fun a=>Rs a)
def xV:=(Gv e).bind (Sum.elim (fun a=>Rt e) (fun b=>some ((fun a=>a) b)))
@[irreducible] def xW:=xV e
def xX:Option (ByteArray):=(xW e).bind fun a=>(strconv_Itoa a).bind fun b=>some b
@[irreducible] def Gx (a:List Int) (b:List (List Int)):=xX a
def Ru:Option (List Int):=rr e d y
def Gy:Option (Int):=some (e.length:Int)
def pH:Option (Int⊕Int):=cond (decide (r>0)) ((al (wrap .i64 (r-1)) (List.length y)).bind fun a=>(y[a]?).bind fun b=>cond (decide (d<b)) (some (Sum.inl (wrap .i64 (r-1)))) (some (Sum.inr r))) (some (Sum.inr r))
def Rw:=ai (fun(a:Int)=>((pH d a y).map (Sum.elim (fun b=>Sum.inl b) (fun b=>Sum.inr b)))) LL r
def Rx:=(Rw d r y).map (fun a=>a)
def Gz:Option (((List Int))):=(Ru r y ([d])).bind fun a=>some a
def Ry:=(Rx d r y).bind (fun a=>Gz d a y)
def xY:=(Gy e).bind (fun a=>Ry d a e)
@[irreducible] def xZ:=xY d e
def GA:Option (Unit):=some ()
def GB:Option ((Int×(List Int))):=(lP e r).bind fun a=>(jv a).bind fun b=>some ((b.length:Int),b)
def sD:Option ((Int×(List Int))⊕((List Int))):=cond (decide (s<r)) ((al s (List.length I)).bind fun a=>(I[a]?).bind fun b=>(idx e (wrap .i64 (b-1))).bind fun c=>(se c).bind fun d=>(xZ d y).bind fun f=>some (Sum.inl ((wrap .i64 (s+1)),f))) (some (Sum.inr y))
def Rz:Option (((List Int))):=ai (fun(a:Int×(List Int))=>((sD e r a.1 a.2 y).map (Sum.elim (fun b=>Sum.inl (b.1,b.2)) (fun b=>Sum.inr b)))) LL (0,([]:List Int))
def RA:=(Rz e r y).map (fun a=>a)
def RB:=(GB e F).bind (fun a=>RA y a.1 a.2)
def RC:Option (((List Int))):=some e
def RD:=(RB e y F).bind (fun a=>RC a)
def x0:=(GA).bind (fun a=>RD e y F)
@[irreducible] def x1:=x0 e y F
def GC:Option (Unit):=some ()
def GD:Option (Int):=some (e.length:Int)
def sE:Option ((Int×Int×(List Int))⊕(Int×(List Int))):=cond (decide (H<F)) ((idx y H).bind fun a=>(shr .u64 d H).bind fun b=>(same (List.length I) 2).bind fun c=>(al (dO .u64 b 1) 2).bind fun e=>(I[e]?).bind fun f=>(same (List.length I) 2).bind fun g=>(al (dO .u64 b 1) 2).bind fun h=>(I[h]?).bind fun i=>(same (List.length I) 2).bind fun j=>(al (dO .u64 b 1) 2).bind fun k=>some (Sum.inl ((wrap .i64 (r+(wrap .i64 (f+1)))),(wrap .i64 (H+1)),(I.set k (wrap .i64 (i+a)))))) (some (Sum.inr (r,I)))
def RE:Option ((Int×(List Int))):=ai (fun(a:Int×Int×(List Int))=>((sE d a.1 e r a.2.1 a.2.2).map (Sum.elim (fun b=>Sum.inl (b.1,b.2.1,b.2.2)) (fun b=>Sum.inr b)))) LL (0,0,(replicate 2 (0:Int)))
def RF:=(RE d e r).map (fun a=>(a.1,a.2))
def RG:=(GD e).bind (fun a=>RF r e a)
def GF:Option (Int):=cond a ((same (List.length e) 2).bind fun b=>(al 0 2).bind fun c=>(e[c]?).bind fun f=>some (wrap .i64 (d+f))) (some d)
def RH:=(RG e r).bind (fun a=>GF B a.1 a.2)
def x2:=(GC).bind (fun a=>RH e r B)
@[irreducible] def pI:=x2 e r B
def GG:Option (Int):=(pI e 0 g).bind fun a=>some a
def GH:Option (Int):=(shl .u64 1 (e.length:Int)).bind fun a=>some a
def sF:Option ((Int×Int)⊕Int):=cond (decide (t<s)) ((pI e t g).bind fun a=>some (Sum.inl ((bX r a),(wrap .u64 (t+1))))) (some (Sum.inr r))
def RI:Option (Int):=ai (fun(a:Int×Int)=>((sF e g a.1 s a.2).map (Sum.elim (fun b=>Sum.inl (b.1,b.2)) (fun b=>Sum.inr b)))) LL (r,0)
def RJ:=(RI e g r s).map (fun a=>a)
def RL:=(GH e).bind (fun a=>RJ e g r a)
def GI:Option (Int):=some d
def RM:=(RL e g r).bind (fun a=>GI a)
def x3:=(GG e g).bind (fun a=>RM e g a)
@[irreducible] def x4:=x3 e g
def GJ:Option (((List Int))⊕Int):=(eF e).bind fun a=>cond (!a) (some (Sum.inr (-1))) ((lR e).bind fun b=>some (Sum.inl b))
def GK:Option (Int):=some (e.length:Int)
def sG:Option ((Int×Int)⊕Int):=cond (decide (t<s)) ((idx e t).bind fun a=>(x1 e y (wrap .i64 (t+1))).bind fun b=>(x4 b (a !=0)).bind fun c=>some (Sum.inl ((wrap .i64 (r+c)),(wrap .i64 (t+1))))) (some (Sum.inr r))
def RN:Option (Int):=ai (fun(a:Int×Int)=>((sG e a.1 r a.2 y).map (Sum.elim (fun b=>Sum.inl (b.1,b.2)) (fun b=>Sum.inr b)))) LL (0,0)
def RO:=(RN e r y).map (fun a=>a)
def RP:=(GK e).bind (fun a=>RO e a y)
def RQ:Option (Int):=some d
def RS:=(RP e y).bind (fun a=>RQ a)
def x5:=(GJ e).bind (Sum.elim (fun a=>RS e a) (fun b=>some ((fun a=>a) b)))
@[irreducible] def x6:=x5 e
def x7:Option (ByteArray):=(x6 e).bind fun a=>(strconv_Itoa a).bind fun b=>some b
@[irreducible] def GL (a:List Int) (b:List (List Int)):=x7 a
def sH:Option (Int):=(quo .i64 (wrap .i64 (d*(wrap .i64 (d-1)))) 2).bind fun a=>some a
@[irreducible] def sJ:=sH d
def GM:Option (Unit):=some ()
def GN:Option (Int):=some (u.length:Int)
def sK:Option ((Int×(List Int))⊕((List Int))):=cond (decide (x<w)) ((idx u x).bind fun a=>(same (List.length y) 9).bind fun b=>(al (a.1) 9).bind fun c=>(y[c]?).bind fun d=>(same (List.length y) 9).bind fun e=>(al (a.1) 9).bind fun f=>(same (List.length (y.set f (wrap .i64 (d+1)))) 9).bind fun g=>(al ((a.2).1) 9).bind fun h=>((y.set f (wrap .i64 (d+1)))[h]?).bind fun i=>(same (List.length (y.set f (wrap .i64 (d+1)))) 9).bind fun j=>(al ((a.2).1) 9).bind fun k=>some (Sum.inl ((wrap .i64 (x+1)),((y.set f (wrap .i64 (d+1))).set k (wrap .i64 (i+1)))))) (some (Sum.inr y))
def RT:Option (((List Int))):=ai (fun(a:Int×(List Int))=>((sK u w a.1 a.2).map (Sum.elim (fun b=>Sum.inl (b.1,b.2)) (fun b=>Sum.inr b)))) LL (0,(replicate 9 (0:Int)))
def RU:=(RT u w).map (fun a=>a)
def RV:=(GN u).bind (fun a=>RU u a)
def GO:Option ((Int×Int×Int×Int×Int×Int×Int×Int×Int)):=(same (List.length e) 9).bind fun a=>(same (List.length (replicate 9 (0:Int))) 9).bind fun b=>some ((e.getD 0 (0:Int)),(e.getD 1 (0:Int)),(e.getD 2 (0:Int)),(e.getD 3 (0:Int)),(e.getD 4 (0:Int)),(e.getD 5 (0:Int)),(e.getD 6 (0:Int)),(e.getD 7 (0:Int)),(e.getD 8 (0:Int)))
def RW:=(RV u).bind (fun a=>GO a)
def x8:=(GM).bind (fun a=>RW u)
@[irreducible] def sL:=x8 u
def GP:Option ((Int×(List (Int×Int×Unit)))⊕Int):=(eF e).bind fun a=>cond (!a) (some (Sum.inr (-1))) ((pC e).bind fun b=>(sJ (b.length:Int)).bind fun c=>some (Sum.inl (c,b)))
def x9:Option ((Int×Int×Int×Int×Int×Int×Int×Int×Int)):=(sL u).bind fun a=>some ((a.1),(a.2.1),(a.2.2.1),(a.2.2.2.1),(a.2.2.2.2.1),(a.2.2.2.2.2.1),(a.2.2.2.2.2.2.1),(a.2.2.2.2.2.2.2.1),(a.2.2.2.2.2.2.2.2))
def sM:Option ((Int×Int)⊕Int):=cond (decide (P<9)) ((idx [r,s,t,w,x,F,H,K,N] P).bind fun a=>(sJ a).bind fun b=>some (Sum.inl ((wrap .i64 (d-b)),(wrap .i64 (P+1))))) (some (Sum.inr d))
def RX:Option (Int):=ai (fun(a:Int×Int)=>((sM a.1 r s t w x F H K N a.2).map (Sum.elim (fun b=>Sum.inl (b.1,b.2)) (fun b=>Sum.inr b)))) LL (d,0)
def RY:=(RX d r s t w x F H K N).map (fun a=>a)
def RZ:=(x9 u).bind (fun a=>RY d a.1 a.2.1 a.2.2.1 a.2.2.2.1 a.2.2.2.2.1 a.2.2.2.2.2.1 a.2.2.2.2.2.2.1 a.2.2.2.2.2.2.2.1 a.2.2.2.2.2.2.2.2)
def GQ:Option (Int):=some d
def R2:=(RZ d u).bind (fun a=>GQ a)
def ya:=(GP e).bind (Sum.elim (fun a=>R2 a.1 a.2) (fun b=>some ((fun a=>a) b)))
@[irreducible] def yb:=ya e
def yc:Option (ByteArray):=(yb e).bind fun a=>(strconv_Itoa a).bind fun b=>some b
@[irreducible] def GR (a:List Int) (b:List (List Int)):=yc a
def GS:Option (Bool):=some ((dO .u64 d (wrap .u64 (d+(dO .u64 d (wrap .u64 (0-d))))))==0)
@[irreducible] def GU:=GS d
def GV:Option (Unit⊕Bool):=(eF e).bind fun a=>cond (!a) (some (Sum.inr false)) (some (Sum.inl ()))
def GW:Option ((Int×(List Int))):=(lR e).bind fun a=>some ((a.length:Int),a)
def pJ:Option (Int⊕Bool⊕Unit):=cond (decide (r<d)) ((al r (List.length y)).bind fun a=>(y[a]?).bind fun b=>(GU b).bind fun c=>cond (!c) (some (Sum.inr (Sum.inl false))) (some (Sum.inl (wrap .i64 (r+1))))) (some (Sum.inr (Sum.inr ())))
def R3:Option (Bool⊕Unit):=ai (fun(a:Int)=>((pJ d a e).map (Sum.elim (fun b=>Sum.inl b) (Sum.elim (fun b=>Sum.inr (Sum.inl b)) (fun b=>Sum.inr (Sum.inr b)))))) LL 0
def R4:=(R3 d e).map (Sum.elim (fun a=>(Sum.inr a)) (fun a=>(Sum.inl ())))
def R5:=(GW e).bind (fun a=>R4 a.1 a.2)
def GX:Option (Bool):=some true
def R6:=(R5 e).bind (Sum.elim (fun a=>GX) (fun b=>some ((fun a=>a) b)))
def yd:=(GV e).bind (Sum.elim (fun a=>R6 e) (fun b=>some ((fun a=>a) b)))
@[irreducible] def nD:=yd e
def ye:Option (ByteArray):=cond a (some (ByteArray.mk #[121,101,115])) (some (ByteArray.mk #[110,111]))
@[irreducible] def sN:=ye a
def yf:Option (ByteArray):=(nD e).bind fun a=>(sN a).bind fun b=>some b
@[irreducible] def GY (a:List Int) (b:List (List Int)):=yf a
def yg:Option (Bool):=(sk d r).bind fun a=>(sk s t).bind fun b=>cond (a.1) (cond (b.1) ((xC (a.2.1) (a.2.2) (b.2.1) (b.2.2)).bind fun c=>some c) (some false)) (some false)
@[irreducible] def GZ:=yg d r s t
def yh:Option (Bool):=(GZ s t d r).bind fun a=>some a
@[irreducible] def G0:=yh d r s t
def R7:Option (Unit):=some ()
def R8:Option (Int):=some (e.length:Int)
def R9:Option (Unit⊕Int):=cond (decide (s<r)) (some (Sum.inl ())) (some (Sum.inr d))
def Sa:Option ((Int×(List Int)×Int)):=(idx e r).bind fun a=>(inc (wrap .i64 (r+1)) (List.length e)).bind fun b=>some (a,((e.take (List.length e)).drop b),(List.length ((e.take (List.length e)).drop b):Int))
def Sb:Option ((Int×Int)⊕Int):=cond (decide (H<F)) ((idx y H).bind fun a=>(G0 r a K N).bind fun b=>cond b (some (Sum.inl ((wrap .i64 (d+1)),(wrap .i64 (H+1))))) (some (Sum.inl (d,(wrap .i64 (H+1)))))) (some (Sum.inr d))
def ae7:Option (Int):=ai (fun(a:Int×Int)=>((Sb a.1 r y F a.2 H K).map (Sum.elim (fun b=>Sum.inl (b.1,b.2)) (fun b=>Sum.inr b)))) LL (d,0)
def ae8:=(ae7 d r y F H K).map (fun a=>a)
def ae9:=(Sa e s).bind (fun a=>ae8 r a.1 a.2.1 a.2.2 t w)
def afa:=(ae9 e r s t w).map (fun a=>a)
def Sc:Option (Int):=some (wrap .i64 (d+1))
def afb:=(afa e r s t w).bind (fun a=>(Sc s).map (fun b=>(a,b)))
def afc:=(R9 r s t).bind (Sum.elim (fun a=>(afb e r t w x).map (fun a=>(Sum.inl (a.1,a.2)))) (fun b=>some ((fun a=>(Sum.inr a)) b)))
def afd:Option (Int):=ai (fun(a:Int×Int)=>((afc e a.1 r a.2 s t).map (Sum.elim (fun b=>Sum.inl (b.1,b.2)) (fun b=>Sum.inr b)))) LL (0,0)
def afe:=(afd e r s t).map (fun a=>a)
def aff:=(R8 e).bind (fun a=>afe e a r s)
def Sd:Option (Int):=some d
def afg:=(aff e r s).bind (fun a=>Sd a)
def Se:=(R7).bind (fun a=>afg e r s)
@[irreducible] def G1:=Se e r s
def sO:Option (Bool):=(G1 y d r).bind fun a=>some (decide (a>0))
@[irreducible] def sP:=sO d r y
def Sf:Option (Unit):=some ()
def Sg:Option (Int):=some (e.length:Int)
def Sh:Option (Unit⊕Int):=cond (decide (s<r)) (some (Sum.inl ())) (some (Sum.inr d))
def Si:Option ((Int×(List Int)×Int)):=(idx e r).bind fun a=>(inc (wrap .i64 (r+1)) (List.length e)).bind fun b=>some (a,((e.take (List.length e)).drop b),(List.length ((e.take (List.length e)).drop b):Int))
def Sj:Option ((Int×Int)⊕Int):=cond (decide (H<F)) ((idx y H).bind fun a=>(sP r a I).bind fun b=>cond b (some (Sum.inl ((wrap .i64 (d+1)),(wrap .i64 (H+1))))) (some (Sum.inl (d,(wrap .i64 (H+1)))))) (some (Sum.inr d))
def afh:Option (Int):=ai (fun(a:Int×Int)=>((Sj a.1 r y F a.2 I).map (Sum.elim (fun b=>Sum.inl (b.1,b.2)) (fun b=>Sum.inr b)))) LL (d,0)
def afi:=(afh d r y F I).map (fun a=>a)
def afj:=(Si e s).bind (fun a=>afi r a.1 a.2.1 a.2.2 y)
def afk:=(afj e r s y).map (fun a=>a)
def Sk:Option (Int):=some (wrap .i64 (d+1))
def afl:=(afk e r s y).bind (fun a=>(Sk s).map (fun b=>(a,b)))
def afm:=(Sh r s t).bind (Sum.elim (fun a=>(afl e r t y).map (fun a=>(Sum.inl (a.1,a.2)))) (fun b=>some ((fun a=>(Sum.inr a)) b)))
def afn:Option (Int):=ai (fun(a:Int×Int)=>((afm e a.1 r a.2 y).map (Sum.elim (fun b=>Sum.inl (b.1,b.2)) (fun b=>Sum.inr b)))) LL (0,0)
def afo:=(afn e r y).map (fun a=>a)
def afp:=(Sg e).bind (fun a=>afo e a y)
def Sl:Option (Int):=some d
def afq:=(afp e y).bind (fun a=>Sl a)
def Sm:=(Sf).bind (fun a=>afq e y)
@[irreducible] def G2:=Sm e y
def sQ:Option (Bool):=cond ((dO .u64 d r) !=0) (some false) ((jv r).bind fun a=>(jv d).bind fun b=>(G2 b a).bind fun c=>some (decide (c>0)))
@[irreducible] def sR:=sQ d r
def Sn:Option (Unit):=some ()
def So:Option (Int):=some (e.length:Int)
def Sp:Option (Unit⊕Int):=cond (decide (s<r)) (some (Sum.inl ())) (some (Sum.inr d))
def Sq:Option ((Int×(List Int)×Int)):=(idx e r).bind fun a=>(inc (wrap .i64 (r+1)) (List.length e)).bind fun b=>some (a,((e.take (List.length e)).drop b),(List.length ((e.take (List.length e)).drop b):Int))
def Sr:Option ((Int×Int)⊕Int):=cond (decide (H<F)) ((idx y H).bind fun a=>(sR r a).bind fun b=>cond b (some (Sum.inl ((wrap .i64 (d+1)),(wrap .i64 (H+1))))) (some (Sum.inl (d,(wrap .i64 (H+1)))))) (some (Sum.inr d))
def afr:Option (Int):=ai (fun(a:Int×Int)=>((Sr a.1 r y F a.2).map (Sum.elim (fun b=>Sum.inl (b.1,b.2)) (fun b=>Sum.inr b)))) LL (d,0)
def afs:=(afr d r y F).map (fun a=>a)
def aft:=(Sq e s).bind (fun a=>afs r a.1 a.2.1 a.2.2)
def afu:=(aft e r s).map (fun a=>a)
def Ss:Option (Int):=some (wrap .i64 (d+1))
def afv:=(afu e r s).bind (fun a=>(Ss s).map (fun b=>(a,b)))
def afw:=(Sp r s t).bind (Sum.elim (fun a=>(afv e r t).map (fun a=>(Sum.inl (a.1,a.2)))) (fun b=>some ((fun a=>(Sum.inr a)) b)))
def afx:Option (Int):=ai (fun(a:Int×Int)=>((afw e a.1 r a.2).map (Sum.elim (fun b=>Sum.inl (b.1,b.2)) (fun b=>Sum.inr b)))) LL (0,0)
def afy:=(afx e r).map (fun a=>a)
def afz:=(So e).bind (fun a=>afy e a)
def Su:Option (Int):=some d
def afA:=(afz e).bind (fun a=>Su a)
def Sv:=(Sn).bind (fun a=>afA e)
@[irreducible] def G3:=Sv e
def sS:Option (Bool):=(eF e).bind fun a=>cond a ((lR e).bind fun b=>(G3 b).bind fun c=>some (c==0)) (some false)
@[irreducible] def yi:=sS e
def yj:Option (ByteArray):=(yi e).bind fun a=>(sN a).bind fun b=>some b
@[irreducible] def G4 (a:List Int) (b:List (List Int)):=yj a
def sT:Option (((List Int))):=(mk d d).bind fun a=>some (replicate a (0:Int))
@[irreducible] def sV:=sT d
@[irreducible] def G5:=some ()
def yk:Option (Unit):=some ()
@[irreducible] def G6 (a:List Int) (b c:Int) (d:List Int):=yk
def pK:Option ((Int×Int×Bool)):=cond (decide ((e.length:Int)<2)) (some (0,0,false)) ((al (wrap .i64 ((e.length:Int)-2)) (List.length e)).bind fun a=>(e[a]?).bind fun b=>(al (wrap .i64 ((e.length:Int)-1)) (List.length e)).bind fun c=>(e[c]?).bind fun d=>some (b,d,true))
@[irreducible] def lT (a b:Int) (c d:List Int):=pK d
def yl:Option (Bool):=(idx y (wrap .i64 (d-1))).bind fun a=>cond (a==r) ((lP y d).bind fun b=>(lP I d).bind fun c=>some (b==c)) (some false)
@[irreducible] def sW (a b:Int) (c:List Int) (d e:Int) (f g:List Int):=yl a b c f
def ym:Option (Int):=(lT d r I L).bind fun a=>cond (a.2.2) ((sW (a.1) (a.2.1) y d r I L).bind fun b=>cond b (some 76) (cond (a.2.2) ((sW (a.2.1) (a.1) y d r I L).bind fun c=>cond c (some 82) (some 83)) (some 83))) (cond (a.2.2) ((sW (a.2.1) (a.1) y d r I L).bind fun e=>cond e (some 82) (some 83)) (some 83))
@[irreducible] def G7:=ym d r y I L
def yn:Option ((Bool×Int×Int×(List Int))):=cond (d==(y.length:Int)) (some (false,d,r,I)) ((room ((List.length I)+List.length ([(wrap .i64 (d+1))]))).bind fun a=>some (true,(wrap .i64 (d+1)),(imax r (List.length (I++([(wrap .i64 (d+1))])):Int)),(I++([(wrap .i64 (d+1))]))))
@[irreducible] def G8:=yn d r y I
def yo:Option (((List Int)×(List Int))):=(al (wrap .i64 (d-1)) (List.length y)).bind fun a=>(inc (wrap .i64 ((I.length:Int)-2)) (List.length I)).bind fun b=>(room ((b-0)+List.length ([r]))).bind fun c=>some ((y.set a r),(((I.drop 0).take (b-0))++([r])))
@[irreducible] def sX (a b c d:Int) (e f:List Int):=(yo a b e f).map (fun g=>(g.1,g.2))
def yp:Option ((Bool×(List Int)×(List Int))):=(lT d r y I).bind fun a=>cond (a.2.2) ((sX (a.1) (a.2.1) d r y I).bind fun b=>some ((a.2.2),(b.1),(b.2))) (some ((a.2.2),y,I))
@[irreducible] def G9:=yp d r y I
def yq:Option ((Bool×(List Int)×(List Int))):=(lT d r y I).bind fun a=>cond (a.2.2) ((sX (a.2.1) (a.1) d r y I).bind fun b=>some ((a.2.2),(b.1),(b.2))) (some ((a.2.2),y,I))
@[irreducible] def Ha:=yq d r y I
def Hb:Option (((List Int))⊕(ByteArray×Bool)):=(nD e).bind fun a=>cond (!a) (some (Sum.inr (empty,false))) ((sV (e.length:Int)).bind fun b=>(G5).bind fun c=>(G6 e 0 0 b).bind fun d=>some (Sum.inl b))
def Hc:Option (Int):=some (wrap .i64 ((wrap .i64 (2*(e.length:Int)))-1))
def pL:Option ((Int×Int×Int×(List Int)×(List Int)×(List Int))⊕((List Int))):=cond (decide (r<d)) ((G7 s t O I L).bind fun a=>cond (a==83) ((G8 s t I L).bind fun b=>(room ((List.length y)+List.length ([a]))).bind fun c=>some (Sum.inl ((wrap .i64 (r+1)),(b.2.1),(b.2.2.1),(y++([a])),I,(b.2.2.2)))) (cond (a==76) ((G9 s t I L).bind fun e=>(room ((List.length y)+List.length ([a]))).bind fun f=>some (Sum.inl ((wrap .i64 (r+1)),s,t,(y++([a])),(e.2.1),(e.2.2)))) (cond (a==82) ((Ha s t I L).bind fun g=>(room ((List.length y)+List.length ([a]))).bind fun h=>some (Sum.inl ((wrap .i64 (r+1)),s,t,(y++([a])),(g.2.1),(g.2.2)))) (none)))) (some (Sum.inr y))
def Sw:Option (((List Int))):=ai (fun(a:Int×Int×Int×(List Int)×(List Int)×(List Int))=>((pL d a.1 a.2.1 a.2.2.1 a.2.2.2.1 a.2.2.2.2.1 a.2.2.2.2.2 y).map (Sum.elim (fun b=>Sum.inl (b.1,b.2.1,b.2.2.1,b.2.2.2.1,b.2.2.2.2.1,b.2.2.2.2.2)) (fun b=>Sum.inr b)))) LL (0,0,0,([]:List Int),e,([]:List Int))
def Sx:=(Sw d e y).map (fun a=>a)
def Sy:=(Hc e).bind (fun a=>Sx a y e)
def Hd:Option ((ByteArray×Bool)):=some ((bytesOf e),true)
def Sz:=(Sy e y).bind (fun a=>Hd a)
def yr:=(Hb e).bind (Sum.elim (fun a=>Sz e a) (fun b=>some ((fun a=>a) b)))
@[irreducible] def yt:=yr e
def sY:Option (ByteArray):=cond (aD b empty) (some (ByteArray.mk #[110,111,110,101])) (some b)
@[irreducible] def lU:=sY b
def sZ:Option (ByteArray):=(yt e).bind fun a=>(lU (a.1)).bind fun b=>some b
@[irreducible] def yu (a:List Int) (b:List (List Int)):=sZ a
def yv:Option (((List Int))):=(sV d).bind fun a=>some a
@[irreducible] def He:=yv d
@[irreducible] def Hf:=some ()
def s0:Option ((Int×Int×Bool)):=cond ((((h:Nat):Int))==0) (some (0,0,false)) (cond (r==(y.length:Int)) (some (0,0,false)) ((al (wrap .i64 ((((h:Nat):Int))-1)) h).bind fun a=>(I[(f+a)]?).bind fun b=>some (b,(wrap .i64 (r+1)),true)))
@[irreducible] def pM (a b:Nat) (c d e:Int) (f g:List Int):=s0 a b c f g
def s1:Option (Bool):=(idx e (wrap .i64 (r-1))).bind fun a=>cond (a==d) (some true) ((idx e (wrap .i64 (d-1))).bind fun b=>some (b==r))
@[irreducible] def yw:=s1 d e r
def Hg:Option (Unit):=some ()
def Hh:Option (Int):=some (e.length:Int)
def s2:Option (Int⊕Int⊕Unit):=cond (decide (s<r)) ((idx e s).bind fun a=>(yw a y F).bind fun b=>cond b (some (Sum.inr (Sum.inl s))) (some (Sum.inl (wrap .i64 (s+1))))) (some (Sum.inr (Sum.inr ())))
def SA:Option (Int⊕Unit):=ai (fun(a:Int)=>((s2 e r a y F).map (Sum.elim (fun b=>Sum.inl b) (Sum.elim (fun b=>Sum.inr (Sum.inl b)) (fun b=>Sum.inr (Sum.inr b)))))) LL 0
def SB:=(SA e r y F).map (Sum.elim (fun a=>(Sum.inr a)) (fun a=>(Sum.inl ())))
def SC:=(Hh e).bind (fun a=>SB e a y F)
def SD:Option (Int):=some (-1)
def SE:=(SC e y F).bind (Sum.elim (fun a=>SD) (fun b=>some ((fun a=>a) b)))
def yx:=(Hg).bind (fun a=>SE e y F)
@[irreducible] def Hi:=yx e y F
def yy:Option (Bool):=(Hi e y F).bind fun a=>some (decide (a>=0))
@[irreducible] def Hj:=yy e y F
def s3:Option (Bool):=(inc (wrap .i64 ((((E:Nat):Int))-1)) E).bind fun a=>(Hj ((I.drop (D+0)).take (a-0)) e r).bind fun b=>some b
@[irreducible] def yz (a:List Int) (b:Int) (c d:Nat) (e f g:Int) (h i:List Int):=s3 a b c d i
def s4:Option (Int):=(pM f h r s t y I).bind fun a=>cond (!(a.2.2)) (some 83) ((idx e (wrap .i64 ((a.1)-1))).bind fun b=>cond (b==(a.2.1)) (some 76) ((idx e (wrap .i64 ((a.2.1)-1))).bind fun c=>cond (c==(a.1)) (some 82) ((yz e (a.2.1) f h r s t y I).bind fun d=>cond d (some 68) (some 83))))
@[irreducible] def yA:=s4 e f h r s t y I
def s5:Option ((Bool×Nat×Nat×Int×Int×(List Int))):=cond (r==(y.length:Int)) (some (false,f,h,r,s,I)) ((room (h+List.length ([(wrap .i64 (r+1))]))).bind fun a=>some (true,0,(List.length (((I.drop f).take h)++([(wrap .i64 (r+1))]))),(wrap .i64 (r+1)),(imax s (List.length (((I.drop f).take h)++([(wrap .i64 (r+1))])):Int)),(((I.drop f).take h)++([(wrap .i64 (r+1))]))))
@[irreducible] def pN (a b:Nat) (c d e:Int) (f g:List Int):=s5 a b c d f g
def Hk:Option (Bool):=some ((dO .u64 d r)==r)
@[irreducible] def Hl:=Hk d r
def s6:Option (Bool):=(kB d).bind fun a=>(Hl r a).bind fun b=>some b
@[irreducible] def s7 (a:Int) (b c:Nat) (d e f:Int) (g h:List Int):=s6 a f
def s8:Option ((Int×(List Int))):=(al (wrap .i64 (d-1)) (List.length y)).bind fun a=>(kB d).bind fun b=>some ((ji .u64 s b),(y.set a r))
@[irreducible] def pO (a b:Int) (c d:Nat) (e f g:Int) (h i:List Int):=(s8 a b g h).map (fun j=>(j.1,j.2))
def yB:Option ((Nat×Nat)):=(inc (wrap .i64 ((((h:Nat):Int))-1)) h).bind fun a=>some ((f+0),(a-0))
@[irreducible] def s9 (a b:Nat) (c d e:Int) (f g:List Int):=(yB a b).map (fun h=>(h.1,h.2))
def nE:Option ((Bool×Nat×Nat×Int×(List Int))):=(pM f h r s t y I).bind fun a=>cond (!(a.2.2)) (some (false,f,h,t,y)) ((s7 (a.1) f h r s t y I).bind fun b=>cond b (some (false,f,h,t,y)) ((pO (a.1) (a.2.1) f h r s t y I).bind fun c=>(s9 f h r s (c.1) (c.2) I).bind fun d=>some (true,(d.1),(d.2),(c.1),(c.2))))
@[irreducible] def nF:=nE f h r s t y I
def pP:Option ((Bool×Nat×Nat×Int×Int×Int×(List Int)×(List Int))):=(pM f h r s t y I).bind fun a=>cond (!(a.2.2)) (some (false,f,h,r,s,t,y,I)) ((pO (a.2.1) (a.1) f h r s t y I).bind fun b=>(pN f h r s (b.1) (b.2) I).bind fun c=>some ((c.1),(c.2.1),(c.2.2.1),(c.2.2.2.1),(c.2.2.2.2.1),(b.1),(b.2),(c.2.2.2.2.2)))
@[irreducible] def pQ:=pP f h r s t y I
def ta:Option ((Bool×Nat×Nat)):=cond ((((h:Nat):Int))==0) (some (false,f,h)) ((al (wrap .i64 ((((h:Nat):Int))-1)) h).bind fun a=>(I[(f+a)]?).bind fun b=>(s7 b f h r s t y I).bind fun c=>cond (!c) (some (false,f,h)) ((s9 f h r s t y I).bind fun d=>some (true,(d.1),(d.2))))
@[irreducible] def pR:=ta f h r s t y I
def Hm:Option ((Nat×(List Int))⊕(ByteArray×Bool)):=(nD e).bind fun a=>cond (!a) (some (Sum.inr (empty,false))) ((He (e.length:Int)).bind fun b=>(Hf).bind fun c=>some (Sum.inl ((List.length ([]:List Int)),b)))
def pS:Option ((Nat×Nat×Int×Int×Int×(List Int)×(List Int)×(List Int))⊕((List Int))):=cond (decide (r<(e.length:Int))) ((yA e f h r s t I L).bind fun a=>cond (a==83) ((pN f h r s t I L).bind fun b=>(room ((List.length y)+List.length ([a]))).bind fun c=>some (Sum.inl ((b.2.1),(b.2.2.1),(b.2.2.2.1),(b.2.2.2.2.1),t,(y++([a])),I,(b.2.2.2.2.2)))) (cond (a==76) ((nF f h r s t I L).bind fun d=>(room ((List.length y)+List.length ([a]))).bind fun g=>some (Sum.inl ((d.2.1),(d.2.2.1),r,s,(d.2.2.2.1),(y++([a])),(d.2.2.2.2),L))) (cond (a==82) ((pQ f h r s t I L).bind fun i=>(room ((List.length y)+List.length ([a]))).bind fun j=>some (Sum.inl ((i.2.1),(i.2.2.1),(i.2.2.2.1),(i.2.2.2.2.1),(i.2.2.2.2.2.1),(y++([a])),(i.2.2.2.2.2.2.1),(i.2.2.2.2.2.2.2)))) (cond (a==68) ((pR f h r s t I L).bind fun k=>(room ((List.length y)+List.length ([a]))).bind fun l=>some (Sum.inl ((k.2.1),(k.2.2),r,s,t,(y++([a])),I,L))) (none))))) (some (Sum.inr y))
def SF:Option (((List Int))):=ai (fun(a:Nat×Nat×Int×Int×Int×(List Int)×(List Int)×(List Int))=>((pS e a.1 a.2.1 a.2.2.1 a.2.2.2.1 a.2.2.2.2.1 a.2.2.2.2.2.1 a.2.2.2.2.2.2.1 a.2.2.2.2.2.2.2).map (Sum.elim (fun b=>Sum.inl (b.1,b.2.1,b.2.2.1,b.2.2.2.1,b.2.2.2.2.1,b.2.2.2.2.2.1,b.2.2.2.2.2.2.1,b.2.2.2.2.2.2.2)) (fun b=>Sum.inr b)))) LL (0,f,0,0,0,([]:List Int),y,([]:List Int))
def SG:=(SF e f y).map (fun a=>a)
def Hn:Option ((ByteArray×Bool)):=some ((bytesOf e),true)
def SH:=(SG e f y).bind (fun a=>Hn a)
def yC:=(Hm e).bind (Sum.elim (fun a=>SH e a.1 a.2) (fun b=>some ((fun a=>a) b)))
@[irreducible] def yD:=yC e
def tb:Option (ByteArray):=(yD e).bind fun a=>(lU (a.1)).bind fun b=>some b
@[irreducible] def yE (a:List Int) (b:List (List Int)):=tb a
def Ho:Option (Unit):=some ()
@[irreducible] def SI (a b c d e f g h i j k l m n:Int):=Ho
def SJ:Option (Unit):=some ()
def SK:Option (Unit):=some ()
def SL (a b c d e f g h i j k l m n o p q r:Int):Option ((Int×Int)⊕Int):=cond (decide (d<c)) ((al d 7).bind fun s=>([e,f,g,h,i,j,k,l,m,n,o,p,q,r][s]?).bind fun t=>(al (wrap .i64 (a-d)) 7).bind fun u=>([l,m,n,o,p,q,r][u]?).bind fun v=>some (Sum.inl ((wrap .i64 (b+(wrap .i64 (t*v)))),(wrap .i64 (d+1))))) (some (Sum.inr b))
def afB (a b c d e f g h i j k l m n o p:Int):Option (Int):=ai (fun(q:Int×Int)=>((SL a q.1 b q.2 c d e f g h i j k l m n o p).map (Sum.elim (fun r=>Sum.inl (r.1,r.2)) (fun r=>Sum.inr r)))) LL (0,0)
def afC (a b c d e f g h i j k l m n o p:Int):=(afB a b c d e f g h i j k l m n o p).map (fun q=>q)
def afD (a b c d e f g h i j k l m n o p:Int):=(SK).bind (fun q=>afC a b c d e f g h i j k l m n o p)
def SM:Option (Int):=some d
def afE (a b c d e f g h i j k l m n o p:Int):=(afD a b c d e f g h i j k l m n o p).bind (fun q=>SM q)
def SN (a b c d e f g h i j k l m n o p:Int):=(SJ).bind (fun q=>afE o p a b c d e f g h i j k l m n)
@[irreducible] def SO (a b c d e f g h i j k l m n o p:Int):=SN a b c d e f g h i j k l m n o p
def Hp (a b c d e f g h i j k l m n o:Int):Option (Int):=(SO a b c d e f g h i j k l m n o (wrap .i64 (o+1))).bind fun p=>some p
@[irreducible] def SP (a b c d e f g h i j k l m n o:Int):=Hp a b c d e f g h i j k l m n o
def Hq:Option (Unit):=some ()
@[irreducible] def SQ (a b c d e f g h i j k l m n:Int):=Hq
def SR:Option ((Int×Int×Int×Int×Int×Int×Int)):=(al 0 7).bind fun a=>(within a 7).bind fun b=>some ((cond (a==0) 1 0),(cond (a==1) 1 0),(cond (a==2) 1 0),(cond (a==3) 1 0),(cond (a==4) 1 0),(cond (a==5) 1 0),(cond (a==6) 1 0))
def SS:Option (Unit):=some ()
def SU (a b c d e f g h i j k l m n o:Int):Option ((Int×Int×Int×Int×Int×Int×Int×Int×Int×Int×Int×Int×Int×Int×Int)⊕(Int×Int×Int×Int×Int×Int×Int×Int×Int×Int×Int×Int×Int×Int)):=cond (decide (a<=6)) ((SI b c d e f g h i j k l m n o).bind fun p=>(SP i j k l m n o i j k l m n o (wrap .i64 (a-1))).bind fun q=>(al a 7).bind fun r=>(within r 14).bind fun s=>(SQ (cond (r==0) q b) (cond (r==1) q c) (cond (r==2) q d) (cond (r==3) q e) (cond (r==4) q f) (cond (r==5) q g) (cond (r==6) q h) (cond (r==7) q i) (cond (r==8) q j) (cond (r==9) q k) (cond (r==10) q l) (cond (r==11) q m) (cond (r==12) q n) (cond (r==13) q o)).bind fun t=>(SP (cond (r==0) q b) (cond (r==1) q c) (cond (r==2) q d) (cond (r==3) q e) (cond (r==4) q f) (cond (r==5) q g) (cond (r==6) q h) (cond (r==7) q i) (cond (r==8) q j) (cond (r==9) q k) (cond (r==10) q l) (cond (r==11) q m) (cond (r==12) q n) (cond (r==13) q o) a).bind fun u=>(al a 7).bind fun v=>(within v 7).bind fun w=>some (Sum.inl ((wrap .i64 (a+1)),(cond (r==0) q b),(cond (r==1) q c),(cond (r==2) q d),(cond (r==3) q e),(cond (r==4) q f),(cond (r==5) q g),(cond (r==6) q h),(cond (v==0) u (cond (r==7) q i)),(cond (v==1) u (cond (r==8) q j)),(cond (v==2) u (cond (r==9) q k)),(cond (v==3) u (cond (r==10) q l)),(cond (v==4) u (cond (r==11) q m)),(cond (v==5) u (cond (r==12) q n)),(cond (v==6) u (cond (r==13) q o))))) (some (Sum.inr (b,c,d,e,f,g,h,i,j,k,l,m,n,o)))
def afF:Option ((Int×Int×Int×Int×Int×Int×Int×Int×Int×Int×Int×Int×Int×Int)):=ai (fun(a:Int×Int×Int×Int×Int×Int×Int×Int×Int×Int×Int×Int×Int×Int×Int)=>((SU a.1 a.2.1 a.2.2.1 a.2.2.2.1 a.2.2.2.2.1 a.2.2.2.2.2.1 a.2.2.2.2.2.2.1 a.2.2.2.2.2.2.2.1 a.2.2.2.2.2.2.2.2.1 a.2.2.2.2.2.2.2.2.2.1 a.2.2.2.2.2.2.2.2.2.2.1 a.2.2.2.2.2.2.2.2.2.2.2.1 a.2.2.2.2.2.2.2.2.2.2.2.2.1 a.2.2.2.2.2.2.2.2.2.2.2.2.2.1 a.2.2.2.2.2.2.2.2.2.2.2.2.2.2).map (Sum.elim (fun b=>Sum.inl (b.1,b.2.1,b.2.2.1,b.2.2.2.1,b.2.2.2.2.1,b.2.2.2.2.2.1,b.2.2.2.2.2.2.1,b.2.2.2.2.2.2.2.1,b.2.2.2.2.2.2.2.2.1,b.2.2.2.2.2.2.2.2.2.1,b.2.2.2.2.2.2.2.2.2.2.1,b.2.2.2.2.2.2.2.2.2.2.2.1,b.2.2.2.2.2.2.2.2.2.2.2.2.1,b.2.2.2.2.2.2.2.2.2.2.2.2.2.1,b.2.2.2.2.2.2.2.2.2.2.2.2.2.2)) (fun b=>Sum.inr b)))) LL (1,0,0,0,0,0,0,0,d,r,s,t,w,x,F)
def afG:=(afF d r s t w x F).map (fun a=>(a.1,a.2.1,a.2.2.1,a.2.2.2.1,a.2.2.2.2.1,a.2.2.2.2.2.1,a.2.2.2.2.2.2.1,a.2.2.2.2.2.2.2.1,a.2.2.2.2.2.2.2.2.1,a.2.2.2.2.2.2.2.2.2.1,a.2.2.2.2.2.2.2.2.2.2.1,a.2.2.2.2.2.2.2.2.2.2.2.1,a.2.2.2.2.2.2.2.2.2.2.2.2.1,a.2.2.2.2.2.2.2.2.2.2.2.2.2))
def afH:=(SS).bind (fun a=>afG d r s t w x F)
def SV (a b c d e f g h i j k l m n:Int):Option ((Int×Int×Int×Int×Int×Int×Int×Int×Int×Int×Int×Int×Int×Int)):=some (a,b,c,d,e,f,g,h,i,j,k,l,m,n)
def afI:=(afH d r s t w x F).bind (fun a=>SV a.1 a.2.1 a.2.2.1 a.2.2.2.1 a.2.2.2.2.1 a.2.2.2.2.2.1 a.2.2.2.2.2.2.1 a.2.2.2.2.2.2.2.1 a.2.2.2.2.2.2.2.2.1 a.2.2.2.2.2.2.2.2.2.1 a.2.2.2.2.2.2.2.2.2.2.1 a.2.2.2.2.2.2.2.2.2.2.2.1 a.2.2.2.2.2.2.2.2.2.2.2.2.1 a.2.2.2.2.2.2.2.2.2.2.2.2.2)
def SW:=(SR).bind (fun a=>afI a.1 a.2.1 a.2.2.1 a.2.2.2.1 a.2.2.2.2.1 a.2.2.2.2.2.1 a.2.2.2.2.2.2)
@[irreducible] def SX:=SW
def Hr (a b c d e f g h i j k l m n o p q r:Int):Option (Int):=(al q 7).bind fun s=>([h,i,j,k,l,m,n][s]?).bind fun t=>(SO a b c d e f g h i j k l m n (wrap .i64 (o+q)) o).bind fun u=>some (wrap .i64 ((wrap .i64 (u+(wrap .i64 (p*t))))+r))
@[irreducible] def SY (a b c d e f g h i j k l m n o p q r:Int):=Hr a b c d e f g h i j k l m n o p q r
def Hs (R0:Int->Int->Int->Int->Int->Int->Int->Int->Int->Int->Int->Int->Int->Int->(List Int)->Int->Option (Int×Int)) (R1:Int->Int->Int->Int->Int->Int->Int->Int->Int->Int->Int->Int->Int->Int->(List Int)->(List Int)->Option (Int×Int)) (a b c d e f g h i j k l m n:Int) (o:List Int) (p:Int):Option ((Int×Int)):=(sd o p).bind fun q=>(jv (q.1)).bind fun r=>(R1 a b c d e f g h i j k l m n o r).bind fun s=>(jv (q.2)).bind fun t=>(R1 a b c d e f g h i j k l m n o t).bind fun u=>(SI a b c d e f g h i j k l m n).bind fun v=>(SY h i j k l m n h i j k l m n (s.1) (s.2) (u.1) (u.2)).bind fun w=>some ((wrap .i64 ((wrap .i64 ((s.1)+1))+(u.1))),w)
def afJ (R0:Int->Int->Int->Int->Int->Int->Int->Int->Int->Int->Int->Int->Int->Int->(List Int)->Int->Option (Int×Int)) (R1:Int->Int->Int->Int->Int->Int->Int->Int->Int->Int->Int->Int->Int->Int->(List Int)->(List Int)->Option (Int×Int)) (a b c d e f g h i j k l m n:Int) (o:List Int) (p:Int):Option (Int×Int):=Hs R0 R1 a b c d e f g h i j k l m n o p
def Ht (R0:Int->Int->Int->Int->Int->Int->Int->Int->Int->Int->Int->Int->Int->Int->(List Int)->Int->Option (Int×Int)) (R1:Int->Int->Int->Int->Int->Int->Int->Int->Int->Int->Int->Int->Int->Int->(List Int)->(List Int)->Option (Int×Int)) (a b c d e f g h i j k l m n:Int) (o p:List Int):Option ((Int×Int)):=cond ((p.length:Int)==0) (some (0,0)) ((idx p 0).bind fun q=>(R0 a b c d e f g h i j k l m n o q).bind fun r=>(inc 1 (List.length p)).bind fun s=>(R1 a b c d e f g h i j k l m n o ((p.take (List.length p)).drop s)).bind fun t=>(SQ a b c d e f g h i j k l m n).bind fun u=>(SY a b c d e f g h i j k l m n (r.1) (r.2) (t.1) (t.2)).bind fun v=>some ((wrap .i64 ((r.1)+(t.1))),v))
def afK (R0:Int->Int->Int->Int->Int->Int->Int->Int->Int->Int->Int->Int->Int->Int->(List Int)->Int->Option (Int×Int)) (R1:Int->Int->Int->Int->Int->Int->Int->Int->Int->Int->Int->Int->Int->Int->(List Int)->(List Int)->Option (Int×Int)) (a b c d e f g h i j k l m n:Int) (o p:List Int):Option (Int×Int):=Ht R0 R1 a b c d e f g h i j k l m n o p
def lV:Nat->(Int->Int->Int->Int->Int->Int->Int->Int->Int->Int->Int->Int->Int->Int->(List Int)->Int->Option (Int×Int))×(Int->Int->Int->Int->Int->Int->Int->Int->Int->Int->Int->Int->Int->Int->(List Int)->(List Int)->Option (Int×Int))
 |0=>((fun _ _ _ _ _ _ _ _ _ _ _ _ _ _ _ _=>none),(fun _ _ _ _ _ _ _ _ _ _ _ _ _ _ _ _=>none))
 |n+1=>((fun Q R Y Z a0 a1 a2 a3 a4 a5 S T U V W X=>afJ (lV n).1 (lV n).2 Q R Y Z a0 a1 a2 a3 a4 a5 S T U V W X),(fun Q R Y Z a0 a1 a2 a3 a4 a5 S T U V W X=>afK (lV n).1 (lV n).2 Q R Y Z a0 a1 a2 a3 a4 a5 S T U V W X))
def pT (n:Nat):Int->Int->Int->Int->Int->Int->Int->Int->Int->Int->Int->Int->Int->Int->(List Int)->Int->Option (Int×Int):=(lV n).1
@[irreducible] def yF (a b c d e f g h i j k l m n:Int) (o:List Int) (p:Int):=pT RR a b c d e f g h i j k l m n o p
def pU (n:Nat):Int->Int->Int->Int->Int->Int->Int->Int->Int->Int->Int->Int->Int->Int->(List Int)->(List Int)->Option (Int×Int):=(lV n).2
@[irreducible] def SZ (a b c d e f g h i j k l m n:Int) (o p:List Int):=pU RR a b c d e f g h i j k l m n o p
def yG:Option (Int):=cond (decide ((e.length:Int)>6)) (some (-1)) ((nD e).bind fun a=>cond (!a) (some (-1)) ((SX).bind fun b=>(pz e).bind fun c=>(yF (b.1) (b.2.1) (b.2.2.1) (b.2.2.2.1) (b.2.2.2.2.1) (b.2.2.2.2.2.1) (b.2.2.2.2.2.2.1) (b.2.2.2.2.2.2.2.1) (b.2.2.2.2.2.2.2.2.1) (b.2.2.2.2.2.2.2.2.2.1) (b.2.2.2.2.2.2.2.2.2.2.1) (b.2.2.2.2.2.2.2.2.2.2.2.1) (b.2.2.2.2.2.2.2.2.2.2.2.2.1) (b.2.2.2.2.2.2.2.2.2.2.2.2.2) e c).bind fun d=>some (d.2)))
@[irreducible] def Hu:=yG e
def tc:Option (ByteArray):=(Hu e).bind fun a=>cond (decide (a<0)) ((lU empty).bind fun b=>some b) ((strconv_Itoa a).bind fun c=>some c)
@[irreducible] def yH (a:List Int) (b:List (List Int)):=tc a
def td:Option (Bool):=cond (decide ((((ByteArray.size b:Nat):Int))>=(((ByteArray.size i:Nat):Int)))) ((inc (((ByteArray.size i:Nat):Int)) (ByteArray.size b)).bind fun a=>some (aD (b.extract 0 a) i)) (some false)
@[irreducible] def yI:=td b i
def te:Option ((ByteArray×Bool)):=(yI b i).bind fun a=>cond (!a) (some (b,false)) ((inc (((ByteArray.size i:Nat):Int)) (ByteArray.size b)).bind fun c=>some ((b.extract c (ByteArray.size b)),true))
@[irreducible] def Hv:=te b i
def tf:Option ((ByteArray×Bool)):=(Hv b i).bind fun a=>some ((a.1),(a.2))
@[irreducible] def tg:=tf b i
def yJ:Option (Bool):=(eF e).bind fun a=>cond a (cond (decide (r>=1)) (some (decide (r<=(e.length:Int)))) (some false)) (some false)
@[irreducible] def yK:=yJ e r
def th:Option (((List Int))):=(yK e r).bind fun a=>cond (!a) (some ([]:List Int)) ((lR e).bind fun b=>(al (wrap .i64 (r-1)) (List.length b)).bind fun c=>(b[c]?).bind fun d=>(jv d).bind fun f=>some f)
@[irreducible] def yL:=th e r
def tj:Option (ByteArray):=(strconv_Atoi i).bind fun a=>cond (a.2) (some (ByteArray.mk #[119,104,97,116])) (cond (decide ((a.1)<0)) (some (ByteArray.mk #[119,104,97,116])) (cond (decide ((a.1)>999999)) (some (ByteArray.mk #[119,104,97,116])) ((strconv_Itoa (a.1)).bind fun b=>cond (!(aD b i)) (some (ByteArray.mk #[119,104,97,116])) ((yL e (a.1)).bind fun c=>(nC c).bind fun d=>(lU d).bind fun f=>some f))))
@[irreducible] def yM (a:List Int) (b:List (List Int)) (c:ByteArray):=tj a c
def tk:Option (ByteArray):=(Fs).bind fun a=>cond (C==(ByteArray.mk #[104,101,97,100,115])) ((Fw e z).bind fun b=>some b) (cond (C==(ByteArray.mk #[100,101,112,116,104,115])) ((xp e z).bind fun c=>some c) (cond (C==(ByteArray.mk #[111,114,100,101,114])) ((xv e z).bind fun d=>some d) (cond (C==(ByteArray.mk #[114,111,111,116])) ((FR e z).bind fun f=>some f) (cond (C==(ByteArray.mk #[99,114,111,115,115,105,110,103,115])) ((F4 e z).bind fun g=>some g) (cond (C==(ByteArray.mk #[103,97,112,115])) ((Gf e z).bind fun h=>some h) (cond (C==(ByteArray.mk #[101,120,99,104,97,110,103,101,115])) ((Gs e z).bind fun i=>some i) (cond (C==(ByteArray.mk #[108,101,110,103,116,104])) ((Gx e z).bind fun j=>some j) (cond (C==(ByteArray.mk #[108,101,97,115,116])) ((GL e z).bind fun k=>some k) (cond (C==(ByteArray.mk #[97,112,97,114,116])) ((GR e z).bind fun l=>some l) (cond (C==(ByteArray.mk #[112,114,111,106,101,99,116,105,118,101])) ((GY e z).bind fun m=>some m) (cond (C==(ByteArray.mk #[110,101,115,116,101,100])) ((G4 e z).bind fun n=>some n) (cond (C==(ByteArray.mk #[109,111,118,101,115])) ((yu e z).bind fun o=>some o) (cond (C==(ByteArray.mk #[101,97,103,101,114])) ((yE e z).bind fun p=>some p) (cond (C==(ByteArray.mk #[112,108,97,99,101])) ((yH e z).bind fun q=>some q) ((tg C (ByteArray.mk #[121,105,101,108,100,32])).bind fun r=>cond (r.2) ((yM e z (r.1)).bind fun s=>some s) (some (ByteArray.mk #[119,104,97,116])))))))))))))))))
@[irreducible] def yN:=tk e z C
def tl:Option ((Bool×(List Int)×(List (List Int)))):=cond (decide ((wrap .i64 ((z.length:Int)-1))<0)) ((ju e ([]:List (List Int))).bind fun a=>some (false,(a.1),(a.2))) ((idx z (wrap .i64 ((z.length:Int)-1))).bind fun b=>(inc (wrap .i64 ((z.length:Int)-1)) (List.length z)).bind fun c=>(ju b ((z.take c).drop 0)).bind fun d=>some (true,(d.1),(d.2)))
@[irreducible] def yO:=tl e z
def Hw:Option (((List Int))):=(mk d d).bind fun a=>some (replicate a (0:Int))
def Hy:Option (Int):=some (e.length:Int)
def tm:Option ((Int×(List Int))⊕((List Int))):=cond (decide (s<r)) ((al s (List.length y)).bind fun a=>some (Sum.inl ((wrap .i64 (s+1)),(y.set a (wrap .i64 (d-s)))))) (some (Sum.inr y))
def S1:Option (((List Int))):=ai (fun(a:Int×(List Int))=>((tm d r a.1 a.2).map (Sum.elim (fun b=>Sum.inl (b.1,b.2)) (fun b=>Sum.inr b)))) LL (0,y)
def S2:=(S1 d r y).map (fun a=>a)
def S3:=(Hy e).bind (fun a=>S2 d a e)
def Hz:Option (((List Int))):=some e
def S4:=(S3 d e).bind (fun a=>Hz a)
def yP:=(Hw d).bind (fun a=>S4 d a)
@[irreducible] def yQ:=yP d
def HA:Option (((List Int))):=(mk (wrap .i64 ((e.length:Int)+1)) (wrap .i64 ((e.length:Int)+1))).bind fun a=>some (replicate a (0:Int))
def HB:Option (Int):=some (e.length:Int)
def tn:Option ((Int×(List Int))⊕((List Int))):=cond (decide (s<r)) ((idx e s).bind fun a=>(al a (List.length y)).bind fun b=>some (Sum.inl ((wrap .i64 (s+1)),(y.set b (wrap .i64 (s+1)))))) (some (Sum.inr y))
def S5:Option (((List Int))):=ai (fun(a:Int×(List Int))=>((tn e r a.1 a.2).map (Sum.elim (fun b=>Sum.inl (b.1,b.2)) (fun b=>Sum.inr b)))) LL (0,y)
def S6:=(S5 e r y).map (fun a=>a)
def S7:=(HB e).bind (fun a=>S6 e a y)
def HC:Option (((List Int))):=some e
def S8:=(S7 e y).bind (fun a=>HC a)
def HD:=(HA e).bind (fun a=>S8 e a)
@[irreducible] def HE:=HD e
def yR:Option (Int):=(al d (List.length e)).bind fun a=>(e[a]?).bind fun b=>some b
@[irreducible] def HF:=yR d e
def HG:Option (((List Int))):=(mk (e.length:Int) (e.length:Int)).bind fun a=>some (replicate a (0:Int))
def HH:Option (Int):=some (e.length:Int)
def yS:Option ((Int×(List Int))⊕((List Int))):=cond (decide (H<F)) ((idx y H).bind fun a=>(idx e (wrap .i64 (a-1))).bind fun b=>(HF b I).bind fun c=>(al H (List.length L)).bind fun d=>some (Sum.inl ((wrap .i64 (H+1)),(L.set d c)))) (some (Sum.inr L))
def S9:Option (((List Int))):=ai (fun(a:Int×(List Int))=>((yS e y F a.1 I a.2).map (Sum.elim (fun b=>Sum.inl (b.1,b.2)) (fun b=>Sum.inr b)))) LL (0,L)
def Ta:=(S9 e y F I L).map (fun a=>a)
def Tb:=(HH y).bind (fun a=>Ta e y a I L)
def HI:Option (((List Int))):=some e
def Tc:=(Tb e y I L).bind (fun a=>HI a)
def HJ:=(HG y).bind (fun a=>Tc e y I a)
@[irreducible] def Td:=HJ e y I
def yT:Option ((Bool×(List Int))):=(eF e).bind fun a=>cond (!a) (some (false,([]:List Int))) ((xL y (e.length:Int)).bind fun b=>cond (!b) (some (false,([]:List Int))) ((HE y).bind fun c=>(Td e y c).bind fun d=>some (true,d)))
@[irreducible] def yU:=yT e y
def to:Option (((List Int))):=(eF e).bind fun a=>cond (!a) (some ([]:List Int)) ((yQ (e.length:Int)).bind fun b=>(yU e b).bind fun c=>some (c.2))
@[irreducible] def yV:=to e
def tp:Option (((List Int))):=(pB e).bind fun a=>(yU e a).bind fun b=>some (b.2)
@[irreducible] def yW:=tp e
def tq:Option (((List Int))):=cond (r==0) ((yK e s).bind fun a=>cond (!a) (some ([]:List Int)) ((nB e).bind fun b=>(al (wrap .i64 (s-1)) (List.length b)).bind fun c=>some (b.set c t))) (cond (r==1) ((nB e).bind fun d=>(room ((List.length d)+List.length ([s]))).bind fun f=>some (d++([s]))) (cond (r==2) ((inc (wrap .i64 ((e.length:Int)-1)) (List.length e)).bind fun g=>(nB ((e.take g).drop 0)).bind fun h=>some h) (cond (r==3) ((yV e).bind fun i=>some i) (cond (r==4) ((yW e).bind fun j=>some j) (some ([]:List Int))))))
@[irreducible] def yX:=tq e r s t
def HK:Option (Unit⊕Bool):=cond ((e.length:Int) !=(y.length:Int)) (some (Sum.inr false)) (some (Sum.inl ()))
def HL:Option (Int):=some (e.length:Int)
def pV:Option (Int⊕Bool⊕Unit):=cond (decide (H<F)) ((idx e H).bind fun a=>(idx y H).bind fun b=>cond (a !=b) (some (Sum.inr (Sum.inl false))) (some (Sum.inl (wrap .i64 (H+1))))) (some (Sum.inr (Sum.inr ())))
def Te:Option (Bool⊕Unit):=ai (fun(a:Int)=>((pV e y F a).map (Sum.elim (fun b=>Sum.inl b) (Sum.elim (fun b=>Sum.inr (Sum.inl b)) (fun b=>Sum.inr (Sum.inr b)))))) LL 0
def Tf:=(Te e y F).map (Sum.elim (fun a=>(Sum.inr a)) (fun a=>(Sum.inl ())))
def Tg:=(HL e).bind (fun a=>Tf e y a)
def Th:Option (Bool):=some true
def Ti:=(Tg e y).bind (Sum.elim (fun a=>Th) (fun b=>some ((fun a=>a) b)))
def yY:=(HK e y).bind (Sum.elim (fun a=>Ti e y) (fun b=>some ((fun a=>a) b)))
@[irreducible] def yZ:=yY e y
def HM:Option (List (List Int)):=pi z
def tr:Option ((Bool×(List Int)×(List (List Int)))):=(yX e F H K).bind fun a=>(eF a).bind fun b=>cond (!b) ((ju e z).bind fun c=>some (false,(c.1),(c.2))) ((yZ a e).bind fun d=>cond d ((ju e z).bind fun f=>some (false,(f.1),(f.2))) ((HM z).bind fun g=>(room ((List.length g)+List.length ([e]))).bind fun h=>(inc (imax 0 (wrap .i64 ((List.length (g++([e])):Int)-8))) (List.length (g++([e])))).bind fun i=>(ju a (((g++([e])).drop i).take ((List.length (g++([e])))-i))).bind fun j=>some (true,(j.1),(j.2))))
@[irreducible] def y0:=tr e z F H K
def ts:Option ((Bool×(List Int)×(List (List Int)))):=(nz e z).bind fun a=>cond (!a) (some (false,([]:List Int),([]:List (List Int)))) ((xf F H K).bind fun b=>cond (!b) ((ju e z).bind fun c=>some (false,(c.1),(c.2))) (cond (F==5) ((yO e z).bind fun d=>some ((d.1),(d.2.1),(d.2.2))) ((y0 e z F H K).bind fun f=>some ((f.1),(f.2.1),(f.2.2)))))
@[irreducible] def y1:=ts e z F H K
def tt:Option ((ByteArray×(List Int)×(List (List Int)))):=(nz e z).bind fun a=>cond (!a) (some (empty,([]:List Int),([]:List (List Int)))) ((r6 C).bind fun b=>cond (!(b.1)) ((ju e z).bind fun c=>(yN e z C).bind fun d=>some (d,(c.1),(c.2))) ((y1 e z (b.2.1) (b.2.2.1) (b.2.2.2)).bind fun f=>cond (!(f.1)) (some ((ByteArray.mk #[110,111,116]),(f.2.1),(f.2.2))) (some ((ByteArray.mk #[111,107]),(f.2.1),(f.2.2)))))
@[irreducible] def tu:=tt e z C
def HN:Option (Unit):=some ()
def HO:Option (Unit):=some ()
def pW:Option ((Int×Int×(List ByteArray))⊕(Int×(List ByteArray))):=cond (decide (s<(((ByteArray.size b:Nat):Int)))) ((hE b s).bind fun a=>cond (a==d) ((inc s (ByteArray.size b)).bind fun c=>(inc r c).bind fun e=>(room ((List.length A)+List.length ([(b.extract e c)]))).bind fun f=>some (Sum.inl ((wrap .i64 (s+1)),(wrap .i64 (s+1)),(A++([(b.extract e c)]))))) (some (Sum.inl (r,(wrap .i64 (s+1)),A)))) (some (Sum.inr (r,A)))
def Tj:Option ((Int×(List ByteArray))):=ai (fun(a:Int×Int×(List ByteArray))=>((pW b d a.1 a.2.1 a.2.2).map (Sum.elim (fun c=>Sum.inl (c.1,c.2.1,c.2.2)) (fun c=>Sum.inr c)))) LL (0,0,([]:List ByteArray))
def Tk:=(Tj b d).map (fun a=>(a.1,a.2))
def Tl:=(HO).bind (fun a=>Tk b d)
def HP:Option (((List ByteArray))):=(inc d (ByteArray.size b)).bind fun a=>(room ((List.length n)+List.length ([(b.extract a (ByteArray.size b))]))).bind fun c=>some (n++([(b.extract a (ByteArray.size b))]))
def Tm:=(Tl b d).bind (fun a=>HP b a.1 a.2)
def y2:=(HN).bind (fun a=>Tm b d)
@[irreducible] def kD:=y2 b d
def y3:Option (Unit⊕Int):=(gh (((ByteArray.size b:Nat):Int)) 1 6).bind fun a=>cond (!a) (some (Sum.inr (-1))) (cond (decide ((((ByteArray.size b:Nat):Int))>1)) ((hE b 0).bind fun c=>cond (c==48) (some (Sum.inr (-1))) (some (Sum.inl ()))) (some (Sum.inl ())))
def y4:Option (Unit):=some ()
def nG:Option ((Int×Int)⊕Int⊕Int):=cond (decide (r<(((ByteArray.size b:Nat):Int)))) ((hE b r).bind fun a=>cond (decide (a<48)) (some (Sum.inr (Sum.inl (-1)))) ((hE b r).bind fun c=>cond (decide (c>57)) (some (Sum.inr (Sum.inl (-1)))) ((hE b r).bind fun e=>some (Sum.inl ((wrap .i64 ((wrap .i64 (10*d))+(wrap .i64 (wrap .u8 (e-48))))),(wrap .i64 (r+1))))))) (some (Sum.inr (Sum.inr d)))
def HQ:Option (Int⊕Int):=ai (fun(a:Int×Int)=>((nG b a.1 a.2).map (Sum.elim (fun c=>Sum.inl (c.1,c.2)) (Sum.elim (fun c=>Sum.inr (Sum.inl c)) (fun c=>Sum.inr (Sum.inr c)))))) LL (0,0)
def HR:=(HQ b).map (Sum.elim (fun a=>(Sum.inr a)) (fun a=>(Sum.inl a)))
def HS:=(y4).bind (fun a=>HR b)
def y5:Option (Int):=some d
def tv:=(HS b).bind (Sum.elim (fun a=>y5 a) (fun c=>some ((fun a=>a) c)))
def pX:=(y3 b).bind (Sum.elim (fun a=>tv b) (fun c=>some ((fun a=>a) c)))
@[irreducible] def gN:=pX b
def HT:Option (((List ByteArray)×(List (Int×Int×Int×Unit)))):=(kD b 32).bind fun a=>some (a,([(2,(0,(0,()))),(3,(0,(0,()))),(4,(0,(0,()))),(5,(0,(0,())))]))
def HU:Option (Bool):=some ((c.length:Int)==3)
def HV:Option (((List (Int×Int×Int×Unit)))):=(al 1 (List.length c)).bind fun a=>(c[a]?).bind fun b=>(al 2 (List.length c)).bind fun d=>(c[d]?).bind fun e=>(gN b).bind fun f=>(gN e).bind fun g=>(room ((List.length j)+List.length ([(0,(f,(g,())))]))).bind fun h=>some (j++([(0,(f,(g,())))]))
def HW:Option (Unit):=some ()
def Tn:Option (((List (Int×Int×Int×Unit)))):=cond a ((HV c j).map (fun b=>b)) ((HW).map (fun b=>j))
def To:=(HU c).bind (fun a=>Tn a c j)
def y6:Option (((List (Int×Int×Int×Unit)))):=cond ((c.length:Int)==2) ((al 1 (List.length c)).bind fun a=>(c[a]?).bind fun b=>(gN b).bind fun d=>(room ((List.length j)+List.length ([(1,(d,(0,())))]))).bind fun e=>some (j++([(1,(d,(0,())))]))) (some j)
def HX:Option (Unit):=some ()
def tw:Option (Int⊕(Bool×Int×Int×Int)⊕Unit):=cond (decide (d<(j.length:Int))) (cond (!(aD b empty)) ((al d (List.length j)).bind fun a=>(j[a]?).bind fun c=>(iE (c.1) ((c.2).1) (((c.2).2).1)).bind fun e=>cond (aD e b) ((al d (List.length j)).bind fun f=>(j[f]?).bind fun g=>some (Sum.inr (Sum.inl (true,(g.1),((g.2).1),(((g.2).2).1))))) (some (Sum.inl (wrap .i64 (d+1))))) (some (Sum.inl (wrap .i64 (d+1))))) (some (Sum.inr (Sum.inr ())))
def Tp:Option ((Bool×Int×Int×Int)⊕Unit):=ai (fun(a:Int)=>((tw b a j).map (Sum.elim (fun c=>Sum.inl c) (Sum.elim (fun c=>Sum.inr (Sum.inl c)) (fun c=>Sum.inr (Sum.inr c)))))) LL 0
def Tq:=(Tp b j).map (Sum.elim (fun a=>(Sum.inr a)) (fun a=>(Sum.inl ())))
def Tr:=(HX).bind (fun a=>Tq b j)
def HY:Option ((Bool×Int×Int×Int)):=some (false,0,0,0)
def HZ:=(Tr b j).bind (Sum.elim (fun a=>HY) (fun c=>some ((fun a=>a) c)))
def H0:=(y6 c j).bind (fun a=>HZ b a)
def Ts:=(To c j).bind (fun a=>H0 b c a)
def y7:=(HT b).bind (fun a=>Ts b a.1 a.2)
@[irreducible] def y8:=y7 b
def H1:Option (Unit):=some ()
def H2:Option (Unit):=some ()
def tx:Option ((ByteArray×Int)⊕ByteArray):=cond (decide (r<(e.length:Int))) (cond (decide (r>0)) ((cat i (ByteArray.mk #[44])).bind fun a=>(idx e r).bind fun b=>(cG b).bind fun c=>(cat a c).bind fun d=>some (Sum.inl (d,(wrap .i64 (r+1))))) ((idx e r).bind fun f=>(cG f).bind fun g=>(cat i g).bind fun h=>some (Sum.inl (h,(wrap .i64 (r+1)))))) (some (Sum.inr i))
def Tt:Option (ByteArray):=ai (fun(a:ByteArray×Int)=>((tx e a.1 a.2).map (Sum.elim (fun b=>Sum.inl (b.1,b.2)) (fun b=>Sum.inr b)))) LL (empty,0)
def Tu:=(Tt e).map (fun a=>a)
def Tv:=(H2).bind (fun a=>Tu e)
def H3:Option (ByteArray):=cond ((e.length:Int)==0) (some (ByteArray.mk #[110,111,110,101])) (some i)
def Tw:=(Tv e).bind (fun a=>H3 e a)
def y9:=(H1).bind (fun a=>Tw e)
@[irreducible] def lW:=y9 e
def H4:Option (Unit):=some ()
def H5:Option (Unit):=some ()
def za:Option (Unit⊕((List Int))):=cond (decide (r<(e.length:Int))) ((di e).bind fun a=>cond a (some (Sum.inl ())) (some (Sum.inr y))) (some (Sum.inr y))
def H6:Option (Unit):=some ()
def H7:Option (Int):=some (wrap .i64 (d+1))
def zb:Option ((Int×Int)⊕Int):=(idx e (wrap .i64 (s-1))).bind fun a=>cond (decide (a>0)) ((idx e (wrap .i64 (s-1))).bind fun b=>some (Sum.inl ((wrap .i64 (r+1)),b))) (some (Sum.inr r))
def H8:Option (Int):=ai (fun(a:Int×Int)=>((zb e a.1 a.2).map (Sum.elim (fun b=>Sum.inl (b.1,b.2)) (fun b=>Sum.inr b)))) LL (0,r)
def Tx:=(H8 e r).map (fun a=>a)
def Tz:=(H7 r).bind (fun a=>Tx e a)
def H9:Option (((List Int))):=(room ((List.length e)+List.length ([d]))).bind fun a=>some (e++([d]))
def TA:=(Tz e r).bind (fun a=>H9 a y)
def TB:=(H6).bind (fun a=>TA e r y)
def TC:=(TB e r y).map (fun a=>a)
def Ia:Option (Int):=some (wrap .i64 (d+1))
def TD:=(TC e r y).bind (fun a=>(Ia r).map (fun b=>(b,a)))
def tz:=(za e r y).bind (Sum.elim (fun a=>(TD e r y).map (fun a=>(Sum.inl (a.1,a.2)))) (fun b=>some ((fun a=>(Sum.inr a)) b)))
def TE:Option (((List Int))):=ai (fun(a:Int×(List Int))=>((tz e a.1 a.2).map (Sum.elim (fun b=>Sum.inl (b.1,b.2)) (fun b=>Sum.inr b)))) LL (0,([]:List Int))
def TF:=(TE e).map (fun a=>a)
def TG:=(H5).bind (fun a=>TF e)
def Ib:Option (((List Int))):=some e
def TH:=(TG e).bind (fun a=>Ib a)
def Ic:=(H4).bind (fun a=>TH e)
@[irreducible] def Ie:=Ic e
def If:Option (Unit):=some ()
def Ig:Option (Unit):=some ()
def tA:Option ((Int×(List (List Int)))⊕((List (List Int)))):=cond (decide (r<(e.length:Int))) ((idx e r).bind fun a=>cond (decide (a>0)) ((idx e r).bind fun b=>(idx e r).bind fun c=>(room ((List.length z)+List.length ([([(bX (wrap .i64 (r+1)) b),(imax (wrap .i64 (r+1)) c)])]))).bind fun d=>some (Sum.inl ((wrap .i64 (r+1)),(z++([([(bX (wrap .i64 (r+1)) b),(imax (wrap .i64 (r+1)) c)])]))))) (some (Sum.inl ((wrap .i64 (r+1)),z)))) (some (Sum.inr z))
def TJ:Option (((List (List Int)))):=ai (fun(a:Int×(List (List Int)))=>((tA e a.1 a.2).map (Sum.elim (fun b=>Sum.inl (b.1,b.2)) (fun b=>Sum.inr b)))) LL (0,([]:List (List Int)))
def TL:=(TJ e).map (fun a=>a)
def TM:=(Ig).bind (fun a=>TL e)
def Ih:Option (((List (List Int)))):=some z
def TN:=(TM e).bind (fun a=>Ih a)
def zc:=(If).bind (fun a=>TN e)
@[irreducible] def zd:=zc e
def Ii:Option ((Int×Int×Int×Int)⊕Bool):=cond (decide (d<1)) (some (Sum.inr false)) (cond (decide (r<1)) (some (Sum.inr false)) (cond (decide (s<1)) (some (Sum.inr false)) (cond (decide (t<1)) (some (Sum.inr false)) (cond (d==r) (some (Sum.inr false)) (cond (s==t) (some (Sum.inr false)) (some (Sum.inl ((bX d r),(imax d r),(bX s t),(imax s t)))))))))
def Ij:Option (Bool):=cond (decide (d<s)) (cond (decide (s<r)) (cond (decide (r<t)) (some true) (cond (decide (s<d)) (cond (decide (d<t)) (some (decide (t<r))) (some false)) (some false))) (cond (decide (s<d)) (cond (decide (d<t)) (some (decide (t<r))) (some false)) (some false))) (cond (decide (s<d)) (cond (decide (d<t)) (some (decide (t<r))) (some false)) (some false))
def Ik:=(Ii d r s t).bind (Sum.elim (fun a=>Ij a.1 a.2.1 a.2.2.1 a.2.2.2) (fun b=>some ((fun a=>a) b)))
@[irreducible] def Il:=Ik d r s t
def Im:Option (((List (List Int)))⊕Int):=(di e).bind fun a=>cond (!a) (some (Sum.inr (-1))) ((zd e).bind fun b=>some (Sum.inl b))
def In:Option (Unit):=some ()
def ze:Option (Unit⊕Int):=cond (decide (r<(z.length:Int))) (some (Sum.inl ())) (some (Sum.inr d))
def Io:Option (Unit):=some ()
def tB:Option ((Int×Int)⊕Int):=cond (decide (s<r)) ((al s (List.length z)).bind fun a=>(z[a]?).bind fun b=>(idx b 0).bind fun c=>(al s (List.length z)).bind fun e=>(z[e]?).bind fun f=>(idx f 1).bind fun g=>(al r (List.length z)).bind fun h=>(z[h]?).bind fun i=>(idx i 0).bind fun j=>(al r (List.length z)).bind fun k=>(z[k]?).bind fun l=>(idx l 1).bind fun m=>(Il c g j m).bind fun n=>cond n (some (Sum.inl ((wrap .i64 (d+1)),(wrap .i64 (s+1))))) (some (Sum.inl (d,(wrap .i64 (s+1)))))) (some (Sum.inr d))
def TO:Option (Int):=ai (fun(a:Int×Int)=>((tB a.1 r a.2 z).map (Sum.elim (fun b=>Sum.inl (b.1,b.2)) (fun b=>Sum.inr b)))) LL (d,0)
def TP:=(TO d r z).map (fun a=>a)
def Ip:=(Io).bind (fun a=>TP d r z)
def TQ:=(Ip d r z).map (fun a=>a)
def Iq:Option (Int):=some (wrap .i64 (d+1))
def TR:=(TQ d r z).bind (fun a=>(Iq r).map (fun b=>(a,b)))
def zf:=(ze d r z).bind (Sum.elim (fun a=>(TR d r z).map (fun a=>(Sum.inl (a.1,a.2)))) (fun b=>some ((fun a=>(Sum.inr a)) b)))
def TS:Option (Int):=ai (fun(a:Int×Int)=>((zf a.1 a.2 z).map (Sum.elim (fun b=>Sum.inl (b.1,b.2)) (fun b=>Sum.inr b)))) LL (0,0)
def TU:=(TS z).map (fun a=>a)
def TV:=(In).bind (fun a=>TU z)
def Ir:Option (Int):=some d
def TW:=(TV z).bind (fun a=>Ir a)
def zg:=(Im e).bind (Sum.elim (fun a=>TW a) (fun b=>some ((fun a=>a) b)))
@[irreducible] def zh:=zg e
def Is (R0:(List Int)->Int->Option Int) (a:Int):Option (Int):=(shl .i64 1 (wrap .i64 (a-1))).bind fun b=>some b
def It (R0:(List Int)->Int->Option Int):Option (Unit):=some ()
def tC (R0:(List Int)->Int->Option Int) (a:List Int) (b c d:Int):Option ((Int×Int)⊕Int):=cond (decide (d<(a.length:Int))) ((idx a d).bind fun e=>cond (e==b) ((R0 a (wrap .i64 (d+1))).bind fun f=>some (Sum.inl ((ji .i64 c f),(wrap .i64 (d+1))))) (some (Sum.inl (c,(wrap .i64 (d+1)))))) (some (Sum.inr c))
def TX (R0:(List Int)->Int->Option Int) (a:List Int) (b c:Int):Option (Int):=ai (fun(d:Int×Int)=>((tC R0 a b d.1 d.2).map (Sum.elim (fun e=>Sum.inl (e.1,e.2)) (fun e=>Sum.inr e)))) LL (c,0)
def TY (R0:(List Int)->Int->Option Int) (a:List Int) (b c:Int):=(TX R0 a b c).map (fun d=>d)
def TZ (R0:(List Int)->Int->Option Int) (a:List Int) (b c:Int):=(It R0).bind (fun d=>TY R0 a b c)
def Iu (R0:(List Int)->Int->Option Int) (a:Int):Option (Int):=some a
def T0 (R0:(List Int)->Int->Option Int) (a:List Int) (b c:Int):=(TZ R0 a b c).bind (fun d=>Iu R0 d)
def Iv (R0:(List Int)->Int->Option Int) (a:List Int) (b:Int):=(Is R0 b).bind (fun c=>T0 R0 a b c)
def T1 (R0:(List Int)->Int->Option Int) (a:List Int) (b:Int):Option (Int):=Iv R0 a b
def lX:Nat->((List Int)->Int->Option Int)
 |0=>(fun _ _=>none)
 |n+1=>(fun Q R=>T1 (lX n) Q R)
def pY (n:Nat):(List Int)->Int->Option Int:=(lX n)
@[irreducible] def hO:=pY RR e r
def T2:Option (Unit):=some ()
def T3:Option ((Int×Int)⊕Int):=cond (decide (d>0)) ((rem d 4).bind fun a=>cond (a==1) ((quo .i64 d 2).bind fun b=>some (Sum.inl (b,(wrap .i64 (r+1))))) ((quo .i64 d 2).bind fun c=>some (Sum.inl (c,r)))) (some (Sum.inr r))
def afL:Option (Int):=ai (fun(a:Int×Int)=>((T3 a.1 a.2).map (Sum.elim (fun b=>Sum.inl (b.1,b.2)) (fun b=>Sum.inr b)))) LL (d,0)
def afM:=(afL d).map (fun a=>a)
def T4:Option (Int):=some d
def afN:=(afM d).bind (fun a=>T4 a)
def T5:=(T2).bind (fun a=>afN d)
@[irreducible] def Iw:=T5 d
def tD:Option (Int):=(di e).bind fun a=>cond (!a) (some (-1)) ((gh r 1 (e.length:Int)).bind fun b=>cond (!b) (some (-1)) ((hO e r).bind fun c=>(Iw c).bind fun d=>some (wrap .i64 (d-1))))
@[irreducible] def zi:=tD e r
def Ix:Option (Unit):=some ()
def Iy:Option (Unit):=some ()
def nH:Option ((Int×Int)⊕Int):=cond (decide (s<=(e.length:Int))) ((di e).bind fun a=>cond a ((zi e s).bind fun b=>some (Sum.inl ((imax r b),(wrap .i64 (s+1))))) (some (Sum.inr r))) (some (Sum.inr r))
def T6:Option (Int):=ai (fun(a:Int×Int)=>((nH e a.1 a.2).map (Sum.elim (fun b=>Sum.inl (b.1,b.2)) (fun b=>Sum.inr b)))) LL ((-1),1)
def T7:=(T6 e).map (fun a=>a)
def T8:=(Iy).bind (fun a=>T7 e)
def T9:Option (Int):=some d
def Ua:=(T8 e).bind (fun a=>T9 a)
def zj:=(Ix).bind (fun a=>Ua e)
@[irreducible] def zk:=zj e
def Iz:Option (Unit⊕Int):=(wH e (e.length:Int)).bind fun a=>cond (!a) (some (Sum.inr (-1))) (some (Sum.inl ()))
def IA:Option (Unit):=some ()
def zl:Option (Unit⊕Int):=cond (decide (s<(e.length:Int))) (some (Sum.inl ())) (some (Sum.inr r))
def IB:Option (Unit):=some ()
def tE:Option ((Int×Int)⊕Int):=cond (decide (t<s)) ((idx e t).bind fun a=>(idx e s).bind fun b=>cond (decide (a>b)) (some (Sum.inl ((wrap .i64 (r+1)),(wrap .i64 (t+1))))) (some (Sum.inl (r,(wrap .i64 (t+1)))))) (some (Sum.inr r))
def IC:Option (Int):=ai (fun(a:Int×Int)=>((tE e a.1 s a.2).map (Sum.elim (fun b=>Sum.inl (b.1,b.2)) (fun b=>Sum.inr b)))) LL (r,0)
def Ub:=(IC e r s).map (fun a=>a)
def Uc:=(IB).bind (fun a=>Ub e r s)
def Ud:=(Uc e r s).map (fun a=>a)
def ID:Option (Int):=some (wrap .i64 (d+1))
def Ue:=(Ud e r s).bind (fun a=>(ID s).map (fun b=>(a,b)))
def zm:=(zl e r s).bind (Sum.elim (fun a=>(Ue e r s).map (fun a=>(Sum.inl (a.1,a.2)))) (fun b=>some ((fun a=>(Sum.inr a)) b)))
def Uf:Option (Int):=ai (fun(a:Int×Int)=>((zm e a.1 a.2).map (Sum.elim (fun b=>Sum.inl (b.1,b.2)) (fun b=>Sum.inr b)))) LL (0,0)
def Ug:=(Uf e).map (fun a=>a)
def Uh:=(IA).bind (fun a=>Ug e)
def IE:Option (Int):=some d
def Ui:=(Uh e).bind (fun a=>IE a)
def zn:=(Iz e).bind (Sum.elim (fun a=>Ui e) (fun b=>some ((fun a=>a) b)))
@[irreducible] def zo:=zn e
def zp:Option (Int):=(di e).bind fun a=>cond (!a) (some (-1)) ((rR e).bind fun b=>(zo b).bind fun c=>some c)
@[irreducible] def IF:=zp e
def IG:Option (Unit⊕Int):=(di e).bind fun a=>cond (!a) (some (Sum.inr (-1))) (some (Sum.inl ()))
def IH:Option (Unit):=some ()
def tF:Option ((Int×Int)⊕Int):=cond (decide (s<(e.length:Int))) ((idx e s).bind fun a=>cond (decide (a>0)) ((idx e s).bind fun b=>(idx e s).bind fun c=>some (Sum.inl ((wrap .i64 ((wrap .i64 (r+(imax b (wrap .i64 (s+1)))))-(bX c (wrap .i64 (s+1))))),(wrap .i64 (s+1))))) (some (Sum.inl (r,(wrap .i64 (s+1)))))) (some (Sum.inr r))
def Uj:Option (Int):=ai (fun(a:Int×Int)=>((tF e a.1 a.2).map (Sum.elim (fun b=>Sum.inl (b.1,b.2)) (fun b=>Sum.inr b)))) LL (0,0)
def Uk:=(Uj e).map (fun a=>a)
def Ul:=(IH).bind (fun a=>Uk e)
def Um:Option (Int):=some d
def Un:=(Ul e).bind (fun a=>Um a)
def zq:=(IG e).bind (Sum.elim (fun a=>Un e) (fun b=>some ((fun a=>a) b)))
@[irreducible] def zr:=zq e
def Uo:Option (Unit):=some ()
def Up:Option (Unit):=some ()
def Uq:Option ((Int×(List Int))⊕((List Int))):=(shr .i64 d r).bind fun a=>cond (decide (a>0)) ((shr .i64 d r).bind fun b=>(rem b 2).bind fun c=>cond (c==1) ((room ((List.length y)+List.length ([(wrap .i64 (r+1))]))).bind fun e=>some (Sum.inl ((wrap .i64 (r+1)),(y++([(wrap .i64 (r+1))]))))) (some (Sum.inl ((wrap .i64 (r+1)),y)))) (some (Sum.inr y))
def afO:Option (((List Int))):=ai (fun(a:Int×(List Int))=>((Uq d a.1 a.2).map (Sum.elim (fun b=>Sum.inl (b.1,b.2)) (fun b=>Sum.inr b)))) LL (0,([]:List Int))
def afP:=(afO d).map (fun a=>a)
def afQ:=(Up).bind (fun a=>afP d)
def Ur:Option (((List Int))):=some e
def afR:=(afQ d).bind (fun a=>Ur a)
def Us:=(Uo).bind (fun a=>afR d)
@[irreducible] def zt:=Us d
def II:Option (Unit):=some ()
def IJ:Option (Unit):=some ()
def zu:Option (Unit⊕((List Int))):=cond (decide (r<(e.length:Int))) (some (Sum.inl ())) (some (Sum.inr y))
def IK:Option (Int⊕Unit):=(idx e s).bind fun a=>cond (a !=r) (some (Sum.inr ())) ((hO e (wrap .i64 (s+1))).bind fun b=>(zt b).bind fun c=>some (Sum.inl (c.length:Int)))
def tG:Option (Int⊕Int):=cond (decide (r<(y.length:Int))) ((al r (List.length y)).bind fun a=>(y[a]?).bind fun b=>cond (decide (b<d)) (some (Sum.inl (wrap .i64 (r+1)))) (some (Sum.inr r))) (some (Sum.inr r))
def IL:Option (Int):=ai (fun(a:Int)=>((tG d a e).map (Sum.elim (fun b=>Sum.inl b) (fun b=>Sum.inr b)))) LL 0
def Ut:=(IL d e).map (fun a=>a)
def IM:Option (((List Int))):=(inc r (List.length y)).bind fun a=>(room ((List.length ([]:List Int))+List.length ((y.drop 0).take (a-0)))).bind fun b=>(room ((List.length (([]:List Int)++((y.drop 0).take (a-0))))+List.length ([d]))).bind fun c=>(inc r (List.length y)).bind fun e=>(room ((List.length ((([]:List Int)++((y.drop 0).take (a-0)))++([d])))+List.length ((y.drop e).take ((List.length y)-e)))).bind fun f=>some (((([]:List Int)++((y.drop 0).take (a-0)))++([d]))++((y.drop e).take ((List.length y)-e)))
def IN:=(Ut d e).bind (fun a=>IM d a e)
def Uu:=(IK e r s).bind (Sum.elim (fun a=>(IN a y).map (fun b=>(Sum.inl b))) (fun c=>some ((fun a=>(Sum.inr a)) c)))
def Uv:=(Uu e r s y).map (Sum.elim (fun a=>a) (fun a=>y))
def IP:Option (Int):=some (wrap .i64 (d+1))
def Uw:=(Uv e r s y).bind (fun a=>(IP s).map (fun b=>(b,a)))
def zv:=(zu e s y).bind (Sum.elim (fun a=>(Uw e r s y).map (fun a=>(Sum.inl (a.1,a.2)))) (fun b=>some ((fun a=>(Sum.inr a)) b)))
def Ux:Option (((List Int))):=ai (fun(a:Int×(List Int))=>((zv e r a.1 a.2).map (Sum.elim (fun b=>Sum.inl (b.1,b.2)) (fun b=>Sum.inr b)))) LL (0,([]:List Int))
def Uy:=(Ux e r).map (fun a=>a)
def Uz:=(IJ).bind (fun a=>Uy e r)
def IQ:Option (((List Int))):=some e
def UA:=(Uz e r).bind (fun a=>IQ a)
def zw:=(II).bind (fun a=>UA e r)
@[irreducible] def zx:=zw e r
def IR:Option (Unit):=some ()
def IS:Option (Unit):=some ()
def zy:Option (Unit⊕Int):=(shl .i64 1 (e.length:Int)).bind fun a=>cond (decide (s<a)) (some (Sum.inl ())) (some (Sum.inr r))
def IT:Option (Unit):=some ()
def IU:Option (Unit):=some ()
def zz:Option (Unit⊕Int):=cond (decide (r<2)) (some (Sum.inl ())) (some (Sum.inr d))
def IV:Option (Int):=some (wrap .i64 ((e.length:Int)-1))
def tH:Option ((Int×Int×Int)⊕Int):=cond (decide (x>=0)) ((shr .i64 r x).bind fun a=>(rem a 2).bind fun b=>cond (b==t) ((idx e x).bind fun c=>cond (t==1) (cond (!g) ((idx e x).bind fun d=>some (Sum.inl ((wrap .i64 ((wrap .i64 (s+(wrap .i64 (w*c))))+d)),(wrap .i64 (w+1)),(wrap .i64 (x-1))))) (some (Sum.inl ((wrap .i64 (s+(wrap .i64 (w*c)))),(wrap .i64 (w+1)),(wrap .i64 (x-1)))))) (some (Sum.inl ((wrap .i64 (s+(wrap .i64 (w*c)))),(wrap .i64 (w+1)),(wrap .i64 (x-1)))))) (some (Sum.inl (s,w,(wrap .i64 (x-1)))))) (some (Sum.inr s))
def IW:Option (Int):=ai (fun(a:Int×Int×Int)=>((tH e g r a.1 t a.2.1 a.2.2).map (Sum.elim (fun b=>Sum.inl (b.1,b.2.1,b.2.2)) (fun b=>Sum.inr b)))) LL (s,0,w)
def UB:=(IW e g r s t w).map (fun a=>a)
def UC:=(IV e).bind (fun a=>UB e g r s t a)
def UD:=(UC e g r s t).map (fun a=>a)
def IX:Option (Int):=some (wrap .i64 (d+1))
def UE:=(UD e g r s t).bind (fun a=>(IX t).map (fun b=>(a,b)))
def zA:=(zz s t).bind (Sum.elim (fun a=>(UE e g r s t).map (fun a=>(Sum.inl (a.1,a.2)))) (fun b=>some ((fun a=>(Sum.inr a)) b)))
def IY:Option (Int):=ai (fun(a:Int×Int)=>((zA e g r a.1 a.2).map (Sum.elim (fun b=>Sum.inl (b.1,b.2)) (fun b=>Sum.inr b)))) LL (0,0)
def UF:=(IY e g r).map (fun a=>a)
def UG:=(IU).bind (fun a=>UF e g r)
def IZ:Option (Int):=cond (decide (d<0)) (some r) (cond (decide (r<d)) (some r) (some d))
def UH:=(UG e g s).bind (fun a=>IZ r a)
def UI:=(IT).bind (fun a=>UH e g r s)
def UJ:=(UI e g r s).map (fun a=>a)
def I0:Option (Int):=some (wrap .i64 (d+1))
def UK:=(UJ e g r s).bind (fun a=>(I0 s).map (fun b=>(a,b)))
def zB:=(zy e r s).bind (Sum.elim (fun a=>(UK e g r s).map (fun a=>(Sum.inl (a.1,a.2)))) (fun b=>some ((fun a=>(Sum.inr a)) b)))
def UL:Option (Int):=ai (fun(a:Int×Int)=>((zB e g a.1 a.2).map (Sum.elim (fun b=>Sum.inl (b.1,b.2)) (fun b=>Sum.inr b)))) LL ((-1),0)
def UM:=(UL e g).map (fun a=>a)
def UN:=(IS).bind (fun a=>UM e g)
def I1:Option (Int):=some d
def UO:=(UN e g).bind (fun a=>I1 a)
def zC:=(IR).bind (fun a=>UO e g)
@[irreducible] def zD:=zC e g
def I2:Option (Int⊕Int):=(di e).bind fun a=>cond (!a) (some (Sum.inr (-1))) (some (Sum.inl (wrap .i64 ((e.length:Int)-1))))
def I3:Option (Unit):=some ()
def tI:Option ((Int×Int)⊕Int):=cond (decide (s<=(e.length:Int))) ((idx e (wrap .i64 (s-1))).bind fun a=>(zx e s).bind fun b=>(zD b (a==0)).bind fun c=>some (Sum.inl ((wrap .i64 (r+c)),(wrap .i64 (s+1))))) (some (Sum.inr r))
def UP:Option (Int):=ai (fun(a:Int×Int)=>((tI e a.1 a.2).map (Sum.elim (fun b=>Sum.inl (b.1,b.2)) (fun b=>Sum.inr b)))) LL (r,1)
def UQ:=(UP e r).map (fun a=>a)
def UR:=(I3).bind (fun a=>UQ e r)
def US:Option (Int):=some d
def UT:=(UR e r).bind (fun a=>US a)
def zE:=(I2 e).bind (Sum.elim (fun a=>UT e a) (fun b=>some ((fun a=>a) b)))
@[irreducible] def zF:=zE e
def I4:Option (Unit):=some ()
def I5:Option (Unit):=some ()
def tJ:Option (Unit⊕((List Int))):=cond (decide (r<(e.length:Int))) ((di e).bind fun a=>cond a (some (Sum.inl ())) (some (Sum.inr y))) (some (Sum.inr y))
def I6:Option (Int):=(idx e r).bind fun a=>cond (decide (a>0)) (some 1) (some 0)
def I7:Option (Unit):=some ()
def tK:Option ((Int×Int)⊕Int):=cond (decide (t<(e.length:Int))) ((idx e t).bind fun a=>cond (a==(wrap .i64 (r+1))) (some (Sum.inl ((wrap .i64 (s+1)),(wrap .i64 (t+1))))) (some (Sum.inl (s,(wrap .i64 (t+1)))))) (some (Sum.inr s))
def zG:Option (Int):=ai (fun(a:Int×Int)=>((tK e r a.1 a.2).map (Sum.elim (fun b=>Sum.inl (b.1,b.2)) (fun b=>Sum.inr b)))) LL (s,0)
def UU:=(zG e r s).map (fun a=>a)
def UV:=(I7).bind (fun a=>UU e r s)
def zH:Option (((List Int))):=(room ((List.length e)+List.length ([d]))).bind fun a=>some (e++([d]))
def UW:=(UV e r s).bind (fun a=>zH a y)
def UX:=(I6 e r).bind (fun a=>UW e r a y)
def UY:=(UX e r y).map (fun a=>a)
def I8:Option (Int):=some (wrap .i64 (d+1))
def UZ:=(UY e r y).bind (fun a=>(I8 r).map (fun b=>(b,a)))
def pZ:=(tJ e r y).bind (Sum.elim (fun a=>(UZ e r y).map (fun a=>(Sum.inl (a.1,a.2)))) (fun b=>some ((fun a=>(Sum.inr a)) b)))
def U0:Option (((List Int))):=ai (fun(a:Int×(List Int))=>((pZ e a.1 a.2).map (Sum.elim (fun b=>Sum.inl (b.1,b.2)) (fun b=>Sum.inr b)))) LL (0,([]:List Int))
def U1:=(U0 e).map (fun a=>a)
def U2:=(I5).bind (fun a=>U1 e)
def I9:Option (((List Int))):=some e
def U3:=(U2 e).bind (fun a=>I9 a)
def zI:=(I4).bind (fun a=>U3 e)
@[irreducible] def zJ:=zI e
def Ja:Option ((Int×(List Int))⊕Int):=(di e).bind fun a=>cond (!a) (some (Sum.inr (-1))) ((quo .i64 (wrap .i64 ((wrap .i64 ((e.length:Int)-1))*(wrap .i64 ((e.length:Int)-2)))) 2).bind fun b=>(zJ e).bind fun c=>some (Sum.inl (b,c)))
def Jb:Option (Unit):=some ()
def tL:Option ((Int×Int)⊕Int):=cond (decide (r<(y.length:Int))) ((al r (List.length y)).bind fun a=>(y[a]?).bind fun b=>(al r (List.length y)).bind fun c=>(y[c]?).bind fun e=>(quo .i64 (wrap .i64 (b*(wrap .i64 (e-1)))) 2).bind fun f=>some (Sum.inl ((wrap .i64 (d-f)),(wrap .i64 (r+1))))) (some (Sum.inr d))
def U4:Option (Int):=ai (fun(a:Int×Int)=>((tL a.1 a.2 e).map (Sum.elim (fun b=>Sum.inl (b.1,b.2)) (fun b=>Sum.inr b)))) LL (d,0)
def U5:=(U4 d e).map (fun a=>a)
def U6:=(Jb).bind (fun a=>U5 d e)
def Jc:Option (Int):=some d
def U7:=(U6 d e).bind (fun a=>Jc a)
def zK:=(Ja e).bind (Sum.elim (fun a=>U7 a.1 a.2) (fun b=>some ((fun a=>a) b)))
@[irreducible] def zL:=zK e
def U8:Option (Unit):=some ()
def U9:Option (Int⊕Int):=(rem d 2).bind fun a=>cond (a==0) ((quo .i64 d 2).bind fun b=>some (Sum.inl b)) (some (Sum.inr d))
def afS:=ai (fun(a:Int)=>((U9 a).map (Sum.elim (fun b=>Sum.inl b) (fun b=>Sum.inr b)))) LL d
def afT:=(afS d).map (fun a=>a)
def Va:Option (Bool):=some ((dO .i64 d (wrap .i64 (d+1)))==0)
def afU:=(afT d).bind (fun a=>Va a)
def Vb:=(U8).bind (fun a=>afU d)
@[irreducible] def Jd:=Vb d
def Je:Option (Unit):=some ()
def Jf:Option (Unit):=some ()
def lY:Option (Int⊕Bool⊕Unit):=cond (decide (r<=(e.length:Int))) ((di e).bind fun a=>cond a ((hO e r).bind fun b=>(Jd b).bind fun c=>cond (!c) (some (Sum.inr (Sum.inl false))) (some (Sum.inl (wrap .i64 (r+1))))) (some (Sum.inr (Sum.inr ())))) (some (Sum.inr (Sum.inr ())))
def Vc:Option (Bool⊕Unit):=ai (fun(a:Int)=>((lY e a).map (Sum.elim (fun b=>Sum.inl b) (Sum.elim (fun b=>Sum.inr (Sum.inl b)) (fun b=>Sum.inr (Sum.inr b)))))) LL 1
def Vd:=(Vc e).map (Sum.elim (fun a=>(Sum.inr a)) (fun a=>(Sum.inl ())))
def Ve:=(Jf).bind (fun a=>Vd e)
def Jg:Option (Bool):=(di e).bind fun a=>some a
def Vf:=(Ve e).bind (Sum.elim (fun a=>Jg e) (fun b=>some ((fun a=>a) b)))
def zM:=(Je).bind (fun a=>Vf e)
@[irreducible] def nI:=zM e
def tM:Option (ByteArray):=cond a (some (ByteArray.mk #[121,101,115])) (some (ByteArray.mk #[110,111]))
@[irreducible] def zN:=tM a
def Jh:Option (Unit):=some ()
def Ji:Option (Unit):=some ()
def zO:Option ((Int×Int×Int)⊕Int):=cond (decide (w<8)) ((shr .i64 d w).bind fun a=>(rem a 2).bind fun b=>(shr .i64 r w).bind fun c=>(rem c 2).bind fun e=>cond (decide ((wrap .i64 (b+(wrap .i64 (2*e))))>0)) (cond ((wrap .i64 (b+(wrap .i64 (2*e)))) !=s) (some (Sum.inl ((wrap .i64 (b+(wrap .i64 (2*e)))),(wrap .i64 (t+1)),(wrap .i64 (w+1))))) (some (Sum.inl (s,t,(wrap .i64 (w+1)))))) (some (Sum.inl (s,t,(wrap .i64 (w+1)))))) (some (Sum.inr t))
def Vg:Option (Int):=ai (fun(a:Int×Int×Int)=>((zO d r a.1 a.2.1 a.2.2).map (Sum.elim (fun b=>Sum.inl (b.1,b.2.1,b.2.2)) (fun b=>Sum.inr b)))) LL (0,0,0)
def Vh:=(Vg d r).map (fun a=>a)
def Vi:=(Ji).bind (fun a=>Vh d r)
def Jj:Option (Bool):=some (decide (d>=4))
def Vj:=(Vi d r).bind (fun a=>Jj a)
def zP:=(Jh).bind (fun a=>Vj d r)
@[irreducible] def zQ:=zP d r
def tN:Option (Bool):=(di e).bind fun a=>cond (!a) (some false) ((gh r 1 (e.length:Int)).bind fun b=>cond (!b) (some false) ((gh s 1 (e.length:Int)).bind fun c=>cond (!c) (some false) ((hO e r).bind fun d=>(hO e s).bind fun f=>cond ((dO .i64 d f)==0) ((zQ d f).bind fun g=>some g) (some false))))
@[irreducible] def zR:=tN e r s
def Jk:Option (Unit):=some ()
def Jl:Option (Unit):=some ()
def tO:Option (Unit⊕Unit):=cond (decide (r<=(e.length:Int))) (some (Sum.inl ())) (some (Sum.inr ()))
def zS:Option (Unit):=some ()
def p3:Option (Int⊕Bool⊕Unit):=cond (decide (s<r)) ((zR e r s).bind fun a=>cond a (some (Sum.inr (Sum.inl false))) (some (Sum.inl (wrap .i64 (s+1))))) (some (Sum.inr (Sum.inr ())))
def Jm:Option (Bool⊕Unit):=ai (fun(a:Int)=>((p3 e r a).map (Sum.elim (fun b=>Sum.inl b) (Sum.elim (fun b=>Sum.inr (Sum.inl b)) (fun b=>Sum.inr (Sum.inr b)))))) LL 1
def Jn:=(Jm e r).map (Sum.elim (fun a=>(Sum.inr a)) (fun a=>(Sum.inl ())))
def Jo:=(zS).bind (fun a=>Jn e r)
def Jp:=(Jo e r).map (Sum.elim (fun a=>(Sum.inl ())) (fun a=>(Sum.inr a)))
def Jq:Option (Int):=some (wrap .i64 (d+1))
def Jr:=(Jp e r).bind (Sum.elim (fun a=>(Jq r).map (fun a=>(Sum.inl a))) (fun b=>some ((fun a=>(Sum.inr a)) b)))
def tP:=(tO e r).bind (Sum.elim (fun a=>(Jr e r).map (Sum.elim (fun a=>(Sum.inl a)) (fun a=>(Sum.inr (Sum.inl a))))) (fun b=>some ((fun a=>(Sum.inr (Sum.inr a))) b)))
def Vk:Option (Bool⊕Unit):=ai (fun(a:Int)=>((tP e a).map (Sum.elim (fun b=>Sum.inl b) (Sum.elim (fun b=>Sum.inr (Sum.inl b)) (fun b=>Sum.inr (Sum.inr b)))))) LL 1
def Vl:=(Vk e).map (Sum.elim (fun a=>(Sum.inr a)) (fun a=>(Sum.inl ())))
def Vm:=(Jl).bind (fun a=>Vl e)
def Js:Option (Bool):=(di e).bind fun a=>some a
def Vn:=(Vm e).bind (Sum.elim (fun a=>Js e) (fun b=>some ((fun a=>a) b)))
def zT:=(Jk).bind (fun a=>Vn e)
@[irreducible] def zU:=zT e
def Jt:Option (Unit):=some ()
def Ju:Option (Unit):=some ()
def p4:Option (Int⊕Bool⊕Unit):=cond (decide (H<(e.length:Int))) ((idx e H).bind fun a=>cond (a==r) ((idx G H).bind fun b=>cond (!b) (some (Sum.inr (Sum.inl false))) (some (Sum.inl (wrap .i64 (H+1))))) (some (Sum.inl (wrap .i64 (H+1))))) (some (Sum.inr (Sum.inr ())))
def Vo:Option (Bool⊕Unit):=ai (fun(a:Int)=>((p4 e r G a).map (Sum.elim (fun b=>Sum.inl b) (Sum.elim (fun b=>Sum.inr (Sum.inl b)) (fun b=>Sum.inr (Sum.inr b)))))) LL 0
def Vp:=(Vo e r G).map (Sum.elim (fun a=>(Sum.inr a)) (fun a=>(Sum.inl ())))
def Vq:=(Ju).bind (fun a=>Vp e r G)
def Jv:Option (Bool):=some true
def Vr:=(Vq e r G).bind (Sum.elim (fun a=>Jv) (fun b=>some ((fun a=>a) b)))
def zV:=(Jt).bind (fun a=>Vr e r G)
@[irreducible] def lZ:=zV e r G
def zW:Option (((List Bool))⊕(ByteArray×Bool)):=(nI e).bind fun a=>cond (!a) (some (Sum.inr (empty,false))) ((mk (e.length:Int) (e.length:Int)).bind fun b=>some (Sum.inl (replicate b false)))
def tQ:Option (Unit⊕ByteArray):=cond (decide (r<=(e.length:Int))) (some (Sum.inl ())) (cond (decide ((y.length:Int)>1)) (some (Sum.inl ())) (some (Sum.inr i)))
def zX:Option ((ByteArray×Int×(List Bool)×(List Int))):=cond (decide ((wrap .i64 ((I.length:Int)-1))>=1)) ((al (wrap .i64 ((wrap .i64 ((I.length:Int)-1))-1)) (List.length I)).bind fun a=>(I[a]?).bind fun b=>(idx e (wrap .i64 (b-1))).bind fun c=>(al (wrap .i64 ((I.length:Int)-1)) (List.length I)).bind fun d=>(I[d]?).bind fun f=>cond (c==f) ((al (wrap .i64 ((wrap .i64 ((I.length:Int)-1))-1)) (List.length I)).bind fun g=>(I[g]?).bind fun h=>(lZ e h G).bind fun j=>cond j ((cat i (ByteArray.mk #[76])).bind fun k=>(al (wrap .i64 ((wrap .i64 ((I.length:Int)-1))-1)) (List.length I)).bind fun l=>(I[l]?).bind fun m=>(al (wrap .i64 (m-1)) (List.length G)).bind fun n=>(inc (wrap .i64 ((wrap .i64 ((I.length:Int)-1))-1)) (List.length I)).bind fun o=>(al (wrap .i64 ((I.length:Int)-1)) (List.length I)).bind fun p=>(I[p]?).bind fun q=>(room (List.length ((I.drop 0).take (o-0)))).bind fun s=>(room ((List.length ((I.drop 0).take (o-0)))+List.length ([q]))).bind fun t=>some (k,r,(G.set n true),(((I.drop 0).take (o-0))++([q])))) (cond (decide ((wrap .i64 ((I.length:Int)-1))>=1)) ((al (wrap .i64 ((I.length:Int)-1)) (List.length I)).bind fun u=>(I[u]?).bind fun v=>(idx e (wrap .i64 (v-1))).bind fun w=>(al (wrap .i64 ((wrap .i64 ((I.length:Int)-1))-1)) (List.length I)).bind fun x=>(I[x]?).bind fun y=>cond (w==y) ((al (wrap .i64 ((I.length:Int)-1)) (List.length I)).bind fun z=>(I[z]?).bind fun A=>(lZ e A G).bind fun B=>cond B ((cat i (ByteArray.mk #[82])).bind fun C=>(al (wrap .i64 ((I.length:Int)-1)) (List.length I)).bind fun D=>(I[D]?).bind fun E=>(al (wrap .i64 (E-1)) (List.length G)).bind fun F=>(inc (wrap .i64 ((I.length:Int)-1)) (List.length I)).bind fun H=>(room ((List.length ([]:List Int))+List.length ((I.drop 0).take (H-0)))).bind fun J=>some (C,r,(G.set F true),(([]:List Int)++((I.drop 0).take (H-0))))) ((cat i (ByteArray.mk #[83])).bind fun K=>(room ((List.length I)+List.length ([r]))).bind fun L=>some (K,(wrap .i64 (r+1)),G,(I++([r]))))) ((cat i (ByteArray.mk #[83])).bind fun M=>(room ((List.length I)+List.length ([r]))).bind fun N=>some (M,(wrap .i64 (r+1)),G,(I++([r]))))) ((cat i (ByteArray.mk #[83])).bind fun O=>(room ((List.length I)+List.length ([r]))).bind fun P=>some (O,(wrap .i64 (r+1)),G,(I++([r])))))) (cond (decide ((wrap .i64 ((I.length:Int)-1))>=1)) ((al (wrap .i64 ((I.length:Int)-1)) (List.length I)).bind fun Q=>(I[Q]?).bind fun R=>(idx e (wrap .i64 (R-1))).bind fun V=>(al (wrap .i64 ((wrap .i64 ((I.length:Int)-1))-1)) (List.length I)).bind fun T=>(I[T]?).bind fun W=>cond (V==W) ((al (wrap .i64 ((I.length:Int)-1)) (List.length I)).bind fun Y=>(I[Y]?).bind fun Z=>(lZ e Z G).bind fun X=>cond X ((cat i (ByteArray.mk #[82])).bind fun a0=>(al (wrap .i64 ((I.length:Int)-1)) (List.length I)).bind fun a1=>(I[a1]?).bind fun a2=>(al (wrap .i64 (a2-1)) (List.length G)).bind fun a3=>(inc (wrap .i64 ((I.length:Int)-1)) (List.length I)).bind fun S=>(room ((List.length ([]:List Int))+List.length ((I.drop 0).take (S-0)))).bind fun c2=>some (a0,r,(G.set a3 true),(([]:List Int)++((I.drop 0).take (S-0))))) ((cat i (ByteArray.mk #[83])).bind fun a4=>(room ((List.length I)+List.length ([r]))).bind fun c3=>some (a4,(wrap .i64 (r+1)),G,(I++([r]))))) ((cat i (ByteArray.mk #[83])).bind fun a5=>(room ((List.length I)+List.length ([r]))).bind fun c4=>some (a5,(wrap .i64 (r+1)),G,(I++([r]))))) ((cat i (ByteArray.mk #[83])).bind fun a6=>(room ((List.length I)+List.length ([r]))).bind fun c5=>some (a6,(wrap .i64 (r+1)),G,(I++([r])))))) (cond (decide ((wrap .i64 ((I.length:Int)-1))>=1)) ((al (wrap .i64 ((I.length:Int)-1)) (List.length I)).bind fun a7=>(I[a7]?).bind fun a8=>(idx e (wrap .i64 (a8-1))).bind fun a9=>(al (wrap .i64 ((wrap .i64 ((I.length:Int)-1))-1)) (List.length I)).bind fun b0=>(I[b0]?).bind fun b1=>cond (a9==b1) ((al (wrap .i64 ((I.length:Int)-1)) (List.length I)).bind fun b2=>(I[b2]?).bind fun b3=>(lZ e b3 G).bind fun b4=>cond b4 ((cat i (ByteArray.mk #[82])).bind fun b5=>(al (wrap .i64 ((I.length:Int)-1)) (List.length I)).bind fun b6=>(I[b6]?).bind fun b7=>(al (wrap .i64 (b7-1)) (List.length G)).bind fun b8=>(inc (wrap .i64 ((I.length:Int)-1)) (List.length I)).bind fun U=>(room ((List.length ([]:List Int))+List.length ((I.drop 0).take (U-0)))).bind fun c6=>some (b5,r,(G.set b8 true),(([]:List Int)++((I.drop 0).take (U-0))))) ((cat i (ByteArray.mk #[83])).bind fun b9=>(room ((List.length I)+List.length ([r]))).bind fun c7=>some (b9,(wrap .i64 (r+1)),G,(I++([r]))))) ((cat i (ByteArray.mk #[83])).bind fun c0=>(room ((List.length I)+List.length ([r]))).bind fun c8=>some (c0,(wrap .i64 (r+1)),G,(I++([r]))))) ((cat i (ByteArray.mk #[83])).bind fun c1=>(room ((List.length I)+List.length ([r]))).bind fun c9=>some (c1,(wrap .i64 (r+1)),G,(I++([r])))))
def zY:=(tQ e i r I).bind (Sum.elim (fun a=>(zX e i r G I).map (fun a=>(Sum.inl (a.1,a.2.1,a.2.2.1,a.2.2.2)))) (fun b=>some ((fun a=>(Sum.inr a)) b)))
def Vs:Option (ByteArray):=ai (fun(a:ByteArray×Int×(List Bool)×(List Int))=>((zY e a.1 a.2.1 a.2.2.1 a.2.2.2).map (Sum.elim (fun b=>Sum.inl (b.1,b.2.1,b.2.2.1,b.2.2.2)) (fun b=>Sum.inr b)))) LL (empty,1,G,([]:List Int))
def Vt:=(Vs e G).map (fun a=>a)
def Jw:Option ((ByteArray×Bool)):=some (b,true)
def Vu:=(Vt e G).bind (fun a=>Jw a)
def tR:=(zW e).bind (Sum.elim (fun a=>Vu e a) (fun b=>some ((fun a=>a) b)))
@[irreducible] def jw:=tR e
def Jx:Option (Int⊕ByteArray):=cond (decide ((wrap .i64 ((y.length:Int)-1))<0)) (some (Sum.inr (ByteArray.mk #[83]))) ((idx y (wrap .i64 ((y.length:Int)-1))).bind fun a=>(idx e (wrap .i64 (a-1))).bind fun b=>cond (b==F) (some (Sum.inr (ByteArray.mk #[76]))) ((idx e (wrap .i64 (F-1))).bind fun c=>cond (c==a) (some (Sum.inr (ByteArray.mk #[82]))) (some (Sum.inl (wrap .i64 ((y.length:Int)-1))))))
def Jy:Option (Unit):=some ()
def p5:Option (Int⊕ByteArray⊕Unit):=cond (decide (K<H)) ((idx e (wrap .i64 (F-1))).bind fun a=>(idx y K).bind fun b=>cond (a==b) (some (Sum.inr (Sum.inl (ByteArray.mk #[68])))) ((idx y K).bind fun c=>(idx e (wrap .i64 (c-1))).bind fun d=>cond (d==F) (some (Sum.inr (Sum.inl (ByteArray.mk #[68])))) (some (Sum.inl (wrap .i64 (K+1)))))) (some (Sum.inr (Sum.inr ())))
def Vv:Option (ByteArray⊕Unit):=ai (fun(a:Int)=>((p5 e y F H a).map (Sum.elim (fun b=>Sum.inl b) (Sum.elim (fun b=>Sum.inr (Sum.inl b)) (fun b=>Sum.inr (Sum.inr b)))))) LL 0
def Vw:=(Vv e y F H).map (Sum.elim (fun a=>(Sum.inr a)) (fun a=>(Sum.inl ())))
def Vx:=(Jy).bind (fun a=>Vw e y F H)
def Vy:Option (ByteArray):=some (ByteArray.mk #[83])
def Vz:=(Vx e y F H).bind (Sum.elim (fun a=>Vy) (fun b=>some ((fun a=>a) b)))
def zZ:=(Jx e y F).bind (Sum.elim (fun a=>Vz e y F a) (fun b=>some ((fun a=>a) b)))
@[irreducible] def z1:=zZ e y F
def Jz:Option (Int):=some (wrap .i64 ((e.length:Int)-1))
def JA:Option (Bool):=cond (r==83) (some (decide (d<=(y.length:Int)))) (some false)
def JB:Option (((List Int)×Int×Bool×(List Int))):=(room ((List.length ([]:List Int))+List.length e)).bind fun a=>(room ((List.length (([]:List Int)++e))+List.length ([r]))).bind fun b=>some (((([]:List Int)++e)++([r])),(wrap .i64 (r+1)),true,y)
def JC:Option (Bool):=cond (s==76) (cond (decide (r<=(y.length:Int))) (cond (decide (t>=0)) ((idx e t).bind fun a=>(al (wrap .i64 (a-1)) (List.length y)).bind fun b=>(y[b]?).bind fun c=>some (decide (c<0))) (some false)) (some false)) (some false)
def JD:Option (Unit⊕((List Int)×Int×Bool×(List Int))):=cond B ((idx e t).bind fun a=>(al (wrap .i64 (a-1)) (List.length I)).bind fun b=>(inc t (List.length e)).bind fun c=>(room ((List.length ([]:List Int))+List.length ((e.take c).drop 0))).bind fun d=>some (Sum.inr ((([]:List Int)++((e.take c).drop 0)),r,true,(I.set b r)))) (cond (s==82) (cond (decide (r<=(I.length:Int))) (cond (decide (t>=0)) ((idx e t).bind fun f=>(al (wrap .i64 (r-1)) (List.length I)).bind fun g=>(room ((List.length ([]:List Int))+List.length e)).bind fun h=>(room ((List.length (([]:List Int)++e))+List.length ([r]))).bind fun i=>some (Sum.inr (((([]:List Int)++e)++([r])),(wrap .i64 (r+1)),true,(I.set g f)))) (cond (s==68) (cond (decide (t>=0)) ((idx e t).bind fun j=>(al (wrap .i64 (j-1)) (List.length I)).bind fun k=>(I[k]?).bind fun l=>cond (decide (l>0)) ((inc t (List.length e)).bind fun m=>(room ((List.length ([]:List Int))+List.length ((e.take m).drop 0))).bind fun n=>some (Sum.inr ((([]:List Int)++((e.take m).drop 0)),r,true,I))) (some (Sum.inl ()))) (some (Sum.inl ()))) (some (Sum.inl ())))) (cond (s==68) (cond (decide (t>=0)) ((idx e t).bind fun o=>(al (wrap .i64 (o-1)) (List.length I)).bind fun p=>(I[p]?).bind fun q=>cond (decide (q>0)) ((inc t (List.length e)).bind fun u=>(room ((List.length ([]:List Int))+List.length ((e.take u).drop 0))).bind fun v=>some (Sum.inr ((([]:List Int)++((e.take u).drop 0)),r,true,I))) (some (Sum.inl ()))) (some (Sum.inl ()))) (some (Sum.inl ())))) (cond (s==68) (cond (decide (t>=0)) ((idx e t).bind fun w=>(al (wrap .i64 (w-1)) (List.length I)).bind fun x=>(I[x]?).bind fun y=>cond (decide (y>0)) ((inc t (List.length e)).bind fun z=>(room ((List.length ([]:List Int))+List.length ((e.take z).drop 0))).bind fun A=>some (Sum.inr ((([]:List Int)++((e.take z).drop 0)),r,true,I))) (some (Sum.inl ()))) (some (Sum.inl ()))) (some (Sum.inl ()))))
def VA:=(JC e r s t y).bind (fun a=>JD e r s t a y)
def VB:Option (Unit⊕((List Int)×Int×Bool×(List Int))):=cond B ((JB e r I).map (fun a=>(Sum.inr a))) (VA e r s t I)
def VC:=(JA r s y).bind (fun a=>VB e r s t a y)
def VD:=(VC e r s t y).map (Sum.elim (fun a=>(Sum.inl ())) (fun a=>(Sum.inr a)))
def JE:Option (((List Int)×Int×Bool×(List Int))):=some (e,r,false,y)
def VE:=(VD e r s t y).bind (Sum.elim (fun a=>JE e r y) (fun b=>some ((fun a=>a) b)))
def JF:=(Jz e).bind (fun a=>VE e r s a y)
@[irreducible] def JG:=JF e r s y
def z6:Option (Unit⊕(ByteArray×Bool)):=(nI e).bind fun a=>cond (!a) (some (Sum.inr (empty,false))) (some (Sum.inl ()))
def JH:Option (Unit):=some ()
def tS:Option ((Int×(List Int))⊕((List Int))):=cond (decide (r<(e.length:Int))) ((room ((List.length y)+List.length ([(-1)]))).bind fun a=>some (Sum.inl ((wrap .i64 (r+1)),(y++([(-1)]))))) (some (Sum.inr y))
def VF:Option (((List Int))):=ai (fun(a:Int×(List Int))=>((tS e a.1 a.2).map (Sum.elim (fun b=>Sum.inl (b.1,b.2)) (fun b=>Sum.inr b)))) LL (0,([]:List Int))
def VG:=(VF e).map (fun a=>a)
def VH:=(JH).bind (fun a=>VG e)
def JI:Option (Unit):=some ()
def tT:Option (((List Int)×ByteArray×Int×(List Int))⊕(ByteArray×Bool)⊕ByteArray):=cond (decide (F<=(e.length:Int))) ((z1 e y F).bind fun a=>(hE a 0).bind fun b=>(JG y F b I).bind fun c=>cond (!(c.2.2.1)) (some (Sum.inr (Sum.inl (empty,false)))) ((cat C a).bind fun d=>some (Sum.inl ((c.1),d,(c.2.1),(c.2.2.2))))) (some (Sum.inr (Sum.inr C)))
def VI:Option ((ByteArray×Bool)⊕ByteArray):=ai (fun(a:(List Int)×ByteArray×Int×(List Int))=>((tT e a.1 a.2.1 a.2.2.1 a.2.2.2).map (Sum.elim (fun b=>Sum.inl (b.1,b.2.1,b.2.2.1,b.2.2.2)) (Sum.elim (fun b=>Sum.inr (Sum.inl b)) (fun b=>Sum.inr (Sum.inr b)))))) LL (([]:List Int),empty,1,y)
def VJ:=(VI e y).map (Sum.elim (fun a=>(Sum.inr a)) (fun a=>(Sum.inl a)))
def JJ:Option ((ByteArray×Bool)):=some (b,true)
def VK:=(VJ e y).bind (Sum.elim (fun a=>JJ a) (fun b=>some ((fun a=>a) b)))
def VL:=(JI).bind (fun a=>VK e y)
def VM:=(VH e).bind (fun a=>VL e a)
def tU:=(z6 e).bind (Sum.elim (fun a=>VM e) (fun b=>some ((fun a=>a) b)))
@[irreducible] def jx:=tU e
def VN (R0 R1:Int->Option Int) (a:Int):Option (Unit⊕Int):=cond (a==0) (some (Sum.inr 1)) (some (Sum.inl ()))
def VO (R0 R1:Int->Option Int):Option (Unit):=some ()
def VP (R0 R1:Int->Option Int) (a b c:Int):Option ((Int×Int)⊕Int):=cond (decide (c<=a)) ((R1 c).bind fun d=>(R0 (wrap .i64 (a-c))).bind fun e=>some (Sum.inl ((wrap .i64 (b+(wrap .i64 (d*e)))),(wrap .i64 (c+1))))) (some (Sum.inr b))
def afV (R0 R1:Int->Option Int) (a:Int):Option (Int):=ai (fun(b:Int×Int)=>((VP R0 R1 a b.1 b.2).map (Sum.elim (fun c=>Sum.inl (c.1,c.2)) (fun c=>Sum.inr c)))) LL (0,1)
def afW (R0 R1:Int->Option Int) (a:Int):=(afV R0 R1 a).map (fun b=>b)
def afX (R0 R1:Int->Option Int) (a:Int):=(VO R0 R1).bind (fun b=>afW R0 R1 a)
def VQ (R0 R1:Int->Option Int) (a:Int):Option (Int):=some a
def afY (R0 R1:Int->Option Int) (a:Int):=(afX R0 R1 a).bind (fun b=>VQ R0 R1 b)
def VR (R0 R1:Int->Option Int) (a:Int):=(VN R0 R1 a).bind (Sum.elim (fun b=>afY R0 R1 a) (fun c=>some ((fun b=>b) c)))
def afZ (R0 R1:Int->Option Int) (a:Int):Option (Int):=VR R0 R1 a
def VS (R0 R1:Int->Option Int):Option (Unit):=some ()
def VT (R0 R1:Int->Option Int):Option (Unit):=some ()
def VU (R0 R1:Int->Option Int) (a b c:Int):Option ((Int×Int)⊕Int):=cond (decide (c<a)) ((R0 c).bind fun d=>(R0 (wrap .i64 ((wrap .i64 (a-1))-c))).bind fun e=>some (Sum.inl ((wrap .i64 (b+(wrap .i64 (d*e)))),(wrap .i64 (c+1))))) (some (Sum.inr b))
def af0 (R0 R1:Int->Option Int) (a:Int):Option (Int):=ai (fun(b:Int×Int)=>((VU R0 R1 a b.1 b.2).map (Sum.elim (fun c=>Sum.inl (c.1,c.2)) (fun c=>Sum.inr c)))) LL (0,0)
def af1 (R0 R1:Int->Option Int) (a:Int):=(af0 R0 R1 a).map (fun b=>b)
def af2 (R0 R1:Int->Option Int) (a:Int):=(VT R0 R1).bind (fun b=>af1 R0 R1 a)
def VV (R0 R1:Int->Option Int) (a:Int):Option (Int):=some a
def af3 (R0 R1:Int->Option Int) (a:Int):=(af2 R0 R1 a).bind (fun b=>VV R0 R1 b)
def VW (R0 R1:Int->Option Int) (a:Int):=(VS R0 R1).bind (fun b=>af3 R0 R1 a)
def af4 (R0 R1:Int->Option Int) (a:Int):Option (Int):=VW R0 R1 a
def ma:Nat->(Int->Option Int)×(Int->Option Int)
 |0=>((fun _=>none),(fun _=>none))
 |n+1=>((fun Q=>afZ (ma n).1 (ma n).2 Q),(fun Q=>af4 (ma n).1 (ma n).2 Q))
def p6 (n:Nat):Int->Option Int:=(ma n).1
@[irreducible] def mb:=p6 RR d
def p7 (n:Nat):Int->Option Int:=(ma n).2
@[irreducible] def z7:=p7 RR d
def VX (R0 R1:(List Int)->Int->Int->Int->Option Int):Option (Unit):=some ()
def VY (R0 R1:(List Int)->Int->Int->Int->Option Int):Option (Unit):=some ()
def JK (R0 R1:(List Int)->Int->Int->Int->Option Int) (a b c d e:Int):Option ((Int×Int)⊕Int):=cond (decide (e<c)) ((mb (wrap .i64 (e-a))).bind fun f=>(mb (wrap .i64 (b-e))).bind fun g=>some (Sum.inl ((wrap .i64 (d+(wrap .i64 (f*g)))),(wrap .i64 (e+1))))) (some (Sum.inr d))
def VZ (R0 R1:(List Int)->Int->Int->Int->Option Int) (a b c:Int):Option (Int):=ai (fun(d:Int×Int)=>((JK R0 R1 a b c d.1 d.2).map (Sum.elim (fun e=>Sum.inl (e.1,e.2)) (fun e=>Sum.inr e)))) LL (0,a)
def V0 (R0 R1:(List Int)->Int->Int->Int->Option Int) (a b c:Int):=(VZ R0 R1 a b c).map (fun d=>d)
def V1 (R0 R1:(List Int)->Int->Int->Int->Option Int) (a b c:Int):=(VY R0 R1).bind (fun d=>V0 R0 R1 a b c)
def JL (R0 R1:(List Int)->Int->Int->Int->Option Int) (a:List Int) (b c d e:Int):Option (Int):=(R1 a b (wrap .i64 (d-1)) d).bind fun f=>(mb (wrap .i64 (c-d))).bind fun g=>(R1 a (wrap .i64 (d+1)) c d).bind fun h=>some (wrap .i64 ((wrap .i64 (e+(wrap .i64 (f*g))))+h))
def V2 (R0 R1:(List Int)->Int->Int->Int->Option Int) (a:List Int) (b c d:Int):=(V1 R0 R1 b c d).bind (fun e=>JL R0 R1 a b c d e)
def JM (R0 R1:(List Int)->Int->Int->Int->Option Int) (a:List Int) (b c d:Int):=(VX R0 R1).bind (fun e=>V2 R0 R1 a b c d)
def z8 (R0 R1:(List Int)->Int->Int->Int->Option Int) (a:List Int) (b c d:Int):Option (Int):=JM R0 R1 a b c d
def V3 (R0 R1:(List Int)->Int->Int->Int->Option Int) (a b:Int):Option (Unit⊕Int):=cond (decide (a>b)) (some (Sum.inr 0)) (some (Sum.inl ()))
def V4 (R0 R1:(List Int)->Int->Int->Int->Option Int) (a:List Int) (b c:Int):Option (Int⊕Int):=(idx a (wrap .i64 (c-1))).bind fun d=>cond (d !=b) (some (Sum.inl (wrap .i64 (c+1)))) (some (Sum.inr c))
def af5 (R0 R1:(List Int)->Int->Int->Int->Option Int) (a:List Int) (b c:Int):=ai (fun(d:Int)=>((V4 R0 R1 a c d).map (Sum.elim (fun e=>Sum.inl e) (fun e=>Sum.inr e)))) LL b
def af6 (R0 R1:(List Int)->Int->Int->Int->Option Int) (a:List Int) (b c:Int):=(af5 R0 R1 a b c).map (fun d=>d)
def V5 (R0 R1:(List Int)->Int->Int->Int->Option Int):Option (Unit):=some ()
def V6 (R0 R1:(List Int)->Int->Int->Int->Option Int) (a:List Int) (b c d:Int):Option (Int⊕Int):=cond (decide (d<b)) ((hO a c).bind fun e=>(shr .i64 e d).bind fun f=>(rem f 2).bind fun g=>cond (g==1) (some (Sum.inl (wrap .i64 (d+1)))) (some (Sum.inr d))) (some (Sum.inr d))
def af7 (R0 R1:(List Int)->Int->Int->Int->Option Int) (a:List Int) (b c d:Int):=ai (fun(e:Int)=>((V6 R0 R1 a c d e).map (Sum.elim (fun f=>Sum.inl f) (fun f=>Sum.inr f)))) LL b
def af8 (R0 R1:(List Int)->Int->Int->Int->Option Int) (a:List Int) (b c d:Int):=(af7 R0 R1 a b c d).map (fun e=>e)
def V7 (R0 R1:(List Int)->Int->Int->Int->Option Int):Option (Unit):=some ()
def V8 (R0 R1:(List Int)->Int->Int->Int->Option Int):Option (Unit):=some ()
def JN (R0 R1:(List Int)->Int->Int->Int->Option Int) (a b c d e:Int):Option ((Int×Int)⊕Int):=cond (decide (e<c)) ((z7 (wrap .i64 ((wrap .i64 (e-a))+1))).bind fun f=>(mb (wrap .i64 (b-e))).bind fun g=>some (Sum.inl ((wrap .i64 (d+(wrap .i64 (f*g)))),(wrap .i64 (e+1))))) (some (Sum.inr d))
def V9 (R0 R1:(List Int)->Int->Int->Int->Option Int) (a b c:Int):Option (Int):=ai (fun(d:Int×Int)=>((JN R0 R1 a b c d.1 d.2).map (Sum.elim (fun e=>Sum.inl (e.1,e.2)) (fun e=>Sum.inr e)))) LL (0,a)
def Wa (R0 R1:(List Int)->Int->Int->Int->Option Int) (a b c:Int):=(V9 R0 R1 a b c).map (fun d=>d)
def Wb (R0 R1:(List Int)->Int->Int->Int->Option Int) (a b c:Int):=(V8 R0 R1).bind (fun d=>Wa R0 R1 a b c)
def JO (R0 R1:(List Int)->Int->Int->Int->Option Int) (a:List Int) (b c d e f g:Int):Option (Int):=(R0 a b f e).bind fun h=>(mb (wrap .i64 (c-f))).bind fun i=>(R1 a (wrap .i64 (f+1)) c d).bind fun j=>some (wrap .i64 ((wrap .i64 (g+(wrap .i64 (h*i))))+j))
def Wc (R0 R1:(List Int)->Int->Int->Int->Option Int) (a:List Int) (b c d e f:Int):=(Wb R0 R1 b c f).bind (fun g=>JO R0 R1 a b c d e f g)
def Wd (R0 R1:(List Int)->Int->Int->Int->Option Int) (a:List Int) (b c d e f:Int):=(V7 R0 R1).bind (fun g=>Wc R0 R1 a b c d e f)
def We (R0 R1:(List Int)->Int->Int->Int->Option Int) (a:List Int) (b c d e:Int):=(af8 R0 R1 a b c e).bind (fun f=>Wd R0 R1 a b c d e f)
def Wf (R0 R1:(List Int)->Int->Int->Int->Option Int) (a:List Int) (b c d e:Int):=(V5 R0 R1).bind (fun f=>We R0 R1 a b c d e)
def Wg (R0 R1:(List Int)->Int->Int->Int->Option Int) (a:List Int) (b c d:Int):=(af6 R0 R1 a b d).bind (fun e=>Wf R0 R1 a b c d e)
def JP (R0 R1:(List Int)->Int->Int->Int->Option Int) (a:List Int) (b c d:Int):=(V3 R0 R1 b c).bind (Sum.elim (fun e=>Wg R0 R1 a b c d) (fun f=>some ((fun e=>e) f)))
def Aa (R0 R1:(List Int)->Int->Int->Int->Option Int) (a:List Int) (b c d:Int):Option (Int):=JP R0 R1 a b c d
def hh:Nat->((List Int)->Int->Int->Int->Option Int)×((List Int)->Int->Int->Int->Option Int)
 |0=>((fun _ _ _ _=>none),(fun _ _ _ _=>none))
 |n+1=>((fun Q R S T=>z8 (hh n).1 (hh n).2 Q R S T),(fun Q R S T=>Aa (hh n).1 (hh n).2 Q R S T))
def p8 (n:Nat):(List Int)->Int->Int->Int->Option Int:=(hh n).1
@[irreducible] def tV:=p8 RR e r s t
def p9 (n:Nat):(List Int)->Int->Int->Int->Option Int:=(hh n).2
@[irreducible] def Wh:=p9 RR e r s t
def Ab:Option (Int):=(nI e).bind fun a=>cond (!a) (some (-1)) (cond (decide ((e.length:Int)>6)) (some (-1)) ((rN e).bind fun b=>(tV e 1 (e.length:Int) b).bind fun c=>some c))
@[irreducible] def JQ:=Ab e
def tW:Option (((List Int))):=(di e).bind fun a=>cond (!a) (some ([]:List Int)) ((gh r 1 (e.length:Int)).bind fun b=>cond (!b) (some ([]:List Int)) ((hO e r).bind fun c=>(zt c).bind fun d=>some d))
@[irreducible] def Ac:=tW e r
def JR:Option (((List Int)×(List (List Int)))⊕(ByteArray×(List Int)×(List (List Int)))):=(nw e z).bind fun a=>cond (!a) (some (Sum.inr (empty,([]:List Int),([]:List (List Int))))) ((rM e z).bind fun b=>(y8 C).bind fun c=>cond (c.1) ((rU e z (c.2.1) (c.2.2.1) (c.2.2.2)).bind fun d=>cond (!(d.1)) (some (Sum.inr ((ByteArray.mk #[110,111,116]),(d.2.1),(d.2.2)))) (some (Sum.inr ((ByteArray.mk #[111,107]),(d.2.1),(d.2.2))))) (some (Sum.inl ((b.1),(b.2)))))
def JS:Option (Unit):=some ()
def JT:Option (Bool):=some (aD b (ByteArray.mk #[104,101,97,100,115]))
def JU:Option ((ByteArray×(List Int)×(List (List Int)))):=(lW e).bind fun a=>some (a,y,z)
def JV:Option (Bool):=some (aD b (ByteArray.mk #[100,101,112,116,104,115]))
def JW:Option ((ByteArray×(List Int)×(List (List Int)))):=(Ie e).bind fun a=>(lW a).bind fun b=>some (b,y,z)
def JX:Option (Bool):=some (aD b (ByteArray.mk #[111,114,100,101,114]))
def JY:Option ((ByteArray×(List Int)×(List (List Int)))):=(rR e).bind fun a=>(lW a).bind fun b=>some (b,y,z)
def JZ:Option (Bool):=some (aD b (ByteArray.mk #[114,111,111,116]))
def J0:Option ((ByteArray×(List Int)×(List (List Int)))):=(rN e).bind fun a=>(cG a).bind fun b=>some (b,y,z)
def J1:Option (Bool):=some (aD b (ByteArray.mk #[99,114,111,115,115,105,110,103,115]))
def J2:Option ((ByteArray×(List Int)×(List (List Int)))):=(zh e).bind fun a=>(cG a).bind fun b=>some (b,y,z)
def J3:Option (Unit⊕(ByteArray×(List Int)×(List (List Int)))):=cond (aD b (ByteArray.mk #[103,97,112,115])) ((zk e).bind fun a=>(cG a).bind fun c=>some (Sum.inr (c,y,z))) (cond (aD b (ByteArray.mk #[101,120,99,104,97,110,103,101,115])) ((IF e).bind fun d=>(cG d).bind fun f=>some (Sum.inr (f,y,z))) (cond (aD b (ByteArray.mk #[108,101,110,103,116,104])) ((zr e).bind fun g=>(cG g).bind fun h=>some (Sum.inr (h,y,z))) (cond (aD b (ByteArray.mk #[108,101,97,115,116])) ((zF e).bind fun i=>(cG i).bind fun j=>some (Sum.inr (j,y,z))) (cond (aD b (ByteArray.mk #[97,112,97,114,116])) ((zL e).bind fun k=>(cG k).bind fun l=>some (Sum.inr (l,y,z))) (cond (aD b (ByteArray.mk #[112,114,111,106,101,99,116,105,118,101])) ((nI e).bind fun m=>(zN m).bind fun n=>some (Sum.inr (n,y,z))) (cond (aD b (ByteArray.mk #[110,101,115,116,101,100])) ((zU e).bind fun o=>(zN o).bind fun p=>some (Sum.inr (p,y,z))) (cond (aD b (ByteArray.mk #[109,111,118,101,115])) ((jw e).bind fun q=>cond (!(q.2)) (some (Sum.inr ((ByteArray.mk #[110,111,110,101]),y,z))) (some (Sum.inr ((q.1),y,z)))) (cond (aD b (ByteArray.mk #[101,97,103,101,114])) ((jx e).bind fun r=>cond (!(r.2)) (some (Sum.inr ((ByteArray.mk #[110,111,110,101]),y,z))) (some (Sum.inr ((r.1),y,z)))) (cond (aD b (ByteArray.mk #[112,108,97,99,101])) ((JQ e).bind fun s=>cond (decide (s<0)) (some (Sum.inr ((ByteArray.mk #[110,111,110,101]),y,z))) ((cG s).bind fun t=>some (Sum.inr (t,y,z)))) (some (Sum.inl ())))))))))))
def Wi:Option (Unit⊕(ByteArray×(List Int)×(List (List Int)))):=cond g ((J2 e y z).map (fun a=>(Sum.inr a))) (J3 b e y z)
def Wj:=(J1 b).bind (fun a=>Wi b e a y z)
def Wk:Option (Unit⊕(ByteArray×(List Int)×(List (List Int)))):=cond g ((J0 e y z).map (fun a=>(Sum.inr a))) (Wj b e y z)
def Wl:=(JZ b).bind (fun a=>Wk b e a y z)
def Wm:Option (Unit⊕(ByteArray×(List Int)×(List (List Int)))):=cond g ((JY e y z).map (fun a=>(Sum.inr a))) (Wl b e y z)
def Wn:=(JX b).bind (fun a=>Wm b e a y z)
def Wo:Option (Unit⊕(ByteArray×(List Int)×(List (List Int)))):=cond g ((JW e y z).map (fun a=>(Sum.inr a))) (Wn b e y z)
def Wp:=(JV b).bind (fun a=>Wo b e a y z)
def Wq:Option (Unit⊕(ByteArray×(List Int)×(List (List Int)))):=cond g ((JU e y z).map (fun a=>(Sum.inr a))) (Wp b e y z)
def Wr:=(JT b).bind (fun a=>Wq b e a y z)
def Ws:=(Wr b e y z).map (Sum.elim (fun a=>(Sum.inl ())) (fun a=>(Sum.inr a)))
def Wt:=(JS).bind (fun a=>Ws b e y z)
def Ad:Option ((ByteArray×(List Int)×(List (List Int)))):=(kD b 32).bind fun a=>cond ((a.length:Int) !=2) (some ((ByteArray.mk #[119,104,97,116]),y,z)) ((al 0 (List.length a)).bind fun c=>(a[c]?).bind fun d=>cond (!(aD d (ByteArray.mk #[121,105,101,108,100]))) (some ((ByteArray.mk #[119,104,97,116]),y,z)) ((al 1 (List.length a)).bind fun f=>(a[f]?).bind fun g=>(gN g).bind fun h=>cond (decide (h<0)) (some ((ByteArray.mk #[119,104,97,116]),y,z)) ((al 1 (List.length a)).bind fun i=>(a[i]?).bind fun j=>(gN j).bind fun k=>(Ac e k).bind fun l=>(lW l).bind fun m=>some (m,y,z))))
def Wu:=(Wt b e y z).bind (Sum.elim (fun a=>Ad b e y z) (fun c=>some ((fun a=>a) c)))
def Ae:=(JR e z C).bind (Sum.elim (fun a=>Wu C e a.1 a.2) (fun b=>some ((fun a=>a) b)))
@[irreducible] def Af:=Ae e z C
def J4:Option (Unit⊕Bool):=cond ((e.length:Int) !=(y.length:Int)) (some (Sum.inr false)) (some (Sum.inl ()))
def J5:Option (Unit):=some ()
def tX:Option (Int⊕Bool⊕Unit):=cond (decide (F<(e.length:Int))) ((idx e F).bind fun a=>(idx y F).bind fun b=>cond (a !=b) (some (Sum.inr (Sum.inl false))) (some (Sum.inl (wrap .i64 (F+1))))) (some (Sum.inr (Sum.inr ())))
def Wv:Option (Bool⊕Unit):=ai (fun(a:Int)=>((tX e y a).map (Sum.elim (fun b=>Sum.inl b) (Sum.elim (fun b=>Sum.inr (Sum.inl b)) (fun b=>Sum.inr (Sum.inr b)))))) LL 0
def Ww:=(Wv e y).map (Sum.elim (fun a=>(Sum.inr a)) (fun a=>(Sum.inl ())))
def Wx:=(J5).bind (fun a=>Ww e y)
def J6:Option (Bool):=some true
def Wy:=(Wx e y).bind (Sum.elim (fun a=>J6) (fun b=>some ((fun a=>a) b)))
def Ag:=(J4 e y).bind (Sum.elim (fun a=>Wy e y) (fun b=>some ((fun a=>a) b)))
@[irreducible] def qa:=Ag e y
def J7:Option (Unit⊕Bool):=cond ((z.length:Int) !=(J.length:Int)) (some (Sum.inr false)) (some (Sum.inl ()))
def J8:Option (Unit):=some ()
def tY:Option (Int⊕Bool⊕Unit):=cond (decide (K<(z.length:Int))) ((idx z K).bind fun a=>(idx J K).bind fun b=>(qa a b).bind fun c=>cond (!c) (some (Sum.inr (Sum.inl false))) (some (Sum.inl (wrap .i64 (K+1))))) (some (Sum.inr (Sum.inr ())))
def Wz:Option (Bool⊕Unit):=ai (fun(a:Int)=>((tY z J a).map (Sum.elim (fun b=>Sum.inl b) (Sum.elim (fun b=>Sum.inr (Sum.inl b)) (fun b=>Sum.inr (Sum.inr b)))))) LL 0
def WA:=(Wz z J).map (Sum.elim (fun a=>(Sum.inr a)) (fun a=>(Sum.inl ())))
def WB:=(J8).bind (fun a=>WA z J)
def J9:Option (Bool):=some true
def WC:=(WB z J).bind (Sum.elim (fun a=>J9) (fun b=>some ((fun a=>a) b)))
def Ah:=(J7 z J).bind (Sum.elim (fun a=>WC z J) (fun b=>some ((fun a=>a) b)))
@[irreducible] def tZ:=Ah z J
def Ai:Option (Bool):=(qa e I).bind fun a=>cond a ((tZ z J).bind fun b=>some b) (some false)
@[irreducible] def kE:=Ai e z I J
def Aj:Option (Bool):=(qa e ([]:List Int)).bind fun a=>cond a ((tZ z ([]:List (List Int))).bind fun b=>some b) (some false)
@[irreducible] def Ak:=Aj e z
def Al:Option (Bool):=(Ak e z).bind fun a=>some a
@[irreducible] def Ka:=Al e z
def Am:Option (Bool):=(eF ([0])).bind fun a=>cond a ((eF ([1])).bind fun b=>some (!b)) (some false)
@[irreducible] def Kb:=Am
def k2:Option (((List Int)×Int×(List Int)×(List (List Int)))):=(DR e).bind fun a=>(wW 12 a 0).bind fun b=>some (a,(b.1),(b.2.1),(b.2.2))
def k3:Option ((Int×Int)):=(bC 7 e r).bind fun a=>some ((a.1),(a.2))
def g2:Option ((Int×Int×(List ByteArray))⊕(Int×(List ByteArray))):=cond (decide (d>0)) ((wZ y e r).bind fun a=>(room ((List.length A)+List.length ([(a.1)]))).bind fun b=>some (Sum.inl ((wrap .i64 (d-1)),(a.2),(A++([(a.1)]))))) (some (Sum.inr (r,A)))
def n2:=ai (fun(a:Int×Int×(List ByteArray))=>((g2 a.1 e a.2.1 y a.2.2).map (Sum.elim (fun b=>Sum.inl (b.1,b.2.1,b.2.2)) (fun b=>Sum.inr b)))) LL (d,r,([]:List ByteArray))
def n3:=(n2 d e r y).map (fun a=>(a.1,a.2))
def n4:=(k3 e r).bind (fun a=>n3 a.1 e a.2 y)
def k4:Option (((List Int)×(List ByteArray)×(List (List Int)))):=(lN 30 e r).bind fun a=>cond (a.1) ((mk 41 41).bind fun b=>some (y,(replicate b empty),J)) (some (y,A,J))
def n5:=(n4 e r y).bind (fun a=>k4 e a.1 y a.2 z)
def h6:=(k2 e).bind (fun a=>n5 a.1 a.2.1 a.2.2.1 a.2.2.2)
@[irreducible] def h7:=h6 e
def k5:Option (((List ByteArray)×(List Int)×(List (List Int)))⊕((List ByteArray)×(List Int)×(List (List Int)))):=(nz e z).bind fun a=>cond (!a) (some (Sum.inr (([]:List ByteArray),([]:List Int),([]:List (List Int))))) (cond (decide ((A.length:Int)>40)) (some (Sum.inr (([]:List ByteArray),([]:List Int),([]:List (List Int))))) ((ju e z).bind fun b=>(mk (A.length:Int) (A.length:Int)).bind fun c=>some (Sum.inl ((replicate c empty),(b.1),(b.2)))))
def k6:Option (Int):=some (c.length:Int)
def g3:Option ((Int×(List ByteArray)×(List Int)×(List (List Int)))⊕((List ByteArray)×(List Int)×(List (List Int)))):=cond (decide (r<d)) ((idx c r).bind fun a=>(tu I J a).bind fun b=>(al r (List.length A)).bind fun e=>some (Sum.inl ((wrap .i64 (r+1)),(A.set e (b.1)),(b.2.1),(b.2.2)))) (some (Sum.inr (A,I,J)))
def n6:Option (((List ByteArray)×(List Int)×(List (List Int)))):=ai (fun(a:Int×(List ByteArray)×(List Int)×(List (List Int)))=>((g3 c d a.1 a.2.1 a.2.2.1 a.2.2.2).map (Sum.elim (fun b=>Sum.inl (b.1,b.2.1,b.2.2.1,b.2.2.2)) (fun b=>Sum.inr b)))) LL (0,n,y,z)
def n7:=(n6 c d n y z).map (fun a=>(a.1,a.2.1,a.2.2))
def n8:=(k6 c).bind (fun a=>n7 c a n y z)
def k7:Option (((List ByteArray)×(List Int)×(List (List Int)))):=some (c,e,z)
def n9:=(n8 c n y z).bind (fun a=>k7 a.1 a.2.1 a.2.2)
def h8:=(k5 e z A).bind (Sum.elim (fun a=>n9 A a.1 a.2.1 a.2.2) (fun b=>some ((fun a=>a) b)))
@[irreducible] def f1:=h8 e z A
def k8:Option (((List Int)×(List (List Int)))⊕((List ByteArray)×(List Int)×(List (List Int)))):=(nw e z).bind fun a=>cond (!a) (some (Sum.inr (([]:List ByteArray),([]:List Int),([]:List (List Int))))) (cond (decide ((A.length:Int)>40)) (some (Sum.inr (([]:List ByteArray),([]:List Int),([]:List (List Int))))) ((rM e z).bind fun b=>some (Sum.inl ((b.1),(b.2)))))
def k9:Option (Unit):=some ()
def g4:Option ((Int×(List ByteArray)×(List Int)×(List (List Int)))⊕((List ByteArray)×(List Int)×(List (List Int)))):=cond (decide (d<(c.length:Int))) ((idx c d).bind fun a=>(Af y z a).bind fun b=>(room ((List.length n)+List.length ([(b.1)]))).bind fun e=>some (Sum.inl ((wrap .i64 (d+1)),(n++([(b.1)])),(b.2.1),(b.2.2)))) (some (Sum.inr (n,y,z)))
def ob:Option (((List ByteArray)×(List Int)×(List (List Int)))):=ai (fun(a:Int×(List ByteArray)×(List Int)×(List (List Int)))=>((g4 c a.1 a.2.1 a.2.2.1 a.2.2.2).map (Sum.elim (fun b=>Sum.inl (b.1,b.2.1,b.2.2.1,b.2.2.2)) (fun b=>Sum.inr b)))) LL (0,([]:List ByteArray),e,z)
def oi:=(ob c e z).map (fun a=>(a.1,a.2.1,a.2.2))
def oj:=(k9).bind (fun a=>oi c e z)
def l0:Option (((List ByteArray)×(List Int)×(List (List Int)))):=some (c,e,z)
def on:=(oj c e z).bind (fun a=>l0 a.1 a.2.1 a.2.2)
def h9:=(k8 e z A).bind (Sum.elim (fun a=>on A a.1 a.2) (fun b=>some ((fun a=>a) b)))
@[irreducible] def i6:=h9 e z A
def l1:Option (Unit⊕Bool):=cond ((c.length:Int) !=(n.length:Int)) (some (Sum.inr false)) (some (Sum.inl ()))
def l2:Option (Unit):=some ()
def g5:Option (Int⊕Bool⊕Unit):=cond (decide (r<(c.length:Int))) ((idx c r).bind fun a=>(idx n r).bind fun b=>cond (!(aD a b)) (some (Sum.inr (Sum.inl false))) (some (Sum.inl (wrap .i64 (r+1))))) (some (Sum.inr (Sum.inr ())))
def op:Option (Bool⊕Unit):=ai (fun(a:Int)=>((g5 c n a).map (Sum.elim (fun b=>Sum.inl b) (Sum.elim (fun b=>Sum.inr (Sum.inl b)) (fun b=>Sum.inr (Sum.inr b)))))) LL 0
def o0:=(op c n).map (Sum.elim (fun a=>(Sum.inr a)) (fun a=>(Sum.inl ())))
def o1:=(l2).bind (fun a=>o0 c n)
def l3:Option (Bool):=some true
def o2:=(o1 c n).bind (Sum.elim (fun a=>l3) (fun b=>some ((fun a=>a) b)))
def i7:=(l1 c n).bind (Sum.elim (fun a=>o2 c n) (fun b=>some ((fun a=>a) b)))
@[irreducible] def g6:=i7 c n
def l4:Option (((List ByteArray)×(List ByteArray)×(List ByteArray)×(List ByteArray)×(List Int)×(List (List Int))×(List Int)×(List (List Int)))⊕Bool):=cond (decide ((e.length:Int)>1048576)) (some (Sum.inr true)) ((h7 e).bind fun a=>(f1 (a.1) (a.2.2) (a.2.1)).bind fun b=>(i6 (a.1) (a.2.2) (a.2.1)).bind fun c=>(kE (b.2.1) (b.2.2) (c.2.1) (c.2.2)).bind fun d=>cond (!d) (some (Sum.inr false)) ((g6 (b.1) (c.1)).bind fun f=>cond (!f) (some (Sum.inr false)) ((nw (a.1) (a.2.2)).bind fun g=>cond (!g) (cond ((List.length (b.1):Int)==0) ((Ka (b.2.1) (b.2.2)).bind fun h=>cond h ((Kb).bind fun i=>some (Sum.inr i)) (some (Sum.inr false))) (some (Sum.inr false))) (cond (decide ((List.length (a.2.1):Int)>40)) (cond ((List.length (b.1):Int)==0) ((Ka (b.2.1) (b.2.2)).bind fun j=>cond j ((Kb).bind fun k=>some (Sum.inr k)) (some (Sum.inr false))) (some (Sum.inr false))) ((quo .i64 (List.length (a.2.1):Int) 2).bind fun l=>(inc l (List.length (a.2.1))).bind fun m=>(f1 (a.1) (a.2.2) (((a.2.1).drop 0).take (m-0))).bind fun n=>(inc l (List.length (a.2.1))).bind fun o=>(f1 (n.2.1) (n.2.2) (((a.2.1).drop o).take ((List.length (a.2.1))-o))).bind fun p=>some (Sum.inl ((a.2.1),(b.1),(n.1),(p.1),(b.2.1),(b.2.2),(p.2.1),(p.2.2))))))))
def l5:Option (Unit):=some ()
def f5:Option (Int⊕Bool⊕Unit):=cond (decide (d<(n.length:Int))) ((al d (List.length n)).bind fun a=>(n[a]?).bind fun b=>cond (aD b empty) (some (Sum.inr (Sum.inl false))) (some (Sum.inl (wrap .i64 (d+1))))) (some (Sum.inr (Sum.inr ())))
def o3:Option (Bool⊕Unit):=ai (fun(a:Int)=>((f5 a c).map (Sum.elim (fun b=>Sum.inl b) (Sum.elim (fun b=>Sum.inr (Sum.inl b)) (fun b=>Sum.inr (Sum.inr b)))))) LL 0
def o4:=(o3 c).map (Sum.elim (fun a=>(Sum.inr a)) (fun a=>(Sum.inl ())))
def l6:=(l5).bind (fun a=>o4 c)
def l7:Option (Bool):=(tu y z (ByteArray.mk #[109,111,118,101,115])).bind fun a=>(tu y z (ByteArray.mk #[101,97,103,101,114])).bind fun b=>(kE I J y z).bind fun d=>cond d ((room ((List.length ([]:List ByteArray))+List.length o)).bind fun e=>(room ((List.length (([]:List ByteArray)++o))+List.length q)).bind fun f=>(g6 ((([]:List ByteArray)++o)++q) n).bind fun g=>cond g (cond ((n.length:Int)==(c.length:Int)) (cond ((aD (a.1) (ByteArray.mk #[110,111,110,101]))==(aD (b.1) (ByteArray.mk #[110,111,110,101]))) ((nD y).bind fun h=>some ((aD (a.1) (ByteArray.mk #[110,111,110,101]))==(!h))) (some false)) (some false)) (some false)) (some false)
def o5:=(l6 n).bind (Sum.elim (fun a=>l7 c n o q y z I J) (fun b=>some ((fun a=>a) b)))
def i8:=(l4 e).bind (Sum.elim (fun a=>o5 a.1 a.2.1 a.2.2.1 a.2.2.2.1 a.2.2.2.2.1 a.2.2.2.2.2.1 a.2.2.2.2.2.2.1 a.2.2.2.2.2.2.2) (fun b=>some ((fun a=>a) b)))
@[irreducible] def j0:=i8 e
end Go.Rv
