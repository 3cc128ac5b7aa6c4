/-
  Plain functions,written by program for functions of the checked code. Conditions: none.
-/
import Derived.Test.YthjlnoplibeclaaGreatDoorFB
open Go.IntKind (wrap)
open ByteArray (empty)
open List (replicate)
set_option linter.all false
namespace Go.Rv
variable (a : ByteArray)(b : Int)(c d : List ByteArray)(e : List Int)(f : Nat)(g : Bool)(h : Nat)(i : ByteArray)(j : List (Int × Int × Int × Unit))(k l m : ByteArray)(n : List ByteArray)(o : ByteArray)(p q r : Int)(s : List (Int × Int × Unit))(t : ByteArray)(u v : Int)(w : List Int)(x : Bool)(y : Int)(z : List Bool)(A : List (List Int))(B : List ByteArray)(C : Int)(D : ByteArray)(E : List Int)(F : List (List Int))(G : Bool)(H I : Nat)(J : List Int)(K : List (List Int))(L : List ByteArray)(M : Int)(N : List Int)(O P : Int)(Q R : List Int)
def rl:Option (Int):=cond (decide ((wrap .i64 (p-(e.length:Int)))<0)) (some (-1)) (some (wrap .i64 (p-(e.length:Int))))
@[irreducible] def we:=rl e p
def Dv:Option (Int⊕Int):=cond (decide ((wrap .i64 (C-(A.length:Int)))<0)) (some (Sum.inr (-1))) (some (Sum.inl (wrap .i64 (C-(A.length:Int)))))
def Dw:Option (Unit):=some ()
def wg:Option ((Int×Int)⊕Int⊕Int):=cond (decide (M<(A.length:Int))) ((idx A M).bind fun a=>(we a C).bind fun b=>cond (decide (b<0)) (some (Sum.inr (Sum.inl (-1)))) (some (Sum.inl (b,(wrap .i64 (M+1)))))) (some (Sum.inr (Sum.inr C)))
def Og:Option (Int⊕Int):=ai (fun(a:Int×Int)=>((wg A a.1 a.2).map (Sum.elim (fun b=>Sum.inl (b.1,b.2)) (Sum.elim (fun b=>Sum.inr (Sum.inl b)) (fun b=>Sum.inr (Sum.inr b)))))) LL (C,0)
def Oh:=(Og A C).map (Sum.elim (fun a=>(Sum.inr a)) (fun a=>(Sum.inl a)))
def Oi:=(Dw).bind (fun a=>Oh A C)
def Oj:Option (Int):=some b
def Ok:=(Oi A C).bind (Sum.elim (fun a=>Oj a) (fun b=>some ((fun a=>a) b)))
def wh:=(Dv A C).bind (Sum.elim (fun a=>Ok A a) (fun b=>some ((fun a=>a) b)))
@[irreducible] def wi:=wh A C
def wj:Option (Int):=(we e C).bind fun a=>cond (decide (a<0)) (some (-1)) ((wi A a).bind fun b=>cond (decide (b<0)) (some (-1)) (some b))
@[irreducible] def Dx:=wj e A C
def Dy:Option (((List Int))):=(mk (e.length:Int) (e.length:Int)).bind fun a=>some (replicate a (0:Int))
def Dz:Option (Unit):=some ()
def rm:Option ((Int×(List Int))⊕((List Int))):=cond (decide (p<(e.length:Int))) ((idx e p).bind fun a=>(ap p (List.length w)).bind fun b=>some (Sum.inl ((wrap .i64 (p+1)),(w.set b a)))) (some (Sum.inr w))
def Ol:Option (((List Int))):=ai (fun(a:Int×(List Int))=>((rm e a.1 a.2).map (Sum.elim (fun b=>Sum.inl (b.1,b.2)) (fun b=>Sum.inr b)))) LL (0,w)
def Om:=(Ol e w).map (fun a=>a)
def On:=(Dz).bind (fun a=>Om e w)
def DA:Option (((List Int))):=some e
def Oo:=(On e w).bind (fun a=>DA a)
def DB:=(Dy e).bind (fun a=>Oo e a)
@[irreducible] def wk:=DB e
def DC:Option (((List (List Int)))):=(mk (A.length:Int) (A.length:Int)).bind fun a=>some (replicate a [])
def DD:Option (Unit):=some ()
def rn:Option ((Int×(List (List Int)))⊕((List (List Int)))):=cond (decide (C<(A.length:Int))) ((idx A C).bind fun a=>(wk a).bind fun b=>(ap C (List.length F)).bind fun c=>(within c (List.length F)).bind fun d=>some (Sum.inl ((wrap .i64 (C+1)),((F).set c b)))) (some (Sum.inr F))
def Oq:Option (((List (List Int)))):=ai (fun(a:Int×(List (List Int)))=>((rn A a.1 a.2).map (Sum.elim (fun b=>Sum.inl (b.1,b.2)) (fun b=>Sum.inr b)))) LL (0,F)
def Ot:=(Oq A F).map (fun a=>a)
def Ou:=(DD).bind (fun a=>Ot A F)
def DE:Option (((List (List Int)))):=some A
def Ov:=(Ou A F).bind (fun a=>DE a)
def wl:=(DC A).bind (fun a=>Ov A a)
@[irreducible] def wm:=wl A
def wn:Option (((List Int)×(List (List Int)))):=(wk e).bind fun a=>(wm A).bind fun b=>some (a,b)
@[irreducible] def pc:=wn e A
def wo:Option (Bool):=cond (decide (b>=p)) (some (decide (b<=q))) (some false)
@[irreducible] def ga:=wo b p q
def DF:Option (Int⊕Bool):=(ga (e.length:Int) 1 8).bind fun a=>cond (!a) (some (Sum.inr false)) (some (Sum.inl (e.length:Int)))
def DG:Option (Unit):=some ()
def wq:Option (Unit⊕Int):=cond (decide (q<b)) (some (Sum.inl ())) (some (Sum.inr p))
def DH:Option ((Int×Int)⊕Bool):=(idx e r).bind fun a=>(ga a 0 p).bind fun b=>cond (!b) (some (Sum.inr false)) ((idx e r).bind fun c=>cond (c==(wrap .i64 (r+1))) (some (Sum.inr false)) ((idx e r).bind fun d=>cond (d==0) (some (Sum.inl ((wrap .i64 (q+1)),(wrap .i64 (r+1))))) (some (Sum.inl (q,(wrap .i64 (r+1)))))))
def DI:Option (Unit):=some ()
def wr:Option ((Int×Int)⊕Bool⊕Int):=cond (decide (q>0)) (cond (decide (r<p)) ((idx e (wrap .i64 (q-1))).bind fun a=>(ga a 0 p).bind fun b=>cond (!b) (some (Sum.inr (Sum.inl false))) (some (Sum.inl (a,(wrap .i64 (r+1)))))) (some (Sum.inr (Sum.inr q)))) (some (Sum.inr (Sum.inr q)))
def DJ:Option (Bool⊕Int):=ai (fun(a:Int×Int)=>((wr e p a.1 a.2).map (Sum.elim (fun b=>Sum.inl (b.1,b.2)) (Sum.elim (fun b=>Sum.inr (Sum.inl b)) (fun b=>Sum.inr (Sum.inr b)))))) LL (q,0)
def Ow:=(DJ e p q).map (Sum.elim (fun a=>(Sum.inr a)) (fun a=>(Sum.inl a)))
def Ox:=(DI).bind (fun a=>Ow e p q)
def DK:Option (Unit⊕Bool):=cond (decide (b>0)) (some (Sum.inr false)) (some (Sum.inl ()))
def Oy:=(Ox e p q).bind (Sum.elim (fun a=>DK a) (fun b=>some ((fun a=>(Sum.inr a)) b)))
def Oz:=(DH e p q r).bind (Sum.elim (fun a=>(Oy e p a.2).map (Sum.elim (fun b=>(Sum.inl a.1)) (fun b=>(Sum.inr b)))) (fun c=>some ((fun a=>(Sum.inr a)) c)))
def OA:=(Oz e p q r).map (Sum.elim (fun a=>(Sum.inl a)) (fun a=>(Sum.inr a)))
def DL:Option (Int):=some (wrap .i64 (b+1))
def OB:=(OA e p q r).bind (Sum.elim (fun a=>(DL r).map (fun b=>(Sum.inl (a,b)))) (fun c=>some ((fun a=>(Sum.inr a)) c)))
def ws:=(wq p q r).bind (Sum.elim (fun a=>(OB e p q r).map (Sum.elim (fun a=>(Sum.inl (a.1,a.2))) (fun a=>(Sum.inr (Sum.inl a))))) (fun b=>some ((fun a=>(Sum.inr (Sum.inr a))) b)))
def OC:Option (Bool⊕Int):=ai (fun(a:Int×Int)=>((ws e p a.1 a.2).map (Sum.elim (fun b=>Sum.inl (b.1,b.2)) (Sum.elim (fun b=>Sum.inr (Sum.inl b)) (fun b=>Sum.inr (Sum.inr b)))))) LL (0,0)
def OD:=(OC e p).map (Sum.elim (fun a=>(Sum.inr a)) (fun a=>(Sum.inl a)))
def OE:=(DG).bind (fun a=>OD e p)
def DM:Option (Bool):=some (b==1)
def OF:=(OE e p).bind (Sum.elim (fun a=>DM a) (fun b=>some ((fun a=>a) b)))
def DN:=(DF e).bind (Sum.elim (fun a=>OF e a) (fun b=>some ((fun a=>a) b)))
@[irreducible] def dG:=DN e
def DO:Option (Unit):=some ()
def DP:Option (Unit):=some ()
def pd:Option (Int⊕Bool⊕Unit):=cond (decide (b<(A.length:Int))) ((idx A b).bind fun a=>(dG a).bind fun c=>cond (!c) (some (Sum.inr (Sum.inl false))) (some (Sum.inl (wrap .i64 (b+1))))) (some (Sum.inr (Sum.inr ())))
def OG:Option (Bool⊕Unit):=ai (fun(a:Int)=>((pd a A).map (Sum.elim (fun b=>Sum.inl b) (Sum.elim (fun b=>Sum.inr (Sum.inl b)) (fun b=>Sum.inr (Sum.inr b)))))) LL 0
def OH:=(OG A).map (Sum.elim (fun a=>(Sum.inr a)) (fun a=>(Sum.inl ())))
def OI:=(DP).bind (fun a=>OH A)
def DQ:Option (Bool):=(dG e).bind fun a=>cond a (some (decide ((A.length:Int)<=8))) (some false)
def OJ:=(OI A).bind (Sum.elim (fun a=>DQ e A) (fun b=>some ((fun a=>a) b)))
def wt:=(DO).bind (fun a=>OJ e A)
@[irreducible] def ro:=wt e A
def DR:Option (((List Int))):=(room ((List.length ([]:List Int))+List.length e)).bind fun a=>some (([]:List Int)++e)
def DS:Option (Unit):=some ()
def rp:Option ((Int×(List (List Int)))⊕((List (List Int)))):=cond (decide (b<(A.length:Int))) ((idx A b).bind fun a=>(room (List.length a)).bind fun c=>(room (List.length F+1)).bind fun d=>some (Sum.inl ((wrap .i64 (b+1)),((F++ [[]]).set (List.length F) a)))) (some (Sum.inr F))
def OK:Option (((List (List Int)))):=ai (fun(a:Int×(List (List Int)))=>((rp a.1 A a.2).map (Sum.elim (fun b=>Sum.inl (b.1,b.2)) (fun b=>Sum.inr b)))) LL (0,([]:List (List Int)))
def OL:=(OK A).map (fun a=>a)
def OM:=(DS).bind (fun a=>OL A)
def DT:Option (((List Int)×(List (List Int)))):=some (e,A)
def ON:=(OM A).bind (fun a=>DT E a)
def wu:=(DR e).bind (fun a=>ON A a)
@[irreducible] def rq:=wu e A
def DU:Option (Unit):=some ()
def DV:Option (Unit):=some ()
def pe:Option ((Int×Int×(List ByteArray))⊕(Int×(List ByteArray))):=cond (decide (q<(((ByteArray.size a:Nat):Int)))) ((hB a q).bind fun c=>cond (c==b) ((inc q (ByteArray.size a)).bind fun d=>(inc p d).bind fun e=>(room ((List.length B)+List.length ([(a.extract e d)]))).bind fun f=>some (Sum.inl ((wrap .i64 (q+1)),(wrap .i64 (q+1)),(B++([(a.extract e d)]))))) (some (Sum.inl (p,(wrap .i64 (q+1)),B)))) (some (Sum.inr (p,B)))
def OO:Option ((Int×(List ByteArray))):=ai (fun(c:Int×Int×(List ByteArray))=>((pe a b c.1 c.2.1 c.2.2).map (Sum.elim (fun d=>Sum.inl (d.1,d.2.1,d.2.2)) (fun d=>Sum.inr d)))) LL (0,0,([]:List ByteArray))
def OP:=(OO a b).map (fun c=>(c.1,c.2))
def OQ:=(DV).bind (fun c=>OP a b)
def DW:Option (((List ByteArray))):=(inc b (ByteArray.size a)).bind fun d=>(room ((List.length c)+List.length ([(a.extract d (ByteArray.size a))]))).bind fun e=>some (c++([(a.extract d (ByteArray.size a))]))
def OR:=(OQ a b).bind (fun c=>DW a c.1 c.2)
def wv:=(DU).bind (fun c=>OR a b)
@[irreducible] def lC:=wv a b
def ww:Option (Unit⊕Int):=(ga (((ByteArray.size a:Nat):Int)) 1 6).bind fun b=>cond (!b) (some (Sum.inr (-1))) (cond (decide ((((ByteArray.size a:Nat):Int))>1)) ((hB a 0).bind fun c=>cond (c==48) (some (Sum.inr (-1))) (some (Sum.inl ()))) (some (Sum.inl ())))
def wx:Option (Unit):=some ()
def nl:Option ((Int×Int)⊕Int⊕Int):=cond (decide (p<(((ByteArray.size a:Nat):Int)))) ((hB a p).bind fun c=>cond (decide (c<48)) (some (Sum.inr (Sum.inl (-1)))) ((hB a p).bind fun d=>cond (decide (d>57)) (some (Sum.inr (Sum.inl (-1)))) ((hB a p).bind fun e=>some (Sum.inl ((wrap .i64 ((wrap .i64 (10*b))+(wrap .i64 (wrap .u8 (e-48))))),(wrap .i64 (p+1))))))) (some (Sum.inr (Sum.inr b)))
def DX:Option (Int⊕Int):=ai (fun(b:Int×Int)=>((nl a b.1 b.2).map (Sum.elim (fun c=>Sum.inl (c.1,c.2)) (Sum.elim (fun c=>Sum.inr (Sum.inl c)) (fun c=>Sum.inr (Sum.inr c)))))) LL (0,0)
def DY:=(DX a).map (Sum.elim (fun b=>(Sum.inr b)) (fun b=>(Sum.inl b)))
def DZ:=(wx).bind (fun b=>DY a)
def wy:Option (Int):=some b
def rr:=(DZ a).bind (Sum.elim (fun b=>wy b) (fun c=>some ((fun b=>b) c)))
def pf:=(ww a).bind (Sum.elim (fun b=>rr a) (fun c=>some ((fun b=>b) c)))
@[irreducible] def gJ:=pf a
def rt (R0:Int->Option ByteArray) (a:Int):Option (ByteArray):=cond (decide (a<10)) (some (bytesOf ([(wrap .u8 (wrap .i64 (48+(imax a 0))))]))) ((quo .i64 a 10).bind fun b=>(rem a 10).bind fun c=>(R0 b).bind fun d=>(cat d (bytesOf ([(wrap .u8 (wrap .i64 (48+c)))]))).bind fun e=>some e)
def D0 (R0:Int->Option ByteArray) (a:Int):Option (ByteArray):=rt R0 a
def kr:Nat->(Int->Option ByteArray)
 |0=>(fun _=>none)
 |n+1=>(fun S=>D0 (kr n) S)
def ru (n:Nat):Int->Option ByteArray:=(kr n)
@[irreducible] def cV:=ru RR b
def D1:Option (Unit):=some ()
def D2:Option (Bool):=cond (b==0) ((ga p 0 99).bind fun a=>cond a ((ga q 0 99).bind fun c=>some c) (some false)) (some false)
def D3:Option (ByteArray):=(cV b).bind fun a=>(cat (ByteArray.mk #[104,101,97,100,32]) a).bind fun c=>(cat c (ByteArray.mk #[32])).bind fun d=>(cV p).bind fun e=>(cat d e).bind fun f=>some f
def D4:Option (Bool):=cond (b==1) ((ga p 0 99).bind fun a=>cond a (some (q==0)) (some false)) (some false)
def wz:Option (Unit⊕ByteArray):=cond g ((cV q).bind fun a=>(cat (ByteArray.mk #[97,100,100,32]) a).bind fun b=>some (Sum.inr b)) (cond ((p==2)&&((q==0)&&((r==0)&&true))) (some (Sum.inr (ByteArray.mk #[100,114,111,112]))) (cond ((p==3)&&((q==0)&&((r==0)&&true))) (some (Sum.inr (ByteArray.mk #[116,117,114,110]))) (cond ((p==4)&&((q==0)&&((r==0)&&true))) (some (Sum.inr (ByteArray.mk #[102,108,97,116]))) (cond ((p==5)&&((q==0)&&((r==0)&&true))) (some (Sum.inr (ByteArray.mk #[98,97,99,107]))) (some (Sum.inl ()))))))
def OS:=(D4 b p q).bind (fun a=>wz a b p q)
def D5:Option (Unit⊕ByteArray):=cond g ((D3 q r).map (fun a=>(Sum.inr a))) (OS p q r)
def OT:=(D2 b p q).bind (fun a=>D5 a b p q)
def OU:=(OT b p q).map (Sum.elim (fun a=>(Sum.inl ())) (fun a=>(Sum.inr a)))
def OV:Option (ByteArray):=some empty
def OW:=(OU b p q).bind (Sum.elim (fun a=>OV) (fun c=>some ((fun a=>a) c)))
def wA:=(D1).bind (fun a=>OW b p q)
@[irreducible] def nm:=wA b p q
def D6:Option (((List ByteArray)×(List (Int×Int×Int×Unit)))):=(lC a 32).bind fun b=>some (b,([(2,(0,(0,()))),(3,(0,(0,()))),(4,(0,(0,()))),(5,(0,(0,())))]))
def D7:Option (Bool):=some ((c.length:Int)==3)
def D8:Option (((List (Int×Int×Int×Unit)))):=(ap 1 (List.length c)).bind fun a=>(c[a]?).bind fun b=>(ap 2 (List.length c)).bind fun d=>(c[d]?).bind fun e=>(gJ b).bind fun f=>(gJ e).bind fun g=>(room ((List.length j)+List.length ([(0,(f,(g,())))]))).bind fun h=>some (j++([(0,(f,(g,())))]))
def D9:Option (Unit):=some ()
def OX (a:Bool) (b:List ByteArray) (c:List (Int×Int×Int×Unit)):Option (((List (Int×Int×Int×Unit)))):=cond a ((D8 b c).map (fun d=>d)) ((D9).map (fun d=>c))
def OY:=(D7 c).bind (fun a=>OX a c j)
def wB:Option (((List (Int×Int×Int×Unit)))):=cond ((c.length:Int)==2) ((ap 1 (List.length c)).bind fun a=>(c[a]?).bind fun b=>(gJ b).bind fun d=>(room ((List.length j)+List.length ([(1,(d,(0,())))]))).bind fun e=>some (j++([(1,(d,(0,())))]))) (some j)
def Ea:Option (Unit):=some ()
def rv:Option (Int⊕(Bool×Int×Int×Int)⊕Unit):=cond (decide (b<(j.length:Int))) (cond (!(aE a empty)) ((ap b (List.length j)).bind fun c=>(j[c]?).bind fun d=>(nm (d.1) ((d.2).1) (((d.2).2).1)).bind fun e=>cond (aE e a) ((ap b (List.length j)).bind fun f=>(j[f]?).bind fun g=>some (Sum.inr (Sum.inl (true,(g.1),((g.2).1),(((g.2).2).1))))) (some (Sum.inl (wrap .i64 (b+1))))) (some (Sum.inl (wrap .i64 (b+1))))) (some (Sum.inr (Sum.inr ())))
def OZ:Option ((Bool×Int×Int×Int)⊕Unit):=ai (fun(b:Int)=>((rv a b j).map (Sum.elim (fun c=>Sum.inl c) (Sum.elim (fun c=>Sum.inr (Sum.inl c)) (fun c=>Sum.inr (Sum.inr c)))))) LL 0
def O0:=(OZ a j).map (Sum.elim (fun b=>(Sum.inr b)) (fun b=>(Sum.inl ())))
def O1:=(Ea).bind (fun b=>O0 a j)
def Eb:Option ((Bool×Int×Int×Int)):=some (false,0,0,0)
def Ec:=(O1 a j).bind (Sum.elim (fun b=>Eb) (fun c=>some ((fun b=>b) c)))
def Ed:=(wB c j).bind (fun b=>Ec a b)
def O2:=(OY c j).bind (fun b=>Ed a c b)
def wC:=(D6 a).bind (fun b=>O2 a b.1 b.2)
@[irreducible] def wD:=wC a
def Ee:Option (Int):=some (e.length:Int)
def Ef:Option (Int):=some (wrap .i64 (b-1))
def nn:Option ((Int×(List Int))⊕((List Int))):=cond (decide (q>=0)) ((dG e).bind fun a=>cond a ((idx e q).bind fun b=>cond (b==0) ((room ((List.length w)+List.length ([0]))).bind fun c=>some (Sum.inl ((wrap .i64 (q-1)),(w++([0]))))) ((idx e q).bind fun d=>(room ((List.length w)+List.length ([(wrap .i64 ((wrap .i64 (p+1))-d))]))).bind fun f=>some (Sum.inl ((wrap .i64 (q-1)),(w++([(wrap .i64 ((wrap .i64 (p+1))-d))])))))) (some (Sum.inr w))) (some (Sum.inr w))
def O3:=ai (fun(a:Int×(List Int))=>((nn e p a.1 a.2).map (Sum.elim (fun b=>Sum.inl (b.1,b.2)) (fun b=>Sum.inr b)))) LL (q,([]:List Int))
def O4:=(O3 e p q).map (fun a=>a)
def O5:=(Ef p).bind (fun a=>O4 e p a)
def Eg:Option (((List Int))):=some e
def O6:=(O5 e p).bind (fun a=>Eg a)
def wE:=(Ee e).bind (fun a=>O6 e a)
@[irreducible] def pg:=wE e
def Eh:Option (Unit):=some ()
def Ei:Option (Unit):=some ()
def ph:Option (Int⊕Int⊕Unit):=cond (decide (p<(e.length:Int))) ((dG e).bind fun a=>cond a ((idx e p).bind fun b=>cond (b==0) (some (Sum.inr (Sum.inl (wrap .i64 (p+1))))) (some (Sum.inl (wrap .i64 (p+1))))) (some (Sum.inr (Sum.inr ())))) (some (Sum.inr (Sum.inr ())))
def O7:Option (Int⊕Unit):=ai (fun(a:Int)=>((ph e a).map (Sum.elim (fun b=>Sum.inl b) (Sum.elim (fun b=>Sum.inr (Sum.inl b)) (fun b=>Sum.inr (Sum.inr b)))))) LL 0
def O8:=(O7 e).map (Sum.elim (fun a=>(Sum.inr a)) (fun a=>(Sum.inl ())))
def O9:=(Ei).bind (fun a=>O8 e)
def Ej:Option (Int):=some (-1)
def Pb:=(O9 e).bind (Sum.elim (fun a=>Ej) (fun b=>some ((fun a=>a) b)))
def Ek:=(Eh).bind (fun a=>Pb e)
@[irreducible] def rx:=Ek e
def El (R0:(List Int)->Int->Option ((List Int))):Option (Unit):=some ()
def Em (R0:(List Int)->Int->Option ((List Int))):Option (Unit):=some ()
def ry (R0:(List Int)->Int->Option ((List Int))) (a:List Int) (b c:Int) (d:List Int):Option ((Int×(List Int))⊕((List Int))):=cond (decide (c<b)) ((idx a (wrap .i64 (c-1))).bind fun e=>cond (e==b) ((R0 a c).bind fun f=>(room ((List.length d)+List.length f)).bind fun g=>some (Sum.inl ((wrap .i64 (c+1)),(d++f)))) (some (Sum.inl ((wrap .i64 (c+1)),d)))) (some (Sum.inr d))
def Pc (R0:(List Int)->Int->Option ((List Int))) (a:List Int) (b:Int):Option (((List Int))):=ai (fun(c:Int×(List Int))=>((ry R0 a b c.1 c.2).map (Sum.elim (fun d=>Sum.inl (d.1,d.2)) (fun d=>Sum.inr d)))) LL (1,([]:List Int))
def Pd (R0:(List Int)->Int->Option ((List Int))) (a:List Int) (b:Int):=(Pc R0 a b).map (fun c=>c)
def Pe (R0:(List Int)->Int->Option ((List Int))) (a:List Int) (b:Int):=(Em R0).bind (fun c=>Pd R0 a b)
def En (R0:(List Int)->Int->Option ((List Int))) (a:Int) (b:List Int):Option (((List Int))):=(room ((List.length b)+List.length ([a]))).bind fun c=>some (b++([a]))
def Eo (R0:(List Int)->Int->Option ((List Int))) (a:Int):Option (Int):=some (wrap .i64 (a+1))
def rz (R0:(List Int)->Int->Option ((List Int))) (a:List Int) (b c:Int) (d:List Int):Option ((Int×(List Int))⊕((List Int))):=cond (decide (c<=(a.length:Int))) ((idx a (wrap .i64 (c-1))).bind fun e=>cond (e==b) ((R0 a c).bind fun f=>(room ((List.length d)+List.length f)).bind fun g=>some (Sum.inl ((wrap .i64 (c+1)),(d++f)))) (some (Sum.inl ((wrap .i64 (c+1)),d)))) (some (Sum.inr d))
def Pf (R0:(List Int)->Int->Option ((List Int))) (a:List Int) (b c:Int) (d:List Int):=ai (fun(e:Int×(List Int))=>((rz R0 a b e.1 e.2).map (Sum.elim (fun f=>Sum.inl (f.1,f.2)) (fun f=>Sum.inr f)))) LL (c,d)
def Pg (R0:(List Int)->Int->Option ((List Int))) (a:List Int) (b c:Int) (d:List Int):=(Pf R0 a b c d).map (fun e=>e)
def Ph (R0:(List Int)->Int->Option ((List Int))) (a:List Int) (b:Int) (c:List Int):=(Eo R0 b).bind (fun d=>Pg R0 a b d c)
def Ep (R0:(List Int)->Int->Option ((List Int))) (a:List Int):Option (((List Int))):=some a
def Pj (R0:(List Int)->Int->Option ((List Int))) (a:List Int) (b:Int) (c:List Int):=(Ph R0 a b c).bind (fun d=>Ep R0 d)
def Pk (R0:(List Int)->Int->Option ((List Int))) (a:List Int) (b:Int) (c:List Int):=(En R0 b c).bind (fun d=>Pj R0 a b d)
def Pl (R0:(List Int)->Int->Option ((List Int))) (a:List Int) (b:Int):=(Pe R0 a b).bind (fun c=>Pk R0 a b c)
def Er (R0:(List Int)->Int->Option ((List Int))) (a:List Int) (b:Int):=(El R0).bind (fun c=>Pl R0 a b)
def Es (R0:(List Int)->Int->Option ((List Int))) (a:List Int) (b:Int):Option ((List Int)):=Er R0 a b
def np:Nat->((List Int)->Int->Option ((List Int)))
 |0=>(fun _ _=>none)
 |n+1=>(fun S T=>Es (np n) S T)
def lD (n:Nat):(List Int)->Int->Option ((List Int)):=(np n)
@[irreducible] def rA:=lD RR e p
def wF:Option (((List Int))):=(dG e).bind fun a=>cond (!a) (some ([]:List Int)) ((rx e).bind fun b=>(rA e b).bind fun c=>some c)
@[irreducible] def rB:=wF e
def Et:Option (Unit):=some ()
def Eu:Option (Unit):=some ()
def Ev:Option (Unit⊕Unit):=cond (decide (p<(e.length:Int))) (some (Sum.inl ())) (some (Sum.inr ()))
def Ew:Option (Unit⊕Bool):=(idx e q).bind fun a=>(ga a 1 p).bind fun b=>cond (!b) (some (Sum.inr false)) (some (Sum.inl ()))
def wG:Option (Int⊕Bool⊕Unit):=cond (decide (q<p)) ((idx e q).bind fun a=>(idx e p).bind fun b=>cond (a==b) (some (Sum.inr (Sum.inl false))) (some (Sum.inl (wrap .i64 (q+1))))) (some (Sum.inr (Sum.inr ())))
def Ex:Option (Bool⊕Unit):=ai (fun(a:Int)=>((wG e p a).map (Sum.elim (fun b=>Sum.inl b) (Sum.elim (fun b=>Sum.inr (Sum.inl b)) (fun b=>Sum.inr (Sum.inr b)))))) LL 0
def Pm:=(Ex e p).map (Sum.elim (fun a=>(Sum.inr a)) (fun a=>(Sum.inl ())))
def Pn:=(Ew e p q).bind (Sum.elim (fun a=>Pm e q) (fun b=>some ((fun a=>(Sum.inr a)) b)))
def Po:=(Pn e p q).map (Sum.elim (fun a=>(Sum.inl ())) (fun a=>(Sum.inr a)))
def Ey:Option (Int):=some (wrap .i64 (b+1))
def Pp:=(Po e p q).bind (Sum.elim (fun a=>(Ey q).map (fun a=>(Sum.inl a))) (fun b=>some ((fun a=>(Sum.inr a)) b)))
def Ez:=(Ev e q).bind (Sum.elim (fun a=>(Pp e p q).map (Sum.elim (fun a=>(Sum.inl a)) (fun a=>(Sum.inr (Sum.inl a))))) (fun b=>some ((fun a=>(Sum.inr (Sum.inr a))) b)))
def Pq:Option (Bool⊕Unit):=ai (fun(a:Int)=>((Ez e p a).map (Sum.elim (fun b=>Sum.inl b) (Sum.elim (fun b=>Sum.inr (Sum.inl b)) (fun b=>Sum.inr (Sum.inr b)))))) LL 0
def Pr:=(Pq e p).map (Sum.elim (fun a=>(Sum.inr a)) (fun a=>(Sum.inl ())))
def Ps:=(Eu).bind (fun a=>Pr e p)
def EA:Option (Bool):=(ga p 1 8).bind fun a=>cond a (some ((e.length:Int)==p)) (some false)
def Pt:=(Ps e p).bind (Sum.elim (fun a=>EA e p) (fun b=>some ((fun a=>a) b)))
def EB:=(Et).bind (fun a=>Pt e p)
@[irreducible] def wH:=EB e p
def EC:Option (((List Int))⊕(Bool×(List Int))):=(dG e).bind fun a=>cond (!a) (some (Sum.inr (false,([]:List Int)))) ((wH w (e.length:Int)).bind fun b=>cond (!b) (some (Sum.inr (false,([]:List Int)))) ((mk (wrap .i64 ((e.length:Int)+1)) (wrap .i64 ((e.length:Int)+1))).bind fun c=>some (Sum.inl (replicate c (0:Int)))))
def ED:Option (Unit):=some ()
def rC:Option ((Int×(List Int))⊕((List Int))):=cond (decide (p<(e.length:Int))) ((idx e p).bind fun a=>(ap a (List.length w)).bind fun b=>some (Sum.inl ((wrap .i64 (p+1)),(w.set b (wrap .i64 (p+1)))))) (some (Sum.inr w))
def Pu:Option (((List Int))):=ai (fun(a:Int×(List Int))=>((rC e a.1 a.2).map (Sum.elim (fun b=>Sum.inl (b.1,b.2)) (fun b=>Sum.inr b)))) LL (0,w)
def Pv:=(Pu e w).map (fun a=>a)
def Pw:=(ED).bind (fun a=>Pv e w)
def EE:Option (Unit):=some ()
def EF:Option (Unit):=some ()
def wI:Option ((Int×(List Int))⊕((List Int))):=cond (decide (y<(w.length:Int))) ((idx w y).bind fun a=>(idx e (wrap .i64 (a-1))).bind fun b=>(ap b (List.length E)).bind fun c=>(E[c]?).bind fun d=>(room ((List.length J)+List.length ([d]))).bind fun f=>some (Sum.inl ((wrap .i64 (y+1)),(J++([d]))))) (some (Sum.inr J))
def Px:Option (((List Int))):=ai (fun(a:Int×(List Int))=>((wI e w a.1 E a.2).map (Sum.elim (fun b=>Sum.inl (b.1,b.2)) (fun b=>Sum.inr b)))) LL (0,([]:List Int))
def Py:=(Px e w E).map (fun a=>a)
def Pz:=(EF).bind (fun a=>Py e w E)
def EG:Option ((Bool×(List Int))):=some (true,e)
def PA:=(Pz e w E).bind (fun a=>EG a)
def PB:=(EE).bind (fun a=>PA e w E)
def PC:=(Pw w E).bind (fun a=>PB e w a)
def EH:=(EC e w).bind (Sum.elim (fun a=>PC e w a) (fun b=>some ((fun a=>a) b)))
@[irreducible] def EI:=EH e w
def wJ:Option (((List Int))):=(rB e).bind fun a=>(EI e a).bind fun b=>some (b.2)
@[irreducible] def rD:=wJ e
def rE:Option ((Nat×(List Int))):=(room ((List.length ([]:List Int))+List.length e)).bind fun a=>cond (p==0) ((ga q 1 (e.length:Int)).bind fun b=>cond b ((ap (wrap .i64 (q-1)) (List.length (([]:List Int)++e))).bind fun c=>some ((List.length ((([]:List Int)++e).set c r)),((([]:List Int)++e).set c r))) (cond ((p==1)&&((q==q)&&((r==0)&&true))) ((room ((List.length (([]:List Int)++e))+List.length ([q]))).bind fun d=>some ((List.length ((([]:List Int)++e)++([q]))),((([]:List Int)++e)++([q])))) (cond ((p==2)&&((q==0)&&((r==0)&&true))) ((inc (wrap .i64 ((List.length (([]:List Int)++e):Int)-1)) (List.length (([]:List Int)++e))).bind fun f=>some ((f-0),(([]:List Int)++e))) (cond ((p==3)&&((q==0)&&((r==0)&&true))) ((pg e).bind fun g=>some ((List.length g),g)) (cond ((p==4)&&((q==0)&&((r==0)&&true))) ((rD e).bind fun h=>some ((List.length h),h)) (some ((List.length ([]:List Int)),([]:List Int)))))))) (cond ((p==1)&&((q==q)&&((r==0)&&true))) ((room ((List.length (([]:List Int)++e))+List.length ([q]))).bind fun i=>some ((List.length ((([]:List Int)++e)++([q]))),((([]:List Int)++e)++([q])))) (cond ((p==2)&&((q==0)&&((r==0)&&true))) ((inc (wrap .i64 ((List.length (([]:List Int)++e):Int)-1)) (List.length (([]:List Int)++e))).bind fun j=>some ((j-0),(([]:List Int)++e))) (cond ((p==3)&&((q==0)&&((r==0)&&true))) ((pg e).bind fun k=>some ((List.length k),k)) (cond ((p==4)&&((q==0)&&((r==0)&&true))) ((rD e).bind fun l=>some ((List.length l),l)) (some ((List.length ([]:List Int)),([]:List Int)))))))
@[irreducible] def pi:=rE e p q r
def EJ:Option ((Nat×Bool×(List Int)×(List Int)×(List (List Int)))⊕(Bool×(List Int)×(List (List Int)))):=(ro e A).bind fun a=>cond (!a) (some (Sum.inr (false,([]:List Int),([]:List (List Int))))) ((rq e A).bind fun b=>cond ((C==5)&&((M==0)&&((O==0)&&true))) (cond (decide ((A.length:Int)>0)) ((ap (wrap .i64 ((List.length (b.2):Int)-1)) (List.length (b.2))).bind fun c=>(((b.2))[c]?).bind fun d=>(inc (wrap .i64 ((List.length (b.2):Int)-1)) (List.length (((b.2)).set c []))).bind fun f=>(sure (Nat.blt c 0||Nat.ble f c)).bind fun g=>some (Sum.inr (true,d,(((((b.2)).set c []).take f).drop 0)))) ((pi e C M O).bind fun h=>some (Sum.inl ((h.1),(((((h.1):Nat):Int))==(e.length:Int)),(h.2),(b.1),(b.2))))) ((pi e C M O).bind fun i=>some (Sum.inl ((i.1),(((((i.1):Nat):Int))==(e.length:Int)),(i.2),(b.1),(b.2)))))
def EL:Option (Unit):=some ()
def pj:Option ((Bool×Int)⊕Bool):=cond (decide (p<(((f:Nat):Int)))) (cond g ((ap p f).bind fun a=>(E[(0+a)]?).bind fun b=>(idx w p).bind fun c=>some (Sum.inl ((b==c),(wrap .i64 (p+1))))) (some (Sum.inr g))) (some (Sum.inr g))
def EM:Option (Bool):=ai (fun(a:Bool×Int)=>((pj f a.1 a.2 w E).map (Sum.elim (fun b=>Sum.inl (b.1,b.2)) (fun b=>Sum.inr b)))) LL (g,0)
def PD:=(EM f g w E).map (fun a=>a)
def PE:=(EL).bind (fun a=>PD f g w E)
def EN:Option ((Bool×(List Int)×(List (List Int)))):=cond g (some (false,E,F)) ((dG ((w.drop 0).take f)).bind fun a=>cond (!a) (some (false,E,F)) ((room (List.length F+1)).bind fun b=>cond (decide ((List.length ((F++ [[]]).set (List.length F) E):Int)>8)) ((inc 1 (List.length ((F++ [[]]).set (List.length F) E))).bind fun c=>(room ((List.length ([]:List Int))+List.length ((w.drop 0).take f))).bind fun d=>some (true,(([]:List Int)++((w.drop 0).take f)),((((F++ [[]]).set (List.length F) E).take (List.length ((F++ [[]]).set (List.length F) E))).drop c))) ((room ((List.length ([]:List Int))+List.length ((w.drop 0).take f))).bind fun e=>some (true,(([]:List Int)++((w.drop 0).take f)),((F++ [[]]).set (List.length F) E)))))
def EP:=(PE f g w E).bind (fun a=>EN f a E J K)
def wK:=(EJ e A C M O).bind (Sum.elim (fun a=>EP a.1 a.2.1 e a.2.2.1 a.2.2.2.1 a.2.2.2.2) (fun b=>some ((fun a=>a) b)))
@[irreducible] def wL:=wK e A C M O
def EQ:Option (Unit):=some ()
def ER:Option (Unit):=some ()
def rF:Option ((ByteArray×Int)⊕ByteArray):=cond (decide (p<(e.length:Int))) (cond (decide (p>0)) ((cat i (ByteArray.mk #[44])).bind fun a=>(idx e p).bind fun b=>(cV b).bind fun c=>(cat a c).bind fun d=>some (Sum.inl (d,(wrap .i64 (p+1))))) ((idx e p).bind fun f=>(cV f).bind fun g=>(cat i g).bind fun h=>some (Sum.inl (h,(wrap .i64 (p+1)))))) (some (Sum.inr i))
def PF:Option (ByteArray):=ai (fun(a:ByteArray×Int)=>((rF e a.1 a.2).map (Sum.elim (fun b=>Sum.inl (b.1,b.2)) (fun b=>Sum.inr b)))) LL (empty,0)
def PG:=(PF e).map (fun a=>a)
def PH:=(ER).bind (fun a=>PG e)
def ES:Option (ByteArray):=cond ((e.length:Int)==0) (some (ByteArray.mk #[110,111,110,101])) (some i)
def PI:=(PH e).bind (fun a=>ES e a)
def wM:=(EQ).bind (fun a=>PI e)
@[irreducible] def lE:=wM e
def ET:Option (Unit):=some ()
def EU:Option (Unit):=some ()
def wN:Option (Unit⊕((List Int))):=cond (decide (p<(e.length:Int))) ((dG e).bind fun a=>cond a (some (Sum.inl ())) (some (Sum.inr w))) (some (Sum.inr w))
def EV:Option (Unit):=some ()
def EW:Option (Int):=some (wrap .i64 (b+1))
def wO:Option ((Int×Int)⊕Int):=(idx e (wrap .i64 (q-1))).bind fun a=>cond (decide (a>0)) ((idx e (wrap .i64 (q-1))).bind fun b=>some (Sum.inl ((wrap .i64 (p+1)),b))) (some (Sum.inr p))
def EX:Option (Int):=ai (fun(a:Int×Int)=>((wO e a.1 a.2).map (Sum.elim (fun b=>Sum.inl (b.1,b.2)) (fun b=>Sum.inr b)))) LL (0,p)
def PJ:=(EX e p).map (fun a=>a)
def PK:=(EW p).bind (fun a=>PJ e a)
def EY:Option (((List Int))):=(room ((List.length e)+List.length ([b]))).bind fun a=>some (e++([b]))
def PL:=(PK e p).bind (fun a=>EY a w)
def PM:=(EV).bind (fun a=>PL e p w)
def PN:=(PM e p w).map (fun a=>a)
def EZ:Option (Int):=some (wrap .i64 (b+1))
def PO:=(PN e p w).bind (fun a=>(EZ p).map (fun b=>(b,a)))
def rG:=(wN e p w).bind (Sum.elim (fun a=>(PO e p w).map (fun a=>(Sum.inl (a.1,a.2)))) (fun b=>some ((fun a=>(Sum.inr a)) b)))
def PP:Option (((List Int))):=ai (fun(a:Int×(List Int))=>((rG e a.1 a.2).map (Sum.elim (fun b=>Sum.inl (b.1,b.2)) (fun b=>Sum.inr b)))) LL (0,([]:List Int))
def PQ:=(PP e).map (fun a=>a)
def PR:=(EU).bind (fun a=>PQ e)
def E0:Option (((List Int))):=some e
def PS:=(PR e).bind (fun a=>E0 a)
def E1:=(ET).bind (fun a=>PS e)
@[irreducible] def E2:=E1 e
def E3:Option (Unit):=some ()
def E4:Option (Unit):=some ()
def rH:Option ((Int×(List (List Int)))⊕((List (List Int)))):=cond (decide (p<(e.length:Int))) ((idx e p).bind fun a=>cond (decide (a>0)) ((idx e p).bind fun b=>(idx e p).bind fun c=>(room ((List.length A)+List.length ([([(bV (wrap .i64 (p+1)) b),(imax (wrap .i64 (p+1)) c)])]))).bind fun d=>some (Sum.inl ((wrap .i64 (p+1)),(A++([([(bV (wrap .i64 (p+1)) b),(imax (wrap .i64 (p+1)) c)])]))))) (some (Sum.inl ((wrap .i64 (p+1)),A)))) (some (Sum.inr A))
def PT:Option (((List (List Int)))):=ai (fun(a:Int×(List (List Int)))=>((rH e a.1 a.2).map (Sum.elim (fun b=>Sum.inl (b.1,b.2)) (fun b=>Sum.inr b)))) LL (0,([]:List (List Int)))
def PU:=(PT e).map (fun a=>a)
def PV:=(E4).bind (fun a=>PU e)
def E5:Option (((List (List Int)))):=some A
def PW:=(PV e).bind (fun a=>E5 a)
def wP:=(E3).bind (fun a=>PW e)
@[irreducible] def wQ:=wP e
def E6:Option ((Int×Int×Int×Int)⊕Bool):=cond (decide (b<1)) (some (Sum.inr false)) (cond (decide (p<1)) (some (Sum.inr false)) (cond (decide (q<1)) (some (Sum.inr false)) (cond (decide (r<1)) (some (Sum.inr false)) (cond (b==p) (some (Sum.inr false)) (cond (q==r) (some (Sum.inr false)) (some (Sum.inl ((bV b p),(imax b p),(bV q r),(imax q r)))))))))
def E7:Option (Bool):=cond (decide (b<q)) (cond (decide (q<p)) (cond (decide (p<r)) (some true) (cond (decide (q<b)) (cond (decide (b<r)) (some (decide (r<p))) (some false)) (some false))) (cond (decide (q<b)) (cond (decide (b<r)) (some (decide (r<p))) (some false)) (some false))) (cond (decide (q<b)) (cond (decide (b<r)) (some (decide (r<p))) (some false)) (some false))
def E8:=(E6 b p q r).bind (Sum.elim (fun a=>E7 a.1 a.2.1 a.2.2.1 a.2.2.2) (fun c=>some ((fun a=>a) c)))
@[irreducible] def E9:=E8 b p q r
def Fa:Option (((List (List Int)))⊕Int):=(dG e).bind fun a=>cond (!a) (some (Sum.inr (-1))) ((wQ e).bind fun b=>some (Sum.inl b))
def Fb:Option (Unit):=some ()
def wR:Option (Unit⊕Int):=cond (decide (p<(A.length:Int))) (some (Sum.inl ())) (some (Sum.inr b))
def Fc:Option (Unit):=some ()
def rI:Option ((Int×Int)⊕Int):=cond (decide (q<p)) ((ap q (List.length A)).bind fun a=>(A[a]?).bind fun c=>(idx c 0).bind fun d=>(ap q (List.length A)).bind fun e=>(A[e]?).bind fun f=>(idx f 1).bind fun g=>(ap p (List.length A)).bind fun h=>(A[h]?).bind fun i=>(idx i 0).bind fun j=>(ap p (List.length A)).bind fun k=>(A[k]?).bind fun l=>(idx l 1).bind fun m=>(E9 d g j m).bind fun n=>cond n (some (Sum.inl ((wrap .i64 (b+1)),(wrap .i64 (q+1))))) (some (Sum.inl (b,(wrap .i64 (q+1)))))) (some (Sum.inr b))
def PX:Option (Int):=ai (fun(a:Int×Int)=>((rI a.1 p a.2 A).map (Sum.elim (fun c=>Sum.inl (c.1,c.2)) (fun c=>Sum.inr c)))) LL (b,0)
def PY:=(PX b p A).map (fun a=>a)
def Fe:=(Fc).bind (fun a=>PY b p A)
def PZ:=(Fe b p A).map (fun a=>a)
def Ff:Option (Int):=some (wrap .i64 (b+1))
def P0:=(PZ b p A).bind (fun a=>(Ff p).map (fun c=>(a,c)))
def wS:=(wR b p A).bind (Sum.elim (fun a=>(P0 b p A).map (fun a=>(Sum.inl (a.1,a.2)))) (fun c=>some ((fun a=>(Sum.inr a)) c)))
def P1:Option (Int):=ai (fun(a:Int×Int)=>((wS a.1 a.2 A).map (Sum.elim (fun b=>Sum.inl (b.1,b.2)) (fun b=>Sum.inr b)))) LL (0,0)
def P2:=(P1 A).map (fun a=>a)
def P3:=(Fb).bind (fun a=>P2 A)
def Fg:Option (Int):=some b
def P4:=(P3 A).bind (fun a=>Fg a)
def wT:=(Fa e).bind (Sum.elim (fun a=>P4 a) (fun b=>some ((fun a=>a) b)))
@[irreducible] def wU:=wT e
def Fh (R0:(List Int)->Int->Option Int) (a:Int):Option (Int):=(shl .i64 1 (wrap .i64 (a-1))).bind fun b=>some b
def Fi (R0:(List Int)->Int->Option Int):Option (Unit):=some ()
def rJ (R0:(List Int)->Int->Option Int) (a:List Int) (b c d:Int):Option ((Int×Int)⊕Int):=cond (decide (d<(a.length:Int))) ((idx a d).bind fun e=>cond (e==b) ((R0 a (wrap .i64 (d+1))).bind fun f=>some (Sum.inl ((je .i64 c f),(wrap .i64 (d+1))))) (some (Sum.inl (c,(wrap .i64 (d+1)))))) (some (Sum.inr c))
def P5 (R0:(List Int)->Int->Option Int) (a:List Int) (b c:Int):Option (Int):=ai (fun(d:Int×Int)=>((rJ R0 a b d.1 d.2).map (Sum.elim (fun e=>Sum.inl (e.1,e.2)) (fun e=>Sum.inr e)))) LL (c,0)
def P6 (R0:(List Int)->Int->Option Int) (a:List Int) (b c:Int):=(P5 R0 a b c).map (fun d=>d)
def P7 (R0:(List Int)->Int->Option Int) (a:List Int) (b c:Int):=(Fi R0).bind (fun d=>P6 R0 a b c)
def Fj (R0:(List Int)->Int->Option Int) (a:Int):Option (Int):=some a
def P8 (R0:(List Int)->Int->Option Int) (a:List Int) (b c:Int):=(P7 R0 a b c).bind (fun d=>Fj R0 d)
def Fk (R0:(List Int)->Int->Option Int) (a:List Int) (b:Int):=(Fh R0 b).bind (fun c=>P8 R0 a b c)
def P9 (R0:(List Int)->Int->Option Int) (a:List Int) (b:Int):Option (Int):=Fk R0 a b
def lF:Nat->((List Int)->Int->Option Int)
 |0=>(fun _ _=>none)
 |n+1=>(fun S T=>P9 (lF n) S T)
def pk (n:Nat):(List Int)->Int->Option Int:=(lF n)
@[irreducible] def hL:=pk RR e p
def Qa:Option (Unit):=some ()
def Qb:Option ((Int×Int)⊕Int):=cond (decide (b>0)) ((rem b 4).bind fun a=>cond (a==1) ((quo .i64 b 2).bind fun c=>some (Sum.inl (c,(wrap .i64 (p+1))))) ((quo .i64 b 2).bind fun d=>some (Sum.inl (d,p)))) (some (Sum.inr p))
def aeG:Option (Int):=ai (fun(a:Int×Int)=>((Qb a.1 a.2).map (Sum.elim (fun c=>Sum.inl (c.1,c.2)) (fun c=>Sum.inr c)))) LL (b,0)
def aeH:=(aeG b).map (fun a=>a)
def Qc:Option (Int):=some b
def aeI:=(aeH b).bind (fun a=>Qc a)
def Qd:=(Qa).bind (fun a=>aeI b)
@[irreducible] def Fl:=Qd b
def rK:Option (Int):=(dG e).bind fun a=>cond (!a) (some (-1)) ((ga p 1 (e.length:Int)).bind fun b=>cond (!b) (some (-1)) ((hL e p).bind fun c=>(Fl c).bind fun d=>some (wrap .i64 (d-1))))
@[irreducible] def wV:=rK e p
def Fm:Option (Unit):=some ()
def Fo:Option (Unit):=some ()
def nq:Option ((Int×Int)⊕Int):=cond (decide (q<=(e.length:Int))) ((dG e).bind fun a=>cond a ((wV e q).bind fun b=>some (Sum.inl ((imax p b),(wrap .i64 (q+1))))) (some (Sum.inr p))) (some (Sum.inr p))
def Qe:Option (Int):=ai (fun(a:Int×Int)=>((nq e a.1 a.2).map (Sum.elim (fun b=>Sum.inl (b.1,b.2)) (fun b=>Sum.inr b)))) LL ((-1),1)
def Qf:=(Qe e).map (fun a=>a)
def Qg:=(Fo).bind (fun a=>Qf e)
def Qh:Option (Int):=some b
def Qi:=(Qg e).bind (fun a=>Qh a)
def wW:=(Fm).bind (fun a=>Qi e)
@[irreducible] def wX:=wW e
def Fp:Option (Unit⊕Int):=(wH e (e.length:Int)).bind fun a=>cond (!a) (some (Sum.inr (-1))) (some (Sum.inl ()))
def Fq:Option (Unit):=some ()
def wY:Option (Unit⊕Int):=cond (decide (q<(e.length:Int))) (some (Sum.inl ())) (some (Sum.inr p))
def Fr:Option (Unit):=some ()
def rL:Option ((Int×Int)⊕Int):=cond (decide (r<q)) ((idx e r).bind fun a=>(idx e q).bind fun b=>cond (decide (a>b)) (some (Sum.inl ((wrap .i64 (p+1)),(wrap .i64 (r+1))))) (some (Sum.inl (p,(wrap .i64 (r+1)))))) (some (Sum.inr p))
def Fs:Option (Int):=ai (fun(a:Int×Int)=>((rL e a.1 q a.2).map (Sum.elim (fun b=>Sum.inl (b.1,b.2)) (fun b=>Sum.inr b)))) LL (p,0)
def Qj:=(Fs e p q).map (fun a=>a)
def Qk:=(Fr).bind (fun a=>Qj e p q)
def Ql:=(Qk e p q).map (fun a=>a)
def Ft:Option (Int):=some (wrap .i64 (b+1))
def Qm:=(Ql e p q).bind (fun a=>(Ft q).map (fun b=>(a,b)))
def wZ:=(wY e p q).bind (Sum.elim (fun a=>(Qm e p q).map (fun a=>(Sum.inl (a.1,a.2)))) (fun b=>some ((fun a=>(Sum.inr a)) b)))
def Qn:Option (Int):=ai (fun(a:Int×Int)=>((wZ e a.1 a.2).map (Sum.elim (fun b=>Sum.inl (b.1,b.2)) (fun b=>Sum.inr b)))) LL (0,0)
def Qo:=(Qn e).map (fun a=>a)
def Qp:=(Fq).bind (fun a=>Qo e)
def Fu:Option (Int):=some b
def Qq:=(Qp e).bind (fun a=>Fu a)
def w2:=(Fp e).bind (Sum.elim (fun a=>Qq e) (fun b=>some ((fun a=>a) b)))
@[irreducible] def w3:=w2 e
def w4:Option (Int):=(dG e).bind fun a=>cond (!a) (some (-1)) ((rB e).bind fun b=>(w3 b).bind fun c=>some c)
@[irreducible] def Fv:=w4 e
def Fw:Option (Unit⊕Int):=(dG e).bind fun a=>cond (!a) (some (Sum.inr (-1))) (some (Sum.inl ()))
def Fx:Option (Unit):=some ()
def rM:Option ((Int×Int)⊕Int):=cond (decide (q<(e.length:Int))) ((idx e q).bind fun a=>cond (decide (a>0)) ((idx e q).bind fun b=>(idx e q).bind fun c=>some (Sum.inl ((wrap .i64 ((wrap .i64 (p+(imax b (wrap .i64 (q+1)))))-(bV c (wrap .i64 (q+1))))),(wrap .i64 (q+1))))) (some (Sum.inl (p,(wrap .i64 (q+1)))))) (some (Sum.inr p))
def Qr:Option (Int):=ai (fun(a:Int×Int)=>((rM e a.1 a.2).map (Sum.elim (fun b=>Sum.inl (b.1,b.2)) (fun b=>Sum.inr b)))) LL (0,0)
def Qs:=(Qr e).map (fun a=>a)
def Qt:=(Fx).bind (fun a=>Qs e)
def Qu:Option (Int):=some b
def Qv:=(Qt e).bind (fun a=>Qu a)
def w5:=(Fw e).bind (Sum.elim (fun a=>Qv e) (fun b=>some ((fun a=>a) b)))
@[irreducible] def w6:=w5 e
def Qw:Option (Unit):=some ()
def Qx:Option (Unit):=some ()
def Qy:Option ((Int×(List Int))⊕((List Int))):=(shr .i64 b p).bind fun a=>cond (decide (a>0)) ((shr .i64 b p).bind fun c=>(rem c 2).bind fun d=>cond (d==1) ((room ((List.length w)+List.length ([(wrap .i64 (p+1))]))).bind fun e=>some (Sum.inl ((wrap .i64 (p+1)),(w++([(wrap .i64 (p+1))]))))) (some (Sum.inl ((wrap .i64 (p+1)),w)))) (some (Sum.inr w))
def aeJ:Option (((List Int))):=ai (fun(a:Int×(List Int))=>((Qy b a.1 a.2).map (Sum.elim (fun c=>Sum.inl (c.1,c.2)) (fun c=>Sum.inr c)))) LL (0,([]:List Int))
def aeK:=(aeJ b).map (fun a=>a)
def aeL:=(Qx).bind (fun a=>aeK b)
def Qz:Option (((List Int))):=some e
def aeM:=(aeL b).bind (fun a=>Qz a)
def QA:=(Qw).bind (fun a=>aeM b)
@[irreducible] def w7:=QA b
def Fy:Option (Unit):=some ()
def Fz:Option (Unit):=some ()
def w8:Option (Unit⊕((List Int))):=cond (decide (p<(e.length:Int))) (some (Sum.inl ())) (some (Sum.inr w))
def FA:Option (Int⊕Unit):=(idx e q).bind fun a=>cond (a !=p) (some (Sum.inr ())) ((hL e (wrap .i64 (q+1))).bind fun b=>(w7 b).bind fun c=>some (Sum.inl (c.length:Int)))
def rN:Option (Int⊕Int):=cond (decide (p<(w.length:Int))) ((ap p (List.length w)).bind fun a=>(w[a]?).bind fun c=>cond (decide (c<b)) (some (Sum.inl (wrap .i64 (p+1)))) (some (Sum.inr p))) (some (Sum.inr p))
def FB:Option (Int):=ai (fun(a:Int)=>((rN b a e).map (Sum.elim (fun c=>Sum.inl c) (fun c=>Sum.inr c)))) LL 0
def QB:=(FB b e).map (fun a=>a)
def FC:Option (((List Int))):=(inc p (List.length w)).bind fun a=>(room ((List.length ([]:List Int))+List.length ((w.drop 0).take (a-0)))).bind fun c=>(room ((List.length (([]:List Int)++((w.drop 0).take (a-0))))+List.length ([b]))).bind fun d=>(inc p (List.length w)).bind fun e=>(room ((List.length ((([]:List Int)++((w.drop 0).take (a-0)))++([b])))+List.length ((w.drop e).take ((List.length w)-e)))).bind fun f=>some (((([]:List Int)++((w.drop 0).take (a-0)))++([b]))++((w.drop e).take ((List.length w)-e)))
def FD:=(QB b e).bind (fun a=>FC b a e)
def QC:=(FA e p q).bind (Sum.elim (fun a=>(FD a w).map (fun b=>(Sum.inl b))) (fun c=>some ((fun a=>(Sum.inr a)) c)))
def QD:=(QC e p q w).map (Sum.elim (fun a=>a) (fun a=>w))
def FE:Option (Int):=some (wrap .i64 (b+1))
def QE:=(QD e p q w).bind (fun a=>(FE q).map (fun b=>(b,a)))
def w9:=(w8 e q w).bind (Sum.elim (fun a=>(QE e p q w).map (fun a=>(Sum.inl (a.1,a.2)))) (fun b=>some ((fun a=>(Sum.inr a)) b)))
def QF:Option (((List Int))):=ai (fun(a:Int×(List Int))=>((w9 e p a.1 a.2).map (Sum.elim (fun b=>Sum.inl (b.1,b.2)) (fun b=>Sum.inr b)))) LL (0,([]:List Int))
def QG:=(QF e p).map (fun a=>a)
def QH:=(Fz).bind (fun a=>QG e p)
def FF:Option (((List Int))):=some e
def QI:=(QH e p).bind (fun a=>FF a)
def xa:=(Fy).bind (fun a=>QI e p)
@[irreducible] def xb:=xa e p
def FG:Option (Unit):=some ()
def FH:Option (Unit):=some ()
def xc:Option (Unit⊕Int):=(shl .i64 1 (e.length:Int)).bind fun a=>cond (decide (q<a)) (some (Sum.inl ())) (some (Sum.inr p))
def FI:Option (Unit):=some ()
def FJ:Option (Unit):=some ()
def xd:Option (Unit⊕Int):=cond (decide (p<2)) (some (Sum.inl ())) (some (Sum.inr b))
def FK:Option (Int):=some (wrap .i64 ((e.length:Int)-1))
def rO:Option ((Int×Int×Int)⊕Int):=cond (decide (v>=0)) ((shr .i64 p v).bind fun a=>(rem a 2).bind fun b=>cond (b==r) ((idx e v).bind fun c=>cond (r==1) (cond (!g) ((idx e v).bind fun d=>some (Sum.inl ((wrap .i64 ((wrap .i64 (q+(wrap .i64 (u*c))))+d)),(wrap .i64 (u+1)),(wrap .i64 (v-1))))) (some (Sum.inl ((wrap .i64 (q+(wrap .i64 (u*c)))),(wrap .i64 (u+1)),(wrap .i64 (v-1)))))) (some (Sum.inl ((wrap .i64 (q+(wrap .i64 (u*c)))),(wrap .i64 (u+1)),(wrap .i64 (v-1)))))) (some (Sum.inl (q,u,(wrap .i64 (v-1)))))) (some (Sum.inr q))
def FL:Option (Int):=ai (fun(a:Int×Int×Int)=>((rO e g p a.1 r a.2.1 a.2.2).map (Sum.elim (fun b=>Sum.inl (b.1,b.2.1,b.2.2)) (fun b=>Sum.inr b)))) LL (q,0,u)
def QJ:=(FL e g p q r u).map (fun a=>a)
def QK:=(FK e).bind (fun a=>QJ e g p q r a)
def QL:=(QK e g p q r).map (fun a=>a)
def FM:Option (Int):=some (wrap .i64 (b+1))
def QM:=(QL e g p q r).bind (fun a=>(FM r).map (fun b=>(a,b)))
def xe:=(xd q r).bind (Sum.elim (fun a=>(QM e g p q r).map (fun a=>(Sum.inl (a.1,a.2)))) (fun b=>some ((fun a=>(Sum.inr a)) b)))
def FN:Option (Int):=ai (fun(a:Int×Int)=>((xe e g p a.1 a.2).map (Sum.elim (fun b=>Sum.inl (b.1,b.2)) (fun b=>Sum.inr b)))) LL (0,0)
def QN:=(FN e g p).map (fun a=>a)
def QO:=(FJ).bind (fun a=>QN e g p)
def FO:Option (Int):=cond (decide (b<0)) (some p) (cond (decide (p<b)) (some p) (some b))
def QP:=(QO e g q).bind (fun a=>FO p a)
def QQ:=(FI).bind (fun a=>QP e g p q)
def QR:=(QQ e g p q).map (fun a=>a)
def FP:Option (Int):=some (wrap .i64 (b+1))
def QS:=(QR e g p q).bind (fun a=>(FP q).map (fun b=>(a,b)))
def xf:=(xc e p q).bind (Sum.elim (fun a=>(QS e g p q).map (fun a=>(Sum.inl (a.1,a.2)))) (fun b=>some ((fun a=>(Sum.inr a)) b)))
def QT:Option (Int):=ai (fun(a:Int×Int)=>((xf e g a.1 a.2).map (Sum.elim (fun b=>Sum.inl (b.1,b.2)) (fun b=>Sum.inr b)))) LL ((-1),0)
def QU:=(QT e g).map (fun a=>a)
def QV:=(FH).bind (fun a=>QU e g)
def FQ:Option (Int):=some b
def QW:=(QV e g).bind (fun a=>FQ a)
def xg:=(FG).bind (fun a=>QW e g)
@[irreducible] def xh:=xg e g
def FR:Option (Int⊕Int):=(dG e).bind fun a=>cond (!a) (some (Sum.inr (-1))) (some (Sum.inl (wrap .i64 ((e.length:Int)-1))))
def FT:Option (Unit):=some ()
def rP:Option ((Int×Int)⊕Int):=cond (decide (q<=(e.length:Int))) ((idx e (wrap .i64 (q-1))).bind fun a=>(xb e q).bind fun b=>(xh b (a==0)).bind fun c=>some (Sum.inl ((wrap .i64 (p+c)),(wrap .i64 (q+1))))) (some (Sum.inr p))
def QX:Option (Int):=ai (fun(a:Int×Int)=>((rP e a.1 a.2).map (Sum.elim (fun b=>Sum.inl (b.1,b.2)) (fun b=>Sum.inr b)))) LL (p,1)
def QY:=(QX e p).map (fun a=>a)
def QZ:=(FT).bind (fun a=>QY e p)
def Q0:Option (Int):=some b
def Q1:=(QZ e p).bind (fun a=>Q0 a)
def xi:=(FR e).bind (Sum.elim (fun a=>Q1 e a) (fun b=>some ((fun a=>a) b)))
@[irreducible] def xj:=xi e
def FU:Option (Unit):=some ()
def FV:Option (Unit):=some ()
def rQ:Option (Unit⊕((List Int))):=cond (decide (p<(e.length:Int))) ((dG e).bind fun a=>cond a (some (Sum.inl ())) (some (Sum.inr w))) (some (Sum.inr w))
def FW:Option (Int):=(idx e p).bind fun a=>cond (decide (a>0)) (some 1) (some 0)
def FX:Option (Unit):=some ()
def rR:Option ((Int×Int)⊕Int):=cond (decide (r<(e.length:Int))) ((idx e r).bind fun a=>cond (a==(wrap .i64 (p+1))) (some (Sum.inl ((wrap .i64 (q+1)),(wrap .i64 (r+1))))) (some (Sum.inl (q,(wrap .i64 (r+1)))))) (some (Sum.inr q))
def xk:Option (Int):=ai (fun(a:Int×Int)=>((rR e p a.1 a.2).map (Sum.elim (fun b=>Sum.inl (b.1,b.2)) (fun b=>Sum.inr b)))) LL (q,0)
def Q2:=(xk e p q).map (fun a=>a)
def Q3:=(FX).bind (fun a=>Q2 e p q)
def xl:Option (((List Int))):=(room ((List.length e)+List.length ([b]))).bind fun a=>some (e++([b]))
def Q4:=(Q3 e p q).bind (fun a=>xl a w)
def Q5:=(FW e p).bind (fun a=>Q4 e p a w)
def Q6:=(Q5 e p w).map (fun a=>a)
def FY:Option (Int):=some (wrap .i64 (b+1))
def Q7:=(Q6 e p w).bind (fun a=>(FY p).map (fun b=>(b,a)))
def pm:=(rQ e p w).bind (Sum.elim (fun a=>(Q7 e p w).map (fun a=>(Sum.inl (a.1,a.2)))) (fun b=>some ((fun a=>(Sum.inr a)) b)))
def Q8:Option (((List Int))):=ai (fun(a:Int×(List Int))=>((pm e a.1 a.2).map (Sum.elim (fun b=>Sum.inl (b.1,b.2)) (fun b=>Sum.inr b)))) LL (0,([]:List Int))
def Q9:=(Q8 e).map (fun a=>a)
def Ra:=(FV).bind (fun a=>Q9 e)
def FZ:Option (((List Int))):=some e
def Rb:=(Ra e).bind (fun a=>FZ a)
def xm:=(FU).bind (fun a=>Rb e)
@[irreducible] def xn:=xm e
def F0:Option ((Int×(List Int))⊕Int):=(dG e).bind fun a=>cond (!a) (some (Sum.inr (-1))) ((quo .i64 (wrap .i64 ((wrap .i64 ((e.length:Int)-1))*(wrap .i64 ((e.length:Int)-2)))) 2).bind fun b=>(xn e).bind fun c=>some (Sum.inl (b,c)))
def F1:Option (Unit):=some ()
def rS:Option ((Int×Int)⊕Int):=cond (decide (p<(w.length:Int))) ((ap p (List.length w)).bind fun a=>(w[a]?).bind fun c=>(ap p (List.length w)).bind fun d=>(w[d]?).bind fun e=>(quo .i64 (wrap .i64 (c*(wrap .i64 (e-1)))) 2).bind fun f=>some (Sum.inl ((wrap .i64 (b-f)),(wrap .i64 (p+1))))) (some (Sum.inr b))
def Rc:Option (Int):=ai (fun(a:Int×Int)=>((rS a.1 a.2 e).map (Sum.elim (fun c=>Sum.inl (c.1,c.2)) (fun c=>Sum.inr c)))) LL (b,0)
def Rd:=(Rc b e).map (fun a=>a)
def Re:=(F1).bind (fun a=>Rd b e)
def F2:Option (Int):=some b
def Rf:=(Re b e).bind (fun a=>F2 a)
def xo:=(F0 e).bind (Sum.elim (fun a=>Rf a.1 a.2) (fun b=>some ((fun a=>a) b)))
@[irreducible] def xp:=xo e
def Rg:Option (Unit):=some ()
def Rh:Option (Int⊕Int):=(rem b 2).bind fun a=>cond (a==0) ((quo .i64 b 2).bind fun c=>some (Sum.inl c)) (some (Sum.inr b))
def aeN:=ai (fun(a:Int)=>((Rh a).map (Sum.elim (fun c=>Sum.inl c) (fun c=>Sum.inr c)))) LL b
def aeO:=(aeN b).map (fun a=>a)
def Ri:Option (Bool):=some ((dM .i64 b (wrap .i64 (b+1)))==0)
def aeP:=(aeO b).bind (fun a=>Ri a)
def Rj:=(Rg).bind (fun a=>aeP b)
@[irreducible] def F3:=Rj b
def F4:Option (Unit):=some ()
def F5:Option (Unit):=some ()
def lG:Option (Int⊕Bool⊕Unit):=cond (decide (p<=(e.length:Int))) ((dG e).bind fun a=>cond a ((hL e p).bind fun b=>(F3 b).bind fun c=>cond (!c) (some (Sum.inr (Sum.inl false))) (some (Sum.inl (wrap .i64 (p+1))))) (some (Sum.inr (Sum.inr ())))) (some (Sum.inr (Sum.inr ())))
def Rk:Option (Bool⊕Unit):=ai (fun(a:Int)=>((lG e a).map (Sum.elim (fun b=>Sum.inl b) (Sum.elim (fun b=>Sum.inr (Sum.inl b)) (fun b=>Sum.inr (Sum.inr b)))))) LL 1
def Rl:=(Rk e).map (Sum.elim (fun a=>(Sum.inr a)) (fun a=>(Sum.inl ())))
def Rm:=(F5).bind (fun a=>Rl e)
def F6:Option (Bool):=(dG e).bind fun a=>some a
def Rn:=(Rm e).bind (Sum.elim (fun a=>F6 e) (fun b=>some ((fun a=>a) b)))
def xq:=(F4).bind (fun a=>Rn e)
@[irreducible] def nr:=xq e
def rT:Option (ByteArray):=cond g (some (ByteArray.mk #[121,101,115])) (some (ByteArray.mk #[110,111]))
@[irreducible] def xr:=rT g
def F7:Option (Unit):=some ()
def F8:Option (Unit):=some ()
def xt:Option ((Int×Int×Int)⊕Int):=cond (decide (u<8)) ((shr .i64 b u).bind fun a=>(rem a 2).bind fun c=>(shr .i64 p u).bind fun d=>(rem d 2).bind fun e=>cond (decide ((wrap .i64 (c+(wrap .i64 (2*e))))>0)) (cond ((wrap .i64 (c+(wrap .i64 (2*e)))) !=q) (some (Sum.inl ((wrap .i64 (c+(wrap .i64 (2*e)))),(wrap .i64 (r+1)),(wrap .i64 (u+1))))) (some (Sum.inl (q,r,(wrap .i64 (u+1)))))) (some (Sum.inl (q,r,(wrap .i64 (u+1)))))) (some (Sum.inr r))
def Ro:Option (Int):=ai (fun(a:Int×Int×Int)=>((xt b p a.1 a.2.1 a.2.2).map (Sum.elim (fun c=>Sum.inl (c.1,c.2.1,c.2.2)) (fun c=>Sum.inr c)))) LL (0,0,0)
def Rp:=(Ro b p).map (fun a=>a)
def Rq:=(F8).bind (fun a=>Rp b p)
def F9:Option (Bool):=some (decide (b>=4))
def Rr:=(Rq b p).bind (fun a=>F9 a)
def xu:=(F7).bind (fun a=>Rr b p)
@[irreducible] def xv:=xu b p
def rU:Option (Bool):=(dG e).bind fun a=>cond (!a) (some false) ((ga p 1 (e.length:Int)).bind fun b=>cond (!b) (some false) ((ga q 1 (e.length:Int)).bind fun c=>cond (!c) (some false) ((hL e p).bind fun d=>(hL e q).bind fun f=>cond ((dM .i64 d f)==0) ((xv d f).bind fun g=>some g) (some false))))
@[irreducible] def xw:=rU e p q
def Ga:Option (Unit):=some ()
def Gb:Option (Unit):=some ()
def rV:Option (Unit⊕Unit):=cond (decide (p<=(e.length:Int))) (some (Sum.inl ())) (some (Sum.inr ()))
def xx:Option (Unit):=some ()
def pn:Option (Int⊕Bool⊕Unit):=cond (decide (q<p)) ((xw e p q).bind fun a=>cond a (some (Sum.inr (Sum.inl false))) (some (Sum.inl (wrap .i64 (q+1))))) (some (Sum.inr (Sum.inr ())))
def Gc:Option (Bool⊕Unit):=ai (fun(a:Int)=>((pn e p a).map (Sum.elim (fun b=>Sum.inl b) (Sum.elim (fun b=>Sum.inr (Sum.inl b)) (fun b=>Sum.inr (Sum.inr b)))))) LL 1
def Gd:=(Gc e p).map (Sum.elim (fun a=>(Sum.inr a)) (fun a=>(Sum.inl ())))
def Ge:=(xx).bind (fun a=>Gd e p)
def Gf:=(Ge e p).map (Sum.elim (fun a=>(Sum.inl ())) (fun a=>(Sum.inr a)))
def Gg:Option (Int):=some (wrap .i64 (b+1))
def Gh:=(Gf e p).bind (Sum.elim (fun a=>(Gg p).map (fun a=>(Sum.inl a))) (fun b=>some ((fun a=>(Sum.inr a)) b)))
def rW:=(rV e p).bind (Sum.elim (fun a=>(Gh e p).map (Sum.elim (fun a=>(Sum.inl a)) (fun a=>(Sum.inr (Sum.inl a))))) (fun b=>some ((fun a=>(Sum.inr (Sum.inr a))) b)))
def Rs:Option (Bool⊕Unit):=ai (fun(a:Int)=>((rW e a).map (Sum.elim (fun b=>Sum.inl b) (Sum.elim (fun b=>Sum.inr (Sum.inl b)) (fun b=>Sum.inr (Sum.inr b)))))) LL 1
def Rt:=(Rs e).map (Sum.elim (fun a=>(Sum.inr a)) (fun a=>(Sum.inl ())))
def Ru:=(Gb).bind (fun a=>Rt e)
def Gi:Option (Bool):=(dG e).bind fun a=>some a
def Rw:=(Ru e).bind (Sum.elim (fun a=>Gi e) (fun b=>some ((fun a=>a) b)))
def xy:=(Ga).bind (fun a=>Rw e)
@[irreducible] def xz:=xy e
def Gj:Option (Unit):=some ()
def Gk:Option (Unit):=some ()
def po:Option (Int⊕Bool⊕Unit):=cond (decide (C<(e.length:Int))) ((idx e C).bind fun a=>cond (a==p) ((idx z C).bind fun b=>cond (!b) (some (Sum.inr (Sum.inl false))) (some (Sum.inl (wrap .i64 (C+1))))) (some (Sum.inl (wrap .i64 (C+1))))) (some (Sum.inr (Sum.inr ())))
def Rx:Option (Bool⊕Unit):=ai (fun(a:Int)=>((po e p z a).map (Sum.elim (fun b=>Sum.inl b) (Sum.elim (fun b=>Sum.inr (Sum.inl b)) (fun b=>Sum.inr (Sum.inr b)))))) LL 0
def Ry:=(Rx e p z).map (Sum.elim (fun a=>(Sum.inr a)) (fun a=>(Sum.inl ())))
def Rz:=(Gk).bind (fun a=>Ry e p z)
def Gl:Option (Bool):=some true
def RA:=(Rz e p z).bind (Sum.elim (fun a=>Gl) (fun b=>some ((fun a=>a) b)))
def xA:=(Gj).bind (fun a=>RA e p z)
@[irreducible] def lH:=xA e p z
def xB:Option (((List Bool))⊕(ByteArray×Bool)):=(nr e).bind fun a=>cond (!a) (some (Sum.inr (empty,false))) ((mk (e.length:Int) (e.length:Int)).bind fun b=>some (Sum.inl (replicate b false)))
def rX:Option (Unit⊕ByteArray):=cond (decide (p<=(e.length:Int))) (some (Sum.inl ())) (cond (decide ((w.length:Int)>1)) (some (Sum.inl ())) (some (Sum.inr i)))
def xC:Option ((ByteArray×Int×(List Bool)×(List Int))):=cond (decide ((wrap .i64 ((E.length:Int)-1))>=1)) ((ap (wrap .i64 ((wrap .i64 ((E.length:Int)-1))-1)) (List.length E)).bind fun a=>(E[a]?).bind fun b=>(idx e (wrap .i64 (b-1))).bind fun c=>(ap (wrap .i64 ((E.length:Int)-1)) (List.length E)).bind fun d=>(E[d]?).bind fun f=>cond (c==f) ((ap (wrap .i64 ((wrap .i64 ((E.length:Int)-1))-1)) (List.length E)).bind fun g=>(E[g]?).bind fun h=>(lH e h z).bind fun j=>cond j ((cat i (ByteArray.mk #[76])).bind fun k=>(ap (wrap .i64 ((wrap .i64 ((E.length:Int)-1))-1)) (List.length E)).bind fun l=>(E[l]?).bind fun m=>(ap (wrap .i64 (m-1)) (List.length z)).bind fun n=>(inc (wrap .i64 ((wrap .i64 ((E.length:Int)-1))-1)) (List.length E)).bind fun o=>(ap (wrap .i64 ((E.length:Int)-1)) (List.length E)).bind fun q=>(E[q]?).bind fun r=>(room (List.length ((E.drop 0).take (o-0)))).bind fun s=>(room ((List.length ((E.drop 0).take (o-0)))+List.length ([r]))).bind fun t=>some (k,p,(z.set n true),(((E.drop 0).take (o-0))++([r])))) (cond (decide ((wrap .i64 ((E.length:Int)-1))>=1)) ((ap (wrap .i64 ((E.length:Int)-1)) (List.length E)).bind fun u=>(E[u]?).bind fun v=>(idx e (wrap .i64 (v-1))).bind fun w=>(ap (wrap .i64 ((wrap .i64 ((E.length:Int)-1))-1)) (List.length E)).bind fun x=>(E[x]?).bind fun y=>cond (w==y) ((ap (wrap .i64 ((E.length:Int)-1)) (List.length E)).bind fun A=>(E[A]?).bind fun B=>(lH e B z).bind fun C=>cond C ((cat i (ByteArray.mk #[82])).bind fun D=>(ap (wrap .i64 ((E.length:Int)-1)) (List.length E)).bind fun F=>(E[F]?).bind fun G=>(ap (wrap .i64 (G-1)) (List.length z)).bind fun H=>(inc (wrap .i64 ((E.length:Int)-1)) (List.length E)).bind fun I=>(room ((List.length ([]:List Int))+List.length ((E.drop 0).take (I-0)))).bind fun J=>some (D,p,(z.set H true),(([]:List Int)++((E.drop 0).take (I-0))))) ((cat i (ByteArray.mk #[83])).bind fun K=>(room ((List.length E)+List.length ([p]))).bind fun L=>some (K,(wrap .i64 (p+1)),z,(E++([p]))))) ((cat i (ByteArray.mk #[83])).bind fun M=>(room ((List.length E)+List.length ([p]))).bind fun N=>some (M,(wrap .i64 (p+1)),z,(E++([p]))))) ((cat i (ByteArray.mk #[83])).bind fun O=>(room ((List.length E)+List.length ([p]))).bind fun P=>some (O,(wrap .i64 (p+1)),z,(E++([p])))))) (cond (decide ((wrap .i64 ((E.length:Int)-1))>=1)) ((ap (wrap .i64 ((E.length:Int)-1)) (List.length E)).bind fun Q=>(E[Q]?).bind fun R=>(idx e (wrap .i64 (R-1))).bind fun V=>(ap (wrap .i64 ((wrap .i64 ((E.length:Int)-1))-1)) (List.length E)).bind fun T=>(E[T]?).bind fun W=>cond (V==W) ((ap (wrap .i64 ((E.length:Int)-1)) (List.length E)).bind fun Y=>(E[Y]?).bind fun Z=>(lH e Z z).bind fun X=>cond X ((cat i (ByteArray.mk #[82])).bind fun a0=>(ap (wrap .i64 ((E.length:Int)-1)) (List.length E)).bind fun a1=>(E[a1]?).bind fun a2=>(ap (wrap .i64 (a2-1)) (List.length z)).bind fun a3=>(inc (wrap .i64 ((E.length:Int)-1)) (List.length E)).bind fun S=>(room ((List.length ([]:List Int))+List.length ((E.drop 0).take (S-0)))).bind fun c2=>some (a0,p,(z.set a3 true),(([]:List Int)++((E.drop 0).take (S-0))))) ((cat i (ByteArray.mk #[83])).bind fun a4=>(room ((List.length E)+List.length ([p]))).bind fun c3=>some (a4,(wrap .i64 (p+1)),z,(E++([p]))))) ((cat i (ByteArray.mk #[83])).bind fun a5=>(room ((List.length E)+List.length ([p]))).bind fun c4=>some (a5,(wrap .i64 (p+1)),z,(E++([p]))))) ((cat i (ByteArray.mk #[83])).bind fun a6=>(room ((List.length E)+List.length ([p]))).bind fun c5=>some (a6,(wrap .i64 (p+1)),z,(E++([p])))))) (cond (decide ((wrap .i64 ((E.length:Int)-1))>=1)) ((ap (wrap .i64 ((E.length:Int)-1)) (List.length E)).bind fun a7=>(E[a7]?).bind fun a8=>(idx e (wrap .i64 (a8-1))).bind fun a9=>(ap (wrap .i64 ((wrap .i64 ((E.length:Int)-1))-1)) (List.length E)).bind fun b0=>(E[b0]?).bind fun b1=>cond (a9==b1) ((ap (wrap .i64 ((E.length:Int)-1)) (List.length E)).bind fun b2=>(E[b2]?).bind fun b3=>(lH e b3 z).bind fun b4=>cond b4 ((cat i (ByteArray.mk #[82])).bind fun b5=>(ap (wrap .i64 ((E.length:Int)-1)) (List.length E)).bind fun b6=>(E[b6]?).bind fun b7=>(ap (wrap .i64 (b7-1)) (List.length z)).bind fun b8=>(inc (wrap .i64 ((E.length:Int)-1)) (List.length E)).bind fun U=>(room ((List.length ([]:List Int))+List.length ((E.drop 0).take (U-0)))).bind fun c6=>some (b5,p,(z.set b8 true),(([]:List Int)++((E.drop 0).take (U-0))))) ((cat i (ByteArray.mk #[83])).bind fun b9=>(room ((List.length E)+List.length ([p]))).bind fun c7=>some (b9,(wrap .i64 (p+1)),z,(E++([p]))))) ((cat i (ByteArray.mk #[83])).bind fun c0=>(room ((List.length E)+List.length ([p]))).bind fun c8=>some (c0,(wrap .i64 (p+1)),z,(E++([p]))))) ((cat i (ByteArray.mk #[83])).bind fun c1=>(room ((List.length E)+List.length ([p]))).bind fun c9=>some (c1,(wrap .i64 (p+1)),z,(E++([p])))))
def xD:=(rX e i p E).bind (Sum.elim (fun a=>(xC e i p z E).map (fun a=>(Sum.inl (a.1,a.2.1,a.2.2.1,a.2.2.2)))) (fun b=>some ((fun a=>(Sum.inr a)) b)))
def RB:Option (ByteArray):=ai (fun(a:ByteArray×Int×(List Bool)×(List Int))=>((xD e a.1 a.2.1 a.2.2.1 a.2.2.2).map (Sum.elim (fun b=>Sum.inl (b.1,b.2.1,b.2.2.1,b.2.2.2)) (fun b=>Sum.inr b)))) LL (empty,1,z,([]:List Int))
def RC:=(RB e z).map (fun a=>a)
def Gm:Option ((ByteArray×Bool)):=some (a,true)
def RD:=(RC e z).bind (fun a=>Gm a)
def rY:=(xB e).bind (Sum.elim (fun a=>RD e a) (fun b=>some ((fun a=>a) b)))
@[irreducible] def jp:=rY e
def Gn:Option (Int⊕ByteArray):=cond (decide ((wrap .i64 ((w.length:Int)-1))<0)) (some (Sum.inr (ByteArray.mk #[83]))) ((idx w (wrap .i64 ((w.length:Int)-1))).bind fun a=>(idx e (wrap .i64 (a-1))).bind fun b=>cond (b==y) (some (Sum.inr (ByteArray.mk #[76]))) ((idx e (wrap .i64 (y-1))).bind fun c=>cond (c==a) (some (Sum.inr (ByteArray.mk #[82]))) (some (Sum.inl (wrap .i64 ((w.length:Int)-1))))))
def Gp:Option (Unit):=some ()
def pp:Option (Int⊕ByteArray⊕Unit):=cond (decide (M<C)) ((idx e (wrap .i64 (y-1))).bind fun a=>(idx w M).bind fun b=>cond (a==b) (some (Sum.inr (Sum.inl (ByteArray.mk #[68])))) ((idx w M).bind fun c=>(idx e (wrap .i64 (c-1))).bind fun d=>cond (d==y) (some (Sum.inr (Sum.inl (ByteArray.mk #[68])))) (some (Sum.inl (wrap .i64 (M+1)))))) (some (Sum.inr (Sum.inr ())))
def RE:Option (ByteArray⊕Unit):=ai (fun(a:Int)=>((pp e w y C a).map (Sum.elim (fun b=>Sum.inl b) (Sum.elim (fun b=>Sum.inr (Sum.inl b)) (fun b=>Sum.inr (Sum.inr b)))))) LL 0
def RF:=(RE e w y C).map (Sum.elim (fun a=>(Sum.inr a)) (fun a=>(Sum.inl ())))
def RG:=(Gp).bind (fun a=>RF e w y C)
def RH:Option (ByteArray):=some (ByteArray.mk #[83])
def RI:=(RG e w y C).bind (Sum.elim (fun a=>RH) (fun b=>some ((fun a=>a) b)))
def xE:=(Gn e w y).bind (Sum.elim (fun a=>RI e w y a) (fun b=>some ((fun a=>a) b)))
@[irreducible] def xF:=xE e w y
def Gq:Option (Int):=some (wrap .i64 ((e.length:Int)-1))
def Gr:Option (Bool):=cond (p==83) (some (decide (b<=(w.length:Int)))) (some false)
def Gs:Option (((List Int)×Int×Bool×(List Int))):=(room ((List.length ([]:List Int))+List.length e)).bind fun a=>(room ((List.length (([]:List Int)++e))+List.length ([p]))).bind fun b=>some (((([]:List Int)++e)++([p])),(wrap .i64 (p+1)),true,w)
def Gt:Option (Bool):=cond (q==76) (cond (decide (p<=(w.length:Int))) (cond (decide (r>=0)) ((idx e r).bind fun a=>(ap (wrap .i64 (a-1)) (List.length w)).bind fun b=>(w[b]?).bind fun c=>some (decide (c<0))) (some false)) (some false)) (some false)
def Gu:Option (Unit⊕((List Int)×Int×Bool×(List Int))):=cond x ((idx e r).bind fun a=>(ap (wrap .i64 (a-1)) (List.length E)).bind fun b=>(inc r (List.length e)).bind fun c=>(room ((List.length ([]:List Int))+List.length ((e.take c).drop 0))).bind fun d=>some (Sum.inr ((([]:List Int)++((e.take c).drop 0)),p,true,(E.set b p)))) (cond (q==82) (cond (decide (p<=(E.length:Int))) (cond (decide (r>=0)) ((idx e r).bind fun f=>(ap (wrap .i64 (p-1)) (List.length E)).bind fun g=>(room ((List.length ([]:List Int))+List.length e)).bind fun h=>(room ((List.length (([]:List Int)++e))+List.length ([p]))).bind fun i=>some (Sum.inr (((([]:List Int)++e)++([p])),(wrap .i64 (p+1)),true,(E.set g f)))) (cond (q==68) (cond (decide (r>=0)) ((idx e r).bind fun j=>(ap (wrap .i64 (j-1)) (List.length E)).bind fun k=>(E[k]?).bind fun l=>cond (decide (l>0)) ((inc r (List.length e)).bind fun m=>(room ((List.length ([]:List Int))+List.length ((e.take m).drop 0))).bind fun n=>some (Sum.inr ((([]:List Int)++((e.take m).drop 0)),p,true,E))) (some (Sum.inl ()))) (some (Sum.inl ()))) (some (Sum.inl ())))) (cond (q==68) (cond (decide (r>=0)) ((idx e r).bind fun o=>(ap (wrap .i64 (o-1)) (List.length E)).bind fun s=>(E[s]?).bind fun t=>cond (decide (t>0)) ((inc r (List.length e)).bind fun u=>(room ((List.length ([]:List Int))+List.length ((e.take u).drop 0))).bind fun v=>some (Sum.inr ((([]:List Int)++((e.take u).drop 0)),p,true,E))) (some (Sum.inl ()))) (some (Sum.inl ()))) (some (Sum.inl ())))) (cond (q==68) (cond (decide (r>=0)) ((idx e r).bind fun w=>(ap (wrap .i64 (w-1)) (List.length E)).bind fun y=>(E[y]?).bind fun z=>cond (decide (z>0)) ((inc r (List.length e)).bind fun A=>(room ((List.length ([]:List Int))+List.length ((e.take A).drop 0))).bind fun B=>some (Sum.inr ((([]:List Int)++((e.take A).drop 0)),p,true,E))) (some (Sum.inl ()))) (some (Sum.inl ()))) (some (Sum.inl ()))))
def RJ:=(Gt e p q r w).bind (fun a=>Gu e p q r a w)
def RL:Option (Unit⊕((List Int)×Int×Bool×(List Int))):=cond x ((Gs e p E).map (fun a=>(Sum.inr a))) (RJ e p q r E)
def RM:=(Gr p q w).bind (fun a=>RL e p q r a w)
def RN:=(RM e p q r w).map (Sum.elim (fun a=>(Sum.inl ())) (fun a=>(Sum.inr a)))
def Gv:Option (((List Int)×Int×Bool×(List Int))):=some (e,p,false,w)
def RO:=(RN e p q r w).bind (Sum.elim (fun a=>Gv e p w) (fun b=>some ((fun a=>a) b)))
def Gw:=(Gq e).bind (fun a=>RO e p q a w)
@[irreducible] def Gx:=Gw e p q w
def xG:Option (Unit⊕(ByteArray×Bool)):=(nr e).bind fun a=>cond (!a) (some (Sum.inr (empty,false))) (some (Sum.inl ()))
def Gy:Option (Unit):=some ()
def rZ:Option ((Int×(List Int))⊕((List Int))):=cond (decide (p<(e.length:Int))) ((room ((List.length w)+List.length ([(-1)]))).bind fun a=>some (Sum.inl ((wrap .i64 (p+1)),(w++([(-1)]))))) (some (Sum.inr w))
def RP:Option (((List Int))):=ai (fun(a:Int×(List Int))=>((rZ e a.1 a.2).map (Sum.elim (fun b=>Sum.inl (b.1,b.2)) (fun b=>Sum.inr b)))) LL (0,([]:List Int))
def RQ:=(RP e).map (fun a=>a)
def RS:=(Gy).bind (fun a=>RQ e)
def Gz:Option (Unit):=some ()
def r0:Option (((List Int)×ByteArray×Int×(List Int))⊕(ByteArray×Bool)⊕ByteArray):=cond (decide (M<=(e.length:Int))) ((xF e w M).bind fun a=>(hB a 0).bind fun b=>(Gx w M b N).bind fun c=>cond (!(c.2.2.1)) (some (Sum.inr (Sum.inl (empty,false)))) ((cat D a).bind fun d=>some (Sum.inl ((c.1),d,(c.2.1),(c.2.2.2))))) (some (Sum.inr (Sum.inr D)))
def RT:Option ((ByteArray×Bool)⊕ByteArray):=ai (fun(a:(List Int)×ByteArray×Int×(List Int))=>((r0 e a.1 a.2.1 a.2.2.1 a.2.2.2).map (Sum.elim (fun b=>Sum.inl (b.1,b.2.1,b.2.2.1,b.2.2.2)) (Sum.elim (fun b=>Sum.inr (Sum.inl b)) (fun b=>Sum.inr (Sum.inr b)))))) LL (([]:List Int),empty,1,w)
def RU:=(RT e w).map (Sum.elim (fun a=>(Sum.inr a)) (fun a=>(Sum.inl a)))
def GA:Option ((ByteArray×Bool)):=some (a,true)
def RV:=(RU e w).bind (Sum.elim (fun a=>GA a) (fun b=>some ((fun a=>a) b)))
def RW:=(Gz).bind (fun a=>RV e w)
def RX:=(RS e).bind (fun a=>RW e a)
def r1:=(xG e).bind (Sum.elim (fun a=>RX e) (fun b=>some ((fun a=>a) b)))
@[irreducible] def jq:=r1 e
def RY (R0 R1:Int->Option Int) (a:Int):Option (Unit⊕Int):=cond (a==0) (some (Sum.inr 1)) (some (Sum.inl ()))
def RZ (R0 R1:Int->Option Int):Option (Unit):=some ()
def R2 (R0 R1:Int->Option Int) (a b c:Int):Option ((Int×Int)⊕Int):=cond (decide (c<=a)) ((R1 c).bind fun d=>(R0 (wrap .i64 (a-c))).bind fun e=>some (Sum.inl ((wrap .i64 (b+(wrap .i64 (d*e)))),(wrap .i64 (c+1))))) (some (Sum.inr b))
def aeQ (R0 R1:Int->Option Int) (a:Int):Option (Int):=ai (fun(b:Int×Int)=>((R2 R0 R1 a b.1 b.2).map (Sum.elim (fun c=>Sum.inl (c.1,c.2)) (fun c=>Sum.inr c)))) LL (0,1)
def aeR (R0 R1:Int->Option Int) (a:Int):=(aeQ R0 R1 a).map (fun b=>b)
def aeS (R0 R1:Int->Option Int) (a:Int):=(RZ R0 R1).bind (fun b=>aeR R0 R1 a)
def R3 (R0 R1:Int->Option Int) (a:Int):Option (Int):=some a
def aeT (R0 R1:Int->Option Int) (a:Int):=(aeS R0 R1 a).bind (fun b=>R3 R0 R1 b)
def R4 (R0 R1:Int->Option Int) (a:Int):=(RY R0 R1 a).bind (Sum.elim (fun b=>aeT R0 R1 a) (fun c=>some ((fun b=>b) c)))
def aeU (R0 R1:Int->Option Int) (a:Int):Option (Int):=R4 R0 R1 a
def R5 (R0 R1:Int->Option Int):Option (Unit):=some ()
def R6 (R0 R1:Int->Option Int):Option (Unit):=some ()
def R7 (R0 R1:Int->Option Int) (a b c:Int):Option ((Int×Int)⊕Int):=cond (decide (c<a)) ((R0 c).bind fun d=>(R0 (wrap .i64 ((wrap .i64 (a-1))-c))).bind fun e=>some (Sum.inl ((wrap .i64 (b+(wrap .i64 (d*e)))),(wrap .i64 (c+1))))) (some (Sum.inr b))
def aeV (R0 R1:Int->Option Int) (a:Int):Option (Int):=ai (fun(b:Int×Int)=>((R7 R0 R1 a b.1 b.2).map (Sum.elim (fun c=>Sum.inl (c.1,c.2)) (fun c=>Sum.inr c)))) LL (0,0)
def aeW (R0 R1:Int->Option Int) (a:Int):=(aeV R0 R1 a).map (fun b=>b)
def aeX (R0 R1:Int->Option Int) (a:Int):=(R6 R0 R1).bind (fun b=>aeW R0 R1 a)
def R8 (R0 R1:Int->Option Int) (a:Int):Option (Int):=some a
def aeY (R0 R1:Int->Option Int) (a:Int):=(aeX R0 R1 a).bind (fun b=>R8 R0 R1 b)
def R9 (R0 R1:Int->Option Int) (a:Int):=(R5 R0 R1).bind (fun b=>aeY R0 R1 a)
def aeZ (R0 R1:Int->Option Int) (a:Int):Option (Int):=R9 R0 R1 a
def lI:Nat->(Int->Option Int)×(Int->Option Int)
 |0=>((fun _=>none),(fun _=>none))
 |n+1=>((fun S=>aeU (lI n).1 (lI n).2 S),(fun S=>aeZ (lI n).1 (lI n).2 S))
def pq (n:Nat):Int->Option Int:=(lI n).1
@[irreducible] def lJ:=pq RR b
def pr (n:Nat):Int->Option Int:=(lI n).2
@[irreducible] def xH:=pr RR b
def Sa (R0 R1:(List Int)->Int->Int->Int->Option Int):Option (Unit):=some ()
def Sb (R0 R1:(List Int)->Int->Int->Int->Option Int):Option (Unit):=some ()
def GB (R0 R1:(List Int)->Int->Int->Int->Option Int) (a b c d e:Int):Option ((Int×Int)⊕Int):=cond (decide (e<c)) ((lJ (wrap .i64 (e-a))).bind fun f=>(lJ (wrap .i64 (b-e))).bind fun g=>some (Sum.inl ((wrap .i64 (d+(wrap .i64 (f*g)))),(wrap .i64 (e+1))))) (some (Sum.inr d))
def Sc (R0 R1:(List Int)->Int->Int->Int->Option Int) (a b c:Int):Option (Int):=ai (fun(d:Int×Int)=>((GB R0 R1 a b c d.1 d.2).map (Sum.elim (fun e=>Sum.inl (e.1,e.2)) (fun e=>Sum.inr e)))) LL (0,a)
def Sd (R0 R1:(List Int)->Int->Int->Int->Option Int) (a b c:Int):=(Sc R0 R1 a b c).map (fun d=>d)
def Se (R0 R1:(List Int)->Int->Int->Int->Option Int) (a b c:Int):=(Sb R0 R1).bind (fun d=>Sd R0 R1 a b c)
def GC (R0 R1:(List Int)->Int->Int->Int->Option Int) (a:List Int) (b c d e:Int):Option (Int):=(R1 a b (wrap .i64 (d-1)) d).bind fun f=>(lJ (wrap .i64 (c-d))).bind fun g=>(R1 a (wrap .i64 (d+1)) c d).bind fun h=>some (wrap .i64 ((wrap .i64 (e+(wrap .i64 (f*g))))+h))
def Sf (R0 R1:(List Int)->Int->Int->Int->Option Int) (a:List Int) (b c d:Int):=(Se R0 R1 b c d).bind (fun e=>GC R0 R1 a b c d e)
def GD (R0 R1:(List Int)->Int->Int->Int->Option Int) (a:List Int) (b c d:Int):=(Sa R0 R1).bind (fun e=>Sf R0 R1 a b c d)
def xI (R0 R1:(List Int)->Int->Int->Int->Option Int) (a:List Int) (b c d:Int):Option (Int):=GD R0 R1 a b c d
def Sg (R0 R1:(List Int)->Int->Int->Int->Option Int) (a b:Int):Option (Unit⊕Int):=cond (decide (a>b)) (some (Sum.inr 0)) (some (Sum.inl ()))
def Sh (R0 R1:(List Int)->Int->Int->Int->Option Int) (a:List Int) (b c:Int):Option (Int⊕Int):=(idx a (wrap .i64 (c-1))).bind fun d=>cond (d !=b) (some (Sum.inl (wrap .i64 (c+1)))) (some (Sum.inr c))
def ae0 (R0 R1:(List Int)->Int->Int->Int->Option Int) (a:List Int) (b c:Int):=ai (fun(d:Int)=>((Sh R0 R1 a c d).map (Sum.elim (fun e=>Sum.inl e) (fun e=>Sum.inr e)))) LL b
def ae1 (R0 R1:(List Int)->Int->Int->Int->Option Int) (a:List Int) (b c:Int):=(ae0 R0 R1 a b c).map (fun d=>d)
def Si (R0 R1:(List Int)->Int->Int->Int->Option Int):Option (Unit):=some ()
def Sj (R0 R1:(List Int)->Int->Int->Int->Option Int) (a:List Int) (b c d:Int):Option (Int⊕Int):=cond (decide (d<b)) ((hL a c).bind fun e=>(shr .i64 e d).bind fun f=>(rem f 2).bind fun g=>cond (g==1) (some (Sum.inl (wrap .i64 (d+1)))) (some (Sum.inr d))) (some (Sum.inr d))
def ae2 (R0 R1:(List Int)->Int->Int->Int->Option Int) (a:List Int) (b c d:Int):=ai (fun(e:Int)=>((Sj R0 R1 a c d e).map (Sum.elim (fun f=>Sum.inl f) (fun f=>Sum.inr f)))) LL b
def ae3 (R0 R1:(List Int)->Int->Int->Int->Option Int) (a:List Int) (b c d:Int):=(ae2 R0 R1 a b c d).map (fun e=>e)
def Sk (R0 R1:(List Int)->Int->Int->Int->Option Int):Option (Unit):=some ()
def Sl (R0 R1:(List Int)->Int->Int->Int->Option Int):Option (Unit):=some ()
def GF (R0 R1:(List Int)->Int->Int->Int->Option Int) (a b c d e:Int):Option ((Int×Int)⊕Int):=cond (decide (e<c)) ((xH (wrap .i64 ((wrap .i64 (e-a))+1))).bind fun f=>(lJ (wrap .i64 (b-e))).bind fun g=>some (Sum.inl ((wrap .i64 (d+(wrap .i64 (f*g)))),(wrap .i64 (e+1))))) (some (Sum.inr d))
def Sm (R0 R1:(List Int)->Int->Int->Int->Option Int) (a b c:Int):Option (Int):=ai (fun(d:Int×Int)=>((GF R0 R1 a b c d.1 d.2).map (Sum.elim (fun e=>Sum.inl (e.1,e.2)) (fun e=>Sum.inr e)))) LL (0,a)
def Sn (R0 R1:(List Int)->Int->Int->Int->Option Int) (a b c:Int):=(Sm R0 R1 a b c).map (fun d=>d)
def So (R0 R1:(List Int)->Int->Int->Int->Option Int) (a b c:Int):=(Sl R0 R1).bind (fun d=>Sn R0 R1 a b c)
def GG (R0 R1:(List Int)->Int->Int->Int->Option Int) (a:List Int) (b c d e f g:Int):Option (Int):=(R0 a b f e).bind fun h=>(lJ (wrap .i64 (c-f))).bind fun i=>(R1 a (wrap .i64 (f+1)) c d).bind fun j=>some (wrap .i64 ((wrap .i64 (g+(wrap .i64 (h*i))))+j))
def Sp (R0 R1:(List Int)->Int->Int->Int->Option Int) (a:List Int) (b c d e f:Int):=(So R0 R1 b c f).bind (fun g=>GG R0 R1 a b c d e f g)
def Sq (R0 R1:(List Int)->Int->Int->Int->Option Int) (a:List Int) (b c d e f:Int):=(Sk R0 R1).bind (fun g=>Sp R0 R1 a b c d e f)
def Sr (R0 R1:(List Int)->Int->Int->Int->Option Int) (a:List Int) (b c d e:Int):=(ae3 R0 R1 a b c e).bind (fun f=>Sq R0 R1 a b c d e f)
def Ss (R0 R1:(List Int)->Int->Int->Int->Option Int) (a:List Int) (b c d e:Int):=(Si R0 R1).bind (fun f=>Sr R0 R1 a b c d e)
def Su (R0 R1:(List Int)->Int->Int->Int->Option Int) (a:List Int) (b c d:Int):=(ae1 R0 R1 a b d).bind (fun e=>Ss R0 R1 a b c d e)
def GH (R0 R1:(List Int)->Int->Int->Int->Option Int) (a:List Int) (b c d:Int):=(Sg R0 R1 b c).bind (Sum.elim (fun e=>Su R0 R1 a b c d) (fun f=>some ((fun e=>e) f)))
def xJ (R0 R1:(List Int)->Int->Int->Int->Option Int) (a:List Int) (b c d:Int):Option (Int):=GH R0 R1 a b c d
def he:Nat->((List Int)->Int->Int->Int->Option Int)×((List Int)->Int->Int->Int->Option Int)
 |0=>((fun _ _ _ _=>none),(fun _ _ _ _=>none))
 |n+1=>((fun S T U V=>xI (he n).1 (he n).2 S T U V),(fun S T U V=>xJ (he n).1 (he n).2 S T U V))
def ps (n:Nat):(List Int)->Int->Int->Int->Option Int:=(he n).1
@[irreducible] def r2:=ps RR e p q r
def pt (n:Nat):(List Int)->Int->Int->Int->Option Int:=(he n).2
@[irreducible] def Sv:=pt RR e p q r
def xK:Option (Int):=(nr e).bind fun a=>cond (!a) (some (-1)) (cond (decide ((e.length:Int)>6)) (some (-1)) ((rx e).bind fun b=>(r2 e 1 (e.length:Int) b).bind fun c=>some c))
@[irreducible] def GI:=xK e
def r3:Option (((List Int))):=(dG e).bind fun a=>cond (!a) (some ([]:List Int)) ((ga p 1 (e.length:Int)).bind fun b=>cond (!b) (some ([]:List Int)) ((hL e p).bind fun c=>(w7 c).bind fun d=>some d))
@[irreducible] def xL:=r3 e p
def GJ:Option (((List Int)×(List (List Int)))⊕(ByteArray×(List Int)×(List (List Int)))):=(ro e A).bind fun a=>cond (!a) (some (Sum.inr (empty,([]:List Int),([]:List (List Int))))) ((rq e A).bind fun b=>(wD D).bind fun c=>cond (c.1) ((wL e A (c.2.1) (c.2.2.1) (c.2.2.2)).bind fun d=>cond (!(d.1)) (some (Sum.inr ((ByteArray.mk #[110,111,116]),(d.2.1),(d.2.2)))) (some (Sum.inr ((ByteArray.mk #[111,107]),(d.2.1),(d.2.2))))) (some (Sum.inl ((b.1),(b.2)))))
def GK:Option (Unit):=some ()
def GL:Option (Bool):=some (aE a (ByteArray.mk #[104,101,97,100,115]))
def GM:Option ((ByteArray×(List Int)×(List (List Int)))):=(lE e).bind fun a=>some (a,w,A)
def GN:Option (Bool):=some (aE a (ByteArray.mk #[100,101,112,116,104,115]))
def GO:Option ((ByteArray×(List Int)×(List (List Int)))):=(E2 e).bind fun a=>(lE a).bind fun b=>some (b,w,A)
def GP:Option (Bool):=some (aE a (ByteArray.mk #[111,114,100,101,114]))
def GQ:Option ((ByteArray×(List Int)×(List (List Int)))):=(rB e).bind fun a=>(lE a).bind fun b=>some (b,w,A)
def GR:Option (Bool):=some (aE a (ByteArray.mk #[114,111,111,116]))
def GS:Option ((ByteArray×(List Int)×(List (List Int)))):=(rx e).bind fun a=>(cV a).bind fun b=>some (b,w,A)
def GU:Option (Bool):=some (aE a (ByteArray.mk #[99,114,111,115,115,105,110,103,115]))
def GV:Option ((ByteArray×(List Int)×(List (List Int)))):=(wU e).bind fun a=>(cV a).bind fun b=>some (b,w,A)
def GW:Option (Unit⊕(ByteArray×(List Int)×(List (List Int)))):=cond (aE a (ByteArray.mk #[103,97,112,115])) ((wX e).bind fun b=>(cV b).bind fun c=>some (Sum.inr (c,w,A))) (cond (aE a (ByteArray.mk #[101,120,99,104,97,110,103,101,115])) ((Fv e).bind fun d=>(cV d).bind fun f=>some (Sum.inr (f,w,A))) (cond (aE a (ByteArray.mk #[108,101,110,103,116,104])) ((w6 e).bind fun g=>(cV g).bind fun h=>some (Sum.inr (h,w,A))) (cond (aE a (ByteArray.mk #[108,101,97,115,116])) ((xj e).bind fun i=>(cV i).bind fun j=>some (Sum.inr (j,w,A))) (cond (aE a (ByteArray.mk #[97,112,97,114,116])) ((xp e).bind fun k=>(cV k).bind fun l=>some (Sum.inr (l,w,A))) (cond (aE a (ByteArray.mk #[112,114,111,106,101,99,116,105,118,101])) ((nr e).bind fun m=>(xr m).bind fun n=>some (Sum.inr (n,w,A))) (cond (aE a (ByteArray.mk #[110,101,115,116,101,100])) ((xz e).bind fun o=>(xr o).bind fun p=>some (Sum.inr (p,w,A))) (cond (aE a (ByteArray.mk #[109,111,118,101,115])) ((jp e).bind fun q=>cond (!(q.2)) (some (Sum.inr ((ByteArray.mk #[110,111,110,101]),w,A))) (some (Sum.inr ((q.1),w,A)))) (cond (aE a (ByteArray.mk #[101,97,103,101,114])) ((jq e).bind fun r=>cond (!(r.2)) (some (Sum.inr ((ByteArray.mk #[110,111,110,101]),w,A))) (some (Sum.inr ((r.1),w,A)))) (cond (aE a (ByteArray.mk #[112,108,97,99,101])) ((GI e).bind fun s=>cond (decide (s<0)) (some (Sum.inr ((ByteArray.mk #[110,111,110,101]),w,A))) ((cV s).bind fun t=>some (Sum.inr (t,w,A)))) (some (Sum.inl ())))))))))))
def Sw:Option (Unit⊕(ByteArray×(List Int)×(List (List Int)))):=cond g ((GV e w A).map (fun b=>(Sum.inr b))) (GW a e w A)
def Sx:=(GU a).bind (fun b=>Sw a e b w A)
def Sy:Option (Unit⊕(ByteArray×(List Int)×(List (List Int)))):=cond g ((GS e w A).map (fun b=>(Sum.inr b))) (Sx a e w A)
def Sz:=(GR a).bind (fun b=>Sy a e b w A)
def SA:Option (Unit⊕(ByteArray×(List Int)×(List (List Int)))):=cond g ((GQ e w A).map (fun b=>(Sum.inr b))) (Sz a e w A)
def SB:=(GP a).bind (fun b=>SA a e b w A)
def SC:Option (Unit⊕(ByteArray×(List Int)×(List (List Int)))):=cond g ((GO e w A).map (fun b=>(Sum.inr b))) (SB a e w A)
def SD:=(GN a).bind (fun b=>SC a e b w A)
def SE:Option (Unit⊕(ByteArray×(List Int)×(List (List Int)))):=cond g ((GM e w A).map (fun b=>(Sum.inr b))) (SD a e w A)
def SF:=(GL a).bind (fun b=>SE a e b w A)
def SG:=(SF a e w A).map (Sum.elim (fun b=>(Sum.inl ())) (fun b=>(Sum.inr b)))
def SH:=(GK).bind (fun b=>SG a e w A)
def xM:Option ((ByteArray×(List Int)×(List (List Int)))):=(lC a 32).bind fun b=>cond ((b.length:Int) !=2) (some ((ByteArray.mk #[119,104,97,116]),w,A)) ((ap 0 (List.length b)).bind fun c=>(b[c]?).bind fun d=>cond (!(aE d (ByteArray.mk #[121,105,101,108,100]))) (some ((ByteArray.mk #[119,104,97,116]),w,A)) ((ap 1 (List.length b)).bind fun f=>(b[f]?).bind fun g=>(gJ g).bind fun h=>cond (decide (h<0)) (some ((ByteArray.mk #[119,104,97,116]),w,A)) ((ap 1 (List.length b)).bind fun i=>(b[i]?).bind fun j=>(gJ j).bind fun k=>(xL e k).bind fun l=>(lE l).bind fun m=>some (m,w,A))))
def SI:=(SH a e w A).bind (Sum.elim (fun b=>xM a e w A) (fun c=>some ((fun b=>b) c)))
def xN:=(GJ e A D).bind (Sum.elim (fun a=>SI D e a.1 a.2) (fun b=>some ((fun a=>a) b)))
@[irreducible] def xO:=xN e A D
def GX:Option (Unit):=some ()
def GY:Option (Int):=some (e.length:Int)
def r4:Option ((Int×Int)⊕Bool⊕Int):=cond (decide (r<q)) ((idx e r).bind fun a=>cond (decide (a<0)) (some (Sum.inr (Sum.inl false))) (cond (decide (a>(e.length:Int))) (some (Sum.inr (Sum.inl false))) (cond (a==0) (some (Sum.inl ((wrap .i64 (p+1)),(wrap .i64 (r+1))))) (some (Sum.inl (p,(wrap .i64 (r+1)))))))) (some (Sum.inr (Sum.inr p)))
def SJ:Option (Bool⊕Int):=ai (fun(a:Int×Int)=>((r4 e a.1 p a.2).map (Sum.elim (fun b=>Sum.inl (b.1,b.2)) (Sum.elim (fun b=>Sum.inr (Sum.inl b)) (fun b=>Sum.inr (Sum.inr b)))))) LL (0,0)
def SK:=(SJ e p).map (Sum.elim (fun a=>(Sum.inr a)) (fun a=>(Sum.inl a)))
def SL:=(GY e).bind (fun a=>SK e a)
def GZ:Option (Bool):=some (b==1)
def SM:=(SL e).bind (Sum.elim (fun a=>GZ a) (fun b=>some ((fun a=>a) b)))
def G0:=(GX).bind (fun a=>SM e)
@[irreducible] def G1:=G0 e
def xP:Option ((Bool×Int×Int)):=(idx e (wrap .i64 (p-1))).bind fun a=>cond (a==0) (some (false,p,q)) (some (true,a,(wrap .i64 (q+1))))
@[irreducible] def xQ:=xP e p q
def G2:Option (Unit):=some ()
def xR:Option ((Int×Int)⊕(Int×Bool)⊕(Int×Int)):=(xQ e p q).bind fun a=>cond (a.1) (cond (decide ((a.2.2)>=(e.length:Int))) (some (Sum.inr (Sum.inl (0,false)))) (some (Sum.inl ((a.2.1),(a.2.2))))) (some (Sum.inr (Sum.inr ((a.2.1),(a.2.2)))))
def SN:Option ((Int×Bool)⊕(Int×Int)):=ai (fun(a:Int×Int)=>((xR e a.1 a.2).map (Sum.elim (fun b=>Sum.inl (b.1,b.2)) (Sum.elim (fun b=>Sum.inr (Sum.inl b)) (fun b=>Sum.inr (Sum.inr b)))))) LL (p,0)
def SO:=(SN e p).map (Sum.elim (fun a=>(Sum.inr a)) (fun a=>(Sum.inl (a.1,a.2))))
def G3:Option ((Int×Bool)):=some (b,true)
def SP:=(SO e p).bind (Sum.elim (fun a=>G3 a.2) (fun b=>some ((fun a=>a) b)))
def G4:=(G2).bind (fun a=>SP e p)
@[irreducible] def xS:=G4 e p
def G5:Option (Unit⊕Bool):=cond (decide ((e.length:Int)<1)) (some (Sum.inr false)) (cond (decide ((e.length:Int)>8)) (some (Sum.inr false)) ((G1 e).bind fun a=>cond (!a) (some (Sum.inr false)) (some (Sum.inl ()))))
def G6:Option (Int):=some (e.length:Int)
def r5:Option (Int⊕Bool⊕Unit):=cond (decide (q<p)) ((xS e (wrap .i64 (q+1))).bind fun a=>cond (!(a.2)) (some (Sum.inr (Sum.inl false))) (some (Sum.inl (wrap .i64 (q+1))))) (some (Sum.inr (Sum.inr ())))
def SQ:Option (Bool⊕Unit):=ai (fun(a:Int)=>((r5 e p a).map (Sum.elim (fun b=>Sum.inl b) (Sum.elim (fun b=>Sum.inr (Sum.inl b)) (fun b=>Sum.inr (Sum.inr b)))))) LL 0
def SR:=(SQ e p).map (Sum.elim (fun a=>(Sum.inr a)) (fun a=>(Sum.inl ())))
def SS:=(G6 e).bind (fun a=>SR e a)
def SU:Option (Bool):=some true
def SV:=(SS e).bind (Sum.elim (fun a=>SU) (fun b=>some ((fun a=>a) b)))
def G7:=(G5 e).bind (Sum.elim (fun a=>SV e) (fun b=>some ((fun a=>a) b)))
@[irreducible] def fj:=G7 e
def G8:Option (Unit⊕Bool):=(fj e).bind fun a=>cond (!a) (some (Sum.inr false)) (cond (decide ((A.length:Int)>8)) (some (Sum.inr false)) (some (Sum.inl ())))
def G9:Option (Int):=some (A.length:Int)
def pu:Option (Int⊕Bool⊕Unit):=cond (decide (M<C)) ((idx A M).bind fun a=>(fj a).bind fun b=>cond (!b) (some (Sum.inr (Sum.inl false))) (some (Sum.inl (wrap .i64 (M+1))))) (some (Sum.inr (Sum.inr ())))
def SW:Option (Bool⊕Unit):=ai (fun(a:Int)=>((pu A C a).map (Sum.elim (fun b=>Sum.inl b) (Sum.elim (fun b=>Sum.inr (Sum.inl b)) (fun b=>Sum.inr (Sum.inr b)))))) LL 0
def SX:=(SW A C).map (Sum.elim (fun a=>(Sum.inr a)) (fun a=>(Sum.inl ())))
def SY:=(G9 A).bind (fun a=>SX A a)
def SZ:Option (Bool):=some true
def S1:=(SY A).bind (Sum.elim (fun a=>SZ) (fun b=>some ((fun a=>a) b)))
def xT:=(G8 e A).bind (Sum.elim (fun a=>S1 A) (fun b=>some ((fun a=>a) b)))
@[irreducible] def r6:=xT e A
def S2:Option (Int):=kq a i
def xU:Option (Int):=(S2 a i).bind fun b=>some b
@[irreducible] def Ha:=xU a i
def Hb:Option ((Int×(List ByteArray))⊕(Nat×(List ByteArray))):=cond (p==0) (some (Sum.inr ((List.length ([]:List ByteArray)),([]:List ByteArray)))) (cond (aE i empty) (none) (cond (decide (p<0)) (none) ((mk (bV p (wrap .i64 ((((ByteArray.size a:Nat):Int))+1))) (bV p (wrap .i64 ((((ByteArray.size a:Nat):Int))+1)))).bind fun b=>some (Sum.inl ((wrap .i64 ((bV p (wrap .i64 ((((ByteArray.size a:Nat):Int))+1)))-1)),(replicate b empty))))))
def pw:Option ((ByteArray×Int×(List ByteArray))⊕(ByteArray×Int×(List ByteArray))):=cond (decide (r<q)) ((Ha a i).bind fun b=>cond (decide (b<0)) (some (Sum.inr (a,r,B))) ((inc (wrap .i64 (b+p)) (ByteArray.size a)).bind fun c=>(ap r (List.length B)).bind fun d=>(inc (wrap .i64 (b+(((ByteArray.size i:Nat):Int)))) (ByteArray.size a)).bind fun e=>some (Sum.inl ((a.extract e (ByteArray.size a)),(wrap .i64 (r+1)),(B.set d (a.extract 0 c)))))) (some (Sum.inr (a,r,B)))
def S3:Option ((ByteArray×Int×(List ByteArray))):=ai (fun(b:ByteArray×Int×(List ByteArray))=>((pw b.1 i p q b.2.1 b.2.2).map (Sum.elim (fun c=>Sum.inl (c.1,c.2.1,c.2.2)) (fun c=>Sum.inr c)))) LL (a,0,B)
def S4:=(S3 a i p q B).map (fun b=>(b.1,b.2.1,b.2.2))
def xV:Option ((Nat×(List ByteArray))):=(ap b (List.length c)).bind fun d=>(inc (wrap .i64 (b+1)) (List.length (c.set d a))).bind fun e=>some ((e-0),(c.set d a))
def S5:=(S4 a i p q B).bind (fun b=>xV b.1 b.2.1 b.2.2)
def xW:=(Hb a i q).bind (Sum.elim (fun b=>S5 a i p b.1 b.2) (fun c=>some ((fun b=>b) c)))
@[irreducible] def Hc:=xW a i p q
def r7:Option ((Nat×(List ByteArray))):=(Hc a i 0 p).bind fun b=>some ((b.1),(b.2))
@[irreducible] def xX:=r7 a i p
def Hd:Option (Unit):=some ()
def He:Option ((ByteArray×ByteArray×ByteArray×ByteArray×ByteArray×ByteArray)):=(same (List.length cF) 6).bind fun a=>some ((cF.getD 0 empty),(cF.getD 1 empty),(cF.getD 2 empty),(cF.getD 3 empty),(cF.getD 4 empty),(cF.getD 5 empty))
def xY:Option (Int⊕Int⊕Unit):=cond (decide (u<6)) ((idx [i,k,l,m,o,t] u).bind fun b=>cond (aE b a) (some (Sum.inr (Sum.inl u))) (some (Sum.inl (wrap .i64 (u+1))))) (some (Sum.inr (Sum.inr ())))
def S6:Option (Int⊕Unit):=ai (fun(b:Int)=>((xY a i k l m o t b).map (Sum.elim (fun c=>Sum.inl c) (Sum.elim (fun c=>Sum.inr (Sum.inl c)) (fun c=>Sum.inr (Sum.inr c)))))) LL 0
def S7:=(S6 a i k l m o t).map (Sum.elim (fun b=>(Sum.inr b)) (fun b=>(Sum.inl ())))
def S8:=(He).bind (fun b=>S7 a b.1 b.2.1 b.2.2.1 b.2.2.2.1 b.2.2.2.2.1 b.2.2.2.2.2)
def Hf:Option (Int):=some (-1)
def S9:=(S8 a).bind (Sum.elim (fun b=>Hf) (fun c=>some ((fun b=>b) c)))
def xZ:=(Hd).bind (fun b=>S9 a)
@[irreducible] def jr:=xZ a
def strconv_Atoi:Option (Int×Bool):=ra a
def r8:Option (Int):=cond (b==0) (some 2) (cond (b==1) (some 1) (some 0))
@[irreducible] def ks:=r8 b
def x0:Option (Bool):=(ks b).bind fun a=>cond (decide (a>0)) (cond (decide (a>1)) (some true) (some (q==0))) (cond (p==0) (cond (decide (a>1)) (some true) (some (q==0))) (some false))
@[irreducible] def x1:=x0 b p q
def x2:Option (Bool):=cond (decide (b>=0)) (cond (decide (b<6)) ((x1 b p q).bind fun a=>cond a (cond (decide (p>=0)) (cond (decide (p<=99)) (cond (decide (q>=0)) (some (decide (q<=99))) (some false)) (some false)) (some false)) (some false)) (some false)) (some false)
@[irreducible] def Hg:=x2 b p q
def strconv_Itoa:Option (ByteArray):=oW b
def Hh:Option (ByteArray⊕ByteArray):=(Hg b p q).bind fun a=>cond (!a) (some (Sum.inr empty)) ((same (List.length cF) 6).bind fun c=>(idx cF b).bind fun d=>some (Sum.inl d))
def r9:Option (((List Int)×Int)):=(ks b).bind fun a=>(inc a (List.length ([p,q]))).bind fun c=>some (((([p,q]).take c).drop 0),(List.length ((([p,q]).take c).drop 0):Int))
def sa:Option ((ByteArray×Int)⊕ByteArray):=cond (decide (q<p)) ((idx e q).bind fun b=>(strconv_Itoa b).bind fun c=>(cat (ByteArray.mk #[32]) c).bind fun d=>(cat a d).bind fun f=>some (Sum.inl (f,(wrap .i64 (q+1))))) (some (Sum.inr a))
def x3:Option (ByteArray):=ai (fun(b:ByteArray×Int)=>((sa b.1 e p b.2).map (Sum.elim (fun c=>Sum.inl (c.1,c.2)) (fun c=>Sum.inr c)))) LL (a,0)
def x4:=(x3 a e p).map (fun b=>b)
def x5:=(r9 b p q).bind (fun c=>x4 a c.1 c.2)
def sb:Option (ByteArray):=some a
def x6:=(x5 a b p q).bind (fun c=>sb c)
def x7:=(Hh b p q).bind (Sum.elim (fun a=>x6 a b p q) (fun c=>some ((fun a=>a) c)))
@[irreducible] def ns:=x7 b p q
def sc:Option ((Bool×Int×Int×Int)):=(xX a (ByteArray.mk #[32]) 3).bind fun b=>(ap 0 (b.1)).bind fun c=>((b.2)[(0+c)]?).bind fun d=>(jr d).bind fun e=>cond (decide (((((b.1):Nat):Int))>1)) ((ap 1 (b.1)).bind fun f=>((b.2)[(0+f)]?).bind fun g=>(strconv_Atoi g).bind fun h=>cond (decide (((((b.1):Nat):Int))>2)) ((ap 2 (b.1)).bind fun i=>((b.2)[(0+i)]?).bind fun j=>(strconv_Atoi j).bind fun k=>cond (aE a empty) (some (false,0,0,0)) ((ns e (h.1) (k.1)).bind fun l=>cond (!(aE l a)) (some (false,0,0,0)) (some (true,e,(h.1),(k.1))))) (cond (aE a empty) (some (false,0,0,0)) ((ns e (h.1) 0).bind fun m=>cond (!(aE m a)) (some (false,0,0,0)) (some (true,e,(h.1),0))))) (cond (decide (((((b.1):Nat):Int))>2)) ((ap 2 (b.1)).bind fun n=>((b.2)[(0+n)]?).bind fun o=>(strconv_Atoi o).bind fun p=>cond (aE a empty) (some (false,0,0,0)) ((ns e 0 (p.1)).bind fun q=>cond (!(aE q a)) (some (false,0,0,0)) (some (true,e,0,(p.1))))) (cond (aE a empty) (some (false,0,0,0)) ((ns e 0 0).bind fun r=>cond (!(aE r a)) (some (false,0,0,0)) (some (true,e,0,0)))))
@[irreducible] def sd:=sc a
def nt:Option (List Int):=oV e
def Hi:Option (((List Int))):=(nt e).bind fun a=>some a
def Hj:Option (Int):=some (A.length:Int)
def se (a:List (List Int)) (b c:Int) (d:List (List Int)):Option ((Int×(List (List Int)))⊕((List (List Int)))):=cond (decide (c<b)) ((idx a c).bind fun e=>(nt e).bind fun f=>(room (List.length d+1)).bind fun g=>some (Sum.inl ((wrap .i64 (c+1)),((d++ [[]]).set (List.length d) f)))) (some (Sum.inr d))
def Ta:Option (((List (List Int)))):=ai (fun(a:Int×(List (List Int)))=>((se A C a.1 a.2).map (Sum.elim (fun b=>Sum.inl (b.1,b.2)) (fun b=>Sum.inr b)))) LL (0,([]:List (List Int)))
def Tb:=(Ta A C).map (fun a=>a)
def Tc:=(Hj A).bind (fun a=>Tb A a)
def Hk:Option (((List Int)×(List (List Int)))):=some (e,A)
def Td:=(Tc A).bind (fun a=>Hk E a)
def x8:=(Hi e).bind (fun a=>Td A a)
@[irreducible] def js:=x8 e A
@[irreducible] def Hl:=some ()
def strings_Join:Option (ByteArray):=vK c i
def Hm:Option (((List ByteArray))):=(mk (e.length:Int) (e.length:Int)).bind fun a=>some (replicate a empty)
def Hn:Option (Int):=some (e.length:Int)
def sf:Option ((Int×(List ByteArray))⊕((List ByteArray))):=cond (decide (q<p)) ((idx e q).bind fun a=>(strconv_Itoa a).bind fun b=>(ap q (List.length B)).bind fun c=>some (Sum.inl ((wrap .i64 (q+1)),(B.set c b)))) (some (Sum.inr B))
def Te:Option (((List ByteArray))):=ai (fun(a:Int×(List ByteArray))=>((sf e p a.1 a.2).map (Sum.elim (fun b=>Sum.inl (b.1,b.2)) (fun b=>Sum.inr b)))) LL (0,B)
def Tf:=(Te e p B).map (fun a=>a)
def Tg:=(Hn e).bind (fun a=>Tf e a n)
def Ho:Option (ByteArray):=(strings_Join c (ByteArray.mk #[44])).bind fun a=>some a
def Th:=(Tg e n).bind (fun a=>Ho a)
def x9:=(Hm e).bind (fun a=>Th e a)
@[irreducible] def nu:=x9 e
def ya:Option (ByteArray):=(nu e).bind fun a=>some a
@[irreducible] def Hp (a:List Int) (b:List (List Int)):=ya a
def Hq:Option (((List Int))⊕((List Int))):=(fj e).bind fun a=>cond (!a) (some (Sum.inr ([]:List Int))) ((mk (e.length:Int) (e.length:Int)).bind fun b=>some (Sum.inl (replicate b (0:Int))))
def Hr:Option (Int):=some (e.length:Int)
def sg:Option ((Int×(List Int))⊕((List Int))):=cond (decide (q<p)) ((xS e (wrap .i64 (q+1))).bind fun a=>(ap q (List.length w)).bind fun b=>some (Sum.inl ((wrap .i64 (q+1)),(w.set b (a.1))))) (some (Sum.inr w))
def Ti:Option (((List Int))):=ai (fun(a:Int×(List Int))=>((sg e p a.1 a.2).map (Sum.elim (fun b=>Sum.inl (b.1,b.2)) (fun b=>Sum.inr b)))) LL (0,w)
def Tj:=(Ti e p w).map (fun a=>a)
def Tk:=(Hr e).bind (fun a=>Tj e a w)
def Hs:Option (((List Int))):=some e
def Tl:=(Tk e w).bind (fun a=>Hs a)
def Ht:=(Hq e).bind (Sum.elim (fun a=>Tl e a) (fun b=>some ((fun a=>a) b)))
@[irreducible] def Hu:=Ht e
def sh:Option (ByteArray):=(Hu e).bind fun a=>(nu a).bind fun b=>some b
@[irreducible] def yb (a:List Int) (b:List (List Int)):=sh a
def Hv:Option (Unit⊕Int):=(fj e).bind fun a=>cond (!a) (some (Sum.inr (-1))) (some (Sum.inl ()))
def yc:Option ((Int×Int)⊕(Int×Int)):=(xQ e p q).bind fun a=>cond (a.1) (some (Sum.inl ((a.2.1),(a.2.2)))) (some (Sum.inr ((a.2.1),(a.2.2))))
def Tm:Option ((Int×Int)):=ai (fun(a:Int×Int)=>((yc e a.1 a.2).map (Sum.elim (fun b=>Sum.inl (b.1,b.2)) (fun b=>Sum.inr b)))) LL (1,0)
def Tn:=(Tm e).map (fun a=>(a.1,a.2))
def Hw:Option (Int):=some b
def To:=(Tn e).bind (fun a=>Hw a.1)
def Hy:=(Hv e).bind (Sum.elim (fun a=>To e) (fun b=>some ((fun a=>a) b)))
@[irreducible] def px:=Hy e
def Hz:Option (Int):=(shl .u64 1 (wrap .i64 (b-1))).bind fun a=>some a
@[irreducible] def ku:=Hz b
def HA:Option (Unit):=some ()
def HB:Option (Int):=some (e.length:Int)
def si:Option ((Int×Int)⊕Int):=cond (decide (u<r)) ((idx e u).bind fun a=>cond (a==p) ((ku (wrap .i64 (u+1))).bind fun b=>some (Sum.inl ((je .u64 q b),(wrap .i64 (u+1))))) (some (Sum.inl (q,(wrap .i64 (u+1)))))) (some (Sum.inr q))
def Tp:Option (Int):=ai (fun(a:Int×Int)=>((si e p a.1 q a.2).map (Sum.elim (fun b=>Sum.inl (b.1,b.2)) (fun b=>Sum.inr b)))) LL (0,0)
def Tq:=(Tp e p q).map (fun a=>a)
def Tr:=(HB e).bind (fun a=>Tq e p a)
def Ts:Option (Int):=some b
def Tt:=(Tr e p).bind (fun a=>Ts a)
def yd:=(HA).bind (fun a=>Tt e p)
@[irreducible] def lK:=yd e p
def HC:Option (Int):=(ku b).bind fun a=>some (wrap .u64 (a-1))
@[irreducible] def ye:=HC b
def sj:Option ((Int×Int)):=(lK e p).bind fun a=>(ye p).bind fun b=>(ye p).bind fun c=>some ((dM .u64 a b),(qu .u64 a c))
@[irreducible] def sk:=sj e p
def Tu:Option (Int):=(shr .u64 b 1).bind fun a=>some (wrap .u64 ((dM .u64 a 6148914691236517205)+(dM .u64 b 6148914691236517205)))
def Tv:Option (Int):=(shr .u64 b 2).bind fun a=>some (wrap .u64 ((dM .u64 a 3689348814741910323)+(dM .u64 b 3689348814741910323)))
def Tw:Option (Int):=(shr .u64 b 4).bind fun a=>some (dM .u64 (wrap .u64 (a+b)) 1085102592571150095)
def Tx:Option (Int):=(shr .u64 b 8).bind fun a=>some (wrap .u64 (b+a))
def Tz:Option (Int):=(shr .u64 b 16).bind fun a=>some (wrap .u64 (b+a))
def TA:Option (Int):=(shr .u64 b 32).bind fun a=>some (wrap .u64 (b+a))
def TB:Option (Int):=some (dM .i64 (wrap .i64 b) 127)
def TC:Option (Int):=some b
def ae4:=(TB b).bind (fun a=>TC a)
def ae5:=(TA b).bind (fun a=>ae4 a)
def ae6:=(Tz b).bind (fun a=>ae5 a)
def ae7:=(Tx b).bind (fun a=>ae6 a)
def ae8:=(Tw b).bind (fun a=>ae7 a)
def ae9:=(Tv b).bind (fun a=>ae8 a)
def TD:=(Tu b).bind (fun a=>ae9 a)
@[irreducible] def afa:=TD b
def HD:Option (Int):=(afa b).bind fun a=>some a
@[irreducible] def afb:=HD b
def HE:Option (Int):=(afb b).bind fun a=>some a
@[irreducible] def sl:=HE b
def HF:Option (Int):=cond (b==0) (some 64) ((shr .u64 (wrap .u64 ((dM .u64 b (wrap .u64 (0-b)))*285870213051353865)) 58).bind fun a=>(same (List.length uN) 64).bind fun c=>(idx uN a).bind fun d=>some (wrap .i64 d))
@[irreducible] def afc:=HF b
def HG:Option (Int):=(afc b).bind fun a=>some a
@[irreducible] def afd:=HG b
def TE:Option (((List Int))):=(sl b).bind fun a=>(mk 0 a).bind fun c=>some (replicate c (0:Int))
def TF:Option (Unit):=some ()
def TG:Option ((Int×(List Int))⊕((List Int))):=cond (b !=0) ((afd b).bind fun a=>(room ((List.length e)+List.length ([(wrap .i64 (a+1))]))).bind fun c=>some (Sum.inl ((dM .u64 b (wrap .u64 (b-1))),(e++([(wrap .i64 (a+1))]))))) (some (Sum.inr e))
def afe:=ai (fun(a:Int×(List Int))=>((TG a.1 a.2).map (Sum.elim (fun c=>Sum.inl (c.1,c.2)) (fun c=>Sum.inr c)))) LL (b,e)
def aff:=(afe b e).map (fun a=>a)
def afg:=(TF).bind (fun a=>aff b e)
def TH:Option (((List Int))):=some e
def afh:=(afg b e).bind (fun a=>TH a)
def TJ:=(TE b).bind (fun a=>afh b a)
@[irreducible] def jt:=TJ b
def sn (R0 R1:(List Int)->Int->(List Int)->Option ((List Int))) (a:List Int) (b:Int) (c:List Int):Option (((List Int))):=(sk a b).bind fun d=>(R1 a (d.1) c).bind fun e=>(room ((List.length e)+List.length ([b]))).bind fun f=>(R1 a (d.2) (e++([b]))).bind fun g=>some g
def afi (R0 R1:(List Int)->Int->(List Int)->Option ((List Int))) (a:List Int) (b:Int) (c:List Int):Option ((List Int)):=sn R0 R1 a b c
def HH (R0 R1:(List Int)->Int->(List Int)->Option ((List Int))):Option (Unit):=some ()
def HI (R0 R1:(List Int)->Int->(List Int)->Option ((List Int))) (a:Int):Option ((Int×(List Int))):=(jt a).bind fun b=>some ((b.length:Int),b)
def so (R0 R1:(List Int)->Int->(List Int)->Option ((List Int))) (a:List Int) (b c:Int) (d e:List Int):Option ((Int×(List Int))⊕((List Int))):=cond (decide (c<b)) ((ap c (List.length e)).bind fun f=>(e[f]?).bind fun g=>(R0 a g d).bind fun h=>some (Sum.inl ((wrap .i64 (c+1)),h))) (some (Sum.inr d))
def TL (R0 R1:(List Int)->Int->(List Int)->Option ((List Int))) (a:List Int) (b:Int) (c d:List Int):Option (((List Int))):=ai (fun(e:Int×(List Int))=>((so R0 R1 a b e.1 e.2 d).map (Sum.elim (fun f=>Sum.inl (f.1,f.2)) (fun f=>Sum.inr f)))) LL (0,c)
def TM (R0 R1:(List Int)->Int->(List Int)->Option ((List Int))) (a:List Int) (b:Int) (c d:List Int):=(TL R0 R1 a b c d).map (fun e=>e)
def TN (R0 R1:(List Int)->Int->(List Int)->Option ((List Int))) (a:List Int) (b:Int) (c:List Int):=(HI R0 R1 b).bind (fun d=>TM R0 R1 a d.1 c d.2)
def HJ (R0 R1:(List Int)->Int->(List Int)->Option ((List Int))) (a:List Int):Option (((List Int))):=some a
def TO (R0 R1:(List Int)->Int->(List Int)->Option ((List Int))) (a:List Int) (b:Int) (c:List Int):=(TN R0 R1 a b c).bind (fun d=>HJ R0 R1 d)
def HK (R0 R1:(List Int)->Int->(List Int)->Option ((List Int))) (a:List Int) (b:Int) (c:List Int):=(HH R0 R1).bind (fun d=>TO R0 R1 a b c)
def yf (R0 R1:(List Int)->Int->(List Int)->Option ((List Int))) (a:List Int) (b:Int) (c:List Int):Option ((List Int)):=HK R0 R1 a b c
def fk:Nat->((List Int)->Int->(List Int)->Option ((List Int)))×((List Int)->Int->(List Int)->Option ((List Int)))
 |0=>((fun _ _ _=>none),(fun _ _ _=>none))
 |n+1=>((fun S T U=>afi (fk n).1 (fk n).2 S T U),(fun S T U=>yf (fk n).1 (fk n).2 S T U))
def kv (n:Nat):(List Int)->Int->(List Int)->Option ((List Int)):=(fk n).1
@[irreducible] def sp:=kv RR e p w
def py (n:Nat):(List Int)->Int->(List Int)->Option ((List Int)):=(fk n).2
@[irreducible] def TP:=py RR e p w
def sr:Option (((List Int))):=(fj e).bind fun a=>cond (!a) (some ([]:List Int)) ((px e).bind fun b=>(mk 0 (e.length:Int)).bind fun c=>(sp e b (replicate c (0:Int))).bind fun d=>some d)
@[irreducible] def pz:=sr e
def ss:Option (ByteArray):=(pz e).bind fun a=>(nu a).bind fun b=>some b
@[irreducible] def yg (a:List Int) (b:List (List Int)):=ss a
def yh:Option (ByteArray):=(px e).bind fun a=>(strconv_Itoa a).bind fun b=>some b
@[irreducible] def HL (a:List Int) (b:List (List Int)):=yh a
def yi:Option ((Bool×Int×Int)):=cond (decide (b<1)) (some (false,0,0)) (cond (decide (p<1)) (some (false,0,0)) (cond (b==p) (some (false,0,0)) (some (true,(bV b p),(imax b p)))))
@[irreducible] def su:=yi b p
def HM:Option (((List (Int×Int×Unit)))):=(mk 0 (e.length:Int)).bind fun a=>some (replicate a ((0:Int),((0:Int),())))
def HN:Option (Int):=some (e.length:Int)
def sv:Option ((Int×(List (Int×Int×Unit)))⊕((List (Int×Int×Unit)))):=cond (decide (q<p)) ((idx e q).bind fun a=>(su (wrap .i64 (q+1)) a).bind fun b=>cond (b.1) ((room ((List.length s)+List.length ([((b.2.1),((b.2.2),()))]))).bind fun c=>some (Sum.inl ((wrap .i64 (q+1)),(s++([((b.2.1),((b.2.2),()))]))))) (some (Sum.inl ((wrap .i64 (q+1)),s)))) (some (Sum.inr s))
def TQ:Option (((List (Int×Int×Unit)))):=ai (fun(a:Int×(List (Int×Int×Unit)))=>((sv e p a.1 a.2).map (Sum.elim (fun b=>Sum.inl (b.1,b.2)) (fun b=>Sum.inr b)))) LL (0,s)
def TR:=(TQ e p s).map (fun a=>a)
def TS:=(HN e).bind (fun a=>TR e a s)
def HO:Option (((List (Int×Int×Unit)))):=some s
def TU:=(TS e s).bind (fun a=>HO a)
def yj:=(HM e).bind (fun a=>TU e a)
@[irreducible] def pA:=yj e
def yk:Option (Bool):=cond (decide (b<q)) (some (decide (q<p))) (some false)
@[irreducible] def sw:=yk b p q
def yl:Option (Bool):=cond (decide (q<b)) (some true) (some (decide (p<q)))
@[irreducible] def sx:=yl b p q
def ym:Option (Bool):=(sw b p q).bind fun a=>cond a ((sx b p r).bind fun c=>cond c (some true) ((sw b p r).bind fun d=>cond d ((sx b p q).bind fun e=>some e) (some false))) ((sw b p r).bind fun f=>cond f ((sx b p q).bind fun g=>some g) (some false))
@[irreducible] def yn:=ym b p q r
def HP:Option (Unit):=some ()
def HQ:Option (Int):=some (s.length:Int)
def HR:Option (Unit⊕Int):=cond (decide (q<p)) (some (Sum.inl ())) (some (Sum.inr b))
def HS:Option (((List (Int×Int×Unit))×Int×Int×Int)):=(idx s u).bind fun a=>(inc (wrap .i64 (u+1)) (List.length s)).bind fun b=>some (((s.take (List.length s)).drop b),(List.length ((s.take (List.length s)).drop b):Int),(a.1),((a.2).1))
def sy:Option ((Int×Int)⊕Int):=cond (decide (v<u)) ((idx s v).bind fun a=>(yn y C (a.1) ((a.2).1)).bind fun c=>cond c (some (Sum.inl ((wrap .i64 (b+1)),(wrap .i64 (v+1))))) (some (Sum.inl (b,(wrap .i64 (v+1)))))) (some (Sum.inr b))
def TV:Option (Int):=ai (fun(a:Int×Int)=>((sy a.1 s u a.2 v y).map (Sum.elim (fun c=>Sum.inl (c.1,c.2)) (fun c=>Sum.inr c)))) LL (b,0)
def HT:=(TV b s u v y).map (fun a=>a)
def TW:=(HS s v).bind (fun a=>HT u a.1 a.2.1 a.2.2.1 a.2.2.2)
def TX:=(TW s u v).map (fun a=>a)
def HU:Option (Int):=some (wrap .i64 (b+1))
def TY:=(TX s u v).bind (fun a=>(HU v).map (fun b=>(a,b)))
def HV:=(HR u v y).bind (Sum.elim (fun a=>(TY s u y).map (fun a=>(Sum.inl (a.1,a.2)))) (fun b=>some ((fun a=>(Sum.inr a)) b)))
def TZ:Option (Int):=ai (fun(a:Int×Int)=>((HV s a.1 u a.2).map (Sum.elim (fun b=>Sum.inl (b.1,b.2)) (fun b=>Sum.inr b)))) LL (0,0)
def T0:=(TZ s u).map (fun a=>a)
def T1:=(HQ s).bind (fun a=>T0 s a)
def HW:Option (Int):=some b
def T2:=(T1 s).bind (fun a=>HW a)
def yo:=(HP).bind (fun a=>T2 s)
@[irreducible] def yp:=yo s
def sA:Option (Int):=(fj e).bind fun a=>cond (!a) (some (-1)) ((pA e).bind fun b=>(yp b).bind fun c=>some c)
@[irreducible] def yq:=sA e
def yr:Option (ByteArray):=(yq e).bind fun a=>(strconv_Itoa a).bind fun b=>some b
@[irreducible] def HX (a:List Int) (b:List (List Int)):=yr a
def HY (R0:(List Int)->Int->(List Int)->Option (Int×(List Int))) (a:Int):Option (Int):=(ku a).bind fun b=>some b
def HZ (R0:(List Int)->Int->(List Int)->Option (Int×(List Int))) (a:List Int) (b:Int):Option ((Int×(List Int))):=(lK a b).bind fun c=>(jt c).bind fun d=>some ((d.length:Int),d)
def pB (R0:(List Int)->Int->(List Int)->Option (Int×(List Int))) (a:List Int) (b c d:Int) (e f:List Int):Option ((Int×Int×(List Int))⊕(Int×(List Int))):=cond (decide (d<c)) ((ap d (List.length f)).bind fun g=>(f[g]?).bind fun h=>(R0 a h e).bind fun i=>some (Sum.inl ((je .u64 b (i.1)),(wrap .i64 (d+1)),(i.2)))) (some (Sum.inr (b,e)))
def T3 (R0:(List Int)->Int->(List Int)->Option (Int×(List Int))) (a:List Int) (b c:Int) (d e:List Int):Option ((Int×(List Int))):=ai (fun(f:Int×Int×(List Int))=>((pB R0 a f.1 c f.2.1 f.2.2 e).map (Sum.elim (fun g=>Sum.inl (g.1,g.2.1,g.2.2)) (fun g=>Sum.inr g)))) LL (b,0,d)
def T4 (R0:(List Int)->Int->(List Int)->Option (Int×(List Int))) (a:List Int) (b c:Int) (d e:List Int):=(T3 R0 a b c d e).map (fun f=>(f.1,f.2))
def T5 (R0:(List Int)->Int->(List Int)->Option (Int×(List Int))) (a:List Int) (b c:Int) (d:List Int):=(HZ R0 a b).bind (fun e=>T4 R0 a c e.1 d e.2)
def H0 (R0:(List Int)->Int->(List Int)->Option (Int×(List Int))) (a b:Int) (c:List Int):Option ((Int×(List Int))):=(ap (wrap .i64 (a-1)) (List.length c)).bind fun d=>some (b,(c.set d b))
def T6 (R0:(List Int)->Int->(List Int)->Option (Int×(List Int))) (a:List Int) (b c:Int) (d:List Int):=(T5 R0 a b c d).bind (fun e=>H0 R0 b e.1 e.2)
def H1 (R0:(List Int)->Int->(List Int)->Option (Int×(List Int))) (a:List Int) (b:Int) (c:List Int):=(HY R0 b).bind (fun d=>T6 R0 a b d c)
def T7 (R0:(List Int)->Int->(List Int)->Option (Int×(List Int))) (a:List Int) (b:Int) (c:List Int):Option (Int×(List Int)):=H1 R0 a b c
def lL:Nat->((List Int)->Int->(List Int)->Option (Int×(List Int)))
 |0=>(fun _ _ _=>none)
 |n+1=>(fun S T U=>T7 (lL n) S T U)
def pC (n:Nat):(List Int)->Int->(List Int)->Option (Int×(List Int)):=(lL n)
@[irreducible] def sB:=pC RR e p w
def sC:Option (((List Int))):=(mk (e.length:Int) (e.length:Int)).bind fun a=>(px e).bind fun b=>(sB e b (replicate a (0:Int))).bind fun c=>some (c.2)
@[irreducible] def lM:=sC e
def H2:Option (Int):=(shl .u64 b 1).bind fun a=>some (qu .u64 b a)
@[irreducible] def afj:=H2 b
def H3:Option (Int):=(afj b).bind fun a=>(sl a).bind fun c=>some (wrap .i64 (c-1))
@[irreducible] def H4:=H3 b
def H5:Option (Unit⊕Int):=(fj e).bind fun a=>cond (!a) (some (Sum.inr (-1))) (some (Sum.inl ()))
def H6:Option ((Int×(List Int))):=(lM e).bind fun a=>some ((a.length:Int),a)
def sD:Option ((Int×Int)⊕Int):=cond (decide (q<p)) ((ap q (List.length w)).bind fun a=>(w[a]?).bind fun c=>(H4 c).bind fun d=>some (Sum.inl ((imax b d),(wrap .i64 (q+1))))) (some (Sum.inr b))
def T8:Option (Int):=ai (fun(a:Int×Int)=>((sD a.1 b a.2 e).map (Sum.elim (fun c=>Sum.inl (c.1,c.2)) (fun c=>Sum.inr c)))) LL (0,0)
def T9:=(T8 b e).map (fun a=>a)
def Ua:=(H6 e).bind (fun a=>T9 a.1 a.2)
def H7:Option (Int):=some b
def Ub:=(Ua e).bind (fun a=>H7 a)
def yt:=(H5 e).bind (Sum.elim (fun a=>Ub e) (fun b=>some ((fun a=>a) b)))
@[irreducible] def yu:=yt e
def yv:Option (ByteArray):=(yu e).bind fun a=>(strconv_Itoa a).bind fun b=>some b
@[irreducible] def H8 (a:List Int) (b:List (List Int)):=yv a
def H9:Option (Unit⊕Bool):=cond (decide (p<1)) (some (Sum.inr false)) (cond (decide (p>8)) (some (Sum.inr false)) (cond ((e.length:Int) !=p) (some (Sum.inr false)) (some (Sum.inl ()))))
def Ia:Option (Int):=some (e.length:Int)
def yw:Option ((Int×(List Bool))⊕Bool⊕Unit):=cond (decide (q<p)) ((idx e q).bind fun a=>cond (decide (a<1)) (some (Sum.inr (Sum.inl false))) (cond (decide (a>b)) (some (Sum.inr (Sum.inl false))) ((same (List.length z) 9).bind fun c=>(ap a 9).bind fun d=>(z[d]?).bind fun f=>cond f (some (Sum.inr (Sum.inl false))) ((same (List.length z) 9).bind fun g=>(ap a 9).bind fun h=>some (Sum.inl ((wrap .i64 (q+1)),(z.set h true))))))) (some (Sum.inr (Sum.inr ())))
def Uc:Option (Bool⊕Unit):=ai (fun(a:Int×(List Bool))=>((yw b e p a.1 a.2).map (Sum.elim (fun c=>Sum.inl (c.1,c.2)) (Sum.elim (fun c=>Sum.inr (Sum.inl c)) (fun c=>Sum.inr (Sum.inr c)))))) LL (0,(replicate 9 false))
def Ud:=(Uc b e p).map (Sum.elim (fun a=>(Sum.inr a)) (fun a=>(Sum.inl ())))
def Ue:=(Ia e).bind (fun a=>Ud p e a)
def Ib:Option (Bool):=some true
def Uf:=(Ue e p).bind (Sum.elim (fun a=>Ib) (fun b=>some ((fun a=>a) b)))
def Ic:=(H9 e p).bind (Sum.elim (fun a=>Uf e p) (fun b=>some ((fun a=>a) b)))
@[irreducible] def yx:=Ic e p
def sE:Option ((Nat×(List Int))):=cond (decide (b<0)) (none) ((sure true).bind fun a=>cond (decide ((wrap .i64 (b-(wrap .i64 (0-((0:Nat):Int)))))>0)) ((sure true).bind fun c=>(sure ((0:Int)==0)).bind fun d=>(oy (wrap .i64 (b-(wrap .i64 (0-((0:Nat):Int)))))).bind fun e=>(inc ((0:Nat):Int) (List.length (replicate e (0:Int)))).bind fun f=>some ((f-0),(replicate e (0:Int)))) (some ((List.length ([]:List Int)),([]:List Int))))
@[irreducible] def yy:=sE b
def Ie:Option (Unit):=some ()
def If:Option (Int):=some (A.length:Int)
def sF:Option ((Int×Int)⊕Int):=cond (decide (O<M)) ((idx A O).bind fun a=>cond (decide ((wrap .i64 (C+(a.length:Int)))<0)) (none) (some (Sum.inl ((wrap .i64 (C+(a.length:Int))),(wrap .i64 (O+1)))))) (some (Sum.inr C))
def Ug:Option (Int):=ai (fun(a:Int×Int)=>((sF A a.1 C a.2).map (Sum.elim (fun b=>Sum.inl (b.1,b.2)) (fun b=>Sum.inr b)))) LL (0,0)
def Uh:=(Ug A C).map (fun a=>a)
def Ui:=(If A).bind (fun a=>Uh A a)
def Ig:Option ((Nat×(List Int))):=(yy b).bind fun a=>some ((a.1),(a.2))
def Ih:Option (Int):=some (A.length:Int)
def sG:Option ((Nat×Int×(List Int))⊕(Nat×(List Int))):=cond (decide (M<C)) ((idx A M).bind fun a=>(room (f+List.length a)).bind fun b=>some (Sum.inl ((List.length (((N.drop 0).take f)++a)),(wrap .i64 (M+1)),(((N.drop 0).take f)++a)))) (some (Sum.inr (f,N)))
def Uj:Option ((Nat×(List Int))):=ai (fun(a:Nat×Int×(List Int))=>((sG a.1 A C a.2.1 a.2.2).map (Sum.elim (fun b=>Sum.inl (b.1,b.2.1,b.2.2)) (fun b=>Sum.inr b)))) LL (f,0,E)
def Uk:=(Uj f A C E).map (fun a=>(a.1,a.2))
def Ul:=(Ih A).bind (fun a=>Uk H A a J)
def Ii:Option ((Nat×(List Int))):=some (f,w)
def Um:=(Ul A H J).bind (fun a=>Ii a.1 a.2)
def Un:=(Ig C).bind (fun a=>Um A a.1 a.2)
def Uo:=(Ui A).bind (fun a=>Un A a)
def yz:=(Ie).bind (fun a=>Uo A)
@[irreducible] def yA:=yz A
def Ij:Option (((List Int))):=(mk 0 (wrap .i64 ((e.length:Int)+(w.length:Int)))).bind fun a=>some (replicate a (0:Int))
def pD:Option (((List Int)×(List Int)×Int×(List Int))⊕((List Int)×(List Int)×Int×(List Int))):=cond (decide ((e.length:Int)>0)) (cond (decide ((w.length:Int)>0)) ((idx e 0).bind fun a=>(idx w 0).bind fun b=>cond (decide (a<b)) ((idx e 0).bind fun c=>(room ((List.length E)+List.length ([c]))).bind fun d=>(inc 1 (List.length e)).bind fun f=>some (Sum.inl (((e.take (List.length e)).drop f),w,y,(E++([c]))))) ((idx w 0).bind fun g=>(room ((List.length E)+List.length ([g]))).bind fun h=>(inc 1 (List.length w)).bind fun i=>some (Sum.inl (e,((w.take (List.length w)).drop i),(wrap .i64 (y+(e.length:Int))),(E++([g])))))) (some (Sum.inr (e,w,y,E)))) (some (Sum.inr (e,w,y,E)))
def Up:Option (((List Int)×(List Int)×Int×(List Int))):=ai (fun(a:(List Int)×(List Int)×Int×(List Int))=>((pD a.1 a.2.1 a.2.2.1 a.2.2.2).map (Sum.elim (fun b=>Sum.inl (b.1,b.2.1,b.2.2.1,b.2.2.2)) (fun b=>Sum.inr b)))) LL (e,w,0,E)
def Uq:=(Up e w E).map (fun a=>(a.1,a.2.1,a.2.2.1,a.2.2.2))
def Ik:Option ((Nat×Int×(List Int))):=(yA ([E,e,w])).bind fun a=>some ((a.1),y,(a.2))
def Ur:=(Uq e w E).bind (fun a=>Ik a.1 a.2.1 a.2.2.1 a.2.2.2)
def yB:=(Ij e w).bind (fun a=>Ur e w a)
@[irreducible] def yC:=yB e w
def sH (R0:(List Int)->Option ((List Int)×Int)) (a:List Int):Option (((List Int)×Int)):=cond (decide ((a.length:Int)<2)) (some (a,0)) ((quo .i64 (a.length:Int) 2).bind fun b=>(inc b (List.length a)).bind fun c=>(R0 ((a.take c).drop 0)).bind fun d=>(inc b (List.length a)).bind fun e=>(R0 ((a.take (List.length a)).drop e)).bind fun f=>(yC (d.1) (f.1)).bind fun g=>some ((((g.2.2).drop 0).take (g.1)),(wrap .i64 ((wrap .i64 ((d.2)+(f.2)))+(g.2.1)))))
def afk (R0:(List Int)->Option ((List Int)×Int)) (a:List Int):Option ((List Int)×Int):=sH R0 a
def pE:Nat->((List Int)->Option ((List Int)×Int))
 |0=>(fun _=>none)
 |n+1=>(fun S=>afk (pE n) S)
def lN (n:Nat):(List Int)->Option ((List Int)×Int):=(pE n)
@[irreducible] def yD:=lN RR e
def sJ:Option (Int):=(yx e (e.length:Int)).bind fun a=>cond (!a) (some (-1)) ((yD e).bind fun b=>some (b.2))
@[irreducible] def yE:=sJ e
def sK:Option (Int):=(pz e).bind fun a=>(yE a).bind fun b=>some b
@[irreducible] def yF:=sK e
def yG:Option (ByteArray):=(yF e).bind fun a=>(strconv_Itoa a).bind fun b=>some b
@[irreducible] def Il (a:List Int) (b:List (List Int)):=yG a
def Im:Option (Int):=some (wrap .i64 (p-b))
@[irreducible] def In:=Im b p
def Io:Option (Unit⊕Int):=(fj e).bind fun a=>cond (!a) (some (Sum.inr (-1))) (some (Sum.inl ()))
def Ip:Option ((Int×(List (Int×Int×Unit)))):=(pA e).bind fun a=>some ((a.length:Int),a)
def sL:Option ((Int×Int)⊕Int):=cond (decide (q<p)) ((ap q (List.length s)).bind fun a=>(s[a]?).bind fun c=>(In (c.1) ((c.2).1)).bind fun d=>some (Sum.inl ((wrap .i64 (b+d)),(wrap .i64 (q+1))))) (some (Sum.inr b))
def Us:Option (Int):=ai (fun(a:Int×Int)=>((sL a.1 b a.2 s).map (Sum.elim (fun c=>Sum.inl (c.1,c.2)) (fun c=>Sum.inr c)))) LL (0,0)
def Ut:=(Us b s).map (fun a=>a)
def Uu:=(Ip e).bind (fun a=>Ut a.1 a.2)
def Uv:Option (Int):=some b
def Uw:=(Uu e).bind (fun a=>Uv a)
def yH:=(Io e).bind (Sum.elim (fun a=>Uw e) (fun b=>some ((fun a=>a) b)))
@[irreducible] def yI:=yH e
def yJ:Option (ByteArray):=(yI e).bind fun a=>(strconv_Itoa a).bind fun b=>some b
@[irreducible] def Iq (a:List Int) (b:List (List Int)):=yJ a
def Ux:Option (List Int):=q9 e b w
def Ir:Option (Int):=some (e.length:Int)
def pF:Option (Int⊕Int):=cond (decide (p>0)) ((ap (wrap .i64 (p-1)) (List.length w)).bind fun a=>(w[a]?).bind fun c=>cond (decide (b<c)) (some (Sum.inl (wrap .i64 (p-1)))) (some (Sum.inr p))) (some (Sum.inr p))
def Uy:=ai (fun(a:Int)=>((pF b a w).map (Sum.elim (fun c=>Sum.inl c) (fun c=>Sum.inr c)))) LL p
def Uz:=(Uy b p w).map (fun a=>a)
def Is:Option (((List Int))):=(Ux p w ([b])).bind fun a=>some a
def UA:=(Uz b p w).bind (fun a=>Is b a w)
def yK:=(Ir e).bind (fun a=>UA b a e)
@[irreducible] def yL:=yK b e
def It:Option (Unit):=some ()
def Iu:Option ((Int×(List Int))):=(lK e p).bind fun a=>(jt a).bind fun b=>some ((b.length:Int),b)
def sM:Option ((Int×(List Int))⊕((List Int))):=cond (decide (q<p)) ((ap q (List.length E)).bind fun a=>(E[a]?).bind fun b=>(idx e (wrap .i64 (b-1))).bind fun c=>(sl c).bind fun d=>(yL d w).bind fun f=>some (Sum.inl ((wrap .i64 (q+1)),f))) (some (Sum.inr w))
def UB:Option (((List Int))):=ai (fun(a:Int×(List Int))=>((sM e p a.1 a.2 w).map (Sum.elim (fun b=>Sum.inl (b.1,b.2)) (fun b=>Sum.inr b)))) LL (0,([]:List Int))
def UC:=(UB e p w).map (fun a=>a)
def UD:=(Iu e y).bind (fun a=>UC w a.1 a.2)
def UE:Option (((List Int))):=some e
def UF:=(UD e w y).bind (fun a=>UE a)
def yM:=(It).bind (fun a=>UF e w y)
@[irreducible] def yN:=yM e w y
def Iv:Option (Unit):=some ()
def Iw:Option (Int):=some (e.length:Int)
def sN:Option ((Int×Int×(List Int))⊕(Int×(List Int))):=cond (decide (C<y)) ((idx w C).bind fun a=>(shr .u64 b C).bind fun c=>(same (List.length E) 2).bind fun d=>(ap (dM .u64 c 1) 2).bind fun e=>(E[e]?).bind fun f=>(same (List.length E) 2).bind fun g=>(ap (dM .u64 c 1) 2).bind fun h=>(E[h]?).bind fun i=>(same (List.length E) 2).bind fun j=>(ap (dM .u64 c 1) 2).bind fun k=>some (Sum.inl ((wrap .i64 (p+(wrap .i64 (f+1)))),(wrap .i64 (C+1)),(E.set k (wrap .i64 (i+a)))))) (some (Sum.inr (p,E)))
def UG:Option ((Int×(List Int))):=ai (fun(a:Int×Int×(List Int))=>((sN b a.1 e p a.2.1 a.2.2).map (Sum.elim (fun c=>Sum.inl (c.1,c.2.1,c.2.2)) (fun c=>Sum.inr c)))) LL (0,0,(replicate 2 (0:Int)))
def UH:=(UG b e p).map (fun a=>(a.1,a.2))
def UI:=(Iw e).bind (fun a=>UH p e a)
def Ix:Option (Int):=cond g ((same (List.length w) 2).bind fun a=>(ap 0 2).bind fun b=>(w[b]?).bind fun c=>some (wrap .i64 (p+c))) (some p)
def UJ:=(UI e p).bind (fun a=>Ix x a.1 a.2)
def yO:=(Iv).bind (fun a=>UJ e p x)
@[irreducible] def pG:=yO e p x
def Iy:Option (Int):=(pG e 0 g).bind fun a=>some a
def Iz:Option (Int):=(shl .u64 1 (e.length:Int)).bind fun a=>some a
def sO:Option ((Int×Int)⊕Int):=cond (decide (r<q)) ((pG e r g).bind fun a=>some (Sum.inl ((bV p a),(wrap .u64 (r+1))))) (some (Sum.inr p))
def UK:Option (Int):=ai (fun(a:Int×Int)=>((sO e g a.1 q a.2).map (Sum.elim (fun b=>Sum.inl (b.1,b.2)) (fun b=>Sum.inr b)))) LL (p,0)
def UL:=(UK e g p q).map (fun a=>a)
def UM:=(Iz e).bind (fun a=>UL e g p a)
def IA:Option (Int):=some b
def UN:=(UM e g p).bind (fun a=>IA a)
def yP:=(Iy e g).bind (fun a=>UN e g a)
@[irreducible] def yQ:=yP e g
def IB:Option (((List Int))⊕Int):=(fj e).bind fun a=>cond (!a) (some (Sum.inr (-1))) ((lM e).bind fun b=>some (Sum.inl b))
def IC:Option (Int):=some (e.length:Int)
def sP:Option ((Int×Int)⊕Int):=cond (decide (r<q)) ((idx e r).bind fun a=>(yN e w (wrap .i64 (r+1))).bind fun b=>(yQ b (a !=0)).bind fun c=>some (Sum.inl ((wrap .i64 (p+c)),(wrap .i64 (r+1))))) (some (Sum.inr p))
def UO:Option (Int):=ai (fun(a:Int×Int)=>((sP e a.1 p a.2 w).map (Sum.elim (fun b=>Sum.inl (b.1,b.2)) (fun b=>Sum.inr b)))) LL (0,0)
def UP:=(UO e p w).map (fun a=>a)
def UQ:=(IC e).bind (fun a=>UP e a w)
def UR:Option (Int):=some b
def US:=(UQ e w).bind (fun a=>UR a)
def yR:=(IB e).bind (Sum.elim (fun a=>US e a) (fun b=>some ((fun a=>a) b)))
@[irreducible] def yS:=yR e
def yT:Option (ByteArray):=(yS e).bind fun a=>(strconv_Itoa a).bind fun b=>some b
@[irreducible] def ID (a:List Int) (b:List (List Int)):=yT a
def sQ:Option (Int):=(quo .i64 (wrap .i64 (b*(wrap .i64 (b-1)))) 2).bind fun a=>some a
@[irreducible] def sR:=sQ b
def IE:Option (Unit):=some ()
def IF:Option (Int):=some (s.length:Int)
def sS:Option ((Int×(List Int))⊕((List Int))):=cond (decide (v<u)) ((idx s v).bind fun a=>(same (List.length w) 9).bind fun b=>(ap (a.1) 9).bind fun c=>(w[c]?).bind fun d=>(same (List.length w) 9).bind fun e=>(ap (a.1) 9).bind fun f=>(same (List.length (w.set f (wrap .i64 (d+1)))) 9).bind fun g=>(ap ((a.2).1) 9).bind fun h=>((w.set f (wrap .i64 (d+1)))[h]?).bind fun i=>(same (List.length (w.set f (wrap .i64 (d+1)))) 9).bind fun j=>(ap ((a.2).1) 9).bind fun k=>some (Sum.inl ((wrap .i64 (v+1)),((w.set f (wrap .i64 (d+1))).set k (wrap .i64 (i+1)))))) (some (Sum.inr w))
def UT:Option (((List Int))):=ai (fun(a:Int×(List Int))=>((sS s u a.1 a.2).map (Sum.elim (fun b=>Sum.inl (b.1,b.2)) (fun b=>Sum.inr b)))) LL (0,(replicate 9 (0:Int)))
def UU:=(UT s u).map (fun a=>a)
def UV:=(IF s).bind (fun a=>UU s a)
def IG:Option ((Int×Int×Int×Int×Int×Int×Int×Int×Int)):=(same (List.length e) 9).bind fun a=>(same (List.length (replicate 9 (0:Int))) 9).bind fun b=>some ((e.getD 0 (0:Int)),(e.getD 1 (0:Int)),(e.getD 2 (0:Int)),(e.getD 3 (0:Int)),(e.getD 4 (0:Int)),(e.getD 5 (0:Int)),(e.getD 6 (0:Int)),(e.getD 7 (0:Int)),(e.getD 8 (0:Int)))
def UW:=(UV s).bind (fun a=>IG a)
def yU:=(IE).bind (fun a=>UW s)
@[irreducible] def sT:=yU s
def IH:Option ((Int×(List (Int×Int×Unit)))⊕Int):=(fj e).bind fun a=>cond (!a) (some (Sum.inr (-1))) ((pA e).bind fun b=>(sR (b.length:Int)).bind fun c=>some (Sum.inl (c,b)))
def yV:Option ((Int×Int×Int×Int×Int×Int×Int×Int×Int)):=(sT s).bind fun a=>some ((a.1),(a.2.1),(a.2.2.1),(a.2.2.2.1),(a.2.2.2.2.1),(a.2.2.2.2.2.1),(a.2.2.2.2.2.2.1),(a.2.2.2.2.2.2.2.1),(a.2.2.2.2.2.2.2.2))
def sV:Option ((Int×Int)⊕Int):=cond (decide (P<9)) ((idx [p,q,r,u,v,y,C,M,O] P).bind fun a=>(sR a).bind fun c=>some (Sum.inl ((wrap .i64 (b-c)),(wrap .i64 (P+1))))) (some (Sum.inr b))
def UX:Option (Int):=ai (fun(a:Int×Int)=>((sV a.1 p q r u v y C M O a.2).map (Sum.elim (fun c=>Sum.inl (c.1,c.2)) (fun c=>Sum.inr c)))) LL (b,0)
def UY:=(UX b p q r u v y C M O).map (fun a=>a)
def UZ:=(yV s).bind (fun a=>UY b a.1 a.2.1 a.2.2.1 a.2.2.2.1 a.2.2.2.2.1 a.2.2.2.2.2.1 a.2.2.2.2.2.2.1 a.2.2.2.2.2.2.2.1 a.2.2.2.2.2.2.2.2)
def II:Option (Int):=some b
def U0:=(UZ b s).bind (fun a=>II a)
def yW:=(IH e).bind (Sum.elim (fun a=>U0 a.1 a.2) (fun b=>some ((fun a=>a) b)))
@[irreducible] def yX:=yW e
def yY:Option (ByteArray):=(yX e).bind fun a=>(strconv_Itoa a).bind fun b=>some b
@[irreducible] def IJ (a:List Int) (b:List (List Int)):=yY a
def IK:Option (Bool):=some ((dM .u64 b (wrap .u64 (b+(dM .u64 b (wrap .u64 (0-b))))))==0)
@[irreducible] def IL:=IK b
def IM:Option (Unit⊕Bool):=(fj e).bind fun a=>cond (!a) (some (Sum.inr false)) (some (Sum.inl ()))
def IN:Option ((Int×(List Int))):=(lM e).bind fun a=>some ((a.length:Int),a)
def pH:Option (Int⊕Bool⊕Unit):=cond (decide (p<b)) ((ap p (List.length w)).bind fun a=>(w[a]?).bind fun c=>(IL c).bind fun d=>cond (!d) (some (Sum.inr (Sum.inl false))) (some (Sum.inl (wrap .i64 (p+1))))) (some (Sum.inr (Sum.inr ())))
def U1:Option (Bool⊕Unit):=ai (fun(a:Int)=>((pH b a e).map (Sum.elim (fun c=>Sum.inl c) (Sum.elim (fun c=>Sum.inr (Sum.inl c)) (fun c=>Sum.inr (Sum.inr c)))))) LL 0
def U2:=(U1 b e).map (Sum.elim (fun a=>(Sum.inr a)) (fun a=>(Sum.inl ())))
def U3:=(IN e).bind (fun a=>U2 a.1 a.2)
def IP:Option (Bool):=some true
def U4:=(U3 e).bind (Sum.elim (fun a=>IP) (fun b=>some ((fun a=>a) b)))
def yZ:=(IM e).bind (Sum.elim (fun a=>U4 e) (fun b=>some ((fun a=>a) b)))
@[irreducible] def nv:=yZ e
def y0:Option (ByteArray):=cond g (some (ByteArray.mk #[121,101,115])) (some (ByteArray.mk #[110,111]))
@[irreducible] def sW:=y0 g
def y1:Option (ByteArray):=(nv e).bind fun a=>(sW a).bind fun b=>some b
@[irreducible] def IQ (a:List Int) (b:List (List Int)):=y1 a
def y2:Option (Bool):=(su b p).bind fun a=>(su q r).bind fun c=>cond (a.1) (cond (c.1) ((yn (a.2.1) (a.2.2) (c.2.1) (c.2.2)).bind fun d=>some d) (some false)) (some false)
@[irreducible] def IR:=y2 b p q r
def y3:Option (Bool):=(IR q r b p).bind fun a=>some a
@[irreducible] def IS:=y3 b p q r
def U5:Option (Unit):=some ()
def U6:Option (Int):=some (e.length:Int)
def U7:Option (Unit⊕Int):=cond (decide (q<p)) (some (Sum.inl ())) (some (Sum.inr b))
def U8:Option ((Int×(List Int)×Int)):=(idx e p).bind fun a=>(inc (wrap .i64 (p+1)) (List.length e)).bind fun b=>some (a,((e.take (List.length e)).drop b),(List.length ((e.take (List.length e)).drop b):Int))
def U9:Option ((Int×Int)⊕Int):=cond (decide (C<y)) ((idx w C).bind fun a=>(IS p a M O).bind fun c=>cond c (some (Sum.inl ((wrap .i64 (b+1)),(wrap .i64 (C+1))))) (some (Sum.inl (b,(wrap .i64 (C+1)))))) (some (Sum.inr b))
def afl:Option (Int):=ai (fun(a:Int×Int)=>((U9 a.1 p w y a.2 C M).map (Sum.elim (fun c=>Sum.inl (c.1,c.2)) (fun c=>Sum.inr c)))) LL (b,0)
def afm:=(afl b p w y C M).map (fun a=>a)
def afn:=(U8 e q).bind (fun a=>afm p a.1 a.2.1 a.2.2 r u)
def afo:=(afn e p q r u).map (fun a=>a)
def Va:Option (Int):=some (wrap .i64 (b+1))
def afp:=(afo e p q r u).bind (fun a=>(Va q).map (fun b=>(a,b)))
def afq:=(U7 p q r).bind (Sum.elim (fun a=>(afp e p r u v).map (fun a=>(Sum.inl (a.1,a.2)))) (fun b=>some ((fun a=>(Sum.inr a)) b)))
def afr:Option (Int):=ai (fun(a:Int×Int)=>((afq e a.1 p a.2 q r).map (Sum.elim (fun b=>Sum.inl (b.1,b.2)) (fun b=>Sum.inr b)))) LL (0,0)
def afs:=(afr e p q r).map (fun a=>a)
def aft:=(U6 e).bind (fun a=>afs e a p q)
def Vb:Option (Int):=some b
def afu:=(aft e p q).bind (fun a=>Vb a)
def Vc:=(U5).bind (fun a=>afu e p q)
@[irreducible] def IT:=Vc e p q
def sX:Option (Bool):=(IT w b p).bind fun a=>some (decide (a>0))
@[irreducible] def sY:=sX b p w
def Vd:Option (Unit):=some ()
def Ve:Option (Int):=some (e.length:Int)
def Vf:Option (Unit⊕Int):=cond (decide (q<p)) (some (Sum.inl ())) (some (Sum.inr b))
def Vg:Option ((Int×(List Int)×Int)):=(idx e p).bind fun a=>(inc (wrap .i64 (p+1)) (List.length e)).bind fun b=>some (a,((e.take (List.length e)).drop b),(List.length ((e.take (List.length e)).drop b):Int))
def Vh:Option ((Int×Int)⊕Int):=cond (decide (C<y)) ((idx w C).bind fun a=>(sY p a E).bind fun c=>cond c (some (Sum.inl ((wrap .i64 (b+1)),(wrap .i64 (C+1))))) (some (Sum.inl (b,(wrap .i64 (C+1)))))) (some (Sum.inr b))
def afv:Option (Int):=ai (fun(a:Int×Int)=>((Vh a.1 p w y a.2 E).map (Sum.elim (fun c=>Sum.inl (c.1,c.2)) (fun c=>Sum.inr c)))) LL (b,0)
def afw:=(afv b p w y E).map (fun a=>a)
def afx:=(Vg e q).bind (fun a=>afw p a.1 a.2.1 a.2.2 w)
def afy:=(afx e p q w).map (fun a=>a)
def Vi:Option (Int):=some (wrap .i64 (b+1))
def afz:=(afy e p q w).bind (fun a=>(Vi q).map (fun b=>(a,b)))
def afA:=(Vf p q r).bind (Sum.elim (fun a=>(afz e p r w).map (fun a=>(Sum.inl (a.1,a.2)))) (fun b=>some ((fun a=>(Sum.inr a)) b)))
def afB:Option (Int):=ai (fun(a:Int×Int)=>((afA e a.1 p a.2 w).map (Sum.elim (fun b=>Sum.inl (b.1,b.2)) (fun b=>Sum.inr b)))) LL (0,0)
def afC:=(afB e p w).map (fun a=>a)
def afD:=(Ve e).bind (fun a=>afC e a w)
def Vj:Option (Int):=some b
def afE:=(afD e w).bind (fun a=>Vj a)
def Vk:=(Vd).bind (fun a=>afE e w)
@[irreducible] def IU:=Vk e w
def sZ:Option (Bool):=cond ((dM .u64 b p) !=0) (some false) ((jt p).bind fun a=>(jt b).bind fun c=>(IU c a).bind fun d=>some (decide (d>0)))
@[irreducible] def s0:=sZ b p
def Vl:Option (Unit):=some ()
def Vm:Option (Int):=some (e.length:Int)
def Vn:Option (Unit⊕Int):=cond (decide (q<p)) (some (Sum.inl ())) (some (Sum.inr b))
def Vo:Option ((Int×(List Int)×Int)):=(idx e p).bind fun a=>(inc (wrap .i64 (p+1)) (List.length e)).bind fun b=>some (a,((e.take (List.length e)).drop b),(List.length ((e.take (List.length e)).drop b):Int))
def Vp:Option ((Int×Int)⊕Int):=cond (decide (C<y)) ((idx w C).bind fun a=>(s0 p a).bind fun c=>cond c (some (Sum.inl ((wrap .i64 (b+1)),(wrap .i64 (C+1))))) (some (Sum.inl (b,(wrap .i64 (C+1)))))) (some (Sum.inr b))
def afF:Option (Int):=ai (fun(a:Int×Int)=>((Vp a.1 p w y a.2).map (Sum.elim (fun c=>Sum.inl (c.1,c.2)) (fun c=>Sum.inr c)))) LL (b,0)
def afG:=(afF b p w y).map (fun a=>a)
def afH:=(Vo e q).bind (fun a=>afG p a.1 a.2.1 a.2.2)
def afI:=(afH e p q).map (fun a=>a)
def Vq:Option (Int):=some (wrap .i64 (b+1))
def afJ:=(afI e p q).bind (fun a=>(Vq q).map (fun b=>(a,b)))
def afK:=(Vn p q r).bind (Sum.elim (fun a=>(afJ e p r).map (fun a=>(Sum.inl (a.1,a.2)))) (fun b=>some ((fun a=>(Sum.inr a)) b)))
def afL:Option (Int):=ai (fun(a:Int×Int)=>((afK e a.1 p a.2).map (Sum.elim (fun b=>Sum.inl (b.1,b.2)) (fun b=>Sum.inr b)))) LL (0,0)
def afM:=(afL e p).map (fun a=>a)
def afN:=(Vm e).bind (fun a=>afM e a)
def Vr:Option (Int):=some b
def afO:=(afN e).bind (fun a=>Vr a)
def Vs:=(Vl).bind (fun a=>afO e)
@[irreducible] def IV:=Vs e
def s1:Option (Bool):=(fj e).bind fun a=>cond a ((lM e).bind fun b=>(IV b).bind fun c=>some (c==0)) (some false)
@[irreducible] def y4:=s1 e
def y5:Option (ByteArray):=(y4 e).bind fun a=>(sW a).bind fun b=>some b
@[irreducible] def IW (a:List Int) (b:List (List Int)):=y5 a
def s2:Option (((List Int))):=(mk b b).bind fun a=>some (replicate a (0:Int))
@[irreducible] def s3:=s2 b
@[irreducible] def IX:=some ()
def y6:Option (Unit):=some ()
@[irreducible] def IY (a:List Int) (b c:Int) (d:List Int):=y6
def pI:Option ((Int×Int×Bool)):=cond (decide ((e.length:Int)<2)) (some (0,0,false)) ((ap (wrap .i64 ((e.length:Int)-2)) (List.length e)).bind fun a=>(e[a]?).bind fun b=>(ap (wrap .i64 ((e.length:Int)-1)) (List.length e)).bind fun c=>(e[c]?).bind fun d=>some (b,d,true))
@[irreducible] def lO (a b:Int) (c d:List Int):=pI d
def y7:Option (Bool):=(idx w (wrap .i64 (b-1))).bind fun a=>cond (a==p) ((lK w b).bind fun c=>(lK E b).bind fun d=>some (c==d)) (some false)
@[irreducible] def s4 (a b:Int) (c:List Int) (d e:Int) (f g:List Int):=y7 a b c f
def y8:Option (Int):=(lO b p E J).bind fun a=>cond (a.2.2) ((s4 (a.1) (a.2.1) w b p E J).bind fun c=>cond c (some 76) (cond (a.2.2) ((s4 (a.2.1) (a.1) w b p E J).bind fun d=>cond d (some 82) (some 83)) (some 83))) (cond (a.2.2) ((s4 (a.2.1) (a.1) w b p E J).bind fun e=>cond e (some 82) (some 83)) (some 83))
@[irreducible] def IZ:=y8 b p w E J
def y9:Option ((Bool×Int×Int×(List Int))):=cond (b==(w.length:Int)) (some (false,b,p,E)) ((room ((List.length E)+List.length ([(wrap .i64 (b+1))]))).bind fun a=>some (true,(wrap .i64 (b+1)),(imax p (List.length (E++([(wrap .i64 (b+1))])):Int)),(E++([(wrap .i64 (b+1))]))))
@[irreducible] def I0:=y9 b p w E
def za:Option (((List Int)×(List Int))):=(ap (wrap .i64 (b-1)) (List.length w)).bind fun a=>(inc (wrap .i64 ((E.length:Int)-2)) (List.length E)).bind fun c=>(room ((c-0)+List.length ([p]))).bind fun d=>some ((w.set a p),(((E.drop 0).take (c-0))++([p])))
@[irreducible] def s5 (a b c d:Int) (e f:List Int):=(za a b e f).map (fun g=>(g.1,g.2))
def zb:Option ((Bool×(List Int)×(List Int))):=(lO b p w E).bind fun a=>cond (a.2.2) ((s5 (a.1) (a.2.1) b p w E).bind fun c=>some ((a.2.2),(c.1),(c.2))) (some ((a.2.2),w,E))
@[irreducible] def I1:=zb b p w E
def zc:Option ((Bool×(List Int)×(List Int))):=(lO b p w E).bind fun a=>cond (a.2.2) ((s5 (a.2.1) (a.1) b p w E).bind fun c=>some ((a.2.2),(c.1),(c.2))) (some ((a.2.2),w,E))
@[irreducible] def I2:=zc b p w E
def I3:Option (((List Int))⊕(ByteArray×Bool)):=(nv e).bind fun a=>cond (!a) (some (Sum.inr (empty,false))) ((s3 (e.length:Int)).bind fun b=>(IX).bind fun c=>(IY e 0 0 b).bind fun d=>some (Sum.inl b))
def I4:Option (Int):=some (wrap .i64 ((wrap .i64 (2*(e.length:Int)))-1))
def pJ:Option ((Int×Int×Int×(List Int)×(List Int)×(List Int))⊕((List Int))):=cond (decide (p<b)) ((IZ q r N E J).bind fun a=>cond (a==83) ((I0 q r E J).bind fun c=>(room ((List.length w)+List.length ([a]))).bind fun d=>some (Sum.inl ((wrap .i64 (p+1)),(c.2.1),(c.2.2.1),(w++([a])),E,(c.2.2.2)))) (cond (a==76) ((I1 q r E J).bind fun e=>(room ((List.length w)+List.length ([a]))).bind fun f=>some (Sum.inl ((wrap .i64 (p+1)),q,r,(w++([a])),(e.2.1),(e.2.2)))) (cond (a==82) ((I2 q r E J).bind fun g=>(room ((List.length w)+List.length ([a]))).bind fun h=>some (Sum.inl ((wrap .i64 (p+1)),q,r,(w++([a])),(g.2.1),(g.2.2)))) (none)))) (some (Sum.inr w))
def Vt:Option (((List Int))):=ai (fun(a:Int×Int×Int×(List Int)×(List Int)×(List Int))=>((pJ b a.1 a.2.1 a.2.2.1 a.2.2.2.1 a.2.2.2.2.1 a.2.2.2.2.2 w).map (Sum.elim (fun c=>Sum.inl (c.1,c.2.1,c.2.2.1,c.2.2.2.1,c.2.2.2.2.1,c.2.2.2.2.2)) (fun c=>Sum.inr c)))) LL (0,0,0,([]:List Int),e,([]:List Int))
def Vu:=(Vt b e w).map (fun a=>a)
def Vv:=(I4 e).bind (fun a=>Vu a w e)
def I5:Option ((ByteArray×Bool)):=some ((bytesOf e),true)
def Vw:=(Vv e w).bind (fun a=>I5 a)
def zd:=(I3 e).bind (Sum.elim (fun a=>Vw e a) (fun b=>some ((fun a=>a) b)))
@[irreducible] def ze:=zd e
def s6:Option (ByteArray):=cond (aE a empty) (some (ByteArray.mk #[110,111,110,101])) (some a)
@[irreducible] def lP:=s6 a
def s7:Option (ByteArray):=(ze e).bind fun a=>(lP (a.1)).bind fun b=>some b
@[irreducible] def zf (a:List Int) (b:List (List Int)):=s7 a
def zg:Option (((List Int))):=(s3 b).bind fun a=>some a
@[irreducible] def I6:=zg b
@[irreducible] def I7:=some ()
def s8:Option ((Int×Int×Bool)):=cond ((((h:Nat):Int))==0) (some (0,0,false)) (cond (p==(w.length:Int)) (some (0,0,false)) ((ap (wrap .i64 ((((h:Nat):Int))-1)) h).bind fun a=>(E[(f+a)]?).bind fun b=>some (b,(wrap .i64 (p+1)),true)))
@[irreducible] def pK (a b:Nat) (c d e:Int) (f g:List Int):=s8 a b c f g
def s9:Option (Bool):=(idx e (wrap .i64 (p-1))).bind fun a=>cond (a==b) (some true) ((idx e (wrap .i64 (b-1))).bind fun c=>some (c==p))
@[irreducible] def zh:=s9 b e p
def I8:Option (Unit):=some ()
def I9:Option (Int):=some (e.length:Int)
def ta:Option (Int⊕Int⊕Unit):=cond (decide (q<p)) ((idx e q).bind fun a=>(zh a w y).bind fun b=>cond b (some (Sum.inr (Sum.inl q))) (some (Sum.inl (wrap .i64 (q+1))))) (some (Sum.inr (Sum.inr ())))
def Vx:Option (Int⊕Unit):=ai (fun(a:Int)=>((ta e p a w y).map (Sum.elim (fun b=>Sum.inl b) (Sum.elim (fun b=>Sum.inr (Sum.inl b)) (fun b=>Sum.inr (Sum.inr b)))))) LL 0
def Vy:=(Vx e p w y).map (Sum.elim (fun a=>(Sum.inr a)) (fun a=>(Sum.inl ())))
def Vz:=(I9 e).bind (fun a=>Vy e a w y)
def VA:Option (Int):=some (-1)
def VB:=(Vz e w y).bind (Sum.elim (fun a=>VA) (fun b=>some ((fun a=>a) b)))
def zi:=(I8).bind (fun a=>VB e w y)
@[irreducible] def Ja:=zi e w y
def zj:Option (Bool):=(Ja e w y).bind fun a=>some (decide (a>=0))
@[irreducible] def Jb:=zj e w y
def tb:Option (Bool):=(inc (wrap .i64 ((((I:Nat):Int))-1)) I).bind fun a=>(Jb ((J.drop (H+0)).take (a-0)) e p).bind fun b=>some b
@[irreducible] def zk (a:List Int) (b:Int) (c d:Nat) (e f g:Int) (h i:List Int):=tb a b c d i
def tc:Option (Int):=(pK f h p q r w E).bind fun a=>cond (!(a.2.2)) (some 83) ((idx e (wrap .i64 ((a.1)-1))).bind fun b=>cond (b==(a.2.1)) (some 76) ((idx e (wrap .i64 ((a.2.1)-1))).bind fun c=>cond (c==(a.1)) (some 82) ((zk e (a.2.1) f h p q r w E).bind fun d=>cond d (some 68) (some 83))))
@[irreducible] def zl:=tc e f h p q r w E
def td:Option ((Bool×Nat×Nat×Int×Int×(List Int))):=cond (p==(w.length:Int)) (some (false,f,h,p,q,E)) ((room (h+List.length ([(wrap .i64 (p+1))]))).bind fun a=>some (true,0,(List.length (((E.drop f).take h)++([(wrap .i64 (p+1))]))),(wrap .i64 (p+1)),(imax q (List.length (((E.drop f).take h)++([(wrap .i64 (p+1))])):Int)),(((E.drop f).take h)++([(wrap .i64 (p+1))]))))
@[irreducible] def pL (a b:Nat) (c d e:Int) (f g:List Int):=td a b c d f g
def Jc:Option (Bool):=some ((dM .u64 b p)==p)
@[irreducible] def Jd:=Jc b p
def te:Option (Bool):=(ku b).bind fun a=>(Jd p a).bind fun c=>some c
@[irreducible] def tf (a:Int) (b c:Nat) (d e f:Int) (g h:List Int):=te a f
def tg:Option ((Int×(List Int))):=(ap (wrap .i64 (b-1)) (List.length w)).bind fun a=>(ku b).bind fun c=>some ((je .u64 q c),(w.set a p))
@[irreducible] def pM (a b:Int) (c d:Nat) (e f g:Int) (h i:List Int):=(tg a b g h).map (fun j=>(j.1,j.2))
def zm:Option ((Nat×Nat)):=(inc (wrap .i64 ((((h:Nat):Int))-1)) h).bind fun a=>some ((f+0),(a-0))
@[irreducible] def th (a b:Nat) (c d e:Int) (f g:List Int):=(zm a b).map (fun h=>(h.1,h.2))
def nw:Option ((Bool×Nat×Nat×Int×(List Int))):=(pK f h p q r w E).bind fun a=>cond (!(a.2.2)) (some (false,f,h,r,w)) ((tf (a.1) f h p q r w E).bind fun b=>cond b (some (false,f,h,r,w)) ((pM (a.1) (a.2.1) f h p q r w E).bind fun c=>(th f h p q (c.1) (c.2) E).bind fun d=>some (true,(d.1),(d.2),(c.1),(c.2))))
@[irreducible] def nx:=nw f h p q r w E
def pN:Option ((Bool×Nat×Nat×Int×Int×Int×(List Int)×(List Int))):=(pK f h p q r w E).bind fun a=>cond (!(a.2.2)) (some (false,f,h,p,q,r,w,E)) ((pM (a.2.1) (a.1) f h p q r w E).bind fun b=>(pL f h p q (b.1) (b.2) E).bind fun c=>some ((c.1),(c.2.1),(c.2.2.1),(c.2.2.2.1),(c.2.2.2.2.1),(b.1),(b.2),(c.2.2.2.2.2)))
@[irreducible] def pO:=pN f h p q r w E
def tj:Option ((Bool×Nat×Nat)):=cond ((((h:Nat):Int))==0) (some (false,f,h)) ((ap (wrap .i64 ((((h:Nat):Int))-1)) h).bind fun a=>(E[(f+a)]?).bind fun b=>(tf b f h p q r w E).bind fun c=>cond (!c) (some (false,f,h)) ((th f h p q r w E).bind fun d=>some (true,(d.1),(d.2))))
@[irreducible] def pP:=tj f h p q r w E
def Je:Option ((Nat×(List Int))⊕(ByteArray×Bool)):=(nv e).bind fun a=>cond (!a) (some (Sum.inr (empty,false))) ((I6 (e.length:Int)).bind fun b=>(I7).bind fun c=>some (Sum.inl ((List.length ([]:List Int)),b)))
def pQ:Option ((Nat×Nat×Int×Int×Int×(List Int)×(List Int)×(List Int))⊕((List Int))):=cond (decide (p<(e.length:Int))) ((zl e f h p q r E J).bind fun a=>cond (a==83) ((pL f h p q r E J).bind fun b=>(room ((List.length w)+List.length ([a]))).bind fun c=>some (Sum.inl ((b.2.1),(b.2.2.1),(b.2.2.2.1),(b.2.2.2.2.1),r,(w++([a])),E,(b.2.2.2.2.2)))) (cond (a==76) ((nx f h p q r E J).bind fun d=>(room ((List.length w)+List.length ([a]))).bind fun g=>some (Sum.inl ((d.2.1),(d.2.2.1),p,q,(d.2.2.2.1),(w++([a])),(d.2.2.2.2),J))) (cond (a==82) ((pO f h p q r E J).bind fun i=>(room ((List.length w)+List.length ([a]))).bind fun j=>some (Sum.inl ((i.2.1),(i.2.2.1),(i.2.2.2.1),(i.2.2.2.2.1),(i.2.2.2.2.2.1),(w++([a])),(i.2.2.2.2.2.2.1),(i.2.2.2.2.2.2.2)))) (cond (a==68) ((pP f h p q r E J).bind fun k=>(room ((List.length w)+List.length ([a]))).bind fun l=>some (Sum.inl ((k.2.1),(k.2.2),p,q,r,(w++([a])),E,J))) (none))))) (some (Sum.inr w))
def VC:Option (((List Int))):=ai (fun(a:Nat×Nat×Int×Int×Int×(List Int)×(List Int)×(List Int))=>((pQ e a.1 a.2.1 a.2.2.1 a.2.2.2.1 a.2.2.2.2.1 a.2.2.2.2.2.1 a.2.2.2.2.2.2.1 a.2.2.2.2.2.2.2).map (Sum.elim (fun b=>Sum.inl (b.1,b.2.1,b.2.2.1,b.2.2.2.1,b.2.2.2.2.1,b.2.2.2.2.2.1,b.2.2.2.2.2.2.1,b.2.2.2.2.2.2.2)) (fun b=>Sum.inr b)))) LL (0,f,0,0,0,([]:List Int),w,([]:List Int))
def VD:=(VC e f w).map (fun a=>a)
def Jf:Option ((ByteArray×Bool)):=some ((bytesOf e),true)
def VE:=(VD e f w).bind (fun a=>Jf a)
def zn:=(Je e).bind (Sum.elim (fun a=>VE e a.1 a.2) (fun b=>some ((fun a=>a) b)))
@[irreducible] def zo:=zn e
def tk:Option (ByteArray):=(zo e).bind fun a=>(lP (a.1)).bind fun b=>some b
@[irreducible] def zp (a:List Int) (b:List (List Int)):=tk a
def Jg:Option (Unit):=some ()
@[irreducible] def VF (a b c d e f g h i j k l m n:Int):=Jg
def VG:Option (Unit):=some ()
def VH:Option (Unit):=some ()
def VI (a b c d e f g h i j k l m n o p q r:Int):Option ((Int×Int)⊕Int):=cond (decide (d<c)) ((ap d 7).bind fun s=>([e,f,g,h,i,j,k,l,m,n,o,p,q,r][s]?).bind fun t=>(ap (wrap .i64 (a-d)) 7).bind fun u=>([l,m,n,o,p,q,r][u]?).bind fun v=>some (Sum.inl ((wrap .i64 (b+(wrap .i64 (t*v)))),(wrap .i64 (d+1))))) (some (Sum.inr b))
def afP (a b c d e f g h i j k l m n o p:Int):Option (Int):=ai (fun(q:Int×Int)=>((VI a q.1 b q.2 c d e f g h i j k l m n o p).map (Sum.elim (fun r=>Sum.inl (r.1,r.2)) (fun r=>Sum.inr r)))) LL (0,0)
def afQ (a b c d e f g h i j k l m n o p:Int):=(afP a b c d e f g h i j k l m n o p).map (fun q=>q)
def afR (a b c d e f g h i j k l m n o p:Int):=(VH).bind (fun q=>afQ a b c d e f g h i j k l m n o p)
def VJ:Option (Int):=some b
def afS (a b c d e f g h i j k l m n o p:Int):=(afR a b c d e f g h i j k l m n o p).bind (fun q=>VJ q)
def VK (a b c d e f g h i j k l m n o p:Int):=(VG).bind (fun q=>afS o p a b c d e f g h i j k l m n)
@[irreducible] def VL (a b c d e f g h i j k l m n o p:Int):=VK a b c d e f g h i j k l m n o p
def Jh (a b c d e f g h i j k l m n o:Int):Option (Int):=(VL a b c d e f g h i j k l m n o (wrap .i64 (o+1))).bind fun p=>some p
@[irreducible] def VM (a b c d e f g h i j k l m n o:Int):=Jh a b c d e f g h i j k l m n o
def Ji:Option (Unit):=some ()
@[irreducible] def VN (a b c d e f g h i j k l m n:Int):=Ji
def VO:Option ((Int×Int×Int×Int×Int×Int×Int)):=(ap 0 7).bind fun a=>(within a 7).bind fun b=>some ((cond (a==0) 1 0),(cond (a==1) 1 0),(cond (a==2) 1 0),(cond (a==3) 1 0),(cond (a==4) 1 0),(cond (a==5) 1 0),(cond (a==6) 1 0))
def VP:Option (Unit):=some ()
def VQ (a b c d e f g h i j k l m n o:Int):Option ((Int×Int×Int×Int×Int×Int×Int×Int×Int×Int×Int×Int×Int×Int×Int)⊕(Int×Int×Int×Int×Int×Int×Int×Int×Int×Int×Int×Int×Int×Int)):=cond (decide (a<=6)) ((VF b c d e f g h i j k l m n o).bind fun p=>(VM i j k l m n o i j k l m n o (wrap .i64 (a-1))).bind fun q=>(ap a 7).bind fun r=>(within r 14).bind fun s=>(VN (cond (r==0) q b) (cond (r==1) q c) (cond (r==2) q d) (cond (r==3) q e) (cond (r==4) q f) (cond (r==5) q g) (cond (r==6) q h) (cond (r==7) q i) (cond (r==8) q j) (cond (r==9) q k) (cond (r==10) q l) (cond (r==11) q m) (cond (r==12) q n) (cond (r==13) q o)).bind fun t=>(VM (cond (r==0) q b) (cond (r==1) q c) (cond (r==2) q d) (cond (r==3) q e) (cond (r==4) q f) (cond (r==5) q g) (cond (r==6) q h) (cond (r==7) q i) (cond (r==8) q j) (cond (r==9) q k) (cond (r==10) q l) (cond (r==11) q m) (cond (r==12) q n) (cond (r==13) q o) a).bind fun u=>(ap a 7).bind fun v=>(within v 7).bind fun w=>some (Sum.inl ((wrap .i64 (a+1)),(cond (r==0) q b),(cond (r==1) q c),(cond (r==2) q d),(cond (r==3) q e),(cond (r==4) q f),(cond (r==5) q g),(cond (r==6) q h),(cond (v==0) u (cond (r==7) q i)),(cond (v==1) u (cond (r==8) q j)),(cond (v==2) u (cond (r==9) q k)),(cond (v==3) u (cond (r==10) q l)),(cond (v==4) u (cond (r==11) q m)),(cond (v==5) u (cond (r==12) q n)),(cond (v==6) u (cond (r==13) q o))))) (some (Sum.inr (b,c,d,e,f,g,h,i,j,k,l,m,n,o)))
def afT:Option ((Int×Int×Int×Int×Int×Int×Int×Int×Int×Int×Int×Int×Int×Int)):=ai (fun(a:Int×Int×Int×Int×Int×Int×Int×Int×Int×Int×Int×Int×Int×Int×Int)=>((VQ a.1 a.2.1 a.2.2.1 a.2.2.2.1 a.2.2.2.2.1 a.2.2.2.2.2.1 a.2.2.2.2.2.2.1 a.2.2.2.2.2.2.2.1 a.2.2.2.2.2.2.2.2.1 a.2.2.2.2.2.2.2.2.2.1 a.2.2.2.2.2.2.2.2.2.2.1 a.2.2.2.2.2.2.2.2.2.2.2.1 a.2.2.2.2.2.2.2.2.2.2.2.2.1 a.2.2.2.2.2.2.2.2.2.2.2.2.2.1 a.2.2.2.2.2.2.2.2.2.2.2.2.2.2).map (Sum.elim (fun c=>Sum.inl (c.1,c.2.1,c.2.2.1,c.2.2.2.1,c.2.2.2.2.1,c.2.2.2.2.2.1,c.2.2.2.2.2.2.1,c.2.2.2.2.2.2.2.1,c.2.2.2.2.2.2.2.2.1,c.2.2.2.2.2.2.2.2.2.1,c.2.2.2.2.2.2.2.2.2.2.1,c.2.2.2.2.2.2.2.2.2.2.2.1,c.2.2.2.2.2.2.2.2.2.2.2.2.1,c.2.2.2.2.2.2.2.2.2.2.2.2.2.1,c.2.2.2.2.2.2.2.2.2.2.2.2.2.2)) (fun c=>Sum.inr c)))) LL (1,0,0,0,0,0,0,0,b,p,q,r,u,v,y)
def afU:=(afT b p q r u v y).map (fun a=>(a.1,a.2.1,a.2.2.1,a.2.2.2.1,a.2.2.2.2.1,a.2.2.2.2.2.1,a.2.2.2.2.2.2.1,a.2.2.2.2.2.2.2.1,a.2.2.2.2.2.2.2.2.1,a.2.2.2.2.2.2.2.2.2.1,a.2.2.2.2.2.2.2.2.2.2.1,a.2.2.2.2.2.2.2.2.2.2.2.1,a.2.2.2.2.2.2.2.2.2.2.2.2.1,a.2.2.2.2.2.2.2.2.2.2.2.2.2))
def afV:=(VP).bind (fun a=>afU b p q r u v y)
def VR (a b c d e f g h i j k l m n:Int):Option ((Int×Int×Int×Int×Int×Int×Int×Int×Int×Int×Int×Int×Int×Int)):=some (a,b,c,d,e,f,g,h,i,j,k,l,m,n)
def afW:=(afV b p q r u v y).bind (fun a=>VR a.1 a.2.1 a.2.2.1 a.2.2.2.1 a.2.2.2.2.1 a.2.2.2.2.2.1 a.2.2.2.2.2.2.1 a.2.2.2.2.2.2.2.1 a.2.2.2.2.2.2.2.2.1 a.2.2.2.2.2.2.2.2.2.1 a.2.2.2.2.2.2.2.2.2.2.1 a.2.2.2.2.2.2.2.2.2.2.2.1 a.2.2.2.2.2.2.2.2.2.2.2.2.1 a.2.2.2.2.2.2.2.2.2.2.2.2.2)
def VS:=(VO).bind (fun a=>afW a.1 a.2.1 a.2.2.1 a.2.2.2.1 a.2.2.2.2.1 a.2.2.2.2.2.1 a.2.2.2.2.2.2)
@[irreducible] def VT:=VS
def Jj (a b c d e f g h i j k l m n o p q r:Int):Option (Int):=(ap q 7).bind fun s=>([h,i,j,k,l,m,n][s]?).bind fun t=>(VL a b c d e f g h i j k l m n (wrap .i64 (o+q)) o).bind fun u=>some (wrap .i64 ((wrap .i64 (u+(wrap .i64 (p*t))))+r))
@[irreducible] def VU (a b c d e f g h i j k l m n o p q r:Int):=Jj a b c d e f g h i j k l m n o p q r
def Jk (R0:Int->Int->Int->Int->Int->Int->Int->Int->Int->Int->Int->Int->Int->Int->(List Int)->Int->Option (Int×Int)) (R1:Int->Int->Int->Int->Int->Int->Int->Int->Int->Int->Int->Int->Int->Int->(List Int)->(List Int)->Option (Int×Int)) (a b c d e f g h i j k l m n:Int) (o:List Int) (p:Int):Option ((Int×Int)):=(sk o p).bind fun q=>(jt (q.1)).bind fun r=>(R1 a b c d e f g h i j k l m n o r).bind fun s=>(jt (q.2)).bind fun t=>(R1 a b c d e f g h i j k l m n o t).bind fun u=>(VF a b c d e f g h i j k l m n).bind fun v=>(VU h i j k l m n h i j k l m n (s.1) (s.2) (u.1) (u.2)).bind fun w=>some ((wrap .i64 ((wrap .i64 ((s.1)+1))+(u.1))),w)
def afX (R0:Int->Int->Int->Int->Int->Int->Int->Int->Int->Int->Int->Int->Int->Int->(List Int)->Int->Option (Int×Int)) (R1:Int->Int->Int->Int->Int->Int->Int->Int->Int->Int->Int->Int->Int->Int->(List Int)->(List Int)->Option (Int×Int)) (a b c d e f g h i j k l m n:Int) (o:List Int) (p:Int):Option (Int×Int):=Jk R0 R1 a b c d e f g h i j k l m n o p
def Jl (R0:Int->Int->Int->Int->Int->Int->Int->Int->Int->Int->Int->Int->Int->Int->(List Int)->Int->Option (Int×Int)) (R1:Int->Int->Int->Int->Int->Int->Int->Int->Int->Int->Int->Int->Int->Int->(List Int)->(List Int)->Option (Int×Int)) (a b c d e f g h i j k l m n:Int) (o p:List Int):Option ((Int×Int)):=cond ((p.length:Int)==0) (some (0,0)) ((idx p 0).bind fun q=>(R0 a b c d e f g h i j k l m n o q).bind fun r=>(inc 1 (List.length p)).bind fun s=>(R1 a b c d e f g h i j k l m n o ((p.take (List.length p)).drop s)).bind fun t=>(VN a b c d e f g h i j k l m n).bind fun u=>(VU a b c d e f g h i j k l m n (r.1) (r.2) (t.1) (t.2)).bind fun v=>some ((wrap .i64 ((r.1)+(t.1))),v))
def afY (R0:Int->Int->Int->Int->Int->Int->Int->Int->Int->Int->Int->Int->Int->Int->(List Int)->Int->Option (Int×Int)) (R1:Int->Int->Int->Int->Int->Int->Int->Int->Int->Int->Int->Int->Int->Int->(List Int)->(List Int)->Option (Int×Int)) (a b c d e f g h i j k l m n:Int) (o p:List Int):Option (Int×Int):=Jl R0 R1 a b c d e f g h i j k l m n o p
def lQ:Nat->(Int->Int->Int->Int->Int->Int->Int->Int->Int->Int->Int->Int->Int->Int->(List Int)->Int->Option (Int×Int))×(Int->Int->Int->Int->Int->Int->Int->Int->Int->Int->Int->Int->Int->Int->(List Int)->(List Int)->Option (Int×Int))
 |0=>((fun _ _ _ _ _ _ _ _ _ _ _ _ _ _ _ _=>none),(fun _ _ _ _ _ _ _ _ _ _ _ _ _ _ _ _=>none))
 |n+1=>((fun S T a0 a1 a2 a3 a4 a5 a6 a7 U V W X Y Z=>afX (lQ n).1 (lQ n).2 S T a0 a1 a2 a3 a4 a5 a6 a7 U V W X Y Z),(fun S T a0 a1 a2 a3 a4 a5 a6 a7 U V W X Y Z=>afY (lQ n).1 (lQ n).2 S T a0 a1 a2 a3 a4 a5 a6 a7 U V W X Y Z))
def pR (n:Nat):Int->Int->Int->Int->Int->Int->Int->Int->Int->Int->Int->Int->Int->Int->(List Int)->Int->Option (Int×Int):=(lQ n).1
@[irreducible] def zq (a b c d e f g h i j k l m n:Int) (o:List Int) (p:Int):=pR RR a b c d e f g h i j k l m n o p
def pS (n:Nat):Int->Int->Int->Int->Int->Int->Int->Int->Int->Int->Int->Int->Int->Int->(List Int)->(List Int)->Option (Int×Int):=(lQ n).2
@[irreducible] def VV (a b c d e f g h i j k l m n:Int) (o p:List Int):=pS RR a b c d e f g h i j k l m n o p
def zr:Option (Int):=cond (decide ((e.length:Int)>6)) (some (-1)) ((nv e).bind fun a=>cond (!a) (some (-1)) ((VT).bind fun b=>(px e).bind fun c=>(zq (b.1) (b.2.1) (b.2.2.1) (b.2.2.2.1) (b.2.2.2.2.1) (b.2.2.2.2.2.1) (b.2.2.2.2.2.2.1) (b.2.2.2.2.2.2.2.1) (b.2.2.2.2.2.2.2.2.1) (b.2.2.2.2.2.2.2.2.2.1) (b.2.2.2.2.2.2.2.2.2.2.1) (b.2.2.2.2.2.2.2.2.2.2.2.1) (b.2.2.2.2.2.2.2.2.2.2.2.2.1) (b.2.2.2.2.2.2.2.2.2.2.2.2.2) e c).bind fun d=>some (d.2)))
@[irreducible] def Jm:=zr e
def tl:Option (ByteArray):=(Jm e).bind fun a=>cond (decide (a<0)) ((lP empty).bind fun b=>some b) ((strconv_Itoa a).bind fun c=>some c)
@[irreducible] def zt (a:List Int) (b:List (List Int)):=tl a
def tm:Option (Bool):=cond (decide ((((ByteArray.size a:Nat):Int))>=(((ByteArray.size i:Nat):Int)))) ((inc (((ByteArray.size i:Nat):Int)) (ByteArray.size a)).bind fun b=>some (aE (a.extract 0 b) i)) (some false)
@[irreducible] def zu:=tm a i
def tn:Option ((ByteArray×Bool)):=(zu a i).bind fun b=>cond (!b) (some (a,false)) ((inc (((ByteArray.size i:Nat):Int)) (ByteArray.size a)).bind fun c=>some ((a.extract c (ByteArray.size a)),true))
@[irreducible] def Jn:=tn a i
def to:Option ((ByteArray×Bool)):=(Jn a i).bind fun b=>some ((b.1),(b.2))
@[irreducible] def tp:=to a i
def zv:Option (Bool):=(fj e).bind fun a=>cond a (cond (decide (p>=1)) (some (decide (p<=(e.length:Int)))) (some false)) (some false)
@[irreducible] def zw:=zv e p
def tq:Option (((List Int))):=(zw e p).bind fun a=>cond (!a) (some ([]:List Int)) ((lM e).bind fun b=>(ap (wrap .i64 (p-1)) (List.length b)).bind fun c=>(b[c]?).bind fun d=>(jt d).bind fun f=>some f)
@[irreducible] def zx:=tq e p
def tr:Option (ByteArray):=(strconv_Atoi i).bind fun a=>cond (a.2) (some (ByteArray.mk #[119,104,97,116])) (cond (decide ((a.1)<0)) (some (ByteArray.mk #[119,104,97,116])) (cond (decide ((a.1)>999999)) (some (ByteArray.mk #[119,104,97,116])) ((strconv_Itoa (a.1)).bind fun b=>cond (!(aE b i)) (some (ByteArray.mk #[119,104,97,116])) ((zx e (a.1)).bind fun c=>(nu c).bind fun d=>(lP d).bind fun f=>some f))))
@[irreducible] def zy (a:List Int) (b:List (List Int)) (c:ByteArray):=tr a c
def ts:Option (ByteArray):=(Hl).bind fun a=>cond (D==(ByteArray.mk #[104,101,97,100,115])) ((Hp e A).bind fun b=>some b) (cond (D==(ByteArray.mk #[100,101,112,116,104,115])) ((yb e A).bind fun c=>some c) (cond (D==(ByteArray.mk #[111,114,100,101,114])) ((yg e A).bind fun d=>some d) (cond (D==(ByteArray.mk #[114,111,111,116])) ((HL e A).bind fun f=>some f) (cond (D==(ByteArray.mk #[99,114,111,115,115,105,110,103,115])) ((HX e A).bind fun g=>some g) (cond (D==(ByteArray.mk #[103,97,112,115])) ((H8 e A).bind fun h=>some h) (cond (D==(ByteArray.mk #[101,120,99,104,97,110,103,101,115])) ((Il e A).bind fun i=>some i) (cond (D==(ByteArray.mk #[108,101,110,103,116,104])) ((Iq e A).bind fun j=>some j) (cond (D==(ByteArray.mk #[108,101,97,115,116])) ((ID e A).bind fun k=>some k) (cond (D==(ByteArray.mk #[97,112,97,114,116])) ((IJ e A).bind fun l=>some l) (cond (D==(ByteArray.mk #[112,114,111,106,101,99,116,105,118,101])) ((IQ e A).bind fun m=>some m) (cond (D==(ByteArray.mk #[110,101,115,116,101,100])) ((IW e A).bind fun n=>some n) (cond (D==(ByteArray.mk #[109,111,118,101,115])) ((zf e A).bind fun o=>some o) (cond (D==(ByteArray.mk #[101,97,103,101,114])) ((zp e A).bind fun p=>some p) (cond (D==(ByteArray.mk #[112,108,97,99,101])) ((zt e A).bind fun q=>some q) ((tp D (ByteArray.mk #[121,105,101,108,100,32])).bind fun r=>cond (r.2) ((zy e A (r.1)).bind fun s=>some s) (some (ByteArray.mk #[119,104,97,116])))))))))))))))))
@[irreducible] def zz:=ts e A D
def tt:Option ((Bool×(List Int)×(List (List Int)))):=cond (decide ((wrap .i64 ((A.length:Int)-1))<0)) ((js e ([]:List (List Int))).bind fun a=>some (false,(a.1),(a.2))) ((idx A (wrap .i64 ((A.length:Int)-1))).bind fun b=>(inc (wrap .i64 ((A.length:Int)-1)) (List.length A)).bind fun c=>(js b ((A.take c).drop 0)).bind fun d=>some (true,(d.1),(d.2)))
@[irreducible] def zA:=tt e A
def Jo:Option (((List Int))):=(mk b b).bind fun a=>some (replicate a (0:Int))
def Jp:Option (Int):=some (e.length:Int)
def tu:Option ((Int×(List Int))⊕((List Int))):=cond (decide (q<p)) ((ap q (List.length w)).bind fun a=>some (Sum.inl ((wrap .i64 (q+1)),(w.set a (wrap .i64 (b-q)))))) (some (Sum.inr w))
def VW:Option (((List Int))):=ai (fun(a:Int×(List Int))=>((tu b p a.1 a.2).map (Sum.elim (fun c=>Sum.inl (c.1,c.2)) (fun c=>Sum.inr c)))) LL (0,w)
def VX:=(VW b p w).map (fun a=>a)
def VY:=(Jp e).bind (fun a=>VX b a e)
def Jq:Option (((List Int))):=some e
def VZ:=(VY b e).bind (fun a=>Jq a)
def zB:=(Jo b).bind (fun a=>VZ b a)
@[irreducible] def zC:=zB b
def Jr:Option (((List Int))):=(mk (wrap .i64 ((e.length:Int)+1)) (wrap .i64 ((e.length:Int)+1))).bind fun a=>some (replicate a (0:Int))
def Js:Option (Int):=some (e.length:Int)
def tv:Option ((Int×(List Int))⊕((List Int))):=cond (decide (q<p)) ((idx e q).bind fun a=>(ap a (List.length w)).bind fun b=>some (Sum.inl ((wrap .i64 (q+1)),(w.set b (wrap .i64 (q+1)))))) (some (Sum.inr w))
def V0:Option (((List Int))):=ai (fun(a:Int×(List Int))=>((tv e p a.1 a.2).map (Sum.elim (fun b=>Sum.inl (b.1,b.2)) (fun b=>Sum.inr b)))) LL (0,w)
def V1:=(V0 e p w).map (fun a=>a)
def V2:=(Js e).bind (fun a=>V1 e a w)
def Jt:Option (((List Int))):=some e
def V3:=(V2 e w).bind (fun a=>Jt a)
def Ju:=(Jr e).bind (fun a=>V3 e a)
@[irreducible] def Jv:=Ju e
def zD:Option (Int):=(ap b (List.length e)).bind fun a=>(e[a]?).bind fun c=>some c
@[irreducible] def Jw:=zD b e
def Jx:Option (((List Int))):=(mk (e.length:Int) (e.length:Int)).bind fun a=>some (replicate a (0:Int))
def Jy:Option (Int):=some (e.length:Int)
def zE:Option ((Int×(List Int))⊕((List Int))):=cond (decide (C<y)) ((idx w C).bind fun a=>(idx e (wrap .i64 (a-1))).bind fun b=>(Jw b E).bind fun c=>(ap C (List.length J)).bind fun d=>some (Sum.inl ((wrap .i64 (C+1)),(J.set d c)))) (some (Sum.inr J))
def V4:Option (((List Int))):=ai (fun(a:Int×(List Int))=>((zE e w y a.1 E a.2).map (Sum.elim (fun b=>Sum.inl (b.1,b.2)) (fun b=>Sum.inr b)))) LL (0,J)
def V5:=(V4 e w y E J).map (fun a=>a)
def V6:=(Jy w).bind (fun a=>V5 e w a E J)
def Jz:Option (((List Int))):=some e
def V7:=(V6 e w E J).bind (fun a=>Jz a)
def JA:=(Jx w).bind (fun a=>V7 e w E a)
@[irreducible] def V8:=JA e w E
def zF:Option ((Bool×(List Int))):=(fj e).bind fun a=>cond (!a) (some (false,([]:List Int))) ((yx w (e.length:Int)).bind fun b=>cond (!b) (some (false,([]:List Int))) ((Jv w).bind fun c=>(V8 e w c).bind fun d=>some (true,d)))
@[irreducible] def zG:=zF e w
def tw:Option (((List Int))):=(fj e).bind fun a=>cond (!a) (some ([]:List Int)) ((zC (e.length:Int)).bind fun b=>(zG e b).bind fun c=>some (c.2))
@[irreducible] def zH:=tw e
def tx:Option (((List Int))):=(pz e).bind fun a=>(zG e a).bind fun b=>some (b.2)
@[irreducible] def zI:=tx e
def tz:Option (((List Int))):=cond (p==0) ((zw e q).bind fun a=>cond (!a) (some ([]:List Int)) ((nt e).bind fun b=>(ap (wrap .i64 (q-1)) (List.length b)).bind fun c=>some (b.set c r))) (cond (p==1) ((nt e).bind fun d=>(room ((List.length d)+List.length ([q]))).bind fun f=>some (d++([q]))) (cond (p==2) ((inc (wrap .i64 ((e.length:Int)-1)) (List.length e)).bind fun g=>(nt ((e.take g).drop 0)).bind fun h=>some h) (cond (p==3) ((zH e).bind fun i=>some i) (cond (p==4) ((zI e).bind fun j=>some j) (some ([]:List Int))))))
@[irreducible] def zJ:=tz e p q r
def JB:Option (Unit⊕Bool):=cond ((e.length:Int) !=(w.length:Int)) (some (Sum.inr false)) (some (Sum.inl ()))
def JC:Option (Int):=some (e.length:Int)
def pT:Option (Int⊕Bool⊕Unit):=cond (decide (C<y)) ((idx e C).bind fun a=>(idx w C).bind fun b=>cond (a !=b) (some (Sum.inr (Sum.inl false))) (some (Sum.inl (wrap .i64 (C+1))))) (some (Sum.inr (Sum.inr ())))
def V9:Option (Bool⊕Unit):=ai (fun(a:Int)=>((pT e w y a).map (Sum.elim (fun b=>Sum.inl b) (Sum.elim (fun b=>Sum.inr (Sum.inl b)) (fun b=>Sum.inr (Sum.inr b)))))) LL 0
def Wa:=(V9 e w y).map (Sum.elim (fun a=>(Sum.inr a)) (fun a=>(Sum.inl ())))
def Wb:=(JC e).bind (fun a=>Wa e w a)
def Wc:Option (Bool):=some true
def Wd:=(Wb e w).bind (Sum.elim (fun a=>Wc) (fun b=>some ((fun a=>a) b)))
def zK:=(JB e w).bind (Sum.elim (fun a=>Wd e w) (fun b=>some ((fun a=>a) b)))
@[irreducible] def zL:=zK e w
def JD:Option (List (List Int)):=oV A
def tA:Option ((Bool×(List Int)×(List (List Int)))):=(zJ e C M O).bind fun a=>(fj a).bind fun b=>cond (!b) ((js e A).bind fun c=>some (false,(c.1),(c.2))) ((zL a e).bind fun d=>cond d ((js e A).bind fun f=>some (false,(f.1),(f.2))) ((JD A).bind fun g=>(room ((List.length g)+List.length ([e]))).bind fun h=>(inc (imax 0 (wrap .i64 ((List.length (g++([e])):Int)-8))) (List.length (g++([e])))).bind fun i=>(js a (((g++([e])).drop i).take ((List.length (g++([e])))-i))).bind fun j=>some (true,(j.1),(j.2))))
@[irreducible] def zM:=tA e A C M O
def tB:Option ((Bool×(List Int)×(List (List Int)))):=(r6 e A).bind fun a=>cond (!a) (some (false,([]:List Int),([]:List (List Int)))) ((x1 C M O).bind fun b=>cond (!b) ((js e A).bind fun c=>some (false,(c.1),(c.2))) (cond (C==5) ((zA e A).bind fun d=>some ((d.1),(d.2.1),(d.2.2))) ((zM e A C M O).bind fun f=>some ((f.1),(f.2.1),(f.2.2)))))
@[irreducible] def zN:=tB e A C M O
def tC:Option ((ByteArray×(List Int)×(List (List Int)))):=(r6 e A).bind fun a=>cond (!a) (some (empty,([]:List Int),([]:List (List Int)))) ((sd D).bind fun b=>cond (!(b.1)) ((js e A).bind fun c=>(zz e A D).bind fun d=>some (d,(c.1),(c.2))) ((zN e A (b.2.1) (b.2.2.1) (b.2.2.2)).bind fun f=>cond (!(f.1)) (some ((ByteArray.mk #[110,111,116]),(f.2.1),(f.2.2))) (some ((ByteArray.mk #[111,107]),(f.2.1),(f.2.2)))))
@[irreducible] def tD:=tC e A D
def JE:Option (Unit⊕Bool):=cond ((e.length:Int) !=(w.length:Int)) (some (Sum.inr false)) (some (Sum.inl ()))
def JF:Option (Unit):=some ()
def tE:Option (Int⊕Bool⊕Unit):=cond (decide (y<(e.length:Int))) ((idx e y).bind fun a=>(idx w y).bind fun b=>cond (a !=b) (some (Sum.inr (Sum.inl false))) (some (Sum.inl (wrap .i64 (y+1))))) (some (Sum.inr (Sum.inr ())))
def We:Option (Bool⊕Unit):=ai (fun(a:Int)=>((tE e w a).map (Sum.elim (fun b=>Sum.inl b) (Sum.elim (fun b=>Sum.inr (Sum.inl b)) (fun b=>Sum.inr (Sum.inr b)))))) LL 0
def Wf:=(We e w).map (Sum.elim (fun a=>(Sum.inr a)) (fun a=>(Sum.inl ())))
def Wg:=(JF).bind (fun a=>Wf e w)
def JG:Option (Bool):=some true
def Wh:=(Wg e w).bind (Sum.elim (fun a=>JG) (fun b=>some ((fun a=>a) b)))
def JH:=(JE e w).bind (Sum.elim (fun a=>Wh e w) (fun b=>some ((fun a=>a) b)))
@[irreducible] def zO:=JH e w
def JI:Option (Unit⊕Bool):=cond ((A.length:Int) !=(F.length:Int)) (some (Sum.inr false)) (some (Sum.inl ()))
def JJ:Option (Unit):=some ()
def tF:Option (Int⊕Bool⊕Unit):=cond (decide (M<(A.length:Int))) ((idx A M).bind fun a=>(idx F M).bind fun b=>(zO a b).bind fun c=>cond (!c) (some (Sum.inr (Sum.inl false))) (some (Sum.inl (wrap .i64 (M+1))))) (some (Sum.inr (Sum.inr ())))
def Wi:Option (Bool⊕Unit):=ai (fun(a:Int)=>((tF A F a).map (Sum.elim (fun b=>Sum.inl b) (Sum.elim (fun b=>Sum.inr (Sum.inl b)) (fun b=>Sum.inr (Sum.inr b)))))) LL 0
def Wj:=(Wi A F).map (Sum.elim (fun a=>(Sum.inr a)) (fun a=>(Sum.inl ())))
def Wk:=(JJ).bind (fun a=>Wj A F)
def JK:Option (Bool):=some true
def Wl:=(Wk A F).bind (Sum.elim (fun a=>JK) (fun b=>some ((fun a=>a) b)))
def zP:=(JI A F).bind (Sum.elim (fun a=>Wl A F) (fun b=>some ((fun a=>a) b)))
@[irreducible] def zQ:=zP A F
def zR:Option (Bool):=(zO e E).bind fun a=>cond (!a) (some false) ((zQ A F).bind fun b=>cond (!b) (some false) (some true))
@[irreducible] def pU:=zR e A E F
def JL:Option (Unit):=some ()
def JM:Option (Unit):=some ()
def zS:Option ((Int×Int×(List Int))⊕(Int×(List Int))):=cond (decide (p<(w.length:Int))) ((ap p (List.length w)).bind fun a=>some (Sum.inl ((wrap .i64 (b+1)),(wrap .i64 (p+1)),(w.set a b)))) (some (Sum.inr (b,w)))
def Wm:Option ((Int×(List Int))):=ai (fun(a:Int×Int×(List Int))=>((zS a.1 a.2.1 a.2.2).map (Sum.elim (fun c=>Sum.inl (c.1,c.2.1,c.2.2)) (fun c=>Sum.inr c)))) LL (b,0,e)
def Wn:=(Wm b e).map (fun a=>(a.1,a.2))
def Wo:=(JM).bind (fun a=>Wn b e)
def JN:Option ((Int×(List Int))):=some (b,e)
def Wp:=(Wo b e).bind (fun a=>JN a.1 a.2)
def JO:=(JL).bind (fun a=>Wp b e)
@[irreducible] def tG:=JO b e
def JP:Option (Unit):=some ()
def JQ:Option (Unit):=some ()
def tH:Option ((Int×Int×(List (List Int)))⊕(Int×(List (List Int)))):=cond (decide (p<(A.length:Int))) ((ap p (List.length A)).bind fun a=>((A)[a]?).bind fun c=>(tG b c).bind fun d=>some (Sum.inl ((d.1),(wrap .i64 (p+1)),((((A).set a [])).set a (d.2))))) (some (Sum.inr (b,A)))
def Wq:Option ((Int×(List (List Int)))):=ai (fun(a:Int×Int×(List (List Int)))=>((tH a.1 a.2.1 a.2.2).map (Sum.elim (fun c=>Sum.inl (c.1,c.2.1,c.2.2)) (fun c=>Sum.inr c)))) LL (b,0,A)
def Wr:=(Wq b A).map (fun a=>(a.1,a.2))
def Ws:=(JQ).bind (fun a=>Wr b A)
def JR:Option ((Int×(List (List Int)))):=some (b,A)
def Wt:=(Ws b A).bind (fun a=>JR a.1 a.2)
def zT:=(JP).bind (fun a=>Wt b A)
@[irreducible] def zU:=zT b A
def zV:Option ((Int×(List Int)×(List (List Int)))):=(tG b e).bind fun a=>(zU (a.1) A).bind fun c=>some ((c.1),(a.2),(c.2))
@[irreducible] def zW:=zV b e A
def JS:Option (Unit):=some ()
def JT:Option (Unit):=some ()
def zX:Option ((Int×Int)⊕Int⊕Int):=cond (decide (q<(e.length:Int))) ((idx e q).bind fun a=>cond (a !=p) (some (Sum.inr (Sum.inl (-1)))) (some (Sum.inl ((wrap .i64 (p+1)),(wrap .i64 (q+1)))))) (some (Sum.inr (Sum.inr p)))
def Wu:Option (Int⊕Int):=ai (fun(a:Int×Int)=>((zX e a.1 a.2).map (Sum.elim (fun b=>Sum.inl (b.1,b.2)) (Sum.elim (fun b=>Sum.inr (Sum.inl b)) (fun b=>Sum.inr (Sum.inr b)))))) LL (p,0)
def Wv:=(Wu e p).map (Sum.elim (fun a=>(Sum.inr a)) (fun a=>(Sum.inl a)))
def Ww:=(JT).bind (fun a=>Wv e p)
def JU:Option (Int):=some b
def Wx:=(Ww e p).bind (Sum.elim (fun a=>JU a) (fun b=>some ((fun a=>a) b)))
def JV:=(JS).bind (fun a=>Wx e p)
@[irreducible] def tI:=JV e p
def JW:Option (Unit):=some ()
def JX:Option (Unit):=some ()
def tJ:Option ((Int×Int)⊕Int⊕Int):=cond (decide (M<(A.length:Int))) ((idx A M).bind fun a=>(tI a C).bind fun b=>cond (decide (b<0)) (some (Sum.inr (Sum.inl (-1)))) (some (Sum.inl (b,(wrap .i64 (M+1)))))) (some (Sum.inr (Sum.inr C)))
def Wy:Option (Int⊕Int):=ai (fun(a:Int×Int)=>((tJ A a.1 a.2).map (Sum.elim (fun b=>Sum.inl (b.1,b.2)) (Sum.elim (fun b=>Sum.inr (Sum.inl b)) (fun b=>Sum.inr (Sum.inr b)))))) LL (C,0)
def Wz:=(Wy A C).map (Sum.elim (fun a=>(Sum.inr a)) (fun a=>(Sum.inl a)))
def WA:=(JX).bind (fun a=>Wz A C)
def JY:Option (Int):=some b
def WB:=(WA A C).bind (Sum.elim (fun a=>JY a) (fun b=>some ((fun a=>a) b)))
def zY:=(JW).bind (fun a=>WB A C)
@[irreducible] def zZ:=zY A C
def z1:Option (Int):=(tI e C).bind fun a=>cond (decide (a<0)) (some (-1)) ((zZ A a).bind fun b=>cond (decide (b<0)) (some (-1)) (some b))
@[irreducible] def z6:=z1 e A C
def l1:Option (Int⊕Int):=cond (decide ((wrap .i64 (p-(c.length:Int)))<0)) (some (Sum.inr (-1))) (some (Sum.inl (wrap .i64 (p-(c.length:Int)))))
def l2:Option (Unit):=some ()
def g6:Option ((Int×Int)⊕Int⊕Int):=cond (decide (q<(c.length:Int))) ((idx c q).bind fun a=>cond (decide ((wrap .i64 (p-(((ByteArray.size a:Nat):Int))))<0)) (some (Sum.inr (Sum.inl (-1)))) (some (Sum.inl ((wrap .i64 (p-(((ByteArray.size a:Nat):Int)))),(wrap .i64 (q+1)))))) (some (Sum.inr (Sum.inr p)))
def o9:Option (Int⊕Int):=ai (fun(a:Int×Int)=>((g6 c a.1 a.2).map (Sum.elim (fun b=>Sum.inl (b.1,b.2)) (Sum.elim (fun b=>Sum.inr (Sum.inl b)) (fun b=>Sum.inr (Sum.inr b)))))) LL (p,0)
def p0:=(o9 c p).map (Sum.elim (fun a=>(Sum.inr a)) (fun a=>(Sum.inl a)))
def p1:=(l2).bind (fun a=>p0 c p)
def l3:Option (Int):=some b
def p2:=(p1 c p).bind (Sum.elim (fun a=>l3 a) (fun b=>some ((fun a=>a) b)))
def j0:=(l1 c p).bind (Sum.elim (fun a=>p2 c a) (fun b=>some ((fun a=>a) b)))
@[irreducible] def j1:=j0 c p
def l4:Option (((List ByteArray))):=(mk (c.length:Int) (c.length:Int)).bind fun a=>some (replicate a empty)
def l5:Option (Unit):=some ()
def g7:Option ((Int×(List ByteArray))⊕((List ByteArray))):=cond (decide (p<(c.length:Int))) ((idx c p).bind fun a=>(ap p (List.length B)).bind fun b=>some (Sum.inl ((wrap .i64 (p+1)),(B.set b a)))) (some (Sum.inr B))
def rs:Option (((List ByteArray))):=ai (fun(a:Int×(List ByteArray))=>((g7 c a.1 a.2).map (Sum.elim (fun b=>Sum.inl (b.1,b.2)) (fun b=>Sum.inr b)))) LL (0,d)
def sm:=(rs c d).map (fun a=>a)
def ti:=(l5).bind (fun a=>sm c d)
def l6:Option (((List ByteArray))):=some c
def vs:=(ti c d).bind (fun a=>l6 a)
def j2:=(l4 c).bind (fun a=>vs c a)
@[irreducible] def f4:=j2 c
def l7:Option (((List Int)×(List (List Int)))⊕((List ByteArray)×(List Int)×(List (List Int)))):=(ro e A).bind fun a=>cond (!a) (some (Sum.inr (([]:List ByteArray),([]:List Int),([]:List (List Int))))) (cond (decide ((B.length:Int)>40)) (some (Sum.inr (([]:List ByteArray),([]:List Int),([]:List (List Int))))) ((rq e A).bind fun b=>some (Sum.inl ((b.1),(b.2)))))
def l8:Option (Unit):=some ()
def g8:Option ((Int×(List ByteArray)×(List Int)×(List (List Int)))⊕((List ByteArray)×(List Int)×(List (List Int)))):=cond (decide (p<(c.length:Int))) ((idx c p).bind fun a=>(xO E F a).bind fun b=>(room ((List.length B)+List.length ([(b.1)]))).bind fun d=>some (Sum.inl ((wrap .i64 (p+1)),(B++([(b.1)])),(b.2.1),(b.2.2)))) (some (Sum.inr (B,E,F)))
def vx:Option (((List ByteArray)×(List Int)×(List (List Int)))):=ai (fun(a:Int×(List ByteArray)×(List Int)×(List (List Int)))=>((g8 c a.1 a.2.1 a.2.2.1 a.2.2.2).map (Sum.elim (fun b=>Sum.inl (b.1,b.2.1,b.2.2.1,b.2.2.2)) (fun b=>Sum.inr b)))) LL (0,([]:List ByteArray),e,A)
def vy:=(vx c e A).map (fun a=>(a.1,a.2.1,a.2.2))
def wf:=(l8).bind (fun a=>vy c e A)
def l9:Option (((List ByteArray)×(List Int)×(List (List Int)))):=some (c,e,A)
def wp:=(wf c e A).bind (fun a=>l9 a.1 a.2.1 a.2.2)
def j3:=(l7 e A B).bind (Sum.elim (fun a=>wp B a.1 a.2) (fun b=>some ((fun a=>a) b)))
@[irreducible] def j4:=j3 e A B
def m0:Option (((List ByteArray)×(List Int)×(List (List Int)))⊕((List ByteArray)×(List Int)×(List (List Int)))):=(r6 e A).bind fun a=>cond (!a) (some (Sum.inr (([]:List ByteArray),([]:List Int),([]:List (List Int))))) (cond (decide ((B.length:Int)>40)) (some (Sum.inr (([]:List ByteArray),([]:List Int),([]:List (List Int))))) ((js e A).bind fun b=>(mk (B.length:Int) (B.length:Int)).bind fun c=>some (Sum.inl ((replicate c empty),(b.1),(b.2)))))
def m1:Option (Int):=some (c.length:Int)
def g9:Option ((Int×(List ByteArray)×(List Int)×(List (List Int)))⊕((List ByteArray)×(List Int)×(List (List Int)))):=cond (decide (q<p)) ((idx c q).bind fun a=>(tD E F a).bind fun b=>(ap q (List.length B)).bind fun d=>some (Sum.inl ((wrap .i64 (q+1)),(B.set d (b.1)),(b.2.1),(b.2.2)))) (some (Sum.inr (B,E,F)))
def w1:Option (((List ByteArray)×(List Int)×(List (List Int)))):=ai (fun(a:Int×(List ByteArray)×(List Int)×(List (List Int)))=>((g9 c p a.1 a.2.1 a.2.2.1 a.2.2.2).map (Sum.elim (fun b=>Sum.inl (b.1,b.2.1,b.2.2.1,b.2.2.2)) (fun b=>Sum.inr b)))) LL (0,B,E,F)
def ys:=(w1 c p B E F).map (fun a=>(a.1,a.2.1,a.2.2))
def B0:=(m1 c).bind (fun a=>ys c a d e A)
def m2:Option (((List ByteArray)×(List Int)×(List (List Int)))):=some (c,e,A)
def Hx:=(B0 c d e A).bind (fun a=>m2 a.1 a.2.1 a.2.2)
def j5:=(m0 e A B).bind (Sum.elim (fun a=>Hx B a.1 a.2.1 a.2.2) (fun b=>some ((fun a=>a) b)))
@[irreducible] def hm:=j5 e A B
def m3:Option (Unit⊕Bool):=cond ((c.length:Int) !=(d.length:Int)) (some (Sum.inr false)) (some (Sum.inl ()))
def m4:Option (Unit):=some ()
def hp:Option (Int⊕Bool⊕Unit):=cond (decide (p<(c.length:Int))) ((idx c p).bind fun a=>(idx d p).bind fun b=>cond (!(aE a b)) (some (Sum.inr (Sum.inl false))) (some (Sum.inl (wrap .i64 (p+1))))) (some (Sum.inr (Sum.inr ())))
def Kf:Option (Bool⊕Unit):=ai (fun(a:Int)=>((hp c d a).map (Sum.elim (fun b=>Sum.inl b) (Sum.elim (fun b=>Sum.inr (Sum.inl b)) (fun b=>Sum.inr (Sum.inr b)))))) LL 0
def Lz:=(Kf c d).map (Sum.elim (fun a=>(Sum.inr a)) (fun a=>(Sum.inl ())))
def Pa:=(m4).bind (fun a=>Lz c d)
def m5:Option (Bool):=some true
def RK:=(Pa c d).bind (Sum.elim (fun a=>m5) (fun b=>some ((fun a=>a) b)))
def j6:=(m3 c d).bind (Sum.elim (fun a=>RK c d) (fun b=>some ((fun a=>a) b)))
@[irreducible] def f5:=j6 c d
def m6:Option (Unit⊕ByteArray):=cond (decide (b<=0)) (some (Sum.inr (ByteArray.mk #[109,48]))) (some (Sum.inl ()))
def j7:Option ((Int×ByteArray)⊕ByteArray):=cond (decide (b>0)) ((rem b 10).bind fun a=>(cat (bytesOf ([(wrap .u8 (wrap .i64 (48+a)))])) i).bind fun c=>(quo .i64 b 10).bind fun d=>some (Sum.inl (d,c))) (some (Sum.inr i))
def add:=ai (fun(a:Int×ByteArray)=>((j7 a.1 a.2).map (Sum.elim (fun c=>Sum.inl (c.1,c.2)) (fun c=>Sum.inr c)))) LL (b,empty)
def apj:=(add b).map (fun a=>a)
def m7:Option (ByteArray):=(cat (ByteArray.mk #[109]) a).bind fun b=>some b
def apk:=(apj b).bind (fun a=>m7 a)
def j8:=(m6 b).bind (Sum.elim (fun a=>apk b) (fun c=>some ((fun a=>a) c)))
@[irreducible] def f7:=j8 b
def m8:Option (Unit):=some ()
def m9:Option (Unit):=some ()
def f9:Option ((Int×Int×(List ByteArray))⊕(Int×(List ByteArray))):=cond (decide (p<(B.length:Int))) ((f7 b).bind fun a=>(ap p (List.length B)).bind fun c=>some (Sum.inl ((wrap .i64 (b+1)),(wrap .i64 (p+1)),(B.set c a)))) (some (Sum.inr (b,B)))
def apl:Option ((Int×(List ByteArray))):=ai (fun(a:Int×Int×(List ByteArray))=>((f9 a.1 a.2.1 a.2.2).map (Sum.elim (fun d=>Sum.inl (d.1,d.2.1,d.2.2)) (fun d=>Sum.inr d)))) LL (b,0,c)
def apm:=(apl b c).map (fun a=>(a.1,a.2))
def apn:=(m9).bind (fun a=>apm b c)
def n0:Option ((Int×(List ByteArray))):=some (b,c)
def apo:=(apn b c).bind (fun a=>n0 a.1 a.2)
def j9:=(m8).bind (fun a=>apo b c)
@[irreducible] def hr:=j9 b c
def n1:Option (Unit):=some ()
def n2:Option (Unit):=some ()
def h0:Option ((Int×Int)⊕Int⊕Int):=cond (decide (q<(c.length:Int))) ((idx c q).bind fun a=>(f7 p).bind fun b=>cond (!(aE a b)) (some (Sum.inr (Sum.inl (-1)))) (some (Sum.inl ((wrap .i64 (p+1)),(wrap .i64 (q+1)))))) (some (Sum.inr (Sum.inr p)))
def app:Option (Int⊕Int):=ai (fun(a:Int×Int)=>((h0 c a.1 a.2).map (Sum.elim (fun b=>Sum.inl (b.1,b.2)) (Sum.elim (fun b=>Sum.inr (Sum.inl b)) (fun b=>Sum.inr (Sum.inr b)))))) LL (p,0)
def apq:=(app c p).map (Sum.elim (fun a=>(Sum.inr a)) (fun a=>(Sum.inl a)))
def apr:=(n2).bind (fun a=>apq c p)
def n3:Option (Int):=some b
def aps:=(apr c p).bind (Sum.elim (fun a=>n3 a) (fun b=>some ((fun a=>a) b)))
def k0:=(n1).bind (fun a=>aps c p)
@[irreducible] def h4:=k0 c p
def n4:Option ((Int×(List ByteArray)×(List ByteArray)×(List ByteArray)×(List Int)×(List (List Int))×(List Int)×(List (List Int))×(List Int)×(List (List Int)))⊕Bool):=(Dx e A 1048576).bind fun a=>cond (decide (a<0)) (some (Sum.inr true)) ((j1 B a).bind fun b=>cond (decide (b<0)) (some (Sum.inr true)) ((pc e A).bind fun c=>(f4 B).bind fun d=>(j4 (c.1) (c.2) d).bind fun f=>(pc e A).bind fun g=>(f4 B).bind fun h=>(hm (g.1) (g.2) h).bind fun i=>(pU (i.2.1) (i.2.2) (f.2.1) (f.2.2)).bind fun j=>cond (!j) (some (Sum.inr false)) ((f5 (i.1) (f.1)).bind fun k=>cond (!k) (some (Sum.inr false)) ((pc e A).bind fun l=>(pU (g.1) (g.2) (l.1) (l.2)).bind fun m=>cond (!m) (some (Sum.inr false)) ((f4 B).bind fun n=>(f5 h n).bind fun o=>cond (!o) (some (Sum.inr false)) ((zW 1 (g.1) (g.2)).bind fun p=>(hr (p.1) h).bind fun q=>cond (decide ((q.1)<0)) (some (Sum.inr false)) ((pU (i.2.1) (i.2.2) (f.2.1) (f.2.2)).bind fun r=>cond (!r) (some (Sum.inr false)) ((f5 (i.1) (f.1)).bind fun s=>cond (!s) (some (Sum.inr false)) ((zW 1 (i.2.1) (i.2.2)).bind fun t=>(hr (t.1) (i.1)).bind fun u=>(z6 (t.2.1) (t.2.2) 1).bind fun v=>cond (decide (v<0)) (some (Sum.inr false)) ((h4 (u.2) v).bind fun w=>cond (decide (w<0)) (some (Sum.inr false)) (cond (w !=(u.1)) (some (Sum.inr false)) ((pc e A).bind fun x=>(f4 B).bind fun y=>(hm (x.1) (x.2) y).bind fun z=>some (Sum.inl ((u.1),(f.1),(u.2),(z.1),(f.2.1),(f.2.2),(t.2.1),(t.2.2),(z.2.1),(z.2.2)))))))))))))))
def n5:Option (Bool):=(pU J K w A).bind fun a=>cond (!a) (some false) ((f5 n c).bind fun e=>cond (!e) (some false) ((z6 E F 1).bind fun f=>cond (decide (f<0)) (some false) ((h4 d f).bind fun g=>cond (decide (g<0)) (some false) (cond (g !=b) (some false) (some true)))))
def n6:=(n4 e A B).bind (Sum.elim (fun a=>n5 a.1 a.2.1 a.2.2.1 a.2.2.2.1 a.2.2.2.2.1 a.2.2.2.2.2.1 a.2.2.2.2.2.2.1 a.2.2.2.2.2.2.2.1 a.2.2.2.2.2.2.2.2.1 a.2.2.2.2.2.2.2.2.2) (fun b=>some ((fun a=>a) b)))
@[irreducible] def k1:=n6 e A B
end Go.Rv
