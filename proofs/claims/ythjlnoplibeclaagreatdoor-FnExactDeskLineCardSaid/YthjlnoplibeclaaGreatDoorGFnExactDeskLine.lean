/-
  Plain functions,written by program for functions of the checked code. Conditions: none.
-/
import Derived.Test.YthjlnoplibeclaaGreatDoorFB
open Go.IntKind (wrap)
open ByteArray (empty)
open List (replicate)
set_option linter.all false
namespace Go.Rv
variable (a : Bool)(b : List Int)(c : ByteArray)(d : List ByteArray)(e : Int)(f : Nat)(g : Bool)(h : ByteArray)(i : List (Int × Int × Int × Unit))(j k l m : ByteArray)(n o p : Int)(q : List (Int × Int × Unit))(r : List Int)(s : Bool)(t u v : Int)(w : List (List Int))(x : Int)(y : ByteArray)(z : List Int)(A : Bool)(B C : Nat)(D : List Int)(E : List (List Int))(F : ByteArray)(G : Int)(H : List Bool)(I : List Int)(J : Int)(K : List ByteArray)(L : Int)(M N O : List Int)
def rl:Option (Int):=cond (decide ((wrap .i64 (e-(b.length:Int)))<0)) (some (-1)) (some (wrap .i64 (e-(b.length:Int))))
@[irreducible] def we:=rl b e
def Dv:Option (Int⊕Int):=cond (decide ((wrap .i64 (x-(w.length:Int)))<0)) (some (Sum.inr (-1))) (some (Sum.inl (wrap .i64 (x-(w.length:Int)))))
def Dw:Option (Unit):=some ()
def wg:Option ((Int×Int)⊕Int⊕Int):=cond (decide (G<(w.length:Int))) ((idx w G).bind fun a=>(we a x).bind fun b=>cond (decide (b<0)) (some (Sum.inr (Sum.inl (-1)))) (some (Sum.inl (b,(wrap .i64 (G+1)))))) (some (Sum.inr (Sum.inr x)))
def Og:Option (Int⊕Int):=ai (fun(a:Int×Int)=>((wg w a.1 a.2).map (Sum.elim (fun b=>Sum.inl (b.1,b.2)) (Sum.elim (fun b=>Sum.inr (Sum.inl b)) (fun b=>Sum.inr (Sum.inr b)))))) LL (x,0)
def Oh:=(Og w x).map (Sum.elim (fun a=>(Sum.inr a)) (fun a=>(Sum.inl a)))
def Oi:=(Dw).bind (fun a=>Oh w x)
def Oj:Option (Int):=some e
def Ok:=(Oi w x).bind (Sum.elim (fun a=>Oj a) (fun b=>some ((fun a=>a) b)))
def wh:=(Dv w x).bind (Sum.elim (fun a=>Ok w a) (fun b=>some ((fun a=>a) b)))
@[irreducible] def wi:=wh w x
def wj:Option (Int):=(we b x).bind fun a=>cond (decide (a<0)) (some (-1)) ((wi w a).bind fun c=>cond (decide (c<0)) (some (-1)) (some c))
@[irreducible] def Dx:=wj b w x
def Dy:Option (((List Int))):=(mk (b.length:Int) (b.length:Int)).bind fun a=>some (replicate a (0:Int))
def Dz:Option (Unit):=some ()
def rm:Option ((Int×(List Int))⊕((List Int))):=cond (decide (e<(b.length:Int))) ((idx b e).bind fun a=>(ap e (List.length r)).bind fun c=>some (Sum.inl ((wrap .i64 (e+1)),(r.set c a)))) (some (Sum.inr r))
def Ol:Option (((List Int))):=ai (fun(a:Int×(List Int))=>((rm b a.1 a.2).map (Sum.elim (fun c=>Sum.inl (c.1,c.2)) (fun c=>Sum.inr c)))) LL (0,r)
def Om:=(Ol b r).map (fun a=>a)
def On:=(Dz).bind (fun a=>Om b r)
def DA:Option (((List Int))):=some b
def Oo:=(On b r).bind (fun a=>DA a)
def DB:=(Dy b).bind (fun a=>Oo b a)
@[irreducible] def wk:=DB b
def DC:Option (((List (List Int)))):=(mk (w.length:Int) (w.length:Int)).bind fun a=>some (replicate a [])
def DD:Option (Unit):=some ()
def rn:Option ((Int×(List (List Int)))⊕((List (List Int)))):=cond (decide (x<(w.length:Int))) ((idx w x).bind fun a=>(wk a).bind fun b=>(ap x (List.length E)).bind fun c=>(within c (List.length E)).bind fun d=>some (Sum.inl ((wrap .i64 (x+1)),((E).set c b)))) (some (Sum.inr E))
def Oq:Option (((List (List Int)))):=ai (fun(a:Int×(List (List Int)))=>((rn w a.1 a.2).map (Sum.elim (fun b=>Sum.inl (b.1,b.2)) (fun b=>Sum.inr b)))) LL (0,E)
def Ot:=(Oq w E).map (fun a=>a)
def Ou:=(DD).bind (fun a=>Ot w E)
def DE:Option (((List (List Int)))):=some w
def Ov:=(Ou w E).bind (fun a=>DE a)
def wl:=(DC w).bind (fun a=>Ov w a)
@[irreducible] def wm:=wl w
def wn:Option (((List Int)×(List (List Int)))):=(wk b).bind fun a=>(wm w).bind fun c=>some (a,c)
@[irreducible] def pc:=wn b w
def wo:Option (Bool):=cond (decide (e>=n)) (some (decide (e<=o))) (some false)
@[irreducible] def ga:=wo e n o
def DF:Option (Int⊕Bool):=(ga (b.length:Int) 1 8).bind fun a=>cond (!a) (some (Sum.inr false)) (some (Sum.inl (b.length:Int)))
def DG:Option (Unit):=some ()
def wq:Option (Unit⊕Int):=cond (decide (o<e)) (some (Sum.inl ())) (some (Sum.inr n))
def DH:Option ((Int×Int)⊕Bool):=(idx b o).bind fun a=>(ga a 0 e).bind fun c=>cond (!c) (some (Sum.inr false)) ((idx b o).bind fun d=>cond (d==(wrap .i64 (o+1))) (some (Sum.inr false)) ((idx b o).bind fun f=>cond (f==0) (some (Sum.inl ((wrap .i64 (n+1)),(wrap .i64 (o+1))))) (some (Sum.inl (n,(wrap .i64 (o+1)))))))
def DI:Option (Unit):=some ()
def wr:Option ((Int×Int)⊕Bool⊕Int):=cond (decide (n>0)) (cond (decide (o<e)) ((idx b (wrap .i64 (n-1))).bind fun a=>(ga a 0 e).bind fun c=>cond (!c) (some (Sum.inr (Sum.inl false))) (some (Sum.inl (a,(wrap .i64 (o+1)))))) (some (Sum.inr (Sum.inr n)))) (some (Sum.inr (Sum.inr n)))
def DJ:Option (Bool⊕Int):=ai (fun(a:Int×Int)=>((wr b e a.1 a.2).map (Sum.elim (fun c=>Sum.inl (c.1,c.2)) (Sum.elim (fun c=>Sum.inr (Sum.inl c)) (fun c=>Sum.inr (Sum.inr c)))))) LL (n,0)
def Ow:=(DJ b e n).map (Sum.elim (fun a=>(Sum.inr a)) (fun a=>(Sum.inl a)))
def Ox:=(DI).bind (fun a=>Ow b e n)
def DK:Option (Unit⊕Bool):=cond (decide (e>0)) (some (Sum.inr false)) (some (Sum.inl ()))
def Oy:=(Ox b e n).bind (Sum.elim (fun a=>DK a) (fun c=>some ((fun a=>(Sum.inr a)) c)))
def Oz:=(DH b e n o).bind (Sum.elim (fun a=>(Oy b e a.2).map (Sum.elim (fun c=>(Sum.inl a.1)) (fun c=>(Sum.inr c)))) (fun d=>some ((fun a=>(Sum.inr a)) d)))
def OA:=(Oz b e n o).map (Sum.elim (fun a=>(Sum.inl a)) (fun a=>(Sum.inr a)))
def DL:Option (Int):=some (wrap .i64 (e+1))
def OB:=(OA b e n o).bind (Sum.elim (fun a=>(DL o).map (fun c=>(Sum.inl (a,c)))) (fun d=>some ((fun a=>(Sum.inr a)) d)))
def ws:=(wq e n o).bind (Sum.elim (fun a=>(OB b e n o).map (Sum.elim (fun a=>(Sum.inl (a.1,a.2))) (fun a=>(Sum.inr (Sum.inl a))))) (fun c=>some ((fun a=>(Sum.inr (Sum.inr a))) c)))
def OC:Option (Bool⊕Int):=ai (fun(a:Int×Int)=>((ws b e a.1 a.2).map (Sum.elim (fun c=>Sum.inl (c.1,c.2)) (Sum.elim (fun c=>Sum.inr (Sum.inl c)) (fun c=>Sum.inr (Sum.inr c)))))) LL (0,0)
def OD:=(OC b e).map (Sum.elim (fun a=>(Sum.inr a)) (fun a=>(Sum.inl a)))
def OE:=(DG).bind (fun a=>OD b e)
def DM:Option (Bool):=some (e==1)
def OF:=(OE b e).bind (Sum.elim (fun a=>DM a) (fun c=>some ((fun a=>a) c)))
def DN:=(DF b).bind (Sum.elim (fun a=>OF b a) (fun c=>some ((fun a=>a) c)))
@[irreducible] def dG:=DN b
def DO:Option (Unit):=some ()
def DP:Option (Unit):=some ()
def pd:Option (Int⊕Bool⊕Unit):=cond (decide (e<(w.length:Int))) ((idx w e).bind fun a=>(dG a).bind fun b=>cond (!b) (some (Sum.inr (Sum.inl false))) (some (Sum.inl (wrap .i64 (e+1))))) (some (Sum.inr (Sum.inr ())))
def OG:Option (Bool⊕Unit):=ai (fun(a:Int)=>((pd a w).map (Sum.elim (fun b=>Sum.inl b) (Sum.elim (fun b=>Sum.inr (Sum.inl b)) (fun b=>Sum.inr (Sum.inr b)))))) LL 0
def OH:=(OG w).map (Sum.elim (fun a=>(Sum.inr a)) (fun a=>(Sum.inl ())))
def OI:=(DP).bind (fun a=>OH w)
def DQ:Option (Bool):=(dG b).bind fun a=>cond a (some (decide ((w.length:Int)<=8))) (some false)
def OJ:=(OI w).bind (Sum.elim (fun a=>DQ b w) (fun c=>some ((fun a=>a) c)))
def wt:=(DO).bind (fun a=>OJ b w)
@[irreducible] def ro:=wt b w
def DR:Option (((List Int))):=(room ((List.length ([]:List Int))+List.length b)).bind fun a=>some (([]:List Int)++b)
def DS:Option (Unit):=some ()
def rp:Option ((Int×(List (List Int)))⊕((List (List Int)))):=cond (decide (e<(w.length:Int))) ((idx w e).bind fun a=>(room (List.length a)).bind fun b=>(room (List.length E+1)).bind fun c=>some (Sum.inl ((wrap .i64 (e+1)),((E++ [[]]).set (List.length E) a)))) (some (Sum.inr E))
def OK:Option (((List (List Int)))):=ai (fun(a:Int×(List (List Int)))=>((rp a.1 w a.2).map (Sum.elim (fun b=>Sum.inl (b.1,b.2)) (fun b=>Sum.inr b)))) LL (0,([]:List (List Int)))
def OL:=(OK w).map (fun a=>a)
def OM:=(DS).bind (fun a=>OL w)
def DT:Option (((List Int)×(List (List Int)))):=some (b,w)
def ON:=(OM w).bind (fun a=>DT z a)
def wu:=(DR b).bind (fun a=>ON w a)
@[irreducible] def rq:=wu b w
def DU:Option (Unit):=some ()
def DV:Option (Unit):=some ()
def pe:Option ((Int×Int×(List ByteArray))⊕(Int×(List ByteArray))):=cond (decide (o<(((ByteArray.size c:Nat):Int)))) ((hB c o).bind fun a=>cond (a==e) ((inc o (ByteArray.size c)).bind fun b=>(inc n b).bind fun d=>(room ((List.length K)+List.length ([(c.extract d b)]))).bind fun f=>some (Sum.inl ((wrap .i64 (o+1)),(wrap .i64 (o+1)),(K++([(c.extract d b)]))))) (some (Sum.inl (n,(wrap .i64 (o+1)),K)))) (some (Sum.inr (n,K)))
def OO:Option ((Int×(List ByteArray))):=ai (fun(a:Int×Int×(List ByteArray))=>((pe c e a.1 a.2.1 a.2.2).map (Sum.elim (fun b=>Sum.inl (b.1,b.2.1,b.2.2)) (fun b=>Sum.inr b)))) LL (0,0,([]:List ByteArray))
def OP:=(OO c e).map (fun a=>(a.1,a.2))
def OQ:=(DV).bind (fun a=>OP c e)
def DW:Option (((List ByteArray))):=(inc e (ByteArray.size c)).bind fun a=>(room ((List.length K)+List.length ([(c.extract a (ByteArray.size c))]))).bind fun b=>some (K++([(c.extract a (ByteArray.size c))]))
def OR:=(OQ c e).bind (fun a=>DW c a.1 a.2)
def wv:=(DU).bind (fun a=>OR c e)
@[irreducible] def lC:=wv c e
def ww:Option (Unit⊕Int):=(ga (((ByteArray.size c:Nat):Int)) 1 6).bind fun a=>cond (!a) (some (Sum.inr (-1))) (cond (decide ((((ByteArray.size c:Nat):Int))>1)) ((hB c 0).bind fun b=>cond (b==48) (some (Sum.inr (-1))) (some (Sum.inl ()))) (some (Sum.inl ())))
def wx:Option (Unit):=some ()
def nl:Option ((Int×Int)⊕Int⊕Int):=cond (decide (n<(((ByteArray.size c:Nat):Int)))) ((hB c n).bind fun a=>cond (decide (a<48)) (some (Sum.inr (Sum.inl (-1)))) ((hB c n).bind fun b=>cond (decide (b>57)) (some (Sum.inr (Sum.inl (-1)))) ((hB c n).bind fun d=>some (Sum.inl ((wrap .i64 ((wrap .i64 (10*e))+(wrap .i64 (wrap .u8 (d-48))))),(wrap .i64 (n+1))))))) (some (Sum.inr (Sum.inr e)))
def DX:Option (Int⊕Int):=ai (fun(a:Int×Int)=>((nl c a.1 a.2).map (Sum.elim (fun b=>Sum.inl (b.1,b.2)) (Sum.elim (fun b=>Sum.inr (Sum.inl b)) (fun b=>Sum.inr (Sum.inr b)))))) LL (0,0)
def DY:=(DX c).map (Sum.elim (fun a=>(Sum.inr a)) (fun a=>(Sum.inl a)))
def DZ:=(wx).bind (fun a=>DY c)
def wy:Option (Int):=some e
def rr:=(DZ c).bind (Sum.elim (fun a=>wy a) (fun b=>some ((fun a=>a) b)))
def pf:=(ww c).bind (Sum.elim (fun a=>rr c) (fun b=>some ((fun a=>a) b)))
@[irreducible] def gJ:=pf c
def rt (R0:Int->Option ByteArray) (a:Int):Option (ByteArray):=cond (decide (a<10)) (some (bytesOf ([(wrap .u8 (wrap .i64 (48+(imax a 0))))]))) ((quo .i64 a 10).bind fun b=>(rem a 10).bind fun c=>(R0 b).bind fun d=>(cat d (bytesOf ([(wrap .u8 (wrap .i64 (48+c)))]))).bind fun e=>some e)
def D0 (R0:Int->Option ByteArray) (a:Int):Option (ByteArray):=rt R0 a
def kr:Nat->(Int->Option ByteArray)
 |0=>(fun _=>none)
 |n+1=>(fun P=>D0 (kr n) P)
def ru (n:Nat):Int->Option ByteArray:=(kr n)
@[irreducible] def cV:=ru RR e
def D1:Option (Unit):=some ()
def D2:Option (Bool):=cond (e==0) ((ga n 0 99).bind fun a=>cond a ((ga o 0 99).bind fun b=>some b) (some false)) (some false)
def D3:Option (ByteArray):=(cV e).bind fun a=>(cat (ByteArray.mk #[104,101,97,100,32]) a).bind fun b=>(cat b (ByteArray.mk #[32])).bind fun c=>(cV n).bind fun d=>(cat c d).bind fun f=>some f
def D4:Option (Bool):=cond (e==1) ((ga n 0 99).bind fun a=>cond a (some (o==0)) (some false)) (some false)
def wz:Option (Unit⊕ByteArray):=cond a ((cV n).bind fun b=>(cat (ByteArray.mk #[97,100,100,32]) b).bind fun c=>some (Sum.inr c)) (cond ((e==2)&&((n==0)&&((o==0)&&true))) (some (Sum.inr (ByteArray.mk #[100,114,111,112]))) (cond ((e==3)&&((n==0)&&((o==0)&&true))) (some (Sum.inr (ByteArray.mk #[116,117,114,110]))) (cond ((e==4)&&((n==0)&&((o==0)&&true))) (some (Sum.inr (ByteArray.mk #[102,108,97,116]))) (cond ((e==5)&&((n==0)&&((o==0)&&true))) (some (Sum.inr (ByteArray.mk #[98,97,99,107]))) (some (Sum.inl ()))))))
def OS:=(D4 e n o).bind (fun a=>wz a e n o)
def D5:Option (Unit⊕ByteArray):=cond a ((D3 n o).map (fun b=>(Sum.inr b))) (OS e n o)
def OT:=(D2 e n o).bind (fun a=>D5 a e n o)
def OU:=(OT e n o).map (Sum.elim (fun a=>(Sum.inl ())) (fun a=>(Sum.inr a)))
def OV:Option (ByteArray):=some empty
def OW:=(OU e n o).bind (Sum.elim (fun a=>OV) (fun b=>some ((fun a=>a) b)))
def wA:=(D1).bind (fun a=>OW e n o)
@[irreducible] def nm:=wA e n o
def D6:Option (((List ByteArray)×(List (Int×Int×Int×Unit)))):=(lC c 32).bind fun a=>some (a,([(2,(0,(0,()))),(3,(0,(0,()))),(4,(0,(0,()))),(5,(0,(0,())))]))
def D7:Option (Bool):=some ((d.length:Int)==3)
def D8:Option (((List (Int×Int×Int×Unit)))):=(ap 1 (List.length d)).bind fun a=>(d[a]?).bind fun b=>(ap 2 (List.length d)).bind fun c=>(d[c]?).bind fun e=>(gJ b).bind fun f=>(gJ e).bind fun g=>(room ((List.length i)+List.length ([(0,(f,(g,())))]))).bind fun h=>some (i++([(0,(f,(g,())))]))
def D9:Option (Unit):=some ()
def OX:Option (((List (Int×Int×Int×Unit)))):=cond a ((D8 d i).map (fun b=>b)) ((D9).map (fun b=>i))
def OY:=(D7 d).bind (fun a=>OX a d i)
def wB:Option (((List (Int×Int×Int×Unit)))):=cond ((d.length:Int)==2) ((ap 1 (List.length d)).bind fun a=>(d[a]?).bind fun b=>(gJ b).bind fun c=>(room ((List.length i)+List.length ([(1,(c,(0,())))]))).bind fun e=>some (i++([(1,(c,(0,())))]))) (some i)
def Ea:Option (Unit):=some ()
def rv:Option (Int⊕(Bool×Int×Int×Int)⊕Unit):=cond (decide (e<(i.length:Int))) (cond (!(aE c empty)) ((ap e (List.length i)).bind fun a=>(i[a]?).bind fun b=>(nm (b.1) ((b.2).1) (((b.2).2).1)).bind fun d=>cond (aE d c) ((ap e (List.length i)).bind fun f=>(i[f]?).bind fun g=>some (Sum.inr (Sum.inl (true,(g.1),((g.2).1),(((g.2).2).1))))) (some (Sum.inl (wrap .i64 (e+1))))) (some (Sum.inl (wrap .i64 (e+1))))) (some (Sum.inr (Sum.inr ())))
def OZ:Option ((Bool×Int×Int×Int)⊕Unit):=ai (fun(a:Int)=>((rv c a i).map (Sum.elim (fun b=>Sum.inl b) (Sum.elim (fun b=>Sum.inr (Sum.inl b)) (fun b=>Sum.inr (Sum.inr b)))))) LL 0
def O0:=(OZ c i).map (Sum.elim (fun a=>(Sum.inr a)) (fun a=>(Sum.inl ())))
def O1:=(Ea).bind (fun a=>O0 c i)
def Eb:Option ((Bool×Int×Int×Int)):=some (false,0,0,0)
def Ec:=(O1 c i).bind (Sum.elim (fun a=>Eb) (fun b=>some ((fun a=>a) b)))
def Ed:=(wB d i).bind (fun a=>Ec c a)
def O2:=(OY d i).bind (fun a=>Ed c d a)
def wC:=(D6 c).bind (fun a=>O2 c a.1 a.2)
@[irreducible] def wD:=wC c
def Ee:Option (Int):=some (b.length:Int)
def Ef:Option (Int):=some (wrap .i64 (e-1))
def nn:Option ((Int×(List Int))⊕((List Int))):=cond (decide (n>=0)) ((dG b).bind fun a=>cond a ((idx b n).bind fun c=>cond (c==0) ((room ((List.length r)+List.length ([0]))).bind fun d=>some (Sum.inl ((wrap .i64 (n-1)),(r++([0]))))) ((idx b n).bind fun f=>(room ((List.length r)+List.length ([(wrap .i64 ((wrap .i64 (e+1))-f))]))).bind fun g=>some (Sum.inl ((wrap .i64 (n-1)),(r++([(wrap .i64 ((wrap .i64 (e+1))-f))])))))) (some (Sum.inr r))) (some (Sum.inr r))
def O3:=ai (fun(a:Int×(List Int))=>((nn b e a.1 a.2).map (Sum.elim (fun c=>Sum.inl (c.1,c.2)) (fun c=>Sum.inr c)))) LL (n,([]:List Int))
def O4:=(O3 b e n).map (fun a=>a)
def O5:=(Ef e).bind (fun a=>O4 b e a)
def Eg:Option (((List Int))):=some b
def O6:=(O5 b e).bind (fun a=>Eg a)
def wE:=(Ee b).bind (fun a=>O6 b a)
@[irreducible] def pg:=wE b
def Eh:Option (Unit):=some ()
def Ei:Option (Unit):=some ()
def ph:Option (Int⊕Int⊕Unit):=cond (decide (e<(b.length:Int))) ((dG b).bind fun a=>cond a ((idx b e).bind fun c=>cond (c==0) (some (Sum.inr (Sum.inl (wrap .i64 (e+1))))) (some (Sum.inl (wrap .i64 (e+1))))) (some (Sum.inr (Sum.inr ())))) (some (Sum.inr (Sum.inr ())))
def O7:Option (Int⊕Unit):=ai (fun(a:Int)=>((ph b a).map (Sum.elim (fun c=>Sum.inl c) (Sum.elim (fun c=>Sum.inr (Sum.inl c)) (fun c=>Sum.inr (Sum.inr c)))))) LL 0
def O8:=(O7 b).map (Sum.elim (fun a=>(Sum.inr a)) (fun a=>(Sum.inl ())))
def O9:=(Ei).bind (fun a=>O8 b)
def Ej:Option (Int):=some (-1)
def Pb:=(O9 b).bind (Sum.elim (fun a=>Ej) (fun c=>some ((fun a=>a) c)))
def Ek:=(Eh).bind (fun a=>Pb b)
@[irreducible] def rx:=Ek b
def El (R0:(List Int)->Int->Option ((List Int))):Option (Unit):=some ()
def Em (R0:(List Int)->Int->Option ((List Int))):Option (Unit):=some ()
def ry (R0:(List Int)->Int->Option ((List Int))) (a:List Int) (b c:Int) (d:List Int):Option ((Int×(List Int))⊕((List Int))):=cond (decide (c<b)) ((idx a (wrap .i64 (c-1))).bind fun e=>cond (e==b) ((R0 a c).bind fun f=>(room ((List.length d)+List.length f)).bind fun g=>some (Sum.inl ((wrap .i64 (c+1)),(d++f)))) (some (Sum.inl ((wrap .i64 (c+1)),d)))) (some (Sum.inr d))
def Pc (R0:(List Int)->Int->Option ((List Int))) (a:List Int) (b:Int):Option (((List Int))):=ai (fun(c:Int×(List Int))=>((ry R0 a b c.1 c.2).map (Sum.elim (fun d=>Sum.inl (d.1,d.2)) (fun d=>Sum.inr d)))) LL (1,([]:List Int))
def Pd (R0:(List Int)->Int->Option ((List Int))) (a:List Int) (b:Int):=(Pc R0 a b).map (fun c=>c)
def Pe (R0:(List Int)->Int->Option ((List Int))) (a:List Int) (b:Int):=(Em R0).bind (fun c=>Pd R0 a b)
def En (R0:(List Int)->Int->Option ((List Int))) (a:Int) (b:List Int):Option (((List Int))):=(room ((List.length b)+List.length ([a]))).bind fun c=>some (b++([a]))
def Eo (R0:(List Int)->Int->Option ((List Int))) (a:Int):Option (Int):=some (wrap .i64 (a+1))
def rz (R0:(List Int)->Int->Option ((List Int))) (a:List Int) (b c:Int) (d:List Int):Option ((Int×(List Int))⊕((List Int))):=cond (decide (c<=(a.length:Int))) ((idx a (wrap .i64 (c-1))).bind fun e=>cond (e==b) ((R0 a c).bind fun f=>(room ((List.length d)+List.length f)).bind fun g=>some (Sum.inl ((wrap .i64 (c+1)),(d++f)))) (some (Sum.inl ((wrap .i64 (c+1)),d)))) (some (Sum.inr d))
def Pf (R0:(List Int)->Int->Option ((List Int))) (a:List Int) (b c:Int) (d:List Int):=ai (fun(e:Int×(List Int))=>((rz R0 a b e.1 e.2).map (Sum.elim (fun f=>Sum.inl (f.1,f.2)) (fun f=>Sum.inr f)))) LL (c,d)
def Pg (R0:(List Int)->Int->Option ((List Int))) (a:List Int) (b c:Int) (d:List Int):=(Pf R0 a b c d).map (fun e=>e)
def Ph (R0:(List Int)->Int->Option ((List Int))) (a:List Int) (b:Int) (c:List Int):=(Eo R0 b).bind (fun d=>Pg R0 a b d c)
def Ep (R0:(List Int)->Int->Option ((List Int))) (a:List Int):Option (((List Int))):=some a
def Pj (R0:(List Int)->Int->Option ((List Int))) (a:List Int) (b:Int) (c:List Int):=(Ph R0 a b c).bind (fun d=>Ep R0 d)
def Pk (R0:(List Int)->Int->Option ((List Int))) (a:List Int) (b:Int) (c:List Int):=(En R0 b c).bind (fun d=>Pj R0 a b d)
def Pl (R0:(List Int)->Int->Option ((List Int))) (a:List Int) (b:Int):=(Pe R0 a b).bind (fun c=>Pk R0 a b c)
def Er (R0:(List Int)->Int->Option ((List Int))) (a:List Int) (b:Int):=(El R0).bind (fun c=>Pl R0 a b)
def Es (R0:(List Int)->Int->Option ((List Int))) (a:List Int) (b:Int):Option ((List Int)):=Er R0 a b
def np:Nat->((List Int)->Int->Option ((List Int)))
 |0=>(fun _ _=>none)
 |n+1=>(fun P Q=>Es (np n) P Q)
def lD (n:Nat):(List Int)->Int->Option ((List Int)):=(np n)
@[irreducible] def rA:=lD RR b e
def wF:Option (((List Int))):=(dG b).bind fun a=>cond (!a) (some ([]:List Int)) ((rx b).bind fun c=>(rA b c).bind fun d=>some d)
@[irreducible] def rB:=wF b
def Et:Option (Unit):=some ()
def Eu:Option (Unit):=some ()
def Ev:Option (Unit⊕Unit):=cond (decide (e<(b.length:Int))) (some (Sum.inl ())) (some (Sum.inr ()))
def Ew:Option (Unit⊕Bool):=(idx b n).bind fun a=>(ga a 1 e).bind fun c=>cond (!c) (some (Sum.inr false)) (some (Sum.inl ()))
def wG:Option (Int⊕Bool⊕Unit):=cond (decide (n<e)) ((idx b n).bind fun a=>(idx b e).bind fun c=>cond (a==c) (some (Sum.inr (Sum.inl false))) (some (Sum.inl (wrap .i64 (n+1))))) (some (Sum.inr (Sum.inr ())))
def Ex:Option (Bool⊕Unit):=ai (fun(a:Int)=>((wG b e a).map (Sum.elim (fun c=>Sum.inl c) (Sum.elim (fun c=>Sum.inr (Sum.inl c)) (fun c=>Sum.inr (Sum.inr c)))))) LL 0
def Pm:=(Ex b e).map (Sum.elim (fun a=>(Sum.inr a)) (fun a=>(Sum.inl ())))
def Pn:=(Ew b e n).bind (Sum.elim (fun a=>Pm b n) (fun c=>some ((fun a=>(Sum.inr a)) c)))
def Po:=(Pn b e n).map (Sum.elim (fun a=>(Sum.inl ())) (fun a=>(Sum.inr a)))
def Ey:Option (Int):=some (wrap .i64 (e+1))
def Pp:=(Po b e n).bind (Sum.elim (fun a=>(Ey n).map (fun a=>(Sum.inl a))) (fun c=>some ((fun a=>(Sum.inr a)) c)))
def Ez:=(Ev b n).bind (Sum.elim (fun a=>(Pp b e n).map (Sum.elim (fun a=>(Sum.inl a)) (fun a=>(Sum.inr (Sum.inl a))))) (fun c=>some ((fun a=>(Sum.inr (Sum.inr a))) c)))
def Pq:Option (Bool⊕Unit):=ai (fun(a:Int)=>((Ez b e a).map (Sum.elim (fun c=>Sum.inl c) (Sum.elim (fun c=>Sum.inr (Sum.inl c)) (fun c=>Sum.inr (Sum.inr c)))))) LL 0
def Pr:=(Pq b e).map (Sum.elim (fun a=>(Sum.inr a)) (fun a=>(Sum.inl ())))
def Ps:=(Eu).bind (fun a=>Pr b e)
def EA:Option (Bool):=(ga e 1 8).bind fun a=>cond a (some ((b.length:Int)==e)) (some false)
def Pt:=(Ps b e).bind (Sum.elim (fun a=>EA b e) (fun c=>some ((fun a=>a) c)))
def EB:=(Et).bind (fun a=>Pt b e)
@[irreducible] def wH:=EB b e
def EC:Option (((List Int))⊕(Bool×(List Int))):=(dG b).bind fun a=>cond (!a) (some (Sum.inr (false,([]:List Int)))) ((wH r (b.length:Int)).bind fun c=>cond (!c) (some (Sum.inr (false,([]:List Int)))) ((mk (wrap .i64 ((b.length:Int)+1)) (wrap .i64 ((b.length:Int)+1))).bind fun d=>some (Sum.inl (replicate d (0:Int)))))
def ED:Option (Unit):=some ()
def rC:Option ((Int×(List Int))⊕((List Int))):=cond (decide (e<(b.length:Int))) ((idx b e).bind fun a=>(ap a (List.length r)).bind fun c=>some (Sum.inl ((wrap .i64 (e+1)),(r.set c (wrap .i64 (e+1)))))) (some (Sum.inr r))
def Pu:Option (((List Int))):=ai (fun(a:Int×(List Int))=>((rC b a.1 a.2).map (Sum.elim (fun c=>Sum.inl (c.1,c.2)) (fun c=>Sum.inr c)))) LL (0,r)
def Pv:=(Pu b r).map (fun a=>a)
def Pw:=(ED).bind (fun a=>Pv b r)
def EE:Option (Unit):=some ()
def EF:Option (Unit):=some ()
def wI:Option ((Int×(List Int))⊕((List Int))):=cond (decide (t<(r.length:Int))) ((idx r t).bind fun a=>(idx b (wrap .i64 (a-1))).bind fun c=>(ap c (List.length z)).bind fun d=>(z[d]?).bind fun e=>(room ((List.length D)+List.length ([e]))).bind fun f=>some (Sum.inl ((wrap .i64 (t+1)),(D++([e]))))) (some (Sum.inr D))
def Px:Option (((List Int))):=ai (fun(a:Int×(List Int))=>((wI b r a.1 z a.2).map (Sum.elim (fun c=>Sum.inl (c.1,c.2)) (fun c=>Sum.inr c)))) LL (0,([]:List Int))
def Py:=(Px b r z).map (fun a=>a)
def Pz:=(EF).bind (fun a=>Py b r z)
def EG:Option ((Bool×(List Int))):=some (true,b)
def PA:=(Pz b r z).bind (fun a=>EG a)
def PB:=(EE).bind (fun a=>PA b r z)
def PC:=(Pw r z).bind (fun a=>PB b r a)
def EH:=(EC b r).bind (Sum.elim (fun a=>PC b r a) (fun c=>some ((fun a=>a) c)))
@[irreducible] def EI:=EH b r
def wJ:Option (((List Int))):=(rB b).bind fun a=>(EI b a).bind fun c=>some (c.2)
@[irreducible] def rD:=wJ b
def rE:Option ((Nat×(List Int))):=(room ((List.length ([]:List Int))+List.length b)).bind fun a=>cond (e==0) ((ga n 1 (b.length:Int)).bind fun c=>cond c ((ap (wrap .i64 (n-1)) (List.length (([]:List Int)++b))).bind fun d=>some ((List.length ((([]:List Int)++b).set d o)),((([]:List Int)++b).set d o))) (cond ((e==1)&&((n==n)&&((o==0)&&true))) ((room ((List.length (([]:List Int)++b))+List.length ([n]))).bind fun f=>some ((List.length ((([]:List Int)++b)++([n]))),((([]:List Int)++b)++([n])))) (cond ((e==2)&&((n==0)&&((o==0)&&true))) ((inc (wrap .i64 ((List.length (([]:List Int)++b):Int)-1)) (List.length (([]:List Int)++b))).bind fun g=>some ((g-0),(([]:List Int)++b))) (cond ((e==3)&&((n==0)&&((o==0)&&true))) ((pg b).bind fun h=>some ((List.length h),h)) (cond ((e==4)&&((n==0)&&((o==0)&&true))) ((rD b).bind fun i=>some ((List.length i),i)) (some ((List.length ([]:List Int)),([]:List Int)))))))) (cond ((e==1)&&((n==n)&&((o==0)&&true))) ((room ((List.length (([]:List Int)++b))+List.length ([n]))).bind fun j=>some ((List.length ((([]:List Int)++b)++([n]))),((([]:List Int)++b)++([n])))) (cond ((e==2)&&((n==0)&&((o==0)&&true))) ((inc (wrap .i64 ((List.length (([]:List Int)++b):Int)-1)) (List.length (([]:List Int)++b))).bind fun k=>some ((k-0),(([]:List Int)++b))) (cond ((e==3)&&((n==0)&&((o==0)&&true))) ((pg b).bind fun l=>some ((List.length l),l)) (cond ((e==4)&&((n==0)&&((o==0)&&true))) ((rD b).bind fun m=>some ((List.length m),m)) (some ((List.length ([]:List Int)),([]:List Int)))))))
@[irreducible] def pi:=rE b e n o
def EJ:Option ((Nat×Bool×(List Int)×(List Int)×(List (List Int)))⊕(Bool×(List Int)×(List (List Int)))):=(ro b w).bind fun a=>cond (!a) (some (Sum.inr (false,([]:List Int),([]:List (List Int))))) ((rq b w).bind fun c=>cond ((x==5)&&((G==0)&&((J==0)&&true))) (cond (decide ((w.length:Int)>0)) ((ap (wrap .i64 ((List.length (c.2):Int)-1)) (List.length (c.2))).bind fun d=>(((c.2))[d]?).bind fun e=>(inc (wrap .i64 ((List.length (c.2):Int)-1)) (List.length (((c.2)).set d []))).bind fun f=>(sure (Nat.blt d 0||Nat.ble f d)).bind fun g=>some (Sum.inr (true,e,(((((c.2)).set d []).take f).drop 0)))) ((pi b x G J).bind fun h=>some (Sum.inl ((h.1),(((((h.1):Nat):Int))==(b.length:Int)),(h.2),(c.1),(c.2))))) ((pi b x G J).bind fun i=>some (Sum.inl ((i.1),(((((i.1):Nat):Int))==(b.length:Int)),(i.2),(c.1),(c.2)))))
def EL:Option (Unit):=some ()
def pj:Option ((Bool×Int)⊕Bool):=cond (decide (n<(((f:Nat):Int)))) (cond g ((ap n f).bind fun a=>(z[(0+a)]?).bind fun b=>(idx r n).bind fun c=>some (Sum.inl ((b==c),(wrap .i64 (n+1))))) (some (Sum.inr g))) (some (Sum.inr g))
def EM:Option (Bool):=ai (fun(a:Bool×Int)=>((pj f a.1 a.2 r z).map (Sum.elim (fun b=>Sum.inl (b.1,b.2)) (fun b=>Sum.inr b)))) LL (g,0)
def PD:=(EM f g r z).map (fun a=>a)
def PE:=(EL).bind (fun a=>PD f g r z)
def EN:Option ((Bool×(List Int)×(List (List Int)))):=cond g (some (false,z,E)) ((dG ((r.drop 0).take f)).bind fun a=>cond (!a) (some (false,z,E)) ((room (List.length E+1)).bind fun b=>cond (decide ((List.length ((E++ [[]]).set (List.length E) z):Int)>8)) ((inc 1 (List.length ((E++ [[]]).set (List.length E) z))).bind fun c=>(room ((List.length ([]:List Int))+List.length ((r.drop 0).take f))).bind fun d=>some (true,(([]:List Int)++((r.drop 0).take f)),((((E++ [[]]).set (List.length E) z).take (List.length ((E++ [[]]).set (List.length E) z))).drop c))) ((room ((List.length ([]:List Int))+List.length ((r.drop 0).take f))).bind fun e=>some (true,(([]:List Int)++((r.drop 0).take f)),((E++ [[]]).set (List.length E) z)))))
def EP:=(PE f g r z).bind (fun a=>EN f a z D E)
def wK:=(EJ b w x G J).bind (Sum.elim (fun a=>EP a.1 a.2.1 b a.2.2.1 a.2.2.2.1 a.2.2.2.2) (fun c=>some ((fun a=>a) c)))
@[irreducible] def wL:=wK b w x G J
def EQ:Option (Unit):=some ()
def ER:Option (Unit):=some ()
def rF:Option ((ByteArray×Int)⊕ByteArray):=cond (decide (e<(b.length:Int))) (cond (decide (e>0)) ((cat c (ByteArray.mk #[44])).bind fun a=>(idx b e).bind fun d=>(cV d).bind fun f=>(cat a f).bind fun g=>some (Sum.inl (g,(wrap .i64 (e+1))))) ((idx b e).bind fun h=>(cV h).bind fun i=>(cat c i).bind fun j=>some (Sum.inl (j,(wrap .i64 (e+1)))))) (some (Sum.inr c))
def PF:Option (ByteArray):=ai (fun(a:ByteArray×Int)=>((rF b a.1 a.2).map (Sum.elim (fun c=>Sum.inl (c.1,c.2)) (fun c=>Sum.inr c)))) LL (empty,0)
def PG:=(PF b).map (fun a=>a)
def PH:=(ER).bind (fun a=>PG b)
def ES:Option (ByteArray):=cond ((b.length:Int)==0) (some (ByteArray.mk #[110,111,110,101])) (some c)
def PI:=(PH b).bind (fun a=>ES b a)
def wM:=(EQ).bind (fun a=>PI b)
@[irreducible] def lE:=wM b
def ET:Option (Unit):=some ()
def EU:Option (Unit):=some ()
def wN:Option (Unit⊕((List Int))):=cond (decide (e<(b.length:Int))) ((dG b).bind fun a=>cond a (some (Sum.inl ())) (some (Sum.inr r))) (some (Sum.inr r))
def EV:Option (Unit):=some ()
def EW:Option (Int):=some (wrap .i64 (e+1))
def wO:Option ((Int×Int)⊕Int):=(idx b (wrap .i64 (n-1))).bind fun a=>cond (decide (a>0)) ((idx b (wrap .i64 (n-1))).bind fun c=>some (Sum.inl ((wrap .i64 (e+1)),c))) (some (Sum.inr e))
def EX:Option (Int):=ai (fun(a:Int×Int)=>((wO b a.1 a.2).map (Sum.elim (fun c=>Sum.inl (c.1,c.2)) (fun c=>Sum.inr c)))) LL (0,e)
def PJ:=(EX b e).map (fun a=>a)
def PK:=(EW e).bind (fun a=>PJ b a)
def EY:Option (((List Int))):=(room ((List.length r)+List.length ([e]))).bind fun a=>some (r++([e]))
def PL:=(PK b e).bind (fun a=>EY a r)
def PM:=(EV).bind (fun a=>PL b e r)
def PN:=(PM b e r).map (fun a=>a)
def EZ:Option (Int):=some (wrap .i64 (e+1))
def PO:=(PN b e r).bind (fun a=>(EZ e).map (fun c=>(c,a)))
def rG:=(wN b e r).bind (Sum.elim (fun a=>(PO b e r).map (fun a=>(Sum.inl (a.1,a.2)))) (fun c=>some ((fun a=>(Sum.inr a)) c)))
def PP:Option (((List Int))):=ai (fun(a:Int×(List Int))=>((rG b a.1 a.2).map (Sum.elim (fun c=>Sum.inl (c.1,c.2)) (fun c=>Sum.inr c)))) LL (0,([]:List Int))
def PQ:=(PP b).map (fun a=>a)
def PR:=(EU).bind (fun a=>PQ b)
def E0:Option (((List Int))):=some b
def PS:=(PR b).bind (fun a=>E0 a)
def E1:=(ET).bind (fun a=>PS b)
@[irreducible] def E2:=E1 b
def E3:Option (Unit):=some ()
def E4:Option (Unit):=some ()
def rH:Option ((Int×(List (List Int)))⊕((List (List Int)))):=cond (decide (e<(b.length:Int))) ((idx b e).bind fun a=>cond (decide (a>0)) ((idx b e).bind fun c=>(idx b e).bind fun d=>(room ((List.length w)+List.length ([([(bV (wrap .i64 (e+1)) c),(imax (wrap .i64 (e+1)) d)])]))).bind fun f=>some (Sum.inl ((wrap .i64 (e+1)),(w++([([(bV (wrap .i64 (e+1)) c),(imax (wrap .i64 (e+1)) d)])]))))) (some (Sum.inl ((wrap .i64 (e+1)),w)))) (some (Sum.inr w))
def PT:Option (((List (List Int)))):=ai (fun(a:Int×(List (List Int)))=>((rH b a.1 a.2).map (Sum.elim (fun c=>Sum.inl (c.1,c.2)) (fun c=>Sum.inr c)))) LL (0,([]:List (List Int)))
def PU:=(PT b).map (fun a=>a)
def PV:=(E4).bind (fun a=>PU b)
def E5:Option (((List (List Int)))):=some w
def PW:=(PV b).bind (fun a=>E5 a)
def wP:=(E3).bind (fun a=>PW b)
@[irreducible] def wQ:=wP b
def E6:Option ((Int×Int×Int×Int)⊕Bool):=cond (decide (e<1)) (some (Sum.inr false)) (cond (decide (n<1)) (some (Sum.inr false)) (cond (decide (o<1)) (some (Sum.inr false)) (cond (decide (p<1)) (some (Sum.inr false)) (cond (e==n) (some (Sum.inr false)) (cond (o==p) (some (Sum.inr false)) (some (Sum.inl ((bV e n),(imax e n),(bV o p),(imax o p)))))))))
def E7:Option (Bool):=cond (decide (e<o)) (cond (decide (o<n)) (cond (decide (n<p)) (some true) (cond (decide (o<e)) (cond (decide (e<p)) (some (decide (p<n))) (some false)) (some false))) (cond (decide (o<e)) (cond (decide (e<p)) (some (decide (p<n))) (some false)) (some false))) (cond (decide (o<e)) (cond (decide (e<p)) (some (decide (p<n))) (some false)) (some false))
def E8:=(E6 e n o p).bind (Sum.elim (fun a=>E7 a.1 a.2.1 a.2.2.1 a.2.2.2) (fun b=>some ((fun a=>a) b)))
@[irreducible] def E9:=E8 e n o p
def Fa:Option (((List (List Int)))⊕Int):=(dG b).bind fun a=>cond (!a) (some (Sum.inr (-1))) ((wQ b).bind fun c=>some (Sum.inl c))
def Fb:Option (Unit):=some ()
def wR:Option (Unit⊕Int):=cond (decide (n<(w.length:Int))) (some (Sum.inl ())) (some (Sum.inr e))
def Fc:Option (Unit):=some ()
def rI:Option ((Int×Int)⊕Int):=cond (decide (o<n)) ((ap o (List.length w)).bind fun a=>(w[a]?).bind fun b=>(idx b 0).bind fun c=>(ap o (List.length w)).bind fun d=>(w[d]?).bind fun f=>(idx f 1).bind fun g=>(ap n (List.length w)).bind fun h=>(w[h]?).bind fun i=>(idx i 0).bind fun j=>(ap n (List.length w)).bind fun k=>(w[k]?).bind fun l=>(idx l 1).bind fun m=>(E9 c g j m).bind fun p=>cond p (some (Sum.inl ((wrap .i64 (e+1)),(wrap .i64 (o+1))))) (some (Sum.inl (e,(wrap .i64 (o+1)))))) (some (Sum.inr e))
def PX:Option (Int):=ai (fun(a:Int×Int)=>((rI a.1 n a.2 w).map (Sum.elim (fun b=>Sum.inl (b.1,b.2)) (fun b=>Sum.inr b)))) LL (e,0)
def PY:=(PX e n w).map (fun a=>a)
def Fe:=(Fc).bind (fun a=>PY e n w)
def PZ:=(Fe e n w).map (fun a=>a)
def Ff:Option (Int):=some (wrap .i64 (e+1))
def P0:=(PZ e n w).bind (fun a=>(Ff n).map (fun b=>(a,b)))
def wS:=(wR e n w).bind (Sum.elim (fun a=>(P0 e n w).map (fun a=>(Sum.inl (a.1,a.2)))) (fun b=>some ((fun a=>(Sum.inr a)) b)))
def P1:Option (Int):=ai (fun(a:Int×Int)=>((wS a.1 a.2 w).map (Sum.elim (fun b=>Sum.inl (b.1,b.2)) (fun b=>Sum.inr b)))) LL (0,0)
def P2:=(P1 w).map (fun a=>a)
def P3:=(Fb).bind (fun a=>P2 w)
def Fg:Option (Int):=some e
def P4:=(P3 w).bind (fun a=>Fg a)
def wT:=(Fa b).bind (Sum.elim (fun a=>P4 a) (fun c=>some ((fun a=>a) c)))
@[irreducible] def wU:=wT b
def Fh (R0:(List Int)->Int->Option Int) (a:Int):Option (Int):=(shl .i64 1 (wrap .i64 (a-1))).bind fun b=>some b
def Fi (R0:(List Int)->Int->Option Int):Option (Unit):=some ()
def rJ (R0:(List Int)->Int->Option Int) (a:List Int) (b c d:Int):Option ((Int×Int)⊕Int):=cond (decide (d<(a.length:Int))) ((idx a d).bind fun e=>cond (e==b) ((R0 a (wrap .i64 (d+1))).bind fun f=>some (Sum.inl ((je .i64 c f),(wrap .i64 (d+1))))) (some (Sum.inl (c,(wrap .i64 (d+1)))))) (some (Sum.inr c))
def P5 (R0:(List Int)->Int->Option Int) (a:List Int) (b c:Int):Option (Int):=ai (fun(d:Int×Int)=>((rJ R0 a b d.1 d.2).map (Sum.elim (fun e=>Sum.inl (e.1,e.2)) (fun e=>Sum.inr e)))) LL (c,0)
def P6 (R0:(List Int)->Int->Option Int) (a:List Int) (b c:Int):=(P5 R0 a b c).map (fun d=>d)
def P7 (R0:(List Int)->Int->Option Int) (a:List Int) (b c:Int):=(Fi R0).bind (fun d=>P6 R0 a b c)
def Fj (R0:(List Int)->Int->Option Int) (a:Int):Option (Int):=some a
def P8 (R0:(List Int)->Int->Option Int) (a:List Int) (b c:Int):=(P7 R0 a b c).bind (fun d=>Fj R0 d)
def Fk (R0:(List Int)->Int->Option Int) (a:List Int) (b:Int):=(Fh R0 b).bind (fun c=>P8 R0 a b c)
def P9 (R0:(List Int)->Int->Option Int) (a:List Int) (b:Int):Option (Int):=Fk R0 a b
def lF:Nat->((List Int)->Int->Option Int)
 |0=>(fun _ _=>none)
 |n+1=>(fun P Q=>P9 (lF n) P Q)
def pk (n:Nat):(List Int)->Int->Option Int:=(lF n)
@[irreducible] def hL:=pk RR b e
def Qa:Option (Unit):=some ()
def Qb:Option ((Int×Int)⊕Int):=cond (decide (e>0)) ((rem e 4).bind fun a=>cond (a==1) ((quo .i64 e 2).bind fun b=>some (Sum.inl (b,(wrap .i64 (n+1))))) ((quo .i64 e 2).bind fun c=>some (Sum.inl (c,n)))) (some (Sum.inr n))
def aeG:Option (Int):=ai (fun(a:Int×Int)=>((Qb a.1 a.2).map (Sum.elim (fun b=>Sum.inl (b.1,b.2)) (fun b=>Sum.inr b)))) LL (e,0)
def aeH:=(aeG e).map (fun a=>a)
def Qc:Option (Int):=some e
def aeI:=(aeH e).bind (fun a=>Qc a)
def Qd:=(Qa).bind (fun a=>aeI e)
@[irreducible] def Fl:=Qd e
def rK:Option (Int):=(dG b).bind fun a=>cond (!a) (some (-1)) ((ga e 1 (b.length:Int)).bind fun c=>cond (!c) (some (-1)) ((hL b e).bind fun d=>(Fl d).bind fun f=>some (wrap .i64 (f-1))))
@[irreducible] def wV:=rK b e
def Fm:Option (Unit):=some ()
def Fo:Option (Unit):=some ()
def nq:Option ((Int×Int)⊕Int):=cond (decide (n<=(b.length:Int))) ((dG b).bind fun a=>cond a ((wV b n).bind fun c=>some (Sum.inl ((imax e c),(wrap .i64 (n+1))))) (some (Sum.inr e))) (some (Sum.inr e))
def Qe:Option (Int):=ai (fun(a:Int×Int)=>((nq b a.1 a.2).map (Sum.elim (fun c=>Sum.inl (c.1,c.2)) (fun c=>Sum.inr c)))) LL ((-1),1)
def Qf:=(Qe b).map (fun a=>a)
def Qg:=(Fo).bind (fun a=>Qf b)
def Qh:Option (Int):=some e
def Qi:=(Qg b).bind (fun a=>Qh a)
def wW:=(Fm).bind (fun a=>Qi b)
@[irreducible] def wX:=wW b
def Fp:Option (Unit⊕Int):=(wH b (b.length:Int)).bind fun a=>cond (!a) (some (Sum.inr (-1))) (some (Sum.inl ()))
def Fq:Option (Unit):=some ()
def wY:Option (Unit⊕Int):=cond (decide (n<(b.length:Int))) (some (Sum.inl ())) (some (Sum.inr e))
def Fr:Option (Unit):=some ()
def rL:Option ((Int×Int)⊕Int):=cond (decide (o<n)) ((idx b o).bind fun a=>(idx b n).bind fun c=>cond (decide (a>c)) (some (Sum.inl ((wrap .i64 (e+1)),(wrap .i64 (o+1))))) (some (Sum.inl (e,(wrap .i64 (o+1)))))) (some (Sum.inr e))
def Fs:Option (Int):=ai (fun(a:Int×Int)=>((rL b a.1 n a.2).map (Sum.elim (fun c=>Sum.inl (c.1,c.2)) (fun c=>Sum.inr c)))) LL (e,0)
def Qj:=(Fs b e n).map (fun a=>a)
def Qk:=(Fr).bind (fun a=>Qj b e n)
def Ql:=(Qk b e n).map (fun a=>a)
def Ft:Option (Int):=some (wrap .i64 (e+1))
def Qm:=(Ql b e n).bind (fun a=>(Ft n).map (fun c=>(a,c)))
def wZ:=(wY b e n).bind (Sum.elim (fun a=>(Qm b e n).map (fun a=>(Sum.inl (a.1,a.2)))) (fun c=>some ((fun a=>(Sum.inr a)) c)))
def Qn:Option (Int):=ai (fun(a:Int×Int)=>((wZ b a.1 a.2).map (Sum.elim (fun c=>Sum.inl (c.1,c.2)) (fun c=>Sum.inr c)))) LL (0,0)
def Qo:=(Qn b).map (fun a=>a)
def Qp:=(Fq).bind (fun a=>Qo b)
def Fu:Option (Int):=some e
def Qq:=(Qp b).bind (fun a=>Fu a)
def w2:=(Fp b).bind (Sum.elim (fun a=>Qq b) (fun c=>some ((fun a=>a) c)))
@[irreducible] def w3:=w2 b
def w4:Option (Int):=(dG b).bind fun a=>cond (!a) (some (-1)) ((rB b).bind fun c=>(w3 c).bind fun d=>some d)
@[irreducible] def Fv:=w4 b
def Fw:Option (Unit⊕Int):=(dG b).bind fun a=>cond (!a) (some (Sum.inr (-1))) (some (Sum.inl ()))
def Fx:Option (Unit):=some ()
def rM:Option ((Int×Int)⊕Int):=cond (decide (n<(b.length:Int))) ((idx b n).bind fun a=>cond (decide (a>0)) ((idx b n).bind fun c=>(idx b n).bind fun d=>some (Sum.inl ((wrap .i64 ((wrap .i64 (e+(imax c (wrap .i64 (n+1)))))-(bV d (wrap .i64 (n+1))))),(wrap .i64 (n+1))))) (some (Sum.inl (e,(wrap .i64 (n+1)))))) (some (Sum.inr e))
def Qr:Option (Int):=ai (fun(a:Int×Int)=>((rM b a.1 a.2).map (Sum.elim (fun c=>Sum.inl (c.1,c.2)) (fun c=>Sum.inr c)))) LL (0,0)
def Qs:=(Qr b).map (fun a=>a)
def Qt:=(Fx).bind (fun a=>Qs b)
def Qu:Option (Int):=some e
def Qv:=(Qt b).bind (fun a=>Qu a)
def w5:=(Fw b).bind (Sum.elim (fun a=>Qv b) (fun c=>some ((fun a=>a) c)))
@[irreducible] def w6:=w5 b
def Qw:Option (Unit):=some ()
def Qx:Option (Unit):=some ()
def Qy:Option ((Int×(List Int))⊕((List Int))):=(shr .i64 e n).bind fun a=>cond (decide (a>0)) ((shr .i64 e n).bind fun b=>(rem b 2).bind fun c=>cond (c==1) ((room ((List.length r)+List.length ([(wrap .i64 (n+1))]))).bind fun d=>some (Sum.inl ((wrap .i64 (n+1)),(r++([(wrap .i64 (n+1))]))))) (some (Sum.inl ((wrap .i64 (n+1)),r)))) (some (Sum.inr r))
def aeJ:Option (((List Int))):=ai (fun(a:Int×(List Int))=>((Qy e a.1 a.2).map (Sum.elim (fun b=>Sum.inl (b.1,b.2)) (fun b=>Sum.inr b)))) LL (0,([]:List Int))
def aeK:=(aeJ e).map (fun a=>a)
def aeL:=(Qx).bind (fun a=>aeK e)
def Qz:Option (((List Int))):=some b
def aeM:=(aeL e).bind (fun a=>Qz a)
def QA:=(Qw).bind (fun a=>aeM e)
@[irreducible] def w7:=QA e
def Fy:Option (Unit):=some ()
def Fz:Option (Unit):=some ()
def w8:Option (Unit⊕((List Int))):=cond (decide (e<(b.length:Int))) (some (Sum.inl ())) (some (Sum.inr r))
def FA:Option (Int⊕Unit):=(idx b n).bind fun a=>cond (a !=e) (some (Sum.inr ())) ((hL b (wrap .i64 (n+1))).bind fun c=>(w7 c).bind fun d=>some (Sum.inl (d.length:Int)))
def rN:Option (Int⊕Int):=cond (decide (n<(r.length:Int))) ((ap n (List.length r)).bind fun a=>(r[a]?).bind fun b=>cond (decide (b<e)) (some (Sum.inl (wrap .i64 (n+1)))) (some (Sum.inr n))) (some (Sum.inr n))
def FB:Option (Int):=ai (fun(a:Int)=>((rN e a r).map (Sum.elim (fun b=>Sum.inl b) (fun b=>Sum.inr b)))) LL 0
def QB:=(FB e r).map (fun a=>a)
def FC:Option (((List Int))):=(inc n (List.length r)).bind fun a=>(room ((List.length ([]:List Int))+List.length ((r.drop 0).take (a-0)))).bind fun b=>(room ((List.length (([]:List Int)++((r.drop 0).take (a-0))))+List.length ([e]))).bind fun c=>(inc n (List.length r)).bind fun d=>(room ((List.length ((([]:List Int)++((r.drop 0).take (a-0)))++([e])))+List.length ((r.drop d).take ((List.length r)-d)))).bind fun f=>some (((([]:List Int)++((r.drop 0).take (a-0)))++([e]))++((r.drop d).take ((List.length r)-d)))
def FD:=(QB e r).bind (fun a=>FC e a r)
def QC:=(FA b e n).bind (Sum.elim (fun a=>(FD a r).map (fun c=>(Sum.inl c))) (fun d=>some ((fun a=>(Sum.inr a)) d)))
def QD:=(QC b e n r).map (Sum.elim (fun a=>a) (fun a=>r))
def FE:Option (Int):=some (wrap .i64 (e+1))
def QE:=(QD b e n r).bind (fun a=>(FE n).map (fun c=>(c,a)))
def w9:=(w8 b n r).bind (Sum.elim (fun a=>(QE b e n r).map (fun a=>(Sum.inl (a.1,a.2)))) (fun c=>some ((fun a=>(Sum.inr a)) c)))
def QF:Option (((List Int))):=ai (fun(a:Int×(List Int))=>((w9 b e a.1 a.2).map (Sum.elim (fun c=>Sum.inl (c.1,c.2)) (fun c=>Sum.inr c)))) LL (0,([]:List Int))
def QG:=(QF b e).map (fun a=>a)
def QH:=(Fz).bind (fun a=>QG b e)
def FF:Option (((List Int))):=some b
def QI:=(QH b e).bind (fun a=>FF a)
def xa:=(Fy).bind (fun a=>QI b e)
@[irreducible] def xb:=xa b e
def FG:Option (Unit):=some ()
def FH:Option (Unit):=some ()
def xc:Option (Unit⊕Int):=(shl .i64 1 (b.length:Int)).bind fun a=>cond (decide (n<a)) (some (Sum.inl ())) (some (Sum.inr e))
def FI:Option (Unit):=some ()
def FJ:Option (Unit):=some ()
def xd:Option (Unit⊕Int):=cond (decide (n<2)) (some (Sum.inl ())) (some (Sum.inr e))
def FK:Option (Int):=some (wrap .i64 ((b.length:Int)-1))
def rO:Option ((Int×Int×Int)⊕Int):=cond (decide (u>=0)) ((shr .i64 n u).bind fun a=>(rem a 2).bind fun c=>cond (c==p) ((idx b u).bind fun d=>cond (p==1) (cond (!g) ((idx b u).bind fun e=>some (Sum.inl ((wrap .i64 ((wrap .i64 (o+(wrap .i64 (t*d))))+e)),(wrap .i64 (t+1)),(wrap .i64 (u-1))))) (some (Sum.inl ((wrap .i64 (o+(wrap .i64 (t*d)))),(wrap .i64 (t+1)),(wrap .i64 (u-1)))))) (some (Sum.inl ((wrap .i64 (o+(wrap .i64 (t*d)))),(wrap .i64 (t+1)),(wrap .i64 (u-1)))))) (some (Sum.inl (o,t,(wrap .i64 (u-1)))))) (some (Sum.inr o))
def FL:Option (Int):=ai (fun(a:Int×Int×Int)=>((rO b g n a.1 p a.2.1 a.2.2).map (Sum.elim (fun c=>Sum.inl (c.1,c.2.1,c.2.2)) (fun c=>Sum.inr c)))) LL (o,0,t)
def QJ:=(FL b g n o p t).map (fun a=>a)
def QK:=(FK b).bind (fun a=>QJ b g n o p a)
def QL:=(QK b g n o p).map (fun a=>a)
def FM:Option (Int):=some (wrap .i64 (e+1))
def QM:=(QL b g n o p).bind (fun a=>(FM p).map (fun c=>(a,c)))
def xe:=(xd o p).bind (Sum.elim (fun a=>(QM b g n o p).map (fun a=>(Sum.inl (a.1,a.2)))) (fun c=>some ((fun a=>(Sum.inr a)) c)))
def FN:Option (Int):=ai (fun(a:Int×Int)=>((xe b g n a.1 a.2).map (Sum.elim (fun c=>Sum.inl (c.1,c.2)) (fun c=>Sum.inr c)))) LL (0,0)
def QN:=(FN b g n).map (fun a=>a)
def QO:=(FJ).bind (fun a=>QN b g n)
def FO:Option (Int):=cond (decide (e<0)) (some n) (cond (decide (n<e)) (some n) (some e))
def QP:=(QO b g o).bind (fun a=>FO n a)
def QQ:=(FI).bind (fun a=>QP b g n o)
def QR:=(QQ b g n o).map (fun a=>a)
def FP:Option (Int):=some (wrap .i64 (e+1))
def QS:=(QR b g n o).bind (fun a=>(FP o).map (fun c=>(a,c)))
def xf:=(xc b n o).bind (Sum.elim (fun a=>(QS b g n o).map (fun a=>(Sum.inl (a.1,a.2)))) (fun c=>some ((fun a=>(Sum.inr a)) c)))
def QT:Option (Int):=ai (fun(a:Int×Int)=>((xf b g a.1 a.2).map (Sum.elim (fun c=>Sum.inl (c.1,c.2)) (fun c=>Sum.inr c)))) LL ((-1),0)
def QU:=(QT b g).map (fun a=>a)
def QV:=(FH).bind (fun a=>QU b g)
def FQ:Option (Int):=some e
def QW:=(QV b g).bind (fun a=>FQ a)
def xg:=(FG).bind (fun a=>QW b g)
@[irreducible] def xh:=xg b g
def FR:Option (Int⊕Int):=(dG b).bind fun a=>cond (!a) (some (Sum.inr (-1))) (some (Sum.inl (wrap .i64 ((b.length:Int)-1))))
def FT:Option (Unit):=some ()
def rP:Option ((Int×Int)⊕Int):=cond (decide (n<=(b.length:Int))) ((idx b (wrap .i64 (n-1))).bind fun a=>(xb b n).bind fun c=>(xh c (a==0)).bind fun d=>some (Sum.inl ((wrap .i64 (e+d)),(wrap .i64 (n+1))))) (some (Sum.inr e))
def QX:Option (Int):=ai (fun(a:Int×Int)=>((rP b a.1 a.2).map (Sum.elim (fun c=>Sum.inl (c.1,c.2)) (fun c=>Sum.inr c)))) LL (e,1)
def QY:=(QX b e).map (fun a=>a)
def QZ:=(FT).bind (fun a=>QY b e)
def Q0:Option (Int):=some e
def Q1:=(QZ b e).bind (fun a=>Q0 a)
def xi:=(FR b).bind (Sum.elim (fun a=>Q1 b a) (fun c=>some ((fun a=>a) c)))
@[irreducible] def xj:=xi b
def FU:Option (Unit):=some ()
def FV:Option (Unit):=some ()
def rQ:Option (Unit⊕((List Int))):=cond (decide (e<(b.length:Int))) ((dG b).bind fun a=>cond a (some (Sum.inl ())) (some (Sum.inr r))) (some (Sum.inr r))
def FW:Option (Int):=(idx b e).bind fun a=>cond (decide (a>0)) (some 1) (some 0)
def FX:Option (Unit):=some ()
def rR:Option ((Int×Int)⊕Int):=cond (decide (o<(b.length:Int))) ((idx b o).bind fun a=>cond (a==(wrap .i64 (e+1))) (some (Sum.inl ((wrap .i64 (n+1)),(wrap .i64 (o+1))))) (some (Sum.inl (n,(wrap .i64 (o+1)))))) (some (Sum.inr n))
def xk:Option (Int):=ai (fun(a:Int×Int)=>((rR b e a.1 a.2).map (Sum.elim (fun c=>Sum.inl (c.1,c.2)) (fun c=>Sum.inr c)))) LL (n,0)
def Q2:=(xk b e n).map (fun a=>a)
def Q3:=(FX).bind (fun a=>Q2 b e n)
def xl:Option (((List Int))):=(room ((List.length r)+List.length ([e]))).bind fun a=>some (r++([e]))
def Q4:=(Q3 b e n).bind (fun a=>xl a r)
def Q5:=(FW b e).bind (fun a=>Q4 b e a r)
def Q6:=(Q5 b e r).map (fun a=>a)
def FY:Option (Int):=some (wrap .i64 (e+1))
def Q7:=(Q6 b e r).bind (fun a=>(FY e).map (fun c=>(c,a)))
def pm:=(rQ b e r).bind (Sum.elim (fun a=>(Q7 b e r).map (fun a=>(Sum.inl (a.1,a.2)))) (fun c=>some ((fun a=>(Sum.inr a)) c)))
def Q8:Option (((List Int))):=ai (fun(a:Int×(List Int))=>((pm b a.1 a.2).map (Sum.elim (fun c=>Sum.inl (c.1,c.2)) (fun c=>Sum.inr c)))) LL (0,([]:List Int))
def Q9:=(Q8 b).map (fun a=>a)
def Ra:=(FV).bind (fun a=>Q9 b)
def FZ:Option (((List Int))):=some b
def Rb:=(Ra b).bind (fun a=>FZ a)
def xm:=(FU).bind (fun a=>Rb b)
@[irreducible] def xn:=xm b
def F0:Option ((Int×(List Int))⊕Int):=(dG b).bind fun a=>cond (!a) (some (Sum.inr (-1))) ((quo .i64 (wrap .i64 ((wrap .i64 ((b.length:Int)-1))*(wrap .i64 ((b.length:Int)-2)))) 2).bind fun c=>(xn b).bind fun d=>some (Sum.inl (c,d)))
def F1:Option (Unit):=some ()
def rS:Option ((Int×Int)⊕Int):=cond (decide (n<(r.length:Int))) ((ap n (List.length r)).bind fun a=>(r[a]?).bind fun b=>(ap n (List.length r)).bind fun c=>(r[c]?).bind fun d=>(quo .i64 (wrap .i64 (b*(wrap .i64 (d-1)))) 2).bind fun f=>some (Sum.inl ((wrap .i64 (e-f)),(wrap .i64 (n+1))))) (some (Sum.inr e))
def Rc:Option (Int):=ai (fun(a:Int×Int)=>((rS a.1 a.2 r).map (Sum.elim (fun b=>Sum.inl (b.1,b.2)) (fun b=>Sum.inr b)))) LL (e,0)
def Rd:=(Rc e r).map (fun a=>a)
def Re:=(F1).bind (fun a=>Rd e r)
def F2:Option (Int):=some e
def Rf:=(Re e r).bind (fun a=>F2 a)
def xo:=(F0 b).bind (Sum.elim (fun a=>Rf a.1 a.2) (fun c=>some ((fun a=>a) c)))
@[irreducible] def xp:=xo b
def Rg:Option (Unit):=some ()
def Rh:Option (Int⊕Int):=(rem e 2).bind fun a=>cond (a==0) ((quo .i64 e 2).bind fun b=>some (Sum.inl b)) (some (Sum.inr e))
def aeN:=ai (fun(a:Int)=>((Rh a).map (Sum.elim (fun b=>Sum.inl b) (fun b=>Sum.inr b)))) LL e
def aeO:=(aeN e).map (fun a=>a)
def Ri:Option (Bool):=some ((dM .i64 e (wrap .i64 (e+1)))==0)
def aeP:=(aeO e).bind (fun a=>Ri a)
def Rj:=(Rg).bind (fun a=>aeP e)
@[irreducible] def F3:=Rj e
def F4:Option (Unit):=some ()
def F5:Option (Unit):=some ()
def lG:Option (Int⊕Bool⊕Unit):=cond (decide (e<=(b.length:Int))) ((dG b).bind fun a=>cond a ((hL b e).bind fun c=>(F3 c).bind fun d=>cond (!d) (some (Sum.inr (Sum.inl false))) (some (Sum.inl (wrap .i64 (e+1))))) (some (Sum.inr (Sum.inr ())))) (some (Sum.inr (Sum.inr ())))
def Rk:Option (Bool⊕Unit):=ai (fun(a:Int)=>((lG b a).map (Sum.elim (fun c=>Sum.inl c) (Sum.elim (fun c=>Sum.inr (Sum.inl c)) (fun c=>Sum.inr (Sum.inr c)))))) LL 1
def Rl:=(Rk b).map (Sum.elim (fun a=>(Sum.inr a)) (fun a=>(Sum.inl ())))
def Rm:=(F5).bind (fun a=>Rl b)
def F6:Option (Bool):=(dG b).bind fun a=>some a
def Rn:=(Rm b).bind (Sum.elim (fun a=>F6 b) (fun c=>some ((fun a=>a) c)))
def xq:=(F4).bind (fun a=>Rn b)
@[irreducible] def nr:=xq b
def rT:Option (ByteArray):=cond a (some (ByteArray.mk #[121,101,115])) (some (ByteArray.mk #[110,111]))
@[irreducible] def xr:=rT a
def F7:Option (Unit):=some ()
def F8:Option (Unit):=some ()
def xt:Option ((Int×Int×Int)⊕Int):=cond (decide (t<8)) ((shr .i64 e t).bind fun a=>(rem a 2).bind fun b=>(shr .i64 n t).bind fun c=>(rem c 2).bind fun d=>cond (decide ((wrap .i64 (b+(wrap .i64 (2*d))))>0)) (cond ((wrap .i64 (b+(wrap .i64 (2*d)))) !=o) (some (Sum.inl ((wrap .i64 (b+(wrap .i64 (2*d)))),(wrap .i64 (p+1)),(wrap .i64 (t+1))))) (some (Sum.inl (o,p,(wrap .i64 (t+1)))))) (some (Sum.inl (o,p,(wrap .i64 (t+1)))))) (some (Sum.inr p))
def Ro:Option (Int):=ai (fun(a:Int×Int×Int)=>((xt e n a.1 a.2.1 a.2.2).map (Sum.elim (fun b=>Sum.inl (b.1,b.2.1,b.2.2)) (fun b=>Sum.inr b)))) LL (0,0,0)
def Rp:=(Ro e n).map (fun a=>a)
def Rq:=(F8).bind (fun a=>Rp e n)
def F9:Option (Bool):=some (decide (e>=4))
def Rr:=(Rq e n).bind (fun a=>F9 a)
def xu:=(F7).bind (fun a=>Rr e n)
@[irreducible] def xv:=xu e n
def rU:Option (Bool):=(dG b).bind fun a=>cond (!a) (some false) ((ga e 1 (b.length:Int)).bind fun c=>cond (!c) (some false) ((ga n 1 (b.length:Int)).bind fun d=>cond (!d) (some false) ((hL b e).bind fun f=>(hL b n).bind fun g=>cond ((dM .i64 f g)==0) ((xv f g).bind fun h=>some h) (some false))))
@[irreducible] def xw:=rU b e n
def Ga:Option (Unit):=some ()
def Gb:Option (Unit):=some ()
def rV:Option (Unit⊕Unit):=cond (decide (e<=(b.length:Int))) (some (Sum.inl ())) (some (Sum.inr ()))
def xx:Option (Unit):=some ()
def pn:Option (Int⊕Bool⊕Unit):=cond (decide (n<e)) ((xw b e n).bind fun a=>cond a (some (Sum.inr (Sum.inl false))) (some (Sum.inl (wrap .i64 (n+1))))) (some (Sum.inr (Sum.inr ())))
def Gc:Option (Bool⊕Unit):=ai (fun(a:Int)=>((pn b e a).map (Sum.elim (fun c=>Sum.inl c) (Sum.elim (fun c=>Sum.inr (Sum.inl c)) (fun c=>Sum.inr (Sum.inr c)))))) LL 1
def Gd:=(Gc b e).map (Sum.elim (fun a=>(Sum.inr a)) (fun a=>(Sum.inl ())))
def Ge:=(xx).bind (fun a=>Gd b e)
def Gf:=(Ge b e).map (Sum.elim (fun a=>(Sum.inl ())) (fun a=>(Sum.inr a)))
def Gg:Option (Int):=some (wrap .i64 (e+1))
def Gh:=(Gf b e).bind (Sum.elim (fun a=>(Gg e).map (fun a=>(Sum.inl a))) (fun c=>some ((fun a=>(Sum.inr a)) c)))
def rW:=(rV b e).bind (Sum.elim (fun a=>(Gh b e).map (Sum.elim (fun a=>(Sum.inl a)) (fun a=>(Sum.inr (Sum.inl a))))) (fun c=>some ((fun a=>(Sum.inr (Sum.inr a))) c)))
def Rs:Option (Bool⊕Unit):=ai (fun(a:Int)=>((rW b a).map (Sum.elim (fun c=>Sum.inl c) (Sum.elim (fun c=>Sum.inr (Sum.inl c)) (fun c=>Sum.inr (Sum.inr c)))))) LL 1
def Rt:=(Rs b).map (Sum.elim (fun a=>(Sum.inr a)) (fun a=>(Sum.inl ())))
def Ru:=(Gb).bind (fun a=>Rt b)
def Gi:Option (Bool):=(dG b).bind fun a=>some a
def Rw:=(Ru b).bind (Sum.elim (fun a=>Gi b) (fun c=>some ((fun a=>a) c)))
def xy:=(Ga).bind (fun a=>Rw b)
@[irreducible] def xz:=xy b
def Gj:Option (Unit):=some ()
def Gk:Option (Unit):=some ()
def po:Option (Int⊕Bool⊕Unit):=cond (decide (J<(b.length:Int))) ((idx b J).bind fun a=>cond (a==e) ((idx H J).bind fun c=>cond (!c) (some (Sum.inr (Sum.inl false))) (some (Sum.inl (wrap .i64 (J+1))))) (some (Sum.inl (wrap .i64 (J+1))))) (some (Sum.inr (Sum.inr ())))
def Rx:Option (Bool⊕Unit):=ai (fun(a:Int)=>((po b e H a).map (Sum.elim (fun c=>Sum.inl c) (Sum.elim (fun c=>Sum.inr (Sum.inl c)) (fun c=>Sum.inr (Sum.inr c)))))) LL 0
def Ry:=(Rx b e H).map (Sum.elim (fun a=>(Sum.inr a)) (fun a=>(Sum.inl ())))
def Rz:=(Gk).bind (fun a=>Ry b e H)
def Gl:Option (Bool):=some true
def RA:=(Rz b e H).bind (Sum.elim (fun a=>Gl) (fun c=>some ((fun a=>a) c)))
def xA:=(Gj).bind (fun a=>RA b e H)
@[irreducible] def lH:=xA b e H
def xB:Option (((List Bool))⊕(ByteArray×Bool)):=(nr b).bind fun a=>cond (!a) (some (Sum.inr (empty,false))) ((mk (b.length:Int) (b.length:Int)).bind fun c=>some (Sum.inl (replicate c false)))
def rX:Option (Unit⊕ByteArray):=cond (decide (e<=(b.length:Int))) (some (Sum.inl ())) (cond (decide ((r.length:Int)>1)) (some (Sum.inl ())) (some (Sum.inr c)))
def xC:Option ((ByteArray×Int×(List Bool)×(List Int))):=cond (decide ((wrap .i64 ((I.length:Int)-1))>=1)) ((ap (wrap .i64 ((wrap .i64 ((I.length:Int)-1))-1)) (List.length I)).bind fun a=>(I[a]?).bind fun d=>(idx b (wrap .i64 (d-1))).bind fun f=>(ap (wrap .i64 ((I.length:Int)-1)) (List.length I)).bind fun g=>(I[g]?).bind fun h=>cond (f==h) ((ap (wrap .i64 ((wrap .i64 ((I.length:Int)-1))-1)) (List.length I)).bind fun i=>(I[i]?).bind fun j=>(lH b j H).bind fun k=>cond k ((cat c (ByteArray.mk #[76])).bind fun l=>(ap (wrap .i64 ((wrap .i64 ((I.length:Int)-1))-1)) (List.length I)).bind fun m=>(I[m]?).bind fun n=>(ap (wrap .i64 (n-1)) (List.length H)).bind fun o=>(inc (wrap .i64 ((wrap .i64 ((I.length:Int)-1))-1)) (List.length I)).bind fun p=>(ap (wrap .i64 ((I.length:Int)-1)) (List.length I)).bind fun q=>(I[q]?).bind fun r=>(room (List.length ((I.drop 0).take (p-0)))).bind fun s=>(room ((List.length ((I.drop 0).take (p-0)))+List.length ([r]))).bind fun t=>some (l,e,(H.set o true),(((I.drop 0).take (p-0))++([r])))) (cond (decide ((wrap .i64 ((I.length:Int)-1))>=1)) ((ap (wrap .i64 ((I.length:Int)-1)) (List.length I)).bind fun u=>(I[u]?).bind fun v=>(idx b (wrap .i64 (v-1))).bind fun w=>(ap (wrap .i64 ((wrap .i64 ((I.length:Int)-1))-1)) (List.length I)).bind fun x=>(I[x]?).bind fun y=>cond (w==y) ((ap (wrap .i64 ((I.length:Int)-1)) (List.length I)).bind fun z=>(I[z]?).bind fun A=>(lH b A H).bind fun B=>cond B ((cat c (ByteArray.mk #[82])).bind fun C=>(ap (wrap .i64 ((I.length:Int)-1)) (List.length I)).bind fun D=>(I[D]?).bind fun E=>(ap (wrap .i64 (E-1)) (List.length H)).bind fun F=>(inc (wrap .i64 ((I.length:Int)-1)) (List.length I)).bind fun G=>(room ((List.length ([]:List Int))+List.length ((I.drop 0).take (G-0)))).bind fun J=>some (C,e,(H.set F true),(([]:List Int)++((I.drop 0).take (G-0))))) ((cat c (ByteArray.mk #[83])).bind fun K=>(room ((List.length I)+List.length ([e]))).bind fun L=>some (K,(wrap .i64 (e+1)),H,(I++([e]))))) ((cat c (ByteArray.mk #[83])).bind fun M=>(room ((List.length I)+List.length ([e]))).bind fun N=>some (M,(wrap .i64 (e+1)),H,(I++([e]))))) ((cat c (ByteArray.mk #[83])).bind fun O=>(room ((List.length I)+List.length ([e]))).bind fun P=>some (O,(wrap .i64 (e+1)),H,(I++([e])))))) (cond (decide ((wrap .i64 ((I.length:Int)-1))>=1)) ((ap (wrap .i64 ((I.length:Int)-1)) (List.length I)).bind fun Q=>(I[Q]?).bind fun R=>(idx b (wrap .i64 (R-1))).bind fun S=>(ap (wrap .i64 ((wrap .i64 ((I.length:Int)-1))-1)) (List.length I)).bind fun T=>(I[T]?).bind fun W=>cond (S==W) ((ap (wrap .i64 ((I.length:Int)-1)) (List.length I)).bind fun Y=>(I[Y]?).bind fun Z=>(lH b Z H).bind fun X=>cond X ((cat c (ByteArray.mk #[82])).bind fun a0=>(ap (wrap .i64 ((I.length:Int)-1)) (List.length I)).bind fun a1=>(I[a1]?).bind fun a2=>(ap (wrap .i64 (a2-1)) (List.length H)).bind fun a3=>(inc (wrap .i64 ((I.length:Int)-1)) (List.length I)).bind fun U=>(room ((List.length ([]:List Int))+List.length ((I.drop 0).take (U-0)))).bind fun c2=>some (a0,e,(H.set a3 true),(([]:List Int)++((I.drop 0).take (U-0))))) ((cat c (ByteArray.mk #[83])).bind fun a4=>(room ((List.length I)+List.length ([e]))).bind fun c3=>some (a4,(wrap .i64 (e+1)),H,(I++([e]))))) ((cat c (ByteArray.mk #[83])).bind fun a5=>(room ((List.length I)+List.length ([e]))).bind fun c4=>some (a5,(wrap .i64 (e+1)),H,(I++([e]))))) ((cat c (ByteArray.mk #[83])).bind fun a6=>(room ((List.length I)+List.length ([e]))).bind fun c5=>some (a6,(wrap .i64 (e+1)),H,(I++([e])))))) (cond (decide ((wrap .i64 ((I.length:Int)-1))>=1)) ((ap (wrap .i64 ((I.length:Int)-1)) (List.length I)).bind fun a7=>(I[a7]?).bind fun a8=>(idx b (wrap .i64 (a8-1))).bind fun a9=>(ap (wrap .i64 ((wrap .i64 ((I.length:Int)-1))-1)) (List.length I)).bind fun b0=>(I[b0]?).bind fun b1=>cond (a9==b1) ((ap (wrap .i64 ((I.length:Int)-1)) (List.length I)).bind fun b2=>(I[b2]?).bind fun b3=>(lH b b3 H).bind fun b4=>cond b4 ((cat c (ByteArray.mk #[82])).bind fun b5=>(ap (wrap .i64 ((I.length:Int)-1)) (List.length I)).bind fun b6=>(I[b6]?).bind fun b7=>(ap (wrap .i64 (b7-1)) (List.length H)).bind fun b8=>(inc (wrap .i64 ((I.length:Int)-1)) (List.length I)).bind fun V=>(room ((List.length ([]:List Int))+List.length ((I.drop 0).take (V-0)))).bind fun c6=>some (b5,e,(H.set b8 true),(([]:List Int)++((I.drop 0).take (V-0))))) ((cat c (ByteArray.mk #[83])).bind fun b9=>(room ((List.length I)+List.length ([e]))).bind fun c7=>some (b9,(wrap .i64 (e+1)),H,(I++([e]))))) ((cat c (ByteArray.mk #[83])).bind fun c0=>(room ((List.length I)+List.length ([e]))).bind fun c8=>some (c0,(wrap .i64 (e+1)),H,(I++([e]))))) ((cat c (ByteArray.mk #[83])).bind fun c1=>(room ((List.length I)+List.length ([e]))).bind fun c9=>some (c1,(wrap .i64 (e+1)),H,(I++([e])))))
def xD:=(rX b c e I).bind (Sum.elim (fun a=>(xC b c e H I).map (fun a=>(Sum.inl (a.1,a.2.1,a.2.2.1,a.2.2.2)))) (fun d=>some ((fun a=>(Sum.inr a)) d)))
def RB:Option (ByteArray):=ai (fun(a:ByteArray×Int×(List Bool)×(List Int))=>((xD b a.1 a.2.1 a.2.2.1 a.2.2.2).map (Sum.elim (fun c=>Sum.inl (c.1,c.2.1,c.2.2.1,c.2.2.2)) (fun c=>Sum.inr c)))) LL (empty,1,H,([]:List Int))
def RC:=(RB b H).map (fun a=>a)
def Gm:Option ((ByteArray×Bool)):=some (c,true)
def RD:=(RC b H).bind (fun a=>Gm a)
def rY:=(xB b).bind (Sum.elim (fun a=>RD b a) (fun c=>some ((fun a=>a) c)))
@[irreducible] def jp:=rY b
def Gn:Option (Int⊕ByteArray):=cond (decide ((wrap .i64 ((r.length:Int)-1))<0)) (some (Sum.inr (ByteArray.mk #[83]))) ((idx r (wrap .i64 ((r.length:Int)-1))).bind fun a=>(idx b (wrap .i64 (a-1))).bind fun c=>cond (c==t) (some (Sum.inr (ByteArray.mk #[76]))) ((idx b (wrap .i64 (t-1))).bind fun d=>cond (d==a) (some (Sum.inr (ByteArray.mk #[82]))) (some (Sum.inl (wrap .i64 ((r.length:Int)-1))))))
def Gp:Option (Unit):=some ()
def pp:Option (Int⊕ByteArray⊕Unit):=cond (decide (v<u)) ((idx b (wrap .i64 (t-1))).bind fun a=>(idx r v).bind fun c=>cond (a==c) (some (Sum.inr (Sum.inl (ByteArray.mk #[68])))) ((idx r v).bind fun d=>(idx b (wrap .i64 (d-1))).bind fun e=>cond (e==t) (some (Sum.inr (Sum.inl (ByteArray.mk #[68])))) (some (Sum.inl (wrap .i64 (v+1)))))) (some (Sum.inr (Sum.inr ())))
def RE:Option (ByteArray⊕Unit):=ai (fun(a:Int)=>((pp b r t u a).map (Sum.elim (fun c=>Sum.inl c) (Sum.elim (fun c=>Sum.inr (Sum.inl c)) (fun c=>Sum.inr (Sum.inr c)))))) LL 0
def RF:=(RE b r t u).map (Sum.elim (fun a=>(Sum.inr a)) (fun a=>(Sum.inl ())))
def RG:=(Gp).bind (fun a=>RF b r t u)
def RH:Option (ByteArray):=some (ByteArray.mk #[83])
def RI:=(RG b r t u).bind (Sum.elim (fun a=>RH) (fun c=>some ((fun a=>a) c)))
def xE:=(Gn b r t).bind (Sum.elim (fun a=>RI b r t a) (fun c=>some ((fun a=>a) c)))
@[irreducible] def xF:=xE b r t
def Gq:Option (Int):=some (wrap .i64 ((b.length:Int)-1))
def Gr:Option (Bool):=cond (n==83) (some (decide (e<=(r.length:Int)))) (some false)
def Gs:Option (((List Int)×Int×Bool×(List Int))):=(room ((List.length ([]:List Int))+List.length b)).bind fun a=>(room ((List.length (([]:List Int)++b))+List.length ([e]))).bind fun c=>some (((([]:List Int)++b)++([e])),(wrap .i64 (e+1)),true,r)
def Gt:Option (Bool):=cond (n==76) (cond (decide (e<=(r.length:Int))) (cond (decide (o>=0)) ((idx b o).bind fun a=>(ap (wrap .i64 (a-1)) (List.length r)).bind fun c=>(r[c]?).bind fun d=>some (decide (d<0))) (some false)) (some false)) (some false)
def Gu:Option (Unit⊕((List Int)×Int×Bool×(List Int))):=cond s ((idx b o).bind fun a=>(ap (wrap .i64 (a-1)) (List.length z)).bind fun c=>(inc o (List.length b)).bind fun d=>(room ((List.length ([]:List Int))+List.length ((b.take d).drop 0))).bind fun f=>some (Sum.inr ((([]:List Int)++((b.take d).drop 0)),e,true,(z.set c e)))) (cond (n==82) (cond (decide (e<=(z.length:Int))) (cond (decide (o>=0)) ((idx b o).bind fun g=>(ap (wrap .i64 (e-1)) (List.length z)).bind fun h=>(room ((List.length ([]:List Int))+List.length b)).bind fun i=>(room ((List.length (([]:List Int)++b))+List.length ([e]))).bind fun j=>some (Sum.inr (((([]:List Int)++b)++([e])),(wrap .i64 (e+1)),true,(z.set h g)))) (cond (n==68) (cond (decide (o>=0)) ((idx b o).bind fun k=>(ap (wrap .i64 (k-1)) (List.length z)).bind fun l=>(z[l]?).bind fun m=>cond (decide (m>0)) ((inc o (List.length b)).bind fun p=>(room ((List.length ([]:List Int))+List.length ((b.take p).drop 0))).bind fun q=>some (Sum.inr ((([]:List Int)++((b.take p).drop 0)),e,true,z))) (some (Sum.inl ()))) (some (Sum.inl ()))) (some (Sum.inl ())))) (cond (n==68) (cond (decide (o>=0)) ((idx b o).bind fun r=>(ap (wrap .i64 (r-1)) (List.length z)).bind fun t=>(z[t]?).bind fun u=>cond (decide (u>0)) ((inc o (List.length b)).bind fun v=>(room ((List.length ([]:List Int))+List.length ((b.take v).drop 0))).bind fun w=>some (Sum.inr ((([]:List Int)++((b.take v).drop 0)),e,true,z))) (some (Sum.inl ()))) (some (Sum.inl ()))) (some (Sum.inl ())))) (cond (n==68) (cond (decide (o>=0)) ((idx b o).bind fun x=>(ap (wrap .i64 (x-1)) (List.length z)).bind fun y=>(z[y]?).bind fun A=>cond (decide (A>0)) ((inc o (List.length b)).bind fun B=>(room ((List.length ([]:List Int))+List.length ((b.take B).drop 0))).bind fun C=>some (Sum.inr ((([]:List Int)++((b.take B).drop 0)),e,true,z))) (some (Sum.inl ()))) (some (Sum.inl ()))) (some (Sum.inl ()))))
def RJ:=(Gt b e n o r).bind (fun a=>Gu b e n o a r)
def RL:Option (Unit⊕((List Int)×Int×Bool×(List Int))):=cond s ((Gs b e z).map (fun a=>(Sum.inr a))) (RJ b e n o z)
def RM:=(Gr e n r).bind (fun a=>RL b e n o a r)
def RN:=(RM b e n o r).map (Sum.elim (fun a=>(Sum.inl ())) (fun a=>(Sum.inr a)))
def Gv:Option (((List Int)×Int×Bool×(List Int))):=some (b,e,false,r)
def RO:=(RN b e n o r).bind (Sum.elim (fun a=>Gv b e r) (fun c=>some ((fun a=>a) c)))
def Gw:=(Gq b).bind (fun a=>RO b e n a r)
@[irreducible] def Gx:=Gw b e n r
def xG:Option (Unit⊕(ByteArray×Bool)):=(nr b).bind fun a=>cond (!a) (some (Sum.inr (empty,false))) (some (Sum.inl ()))
def Gy:Option (Unit):=some ()
def rZ:Option ((Int×(List Int))⊕((List Int))):=cond (decide (e<(b.length:Int))) ((room ((List.length r)+List.length ([(-1)]))).bind fun a=>some (Sum.inl ((wrap .i64 (e+1)),(r++([(-1)]))))) (some (Sum.inr r))
def RP:Option (((List Int))):=ai (fun(a:Int×(List Int))=>((rZ b a.1 a.2).map (Sum.elim (fun c=>Sum.inl (c.1,c.2)) (fun c=>Sum.inr c)))) LL (0,([]:List Int))
def RQ:=(RP b).map (fun a=>a)
def RS:=(Gy).bind (fun a=>RQ b)
def Gz:Option (Unit):=some ()
def r0:Option (((List Int)×ByteArray×Int×(List Int))⊕(ByteArray×Bool)⊕ByteArray):=cond (decide (G<=(b.length:Int))) ((xF b r G).bind fun a=>(hB a 0).bind fun c=>(Gx r G c I).bind fun d=>cond (!(d.2.2.1)) (some (Sum.inr (Sum.inl (empty,false)))) ((cat y a).bind fun e=>some (Sum.inl ((d.1),e,(d.2.1),(d.2.2.2))))) (some (Sum.inr (Sum.inr y)))
def RT:Option ((ByteArray×Bool)⊕ByteArray):=ai (fun(a:(List Int)×ByteArray×Int×(List Int))=>((r0 b a.1 a.2.1 a.2.2.1 a.2.2.2).map (Sum.elim (fun c=>Sum.inl (c.1,c.2.1,c.2.2.1,c.2.2.2)) (Sum.elim (fun c=>Sum.inr (Sum.inl c)) (fun c=>Sum.inr (Sum.inr c)))))) LL (([]:List Int),empty,1,r)
def RU:=(RT b r).map (Sum.elim (fun a=>(Sum.inr a)) (fun a=>(Sum.inl a)))
def GA:Option ((ByteArray×Bool)):=some (c,true)
def RV:=(RU b r).bind (Sum.elim (fun a=>GA a) (fun c=>some ((fun a=>a) c)))
def RW:=(Gz).bind (fun a=>RV b r)
def RX:=(RS b).bind (fun a=>RW b a)
def r1:=(xG b).bind (Sum.elim (fun a=>RX b) (fun c=>some ((fun a=>a) c)))
@[irreducible] def jq:=r1 b
def RY (R0 R1:Int->Option Int) (a:Int):Option (Unit⊕Int):=cond (a==0) (some (Sum.inr 1)) (some (Sum.inl ()))
def RZ (R0 R1:Int->Option Int):Option (Unit):=some ()
def R2 (R0 R1:Int->Option Int) (a b c:Int):Option ((Int×Int)⊕Int):=cond (decide (c<=a)) ((R1 c).bind fun d=>(R0 (wrap .i64 (a-c))).bind fun e=>some (Sum.inl ((wrap .i64 (b+(wrap .i64 (d*e)))),(wrap .i64 (c+1))))) (some (Sum.inr b))
def aeQ (R0 R1:Int->Option Int) (a:Int):Option (Int):=ai (fun(b:Int×Int)=>((R2 R0 R1 a b.1 b.2).map (Sum.elim (fun c=>Sum.inl (c.1,c.2)) (fun c=>Sum.inr c)))) LL (0,1)
def aeR (R0 R1:Int->Option Int) (a:Int):=(aeQ R0 R1 a).map (fun b=>b)
def aeS (R0 R1:Int->Option Int) (a:Int):=(RZ R0 R1).bind (fun b=>aeR R0 R1 a)
def R3 (R0 R1:Int->Option Int) (a:Int):Option (Int):=some a
def aeT (R0 R1:Int->Option Int) (a:Int):=(aeS R0 R1 a).bind (fun b=>R3 R0 R1 b)
def R4 (R0 R1:Int->Option Int) (a:Int):=(RY R0 R1 a).bind (Sum.elim (fun b=>aeT R0 R1 a) (fun c=>some ((fun b=>b) c)))
def aeU (R0 R1:Int->Option Int) (a:Int):Option (Int):=R4 R0 R1 a
def R5 (R0 R1:Int->Option Int):Option (Unit):=some ()
def R6 (R0 R1:Int->Option Int):Option (Unit):=some ()
def R7 (R0 R1:Int->Option Int) (a b c:Int):Option ((Int×Int)⊕Int):=cond (decide (c<a)) ((R0 c).bind fun d=>(R0 (wrap .i64 ((wrap .i64 (a-1))-c))).bind fun e=>some (Sum.inl ((wrap .i64 (b+(wrap .i64 (d*e)))),(wrap .i64 (c+1))))) (some (Sum.inr b))
def aeV (R0 R1:Int->Option Int) (a:Int):Option (Int):=ai (fun(b:Int×Int)=>((R7 R0 R1 a b.1 b.2).map (Sum.elim (fun c=>Sum.inl (c.1,c.2)) (fun c=>Sum.inr c)))) LL (0,0)
def aeW (R0 R1:Int->Option Int) (a:Int):=(aeV R0 R1 a).map (fun b=>b)
def aeX (R0 R1:Int->Option Int) (a:Int):=(R6 R0 R1).bind (fun b=>aeW R0 R1 a)
def R8 (R0 R1:Int->Option Int) (a:Int):Option (Int):=some a
def aeY (R0 R1:Int->Option Int) (a:Int):=(aeX R0 R1 a).bind (fun b=>R8 R0 R1 b)
def R9 (R0 R1:Int->Option Int) (a:Int):=(R5 R0 R1).bind (fun b=>aeY R0 R1 a)
def aeZ (R0 R1:Int->Option Int) (a:Int):Option (Int):=R9 R0 R1 a
def lI:Nat->(Int->Option Int)×(Int->Option Int)
 |0=>((fun _=>none),(fun _=>none))
 |n+1=>((fun P=>aeU (lI n).1 (lI n).2 P),(fun P=>aeZ (lI n).1 (lI n).2 P))
def pq (n:Nat):Int->Option Int:=(lI n).1
@[irreducible] def lJ:=pq RR e
def pr (n:Nat):Int->Option Int:=(lI n).2
@[irreducible] def xH:=pr RR e
def Sa (R0 R1:(List Int)->Int->Int->Int->Option Int):Option (Unit):=some ()
def Sb (R0 R1:(List Int)->Int->Int->Int->Option Int):Option (Unit):=some ()
def GB (R0 R1:(List Int)->Int->Int->Int->Option Int) (a b c d e:Int):Option ((Int×Int)⊕Int):=cond (decide (e<c)) ((lJ (wrap .i64 (e-a))).bind fun f=>(lJ (wrap .i64 (b-e))).bind fun g=>some (Sum.inl ((wrap .i64 (d+(wrap .i64 (f*g)))),(wrap .i64 (e+1))))) (some (Sum.inr d))
def Sc (R0 R1:(List Int)->Int->Int->Int->Option Int) (a b c:Int):Option (Int):=ai (fun(d:Int×Int)=>((GB R0 R1 a b c d.1 d.2).map (Sum.elim (fun e=>Sum.inl (e.1,e.2)) (fun e=>Sum.inr e)))) LL (0,a)
def Sd (R0 R1:(List Int)->Int->Int->Int->Option Int) (a b c:Int):=(Sc R0 R1 a b c).map (fun d=>d)
def Se (R0 R1:(List Int)->Int->Int->Int->Option Int) (a b c:Int):=(Sb R0 R1).bind (fun d=>Sd R0 R1 a b c)
def GC (R0 R1:(List Int)->Int->Int->Int->Option Int) (a:List Int) (b c d e:Int):Option (Int):=(R1 a b (wrap .i64 (d-1)) d).bind fun f=>(lJ (wrap .i64 (c-d))).bind fun g=>(R1 a (wrap .i64 (d+1)) c d).bind fun h=>some (wrap .i64 ((wrap .i64 (e+(wrap .i64 (f*g))))+h))
def Sf (R0 R1:(List Int)->Int->Int->Int->Option Int) (a:List Int) (b c d:Int):=(Se R0 R1 b c d).bind (fun e=>GC R0 R1 a b c d e)
def GD (R0 R1:(List Int)->Int->Int->Int->Option Int) (a:List Int) (b c d:Int):=(Sa R0 R1).bind (fun e=>Sf R0 R1 a b c d)
def xI (R0 R1:(List Int)->Int->Int->Int->Option Int) (a:List Int) (b c d:Int):Option (Int):=GD R0 R1 a b c d
def Sg (R0 R1:(List Int)->Int->Int->Int->Option Int) (a b:Int):Option (Unit⊕Int):=cond (decide (a>b)) (some (Sum.inr 0)) (some (Sum.inl ()))
def Sh (R0 R1:(List Int)->Int->Int->Int->Option Int) (a:List Int) (b c:Int):Option (Int⊕Int):=(idx a (wrap .i64 (c-1))).bind fun d=>cond (d !=b) (some (Sum.inl (wrap .i64 (c+1)))) (some (Sum.inr c))
def ae0 (R0 R1:(List Int)->Int->Int->Int->Option Int) (a:List Int) (b c:Int):=ai (fun(d:Int)=>((Sh R0 R1 a c d).map (Sum.elim (fun e=>Sum.inl e) (fun e=>Sum.inr e)))) LL b
def ae1 (R0 R1:(List Int)->Int->Int->Int->Option Int) (a:List Int) (b c:Int):=(ae0 R0 R1 a b c).map (fun d=>d)
def Si (R0 R1:(List Int)->Int->Int->Int->Option Int):Option (Unit):=some ()
def Sj (R0 R1:(List Int)->Int->Int->Int->Option Int) (a:List Int) (b c d:Int):Option (Int⊕Int):=cond (decide (d<b)) ((hL a c).bind fun e=>(shr .i64 e d).bind fun f=>(rem f 2).bind fun g=>cond (g==1) (some (Sum.inl (wrap .i64 (d+1)))) (some (Sum.inr d))) (some (Sum.inr d))
def ae2 (R0 R1:(List Int)->Int->Int->Int->Option Int) (a:List Int) (b c d:Int):=ai (fun(e:Int)=>((Sj R0 R1 a c d e).map (Sum.elim (fun f=>Sum.inl f) (fun f=>Sum.inr f)))) LL b
def ae3 (R0 R1:(List Int)->Int->Int->Int->Option Int) (a:List Int) (b c d:Int):=(ae2 R0 R1 a b c d).map (fun e=>e)
def Sk (R0 R1:(List Int)->Int->Int->Int->Option Int):Option (Unit):=some ()
def Sl (R0 R1:(List Int)->Int->Int->Int->Option Int):Option (Unit):=some ()
def GF (R0 R1:(List Int)->Int->Int->Int->Option Int) (a b c d e:Int):Option ((Int×Int)⊕Int):=cond (decide (e<c)) ((xH (wrap .i64 ((wrap .i64 (e-a))+1))).bind fun f=>(lJ (wrap .i64 (b-e))).bind fun g=>some (Sum.inl ((wrap .i64 (d+(wrap .i64 (f*g)))),(wrap .i64 (e+1))))) (some (Sum.inr d))
def Sm (R0 R1:(List Int)->Int->Int->Int->Option Int) (a b c:Int):Option (Int):=ai (fun(d:Int×Int)=>((GF R0 R1 a b c d.1 d.2).map (Sum.elim (fun e=>Sum.inl (e.1,e.2)) (fun e=>Sum.inr e)))) LL (0,a)
def Sn (R0 R1:(List Int)->Int->Int->Int->Option Int) (a b c:Int):=(Sm R0 R1 a b c).map (fun d=>d)
def So (R0 R1:(List Int)->Int->Int->Int->Option Int) (a b c:Int):=(Sl R0 R1).bind (fun d=>Sn R0 R1 a b c)
def GG (R0 R1:(List Int)->Int->Int->Int->Option Int) (a:List Int) (b c d e f g:Int):Option (Int):=(R0 a b f e).bind fun h=>(lJ (wrap .i64 (c-f))).bind fun i=>(R1 a (wrap .i64 (f+1)) c d).bind fun j=>some (wrap .i64 ((wrap .i64 (g+(wrap .i64 (h*i))))+j))
def Sp (R0 R1:(List Int)->Int->Int->Int->Option Int) (a:List Int) (b c d e f:Int):=(So R0 R1 b c f).bind (fun g=>GG R0 R1 a b c d e f g)
def Sq (R0 R1:(List Int)->Int->Int->Int->Option Int) (a:List Int) (b c d e f:Int):=(Sk R0 R1).bind (fun g=>Sp R0 R1 a b c d e f)
def Sr (R0 R1:(List Int)->Int->Int->Int->Option Int) (a:List Int) (b c d e:Int):=(ae3 R0 R1 a b c e).bind (fun f=>Sq R0 R1 a b c d e f)
def Ss (R0 R1:(List Int)->Int->Int->Int->Option Int) (a:List Int) (b c d e:Int):=(Si R0 R1).bind (fun f=>Sr R0 R1 a b c d e)
def Su (R0 R1:(List Int)->Int->Int->Int->Option Int) (a:List Int) (b c d:Int):=(ae1 R0 R1 a b d).bind (fun e=>Ss R0 R1 a b c d e)
def GH (R0 R1:(List Int)->Int->Int->Int->Option Int) (a:List Int) (b c d:Int):=(Sg R0 R1 b c).bind (Sum.elim (fun e=>Su R0 R1 a b c d) (fun f=>some ((fun e=>e) f)))
def xJ (R0 R1:(List Int)->Int->Int->Int->Option Int) (a:List Int) (b c d:Int):Option (Int):=GH R0 R1 a b c d
def he:Nat->((List Int)->Int->Int->Int->Option Int)×((List Int)->Int->Int->Int->Option Int)
 |0=>((fun _ _ _ _=>none),(fun _ _ _ _=>none))
 |n+1=>((fun P Q R S=>xI (he n).1 (he n).2 P Q R S),(fun P Q R S=>xJ (he n).1 (he n).2 P Q R S))
def ps (n:Nat):(List Int)->Int->Int->Int->Option Int:=(he n).1
@[irreducible] def r2:=ps RR b e n o
def pt (n:Nat):(List Int)->Int->Int->Int->Option Int:=(he n).2
@[irreducible] def Sv:=pt RR b e n o
def xK:Option (Int):=(nr b).bind fun a=>cond (!a) (some (-1)) (cond (decide ((b.length:Int)>6)) (some (-1)) ((rx b).bind fun c=>(r2 b 1 (b.length:Int) c).bind fun d=>some d))
@[irreducible] def GI:=xK b
def r3:Option (((List Int))):=(dG b).bind fun a=>cond (!a) (some ([]:List Int)) ((ga e 1 (b.length:Int)).bind fun c=>cond (!c) (some ([]:List Int)) ((hL b e).bind fun d=>(w7 d).bind fun f=>some f))
@[irreducible] def xL:=r3 b e
def GJ:Option (((List Int)×(List (List Int)))⊕(ByteArray×(List Int)×(List (List Int)))):=(ro b w).bind fun a=>cond (!a) (some (Sum.inr (empty,([]:List Int),([]:List (List Int))))) ((rq b w).bind fun c=>(wD y).bind fun d=>cond (d.1) ((wL b w (d.2.1) (d.2.2.1) (d.2.2.2)).bind fun e=>cond (!(e.1)) (some (Sum.inr ((ByteArray.mk #[110,111,116]),(e.2.1),(e.2.2)))) (some (Sum.inr ((ByteArray.mk #[111,107]),(e.2.1),(e.2.2))))) (some (Sum.inl ((c.1),(c.2)))))
def GK:Option (Unit):=some ()
def GL:Option (Bool):=some (aE c (ByteArray.mk #[104,101,97,100,115]))
def GM:Option ((ByteArray×(List Int)×(List (List Int)))):=(lE b).bind fun a=>some (a,r,w)
def GN:Option (Bool):=some (aE c (ByteArray.mk #[100,101,112,116,104,115]))
def GO:Option ((ByteArray×(List Int)×(List (List Int)))):=(E2 b).bind fun a=>(lE a).bind fun c=>some (c,r,w)
def GP:Option (Bool):=some (aE c (ByteArray.mk #[111,114,100,101,114]))
def GQ:Option ((ByteArray×(List Int)×(List (List Int)))):=(rB b).bind fun a=>(lE a).bind fun c=>some (c,r,w)
def GR:Option (Bool):=some (aE c (ByteArray.mk #[114,111,111,116]))
def GS:Option ((ByteArray×(List Int)×(List (List Int)))):=(rx b).bind fun a=>(cV a).bind fun c=>some (c,r,w)
def GU:Option (Bool):=some (aE c (ByteArray.mk #[99,114,111,115,115,105,110,103,115]))
def GV:Option ((ByteArray×(List Int)×(List (List Int)))):=(wU b).bind fun a=>(cV a).bind fun c=>some (c,r,w)
def GW:Option (Unit⊕(ByteArray×(List Int)×(List (List Int)))):=cond (aE c (ByteArray.mk #[103,97,112,115])) ((wX r).bind fun a=>(cV a).bind fun b=>some (Sum.inr (b,z,E))) (cond (aE c (ByteArray.mk #[101,120,99,104,97,110,103,101,115])) ((Fv r).bind fun d=>(cV d).bind fun e=>some (Sum.inr (e,z,E))) (cond (aE c (ByteArray.mk #[108,101,110,103,116,104])) ((w6 r).bind fun f=>(cV f).bind fun g=>some (Sum.inr (g,z,E))) (cond (aE c (ByteArray.mk #[108,101,97,115,116])) ((xj r).bind fun h=>(cV h).bind fun i=>some (Sum.inr (i,z,E))) (cond (aE c (ByteArray.mk #[97,112,97,114,116])) ((xp r).bind fun j=>(cV j).bind fun k=>some (Sum.inr (k,z,E))) (cond (aE c (ByteArray.mk #[112,114,111,106,101,99,116,105,118,101])) ((nr r).bind fun l=>(xr l).bind fun m=>some (Sum.inr (m,z,E))) (cond (aE c (ByteArray.mk #[110,101,115,116,101,100])) ((xz r).bind fun n=>(xr n).bind fun o=>some (Sum.inr (o,z,E))) (cond (aE c (ByteArray.mk #[109,111,118,101,115])) ((jp r).bind fun p=>cond (!(p.2)) (some (Sum.inr ((ByteArray.mk #[110,111,110,101]),z,E))) (some (Sum.inr ((p.1),z,E)))) (cond (aE c (ByteArray.mk #[101,97,103,101,114])) ((jq r).bind fun q=>cond (!(q.2)) (some (Sum.inr ((ByteArray.mk #[110,111,110,101]),z,E))) (some (Sum.inr ((q.1),z,E)))) (cond (aE c (ByteArray.mk #[112,108,97,99,101])) ((GI r).bind fun s=>cond (decide (s<0)) (some (Sum.inr ((ByteArray.mk #[110,111,110,101]),z,E))) ((cV s).bind fun t=>some (Sum.inr (t,z,E)))) (some (Sum.inl ())))))))))))
def Sw:Option (Unit⊕(ByteArray×(List Int)×(List (List Int)))):=cond s ((GV r z E).map (fun a=>(Sum.inr a))) (GW c r z E)
def Sx:=(GU c).bind (fun a=>Sw c r a z E)
def Sy:Option (Unit⊕(ByteArray×(List Int)×(List (List Int)))):=cond s ((GS r z E).map (fun a=>(Sum.inr a))) (Sx c r z E)
def Sz:=(GR c).bind (fun a=>Sy c r a z E)
def SA:Option (Unit⊕(ByteArray×(List Int)×(List (List Int)))):=cond s ((GQ r z E).map (fun a=>(Sum.inr a))) (Sz c r z E)
def SB:=(GP c).bind (fun a=>SA c r a z E)
def SC:Option (Unit⊕(ByteArray×(List Int)×(List (List Int)))):=cond s ((GO r z E).map (fun a=>(Sum.inr a))) (SB c r z E)
def SD:=(GN c).bind (fun a=>SC c r a z E)
def SE:Option (Unit⊕(ByteArray×(List Int)×(List (List Int)))):=cond s ((GM r z E).map (fun a=>(Sum.inr a))) (SD c r z E)
def SF:=(GL c).bind (fun a=>SE c r a z E)
def SG:=(SF c r z E).map (Sum.elim (fun a=>(Sum.inl ())) (fun a=>(Sum.inr a)))
def SH:=(GK).bind (fun a=>SG c r z E)
def xM:Option ((ByteArray×(List Int)×(List (List Int)))):=(lC c 32).bind fun a=>cond ((a.length:Int) !=2) (some ((ByteArray.mk #[119,104,97,116]),z,E)) ((ap 0 (List.length a)).bind fun b=>(a[b]?).bind fun d=>cond (!(aE d (ByteArray.mk #[121,105,101,108,100]))) (some ((ByteArray.mk #[119,104,97,116]),z,E)) ((ap 1 (List.length a)).bind fun e=>(a[e]?).bind fun f=>(gJ f).bind fun g=>cond (decide (g<0)) (some ((ByteArray.mk #[119,104,97,116]),z,E)) ((ap 1 (List.length a)).bind fun h=>(a[h]?).bind fun i=>(gJ i).bind fun j=>(xL r j).bind fun k=>(lE k).bind fun l=>some (l,z,E))))
def SI:=(SH c r z E).bind (Sum.elim (fun a=>xM c r z E) (fun b=>some ((fun a=>a) b)))
def xN:=(GJ b w y).bind (Sum.elim (fun a=>SI y b a.1 a.2) (fun c=>some ((fun a=>a) c)))
@[irreducible] def xO:=xN b w y
def GX:Option (Unit):=some ()
def GY:Option (Int):=some (b.length:Int)
def r4:Option ((Int×Int)⊕Bool⊕Int):=cond (decide (o<n)) ((idx b o).bind fun a=>cond (decide (a<0)) (some (Sum.inr (Sum.inl false))) (cond (decide (a>(b.length:Int))) (some (Sum.inr (Sum.inl false))) (cond (a==0) (some (Sum.inl ((wrap .i64 (e+1)),(wrap .i64 (o+1))))) (some (Sum.inl (e,(wrap .i64 (o+1)))))))) (some (Sum.inr (Sum.inr e)))
def SJ:Option (Bool⊕Int):=ai (fun(a:Int×Int)=>((r4 b a.1 e a.2).map (Sum.elim (fun c=>Sum.inl (c.1,c.2)) (Sum.elim (fun c=>Sum.inr (Sum.inl c)) (fun c=>Sum.inr (Sum.inr c)))))) LL (0,0)
def SK:=(SJ b e).map (Sum.elim (fun a=>(Sum.inr a)) (fun a=>(Sum.inl a)))
def SL:=(GY b).bind (fun a=>SK b a)
def GZ:Option (Bool):=some (e==1)
def SM:=(SL b).bind (Sum.elim (fun a=>GZ a) (fun c=>some ((fun a=>a) c)))
def G0:=(GX).bind (fun a=>SM b)
@[irreducible] def G1:=G0 b
def xP:Option ((Bool×Int×Int)):=(idx b (wrap .i64 (e-1))).bind fun a=>cond (a==0) (some (false,e,n)) (some (true,a,(wrap .i64 (n+1))))
@[irreducible] def xQ:=xP b e n
def G2:Option (Unit):=some ()
def xR:Option ((Int×Int)⊕(Int×Bool)⊕(Int×Int)):=(xQ b e n).bind fun a=>cond (a.1) (cond (decide ((a.2.2)>=(b.length:Int))) (some (Sum.inr (Sum.inl (0,false)))) (some (Sum.inl ((a.2.1),(a.2.2))))) (some (Sum.inr (Sum.inr ((a.2.1),(a.2.2)))))
def SN:Option ((Int×Bool)⊕(Int×Int)):=ai (fun(a:Int×Int)=>((xR b a.1 a.2).map (Sum.elim (fun c=>Sum.inl (c.1,c.2)) (Sum.elim (fun c=>Sum.inr (Sum.inl c)) (fun c=>Sum.inr (Sum.inr c)))))) LL (e,0)
def SO:=(SN b e).map (Sum.elim (fun a=>(Sum.inr a)) (fun a=>(Sum.inl (a.1,a.2))))
def G3:Option ((Int×Bool)):=some (e,true)
def SP:=(SO b e).bind (Sum.elim (fun a=>G3 a.2) (fun c=>some ((fun a=>a) c)))
def G4:=(G2).bind (fun a=>SP b e)
@[irreducible] def xS:=G4 b e
def G5:Option (Unit⊕Bool):=cond (decide ((b.length:Int)<1)) (some (Sum.inr false)) (cond (decide ((b.length:Int)>8)) (some (Sum.inr false)) ((G1 b).bind fun a=>cond (!a) (some (Sum.inr false)) (some (Sum.inl ()))))
def G6:Option (Int):=some (b.length:Int)
def r5:Option (Int⊕Bool⊕Unit):=cond (decide (n<e)) ((xS b (wrap .i64 (n+1))).bind fun a=>cond (!(a.2)) (some (Sum.inr (Sum.inl false))) (some (Sum.inl (wrap .i64 (n+1))))) (some (Sum.inr (Sum.inr ())))
def SQ:Option (Bool⊕Unit):=ai (fun(a:Int)=>((r5 b e a).map (Sum.elim (fun c=>Sum.inl c) (Sum.elim (fun c=>Sum.inr (Sum.inl c)) (fun c=>Sum.inr (Sum.inr c)))))) LL 0
def SR:=(SQ b e).map (Sum.elim (fun a=>(Sum.inr a)) (fun a=>(Sum.inl ())))
def SS:=(G6 b).bind (fun a=>SR b a)
def SU:Option (Bool):=some true
def SV:=(SS b).bind (Sum.elim (fun a=>SU) (fun c=>some ((fun a=>a) c)))
def G7:=(G5 b).bind (Sum.elim (fun a=>SV b) (fun c=>some ((fun a=>a) c)))
@[irreducible] def fj:=G7 b
def G8:Option (Unit⊕Bool):=(fj b).bind fun a=>cond (!a) (some (Sum.inr false)) (cond (decide ((w.length:Int)>8)) (some (Sum.inr false)) (some (Sum.inl ())))
def G9:Option (Int):=some (w.length:Int)
def pu:Option (Int⊕Bool⊕Unit):=cond (decide (G<x)) ((idx w G).bind fun a=>(fj a).bind fun b=>cond (!b) (some (Sum.inr (Sum.inl false))) (some (Sum.inl (wrap .i64 (G+1))))) (some (Sum.inr (Sum.inr ())))
def SW:Option (Bool⊕Unit):=ai (fun(a:Int)=>((pu w x a).map (Sum.elim (fun b=>Sum.inl b) (Sum.elim (fun b=>Sum.inr (Sum.inl b)) (fun b=>Sum.inr (Sum.inr b)))))) LL 0
def SX:=(SW w x).map (Sum.elim (fun a=>(Sum.inr a)) (fun a=>(Sum.inl ())))
def SY:=(G9 w).bind (fun a=>SX w a)
def SZ:Option (Bool):=some true
def S1:=(SY w).bind (Sum.elim (fun a=>SZ) (fun b=>some ((fun a=>a) b)))
def xT:=(G8 b w).bind (Sum.elim (fun a=>S1 w) (fun c=>some ((fun a=>a) c)))
@[irreducible] def r6:=xT b w
def S2:Option (Int):=kq c h
def xU:Option (Int):=(S2 c h).bind fun a=>some a
@[irreducible] def Ha:=xU c h
def Hb:Option ((Int×(List ByteArray))⊕(Nat×(List ByteArray))):=cond (n==0) (some (Sum.inr ((List.length ([]:List ByteArray)),([]:List ByteArray)))) (cond (aE h empty) (none) (cond (decide (n<0)) (none) ((mk (bV n (wrap .i64 ((((ByteArray.size c:Nat):Int))+1))) (bV n (wrap .i64 ((((ByteArray.size c:Nat):Int))+1)))).bind fun a=>some (Sum.inl ((wrap .i64 ((bV n (wrap .i64 ((((ByteArray.size c:Nat):Int))+1)))-1)),(replicate a empty))))))
def pw:Option ((ByteArray×Int×(List ByteArray))⊕(ByteArray×Int×(List ByteArray))):=cond (decide (p<o)) ((Ha c h).bind fun a=>cond (decide (a<0)) (some (Sum.inr (c,p,K))) ((inc (wrap .i64 (a+n)) (ByteArray.size c)).bind fun b=>(ap p (List.length K)).bind fun d=>(inc (wrap .i64 (a+(((ByteArray.size h:Nat):Int)))) (ByteArray.size c)).bind fun e=>some (Sum.inl ((c.extract e (ByteArray.size c)),(wrap .i64 (p+1)),(K.set d (c.extract 0 b)))))) (some (Sum.inr (c,p,K)))
def S3:Option ((ByteArray×Int×(List ByteArray))):=ai (fun(a:ByteArray×Int×(List ByteArray))=>((pw a.1 h n o a.2.1 a.2.2).map (Sum.elim (fun b=>Sum.inl (b.1,b.2.1,b.2.2)) (fun b=>Sum.inr b)))) LL (c,0,K)
def S4:=(S3 c h n o K).map (fun a=>(a.1,a.2.1,a.2.2))
def xV:Option ((Nat×(List ByteArray))):=(ap e (List.length K)).bind fun a=>(inc (wrap .i64 (e+1)) (List.length (K.set a c))).bind fun b=>some ((b-0),(K.set a c))
def S5:=(S4 c h n o K).bind (fun a=>xV a.1 a.2.1 a.2.2)
def xW:=(Hb c h o).bind (Sum.elim (fun a=>S5 c h n a.1 a.2) (fun b=>some ((fun a=>a) b)))
@[irreducible] def Hc:=xW c h n o
def r7:Option ((Nat×(List ByteArray))):=(Hc c h 0 n).bind fun a=>some ((a.1),(a.2))
@[irreducible] def xX:=r7 c h n
def Hd:Option (Unit):=some ()
def He:Option ((ByteArray×ByteArray×ByteArray×ByteArray×ByteArray×ByteArray)):=(same (List.length cF) 6).bind fun a=>some ((cF.getD 0 empty),(cF.getD 1 empty),(cF.getD 2 empty),(cF.getD 3 empty),(cF.getD 4 empty),(cF.getD 5 empty))
def xY:Option (Int⊕Int⊕Unit):=cond (decide (G<6)) ((idx [h,j,k,l,m,y] G).bind fun a=>cond (aE a c) (some (Sum.inr (Sum.inl G))) (some (Sum.inl (wrap .i64 (G+1))))) (some (Sum.inr (Sum.inr ())))
def S6:Option (Int⊕Unit):=ai (fun(a:Int)=>((xY c h j k l m y a).map (Sum.elim (fun b=>Sum.inl b) (Sum.elim (fun b=>Sum.inr (Sum.inl b)) (fun b=>Sum.inr (Sum.inr b)))))) LL 0
def S7:=(S6 c h j k l m y).map (Sum.elim (fun a=>(Sum.inr a)) (fun a=>(Sum.inl ())))
def S8:=(He).bind (fun a=>S7 c a.1 a.2.1 a.2.2.1 a.2.2.2.1 a.2.2.2.2.1 a.2.2.2.2.2)
def Hf:Option (Int):=some (-1)
def S9:=(S8 c).bind (Sum.elim (fun a=>Hf) (fun b=>some ((fun a=>a) b)))
def xZ:=(Hd).bind (fun a=>S9 c)
@[irreducible] def jr:=xZ c
def strconv_Atoi:Option (Int×Bool):=ra c
def r8:Option (Int):=cond (e==0) (some 2) (cond (e==1) (some 1) (some 0))
@[irreducible] def ks:=r8 e
def x0:Option (Bool):=(ks e).bind fun a=>cond (decide (a>0)) (cond (decide (a>1)) (some true) (some (o==0))) (cond (n==0) (cond (decide (a>1)) (some true) (some (o==0))) (some false))
@[irreducible] def x1:=x0 e n o
def x2:Option (Bool):=cond (decide (e>=0)) (cond (decide (e<6)) ((x1 e n o).bind fun a=>cond a (cond (decide (n>=0)) (cond (decide (n<=99)) (cond (decide (o>=0)) (some (decide (o<=99))) (some false)) (some false)) (some false)) (some false)) (some false)) (some false)
@[irreducible] def Hg:=x2 e n o
def strconv_Itoa:Option (ByteArray):=oW e
def Hh:Option (ByteArray⊕ByteArray):=(Hg e n o).bind fun a=>cond (!a) (some (Sum.inr empty)) ((same (List.length cF) 6).bind fun b=>(idx cF e).bind fun c=>some (Sum.inl c))
def r9:Option (((List Int)×Int)):=(ks e).bind fun a=>(inc a (List.length ([n,o]))).bind fun b=>some (((([n,o]).take b).drop 0),(List.length ((([n,o]).take b).drop 0):Int))
def sa:Option ((ByteArray×Int)⊕ByteArray):=cond (decide (u<t)) ((idx r u).bind fun a=>(strconv_Itoa a).bind fun b=>(cat (ByteArray.mk #[32]) b).bind fun d=>(cat c d).bind fun e=>some (Sum.inl (e,(wrap .i64 (u+1))))) (some (Sum.inr c))
def x3:Option (ByteArray):=ai (fun(a:ByteArray×Int)=>((sa a.1 r t a.2).map (Sum.elim (fun b=>Sum.inl (b.1,b.2)) (fun b=>Sum.inr b)))) LL (c,0)
def x4:=(x3 c r t).map (fun a=>a)
def x5:=(r9 e n o).bind (fun a=>x4 c a.1 a.2)
def sb:Option (ByteArray):=some c
def x6:=(x5 c e n o).bind (fun a=>sb a)
def x7:=(Hh e n o).bind (Sum.elim (fun a=>x6 a e n o) (fun b=>some ((fun a=>a) b)))
@[irreducible] def ns:=x7 e n o
def sc:Option ((Bool×Int×Int×Int)):=(xX c (ByteArray.mk #[32]) 3).bind fun a=>(ap 0 (a.1)).bind fun b=>((a.2)[(0+b)]?).bind fun d=>(jr d).bind fun e=>cond (decide (((((a.1):Nat):Int))>1)) ((ap 1 (a.1)).bind fun f=>((a.2)[(0+f)]?).bind fun g=>(strconv_Atoi g).bind fun h=>cond (decide (((((a.1):Nat):Int))>2)) ((ap 2 (a.1)).bind fun i=>((a.2)[(0+i)]?).bind fun j=>(strconv_Atoi j).bind fun k=>cond (aE c empty) (some (false,0,0,0)) ((ns e (h.1) (k.1)).bind fun l=>cond (!(aE l c)) (some (false,0,0,0)) (some (true,e,(h.1),(k.1))))) (cond (aE c empty) (some (false,0,0,0)) ((ns e (h.1) 0).bind fun m=>cond (!(aE m c)) (some (false,0,0,0)) (some (true,e,(h.1),0))))) (cond (decide (((((a.1):Nat):Int))>2)) ((ap 2 (a.1)).bind fun n=>((a.2)[(0+n)]?).bind fun o=>(strconv_Atoi o).bind fun p=>cond (aE c empty) (some (false,0,0,0)) ((ns e 0 (p.1)).bind fun q=>cond (!(aE q c)) (some (false,0,0,0)) (some (true,e,0,(p.1))))) (cond (aE c empty) (some (false,0,0,0)) ((ns e 0 0).bind fun r=>cond (!(aE r c)) (some (false,0,0,0)) (some (true,e,0,0)))))
@[irreducible] def sd:=sc c
def nt:Option (List Int):=oV b
def Hi:Option (((List Int))):=(nt b).bind fun a=>some a
def Hj:Option (Int):=some (w.length:Int)
def se (a:List (List Int)) (b c:Int) (d:List (List Int)):Option ((Int×(List (List Int)))⊕((List (List Int)))):=cond (decide (c<b)) ((idx a c).bind fun e=>(nt e).bind fun f=>(room (List.length d+1)).bind fun g=>some (Sum.inl ((wrap .i64 (c+1)),((d++ [[]]).set (List.length d) f)))) (some (Sum.inr d))
def Ta:Option (((List (List Int)))):=ai (fun(a:Int×(List (List Int)))=>((se w x a.1 a.2).map (Sum.elim (fun b=>Sum.inl (b.1,b.2)) (fun b=>Sum.inr b)))) LL (0,([]:List (List Int)))
def Tb:=(Ta w x).map (fun a=>a)
def Tc:=(Hj w).bind (fun a=>Tb w a)
def Hk:Option (((List Int)×(List (List Int)))):=some (b,w)
def Td:=(Tc w).bind (fun a=>Hk z a)
def x8:=(Hi b).bind (fun a=>Td w a)
@[irreducible] def js:=x8 b w
@[irreducible] def Hl:=some ()
def strings_Join:Option (ByteArray):=vK d h
def Hm:Option (((List ByteArray))):=(mk (b.length:Int) (b.length:Int)).bind fun a=>some (replicate a empty)
def Hn:Option (Int):=some (b.length:Int)
def sf:Option ((Int×(List ByteArray))⊕((List ByteArray))):=cond (decide (n<e)) ((idx b n).bind fun a=>(strconv_Itoa a).bind fun c=>(ap n (List.length K)).bind fun d=>some (Sum.inl ((wrap .i64 (n+1)),(K.set d c)))) (some (Sum.inr K))
def Te:Option (((List ByteArray))):=ai (fun(a:Int×(List ByteArray))=>((sf b e a.1 a.2).map (Sum.elim (fun c=>Sum.inl (c.1,c.2)) (fun c=>Sum.inr c)))) LL (0,K)
def Tf:=(Te b e K).map (fun a=>a)
def Tg:=(Hn b).bind (fun a=>Tf b a d)
def Ho:Option (ByteArray):=(strings_Join d (ByteArray.mk #[44])).bind fun a=>some a
def Th:=(Tg b d).bind (fun a=>Ho a)
def x9:=(Hm b).bind (fun a=>Th b a)
@[irreducible] def nu:=x9 b
def ya:Option (ByteArray):=(nu b).bind fun a=>some a
@[irreducible] def Hp (a:List Int) (b:List (List Int)):=ya a
def Hq:Option (((List Int))⊕((List Int))):=(fj b).bind fun a=>cond (!a) (some (Sum.inr ([]:List Int))) ((mk (b.length:Int) (b.length:Int)).bind fun c=>some (Sum.inl (replicate c (0:Int))))
def Hr:Option (Int):=some (b.length:Int)
def sg:Option ((Int×(List Int))⊕((List Int))):=cond (decide (n<e)) ((xS b (wrap .i64 (n+1))).bind fun a=>(ap n (List.length r)).bind fun c=>some (Sum.inl ((wrap .i64 (n+1)),(r.set c (a.1))))) (some (Sum.inr r))
def Ti:Option (((List Int))):=ai (fun(a:Int×(List Int))=>((sg b e a.1 a.2).map (Sum.elim (fun c=>Sum.inl (c.1,c.2)) (fun c=>Sum.inr c)))) LL (0,r)
def Tj:=(Ti b e r).map (fun a=>a)
def Tk:=(Hr b).bind (fun a=>Tj b a r)
def Hs:Option (((List Int))):=some b
def Tl:=(Tk b r).bind (fun a=>Hs a)
def Ht:=(Hq b).bind (Sum.elim (fun a=>Tl b a) (fun c=>some ((fun a=>a) c)))
@[irreducible] def Hu:=Ht b
def sh:Option (ByteArray):=(Hu b).bind fun a=>(nu a).bind fun c=>some c
@[irreducible] def yb (a:List Int) (b:List (List Int)):=sh a
def Hv:Option (Unit⊕Int):=(fj b).bind fun a=>cond (!a) (some (Sum.inr (-1))) (some (Sum.inl ()))
def yc:Option ((Int×Int)⊕(Int×Int)):=(xQ b e n).bind fun a=>cond (a.1) (some (Sum.inl ((a.2.1),(a.2.2)))) (some (Sum.inr ((a.2.1),(a.2.2))))
def Tm:Option ((Int×Int)):=ai (fun(a:Int×Int)=>((yc b a.1 a.2).map (Sum.elim (fun c=>Sum.inl (c.1,c.2)) (fun c=>Sum.inr c)))) LL (1,0)
def Tn:=(Tm b).map (fun a=>(a.1,a.2))
def Hw:Option (Int):=some e
def To:=(Tn b).bind (fun a=>Hw a.1)
def Hy:=(Hv b).bind (Sum.elim (fun a=>To b) (fun c=>some ((fun a=>a) c)))
@[irreducible] def px:=Hy b
def Hz:Option (Int):=(shl .u64 1 (wrap .i64 (e-1))).bind fun a=>some a
@[irreducible] def ku:=Hz e
def HA:Option (Unit):=some ()
def HB:Option (Int):=some (b.length:Int)
def si:Option ((Int×Int)⊕Int):=cond (decide (p<o)) ((idx b p).bind fun a=>cond (a==e) ((ku (wrap .i64 (p+1))).bind fun c=>some (Sum.inl ((je .u64 n c),(wrap .i64 (p+1))))) (some (Sum.inl (n,(wrap .i64 (p+1)))))) (some (Sum.inr n))
def Tp:Option (Int):=ai (fun(a:Int×Int)=>((si b e a.1 n a.2).map (Sum.elim (fun c=>Sum.inl (c.1,c.2)) (fun c=>Sum.inr c)))) LL (0,0)
def Tq:=(Tp b e n).map (fun a=>a)
def Tr:=(HB b).bind (fun a=>Tq b e a)
def Ts:Option (Int):=some e
def Tt:=(Tr b e).bind (fun a=>Ts a)
def yd:=(HA).bind (fun a=>Tt b e)
@[irreducible] def lK:=yd b e
def HC:Option (Int):=(ku e).bind fun a=>some (wrap .u64 (a-1))
@[irreducible] def ye:=HC e
def sj:Option ((Int×Int)):=(lK b e).bind fun a=>(ye e).bind fun c=>(ye e).bind fun d=>some ((dM .u64 a c),(qu .u64 a d))
@[irreducible] def sk:=sj b e
def Tu:Option (Int):=(shr .u64 e 1).bind fun a=>some (wrap .u64 ((dM .u64 a 6148914691236517205)+(dM .u64 e 6148914691236517205)))
def Tv:Option (Int):=(shr .u64 e 2).bind fun a=>some (wrap .u64 ((dM .u64 a 3689348814741910323)+(dM .u64 e 3689348814741910323)))
def Tw:Option (Int):=(shr .u64 e 4).bind fun a=>some (dM .u64 (wrap .u64 (a+e)) 1085102592571150095)
def Tx:Option (Int):=(shr .u64 e 8).bind fun a=>some (wrap .u64 (e+a))
def Tz:Option (Int):=(shr .u64 e 16).bind fun a=>some (wrap .u64 (e+a))
def TA:Option (Int):=(shr .u64 e 32).bind fun a=>some (wrap .u64 (e+a))
def TB:Option (Int):=some (dM .i64 (wrap .i64 e) 127)
def TC:Option (Int):=some e
def ae4:=(TB e).bind (fun a=>TC a)
def ae5:=(TA e).bind (fun a=>ae4 a)
def ae6:=(Tz e).bind (fun a=>ae5 a)
def ae7:=(Tx e).bind (fun a=>ae6 a)
def ae8:=(Tw e).bind (fun a=>ae7 a)
def ae9:=(Tv e).bind (fun a=>ae8 a)
def TD:=(Tu e).bind (fun a=>ae9 a)
@[irreducible] def afa:=TD e
def HD:Option (Int):=(afa e).bind fun a=>some a
@[irreducible] def afb:=HD e
def HE:Option (Int):=(afb e).bind fun a=>some a
@[irreducible] def sl:=HE e
def HF:Option (Int):=cond (e==0) (some 64) ((shr .u64 (wrap .u64 ((dM .u64 e (wrap .u64 (0-e)))*285870213051353865)) 58).bind fun a=>(same (List.length uN) 64).bind fun b=>(idx uN a).bind fun c=>some (wrap .i64 c))
@[irreducible] def afc:=HF e
def HG:Option (Int):=(afc e).bind fun a=>some a
@[irreducible] def afd:=HG e
def TE:Option (((List Int))):=(sl e).bind fun a=>(mk 0 a).bind fun b=>some (replicate b (0:Int))
def TF:Option (Unit):=some ()
def TG:Option ((Int×(List Int))⊕((List Int))):=cond (e !=0) ((afd e).bind fun a=>(room ((List.length r)+List.length ([(wrap .i64 (a+1))]))).bind fun b=>some (Sum.inl ((dM .u64 e (wrap .u64 (e-1))),(r++([(wrap .i64 (a+1))]))))) (some (Sum.inr r))
def afe:=ai (fun(a:Int×(List Int))=>((TG a.1 a.2).map (Sum.elim (fun b=>Sum.inl (b.1,b.2)) (fun b=>Sum.inr b)))) LL (e,r)
def aff:=(afe e r).map (fun a=>a)
def afg:=(TF).bind (fun a=>aff e r)
def TH:Option (((List Int))):=some b
def afh:=(afg e r).bind (fun a=>TH a)
def TJ:=(TE e).bind (fun a=>afh e a)
@[irreducible] def jt:=TJ e
def sn (R0 R1:(List Int)->Int->(List Int)->Option ((List Int))) (a:List Int) (b:Int) (c:List Int):Option (((List Int))):=(sk a b).bind fun d=>(R1 a (d.1) c).bind fun e=>(room ((List.length e)+List.length ([b]))).bind fun f=>(R1 a (d.2) (e++([b]))).bind fun g=>some g
def afi (R0 R1:(List Int)->Int->(List Int)->Option ((List Int))) (a:List Int) (b:Int) (c:List Int):Option ((List Int)):=sn R0 R1 a b c
def HH (R0 R1:(List Int)->Int->(List Int)->Option ((List Int))):Option (Unit):=some ()
def HI (R0 R1:(List Int)->Int->(List Int)->Option ((List Int))) (a:Int):Option ((Int×(List Int))):=(jt a).bind fun b=>some ((b.length:Int),b)
def so (R0 R1:(List Int)->Int->(List Int)->Option ((List Int))) (a:List Int) (b c:Int) (d e:List Int):Option ((Int×(List Int))⊕((List Int))):=cond (decide (c<b)) ((ap c (List.length e)).bind fun f=>(e[f]?).bind fun g=>(R0 a g d).bind fun h=>some (Sum.inl ((wrap .i64 (c+1)),h))) (some (Sum.inr d))
def TL (R0 R1:(List Int)->Int->(List Int)->Option ((List Int))) (a:List Int) (b:Int) (c d:List Int):Option (((List Int))):=ai (fun(e:Int×(List Int))=>((so R0 R1 a b e.1 e.2 d).map (Sum.elim (fun f=>Sum.inl (f.1,f.2)) (fun f=>Sum.inr f)))) LL (0,c)
def TM (R0 R1:(List Int)->Int->(List Int)->Option ((List Int))) (a:List Int) (b:Int) (c d:List Int):=(TL R0 R1 a b c d).map (fun e=>e)
def TN (R0 R1:(List Int)->Int->(List Int)->Option ((List Int))) (a:List Int) (b:Int) (c:List Int):=(HI R0 R1 b).bind (fun d=>TM R0 R1 a d.1 c d.2)
def HJ (R0 R1:(List Int)->Int->(List Int)->Option ((List Int))) (a:List Int):Option (((List Int))):=some a
def TO (R0 R1:(List Int)->Int->(List Int)->Option ((List Int))) (a:List Int) (b:Int) (c:List Int):=(TN R0 R1 a b c).bind (fun d=>HJ R0 R1 d)
def HK (R0 R1:(List Int)->Int->(List Int)->Option ((List Int))) (a:List Int) (b:Int) (c:List Int):=(HH R0 R1).bind (fun d=>TO R0 R1 a b c)
def yf (R0 R1:(List Int)->Int->(List Int)->Option ((List Int))) (a:List Int) (b:Int) (c:List Int):Option ((List Int)):=HK R0 R1 a b c
def fk:Nat->((List Int)->Int->(List Int)->Option ((List Int)))×((List Int)->Int->(List Int)->Option ((List Int)))
 |0=>((fun _ _ _=>none),(fun _ _ _=>none))
 |n+1=>((fun P Q R=>afi (fk n).1 (fk n).2 P Q R),(fun P Q R=>yf (fk n).1 (fk n).2 P Q R))
def kv (n:Nat):(List Int)->Int->(List Int)->Option ((List Int)):=(fk n).1
@[irreducible] def sp:=kv RR b e r
def py (n:Nat):(List Int)->Int->(List Int)->Option ((List Int)):=(fk n).2
@[irreducible] def TP:=py RR b e r
def sr:Option (((List Int))):=(fj b).bind fun a=>cond (!a) (some ([]:List Int)) ((px b).bind fun c=>(mk 0 (b.length:Int)).bind fun d=>(sp b c (replicate d (0:Int))).bind fun e=>some e)
@[irreducible] def pz:=sr b
def ss:Option (ByteArray):=(pz b).bind fun a=>(nu a).bind fun c=>some c
@[irreducible] def yg (a:List Int) (b:List (List Int)):=ss a
def yh:Option (ByteArray):=(px b).bind fun a=>(strconv_Itoa a).bind fun c=>some c
@[irreducible] def HL (a:List Int) (b:List (List Int)):=yh a
def yi:Option ((Bool×Int×Int)):=cond (decide (e<1)) (some (false,0,0)) (cond (decide (n<1)) (some (false,0,0)) (cond (e==n) (some (false,0,0)) (some (true,(bV e n),(imax e n)))))
@[irreducible] def su:=yi e n
def HM:Option (((List (Int×Int×Unit)))):=(mk 0 (b.length:Int)).bind fun a=>some (replicate a ((0:Int),((0:Int),())))
def HN:Option (Int):=some (b.length:Int)
def sv:Option ((Int×(List (Int×Int×Unit)))⊕((List (Int×Int×Unit)))):=cond (decide (n<e)) ((idx b n).bind fun a=>(su (wrap .i64 (n+1)) a).bind fun c=>cond (c.1) ((room ((List.length q)+List.length ([((c.2.1),((c.2.2),()))]))).bind fun d=>some (Sum.inl ((wrap .i64 (n+1)),(q++([((c.2.1),((c.2.2),()))]))))) (some (Sum.inl ((wrap .i64 (n+1)),q)))) (some (Sum.inr q))
def TQ:Option (((List (Int×Int×Unit)))):=ai (fun(a:Int×(List (Int×Int×Unit)))=>((sv b e a.1 a.2).map (Sum.elim (fun c=>Sum.inl (c.1,c.2)) (fun c=>Sum.inr c)))) LL (0,q)
def TR:=(TQ b e q).map (fun a=>a)
def TS:=(HN b).bind (fun a=>TR b a q)
def HO:Option (((List (Int×Int×Unit)))):=some q
def TU:=(TS b q).bind (fun a=>HO a)
def yj:=(HM b).bind (fun a=>TU b a)
@[irreducible] def pA:=yj b
def yk:Option (Bool):=cond (decide (e<o)) (some (decide (o<n))) (some false)
@[irreducible] def sw:=yk e n o
def yl:Option (Bool):=cond (decide (o<e)) (some true) (some (decide (n<o)))
@[irreducible] def sx:=yl e n o
def ym:Option (Bool):=(sw e n o).bind fun a=>cond a ((sx e n p).bind fun b=>cond b (some true) ((sw e n p).bind fun c=>cond c ((sx e n o).bind fun d=>some d) (some false))) ((sw e n p).bind fun f=>cond f ((sx e n o).bind fun g=>some g) (some false))
@[irreducible] def yn:=ym e n o p
def HP:Option (Unit):=some ()
def HQ:Option (Int):=some (q.length:Int)
def HR:Option (Unit⊕Int):=cond (decide (o<n)) (some (Sum.inl ())) (some (Sum.inr e))
def HS:Option (((List (Int×Int×Unit))×Int×Int×Int)):=(idx q t).bind fun a=>(inc (wrap .i64 (t+1)) (List.length q)).bind fun b=>some (((q.take (List.length q)).drop b),(List.length ((q.take (List.length q)).drop b):Int),(a.1),((a.2).1))
def sy:Option ((Int×Int)⊕Int):=cond (decide (u<t)) ((idx q u).bind fun a=>(yn v x (a.1) ((a.2).1)).bind fun b=>cond b (some (Sum.inl ((wrap .i64 (e+1)),(wrap .i64 (u+1))))) (some (Sum.inl (e,(wrap .i64 (u+1)))))) (some (Sum.inr e))
def TV:Option (Int):=ai (fun(a:Int×Int)=>((sy a.1 q t a.2 u v).map (Sum.elim (fun b=>Sum.inl (b.1,b.2)) (fun b=>Sum.inr b)))) LL (e,0)
def HT:=(TV e q t u v).map (fun a=>a)
def TW:=(HS q u).bind (fun a=>HT t a.1 a.2.1 a.2.2.1 a.2.2.2)
def TX:=(TW q t u).map (fun a=>a)
def HU:Option (Int):=some (wrap .i64 (e+1))
def TY:=(TX q t u).bind (fun a=>(HU u).map (fun b=>(a,b)))
def HV:=(HR t u v).bind (Sum.elim (fun a=>(TY q t v).map (fun a=>(Sum.inl (a.1,a.2)))) (fun b=>some ((fun a=>(Sum.inr a)) b)))
def TZ:Option (Int):=ai (fun(a:Int×Int)=>((HV q a.1 t a.2).map (Sum.elim (fun b=>Sum.inl (b.1,b.2)) (fun b=>Sum.inr b)))) LL (0,0)
def T0:=(TZ q t).map (fun a=>a)
def T1:=(HQ q).bind (fun a=>T0 q a)
def HW:Option (Int):=some e
def T2:=(T1 q).bind (fun a=>HW a)
def yo:=(HP).bind (fun a=>T2 q)
@[irreducible] def yp:=yo q
def sA:Option (Int):=(fj b).bind fun a=>cond (!a) (some (-1)) ((pA b).bind fun c=>(yp c).bind fun d=>some d)
@[irreducible] def yq:=sA b
def yr:Option (ByteArray):=(yq b).bind fun a=>(strconv_Itoa a).bind fun c=>some c
@[irreducible] def HX (a:List Int) (b:List (List Int)):=yr a
def HY (R0:(List Int)->Int->(List Int)->Option (Int×(List Int))) (a:Int):Option (Int):=(ku a).bind fun b=>some b
def HZ (R0:(List Int)->Int->(List Int)->Option (Int×(List Int))) (a:List Int) (b:Int):Option ((Int×(List Int))):=(lK a b).bind fun c=>(jt c).bind fun d=>some ((d.length:Int),d)
def pB (R0:(List Int)->Int->(List Int)->Option (Int×(List Int))) (a:List Int) (b c d:Int) (e f:List Int):Option ((Int×Int×(List Int))⊕(Int×(List Int))):=cond (decide (d<c)) ((ap d (List.length f)).bind fun g=>(f[g]?).bind fun h=>(R0 a h e).bind fun i=>some (Sum.inl ((je .u64 b (i.1)),(wrap .i64 (d+1)),(i.2)))) (some (Sum.inr (b,e)))
def T3 (R0:(List Int)->Int->(List Int)->Option (Int×(List Int))) (a:List Int) (b c:Int) (d e:List Int):Option ((Int×(List Int))):=ai (fun(f:Int×Int×(List Int))=>((pB R0 a f.1 c f.2.1 f.2.2 e).map (Sum.elim (fun g=>Sum.inl (g.1,g.2.1,g.2.2)) (fun g=>Sum.inr g)))) LL (b,0,d)
def T4 (R0:(List Int)->Int->(List Int)->Option (Int×(List Int))) (a:List Int) (b c:Int) (d e:List Int):=(T3 R0 a b c d e).map (fun f=>(f.1,f.2))
def T5 (R0:(List Int)->Int->(List Int)->Option (Int×(List Int))) (a:List Int) (b c:Int) (d:List Int):=(HZ R0 a b).bind (fun e=>T4 R0 a c e.1 d e.2)
def H0 (R0:(List Int)->Int->(List Int)->Option (Int×(List Int))) (a b:Int) (c:List Int):Option ((Int×(List Int))):=(ap (wrap .i64 (a-1)) (List.length c)).bind fun d=>some (b,(c.set d b))
def T6 (R0:(List Int)->Int->(List Int)->Option (Int×(List Int))) (a:List Int) (b c:Int) (d:List Int):=(T5 R0 a b c d).bind (fun e=>H0 R0 b e.1 e.2)
def H1 (R0:(List Int)->Int->(List Int)->Option (Int×(List Int))) (a:List Int) (b:Int) (c:List Int):=(HY R0 b).bind (fun d=>T6 R0 a b d c)
def T7 (R0:(List Int)->Int->(List Int)->Option (Int×(List Int))) (a:List Int) (b:Int) (c:List Int):Option (Int×(List Int)):=H1 R0 a b c
def lL:Nat->((List Int)->Int->(List Int)->Option (Int×(List Int)))
 |0=>(fun _ _ _=>none)
 |n+1=>(fun P Q R=>T7 (lL n) P Q R)
def pC (n:Nat):(List Int)->Int->(List Int)->Option (Int×(List Int)):=(lL n)
@[irreducible] def sB:=pC RR b e r
def sC:Option (((List Int))):=(mk (b.length:Int) (b.length:Int)).bind fun a=>(px b).bind fun c=>(sB b c (replicate a (0:Int))).bind fun d=>some (d.2)
@[irreducible] def lM:=sC b
def H2:Option (Int):=(shl .u64 e 1).bind fun a=>some (qu .u64 e a)
@[irreducible] def afj:=H2 e
def H3:Option (Int):=(afj e).bind fun a=>(sl a).bind fun b=>some (wrap .i64 (b-1))
@[irreducible] def H4:=H3 e
def H5:Option (Unit⊕Int):=(fj b).bind fun a=>cond (!a) (some (Sum.inr (-1))) (some (Sum.inl ()))
def H6:Option ((Int×(List Int))):=(lM b).bind fun a=>some ((a.length:Int),a)
def sD:Option ((Int×Int)⊕Int):=cond (decide (o<n)) ((ap o (List.length r)).bind fun a=>(r[a]?).bind fun b=>(H4 b).bind fun c=>some (Sum.inl ((imax e c),(wrap .i64 (o+1))))) (some (Sum.inr e))
def T8:Option (Int):=ai (fun(a:Int×Int)=>((sD a.1 e a.2 r).map (Sum.elim (fun b=>Sum.inl (b.1,b.2)) (fun b=>Sum.inr b)))) LL (0,0)
def T9:=(T8 e r).map (fun a=>a)
def Ua:=(H6 b).bind (fun a=>T9 a.1 a.2)
def H7:Option (Int):=some e
def Ub:=(Ua b).bind (fun a=>H7 a)
def yt:=(H5 b).bind (Sum.elim (fun a=>Ub b) (fun c=>some ((fun a=>a) c)))
@[irreducible] def yu:=yt b
def yv:Option (ByteArray):=(yu b).bind fun a=>(strconv_Itoa a).bind fun c=>some c
@[irreducible] def H8 (a:List Int) (b:List (List Int)):=yv a
def H9:Option (Unit⊕Bool):=cond (decide (e<1)) (some (Sum.inr false)) (cond (decide (e>8)) (some (Sum.inr false)) (cond ((b.length:Int) !=e) (some (Sum.inr false)) (some (Sum.inl ()))))
def Ia:Option (Int):=some (b.length:Int)
def yw:Option ((Int×(List Bool))⊕Bool⊕Unit):=cond (decide (u<t)) ((idx r u).bind fun a=>cond (decide (a<1)) (some (Sum.inr (Sum.inl false))) (cond (decide (a>e)) (some (Sum.inr (Sum.inl false))) ((same (List.length H) 9).bind fun b=>(ap a 9).bind fun c=>(H[c]?).bind fun d=>cond d (some (Sum.inr (Sum.inl false))) ((same (List.length H) 9).bind fun f=>(ap a 9).bind fun g=>some (Sum.inl ((wrap .i64 (u+1)),(H.set g true))))))) (some (Sum.inr (Sum.inr ())))
def Uc:Option (Bool⊕Unit):=ai (fun(a:Int×(List Bool))=>((yw e r t a.1 a.2).map (Sum.elim (fun b=>Sum.inl (b.1,b.2)) (Sum.elim (fun b=>Sum.inr (Sum.inl b)) (fun b=>Sum.inr (Sum.inr b)))))) LL (0,(replicate 9 false))
def Ud:=(Uc e r t).map (Sum.elim (fun a=>(Sum.inr a)) (fun a=>(Sum.inl ())))
def Ue:=(Ia b).bind (fun a=>Ud e b a)
def Ib:Option (Bool):=some true
def Uf:=(Ue b e).bind (Sum.elim (fun a=>Ib) (fun c=>some ((fun a=>a) c)))
def Ic:=(H9 b e).bind (Sum.elim (fun a=>Uf b e) (fun c=>some ((fun a=>a) c)))
@[irreducible] def yx:=Ic b e
def sE:Option ((Nat×(List Int))):=cond (decide (e<0)) (none) ((sure true).bind fun a=>cond (decide ((wrap .i64 (e-(wrap .i64 (0-((0:Nat):Int)))))>0)) ((sure true).bind fun b=>(sure ((0:Int)==0)).bind fun c=>(oy (wrap .i64 (e-(wrap .i64 (0-((0:Nat):Int)))))).bind fun d=>(inc ((0:Nat):Int) (List.length (replicate d (0:Int)))).bind fun f=>some ((f-0),(replicate d (0:Int)))) (some ((List.length ([]:List Int)),([]:List Int))))
@[irreducible] def yy:=sE e
def Ie:Option (Unit):=some ()
def If:Option (Int):=some (w.length:Int)
def sF:Option ((Int×Int)⊕Int):=cond (decide (J<G)) ((idx w J).bind fun a=>cond (decide ((wrap .i64 (x+(a.length:Int)))<0)) (none) (some (Sum.inl ((wrap .i64 (x+(a.length:Int))),(wrap .i64 (J+1)))))) (some (Sum.inr x))
def Ug:Option (Int):=ai (fun(a:Int×Int)=>((sF w a.1 x a.2).map (Sum.elim (fun b=>Sum.inl (b.1,b.2)) (fun b=>Sum.inr b)))) LL (0,0)
def Uh:=(Ug w x).map (fun a=>a)
def Ui:=(If w).bind (fun a=>Uh w a)
def Ig:Option ((Nat×(List Int))):=(yy e).bind fun a=>some ((a.1),(a.2))
def Ih:Option (Int):=some (w.length:Int)
def sG:Option ((Nat×Int×(List Int))⊕(Nat×(List Int))):=cond (decide (G<x)) ((idx w G).bind fun a=>(room (f+List.length a)).bind fun b=>some (Sum.inl ((List.length (((I.drop 0).take f)++a)),(wrap .i64 (G+1)),(((I.drop 0).take f)++a)))) (some (Sum.inr (f,I)))
def Uj:Option ((Nat×(List Int))):=ai (fun(a:Nat×Int×(List Int))=>((sG a.1 w x a.2.1 a.2.2).map (Sum.elim (fun b=>Sum.inl (b.1,b.2.1,b.2.2)) (fun b=>Sum.inr b)))) LL (f,0,z)
def Uk:=(Uj f w x z).map (fun a=>(a.1,a.2))
def Ul:=(Ih w).bind (fun a=>Uk B w a D)
def Ii:Option ((Nat×(List Int))):=some (f,r)
def Um:=(Ul w B D).bind (fun a=>Ii a.1 a.2)
def Un:=(Ig x).bind (fun a=>Um w a.1 a.2)
def Uo:=(Ui w).bind (fun a=>Un w a)
def yz:=(Ie).bind (fun a=>Uo w)
@[irreducible] def yA:=yz w
def Ij:Option (((List Int))):=(mk 0 (wrap .i64 ((b.length:Int)+(r.length:Int)))).bind fun a=>some (replicate a (0:Int))
def pD:Option (((List Int)×(List Int)×Int×(List Int))⊕((List Int)×(List Int)×Int×(List Int))):=cond (decide ((b.length:Int)>0)) (cond (decide ((r.length:Int)>0)) ((idx b 0).bind fun a=>(idx r 0).bind fun c=>cond (decide (a<c)) ((idx b 0).bind fun d=>(room ((List.length z)+List.length ([d]))).bind fun e=>(inc 1 (List.length b)).bind fun f=>some (Sum.inl (((b.take (List.length b)).drop f),r,t,(z++([d]))))) ((idx r 0).bind fun g=>(room ((List.length z)+List.length ([g]))).bind fun h=>(inc 1 (List.length r)).bind fun i=>some (Sum.inl (b,((r.take (List.length r)).drop i),(wrap .i64 (t+(b.length:Int))),(z++([g])))))) (some (Sum.inr (b,r,t,z)))) (some (Sum.inr (b,r,t,z)))
def Up:Option (((List Int)×(List Int)×Int×(List Int))):=ai (fun(a:(List Int)×(List Int)×Int×(List Int))=>((pD a.1 a.2.1 a.2.2.1 a.2.2.2).map (Sum.elim (fun c=>Sum.inl (c.1,c.2.1,c.2.2.1,c.2.2.2)) (fun c=>Sum.inr c)))) LL (b,r,0,z)
def Uq:=(Up b r z).map (fun a=>(a.1,a.2.1,a.2.2.1,a.2.2.2))
def Ik:Option ((Nat×Int×(List Int))):=(yA ([z,b,r])).bind fun a=>some ((a.1),t,(a.2))
def Ur:=(Uq b r z).bind (fun a=>Ik a.1 a.2.1 a.2.2.1 a.2.2.2)
def yB:=(Ij b r).bind (fun a=>Ur b r a)
@[irreducible] def yC:=yB b r
def sH (R0:(List Int)->Option ((List Int)×Int)) (a:List Int):Option (((List Int)×Int)):=cond (decide ((a.length:Int)<2)) (some (a,0)) ((quo .i64 (a.length:Int) 2).bind fun b=>(inc b (List.length a)).bind fun c=>(R0 ((a.take c).drop 0)).bind fun d=>(inc b (List.length a)).bind fun e=>(R0 ((a.take (List.length a)).drop e)).bind fun f=>(yC (d.1) (f.1)).bind fun g=>some ((((g.2.2).drop 0).take (g.1)),(wrap .i64 ((wrap .i64 ((d.2)+(f.2)))+(g.2.1)))))
def afk (R0:(List Int)->Option ((List Int)×Int)) (a:List Int):Option ((List Int)×Int):=sH R0 a
def pE:Nat->((List Int)->Option ((List Int)×Int))
 |0=>(fun _=>none)
 |n+1=>(fun P=>afk (pE n) P)
def lN (n:Nat):(List Int)->Option ((List Int)×Int):=(pE n)
@[irreducible] def yD:=lN RR b
def sJ:Option (Int):=(yx b (b.length:Int)).bind fun a=>cond (!a) (some (-1)) ((yD b).bind fun c=>some (c.2))
@[irreducible] def yE:=sJ b
def sK:Option (Int):=(pz b).bind fun a=>(yE a).bind fun c=>some c
@[irreducible] def yF:=sK b
def yG:Option (ByteArray):=(yF b).bind fun a=>(strconv_Itoa a).bind fun c=>some c
@[irreducible] def Il (a:List Int) (b:List (List Int)):=yG a
def Im:Option (Int):=some (wrap .i64 (n-e))
@[irreducible] def In:=Im e n
def Io:Option (Unit⊕Int):=(fj b).bind fun a=>cond (!a) (some (Sum.inr (-1))) (some (Sum.inl ()))
def Ip:Option ((Int×(List (Int×Int×Unit)))):=(pA b).bind fun a=>some ((a.length:Int),a)
def sL:Option ((Int×Int)⊕Int):=cond (decide (o<n)) ((ap o (List.length q)).bind fun a=>(q[a]?).bind fun b=>(In (b.1) ((b.2).1)).bind fun c=>some (Sum.inl ((wrap .i64 (e+c)),(wrap .i64 (o+1))))) (some (Sum.inr e))
def Us:Option (Int):=ai (fun(a:Int×Int)=>((sL a.1 e a.2 q).map (Sum.elim (fun b=>Sum.inl (b.1,b.2)) (fun b=>Sum.inr b)))) LL (0,0)
def Ut:=(Us e q).map (fun a=>a)
def Uu:=(Ip b).bind (fun a=>Ut a.1 a.2)
def Uv:Option (Int):=some e
def Uw:=(Uu b).bind (fun a=>Uv a)
def yH:=(Io b).bind (Sum.elim (fun a=>Uw b) (fun c=>some ((fun a=>a) c)))
@[irreducible] def yI:=yH b
def yJ:Option (ByteArray):=(yI b).bind fun a=>(strconv_Itoa a).bind fun c=>some c
@[irreducible] def Iq (a:List Int) (b:List (List Int)):=yJ a
def Ux:Option (List Int):=q9 r e z
def Ir:Option (Int):=some (b.length:Int)
def pF:Option (Int⊕Int):=cond (decide (n>0)) ((ap (wrap .i64 (n-1)) (List.length r)).bind fun a=>(r[a]?).bind fun b=>cond (decide (e<b)) (some (Sum.inl (wrap .i64 (n-1)))) (some (Sum.inr n))) (some (Sum.inr n))
def Uy:=ai (fun(a:Int)=>((pF e a r).map (Sum.elim (fun b=>Sum.inl b) (fun b=>Sum.inr b)))) LL n
def Uz:=(Uy e n r).map (fun a=>a)
def Is:Option (((List Int))):=(Ux n r ([e])).bind fun a=>some a
def UA:=(Uz e n r).bind (fun a=>Is e a r)
def yK:=(Ir r).bind (fun a=>UA e a r)
@[irreducible] def yL:=yK e r
def It:Option (Unit):=some ()
def Iu:Option ((Int×(List Int))):=(lK b e).bind fun a=>(jt a).bind fun c=>some ((c.length:Int),c)
def sM:Option ((Int×(List Int))⊕((List Int))):=cond (decide (n<e)) ((ap n (List.length z)).bind fun a=>(z[a]?).bind fun c=>(idx b (wrap .i64 (c-1))).bind fun d=>(sl d).bind fun f=>(yL f r).bind fun g=>some (Sum.inl ((wrap .i64 (n+1)),g))) (some (Sum.inr r))
def UB:Option (((List Int))):=ai (fun(a:Int×(List Int))=>((sM b e a.1 a.2 r).map (Sum.elim (fun c=>Sum.inl (c.1,c.2)) (fun c=>Sum.inr c)))) LL (0,([]:List Int))
def UC:=(UB b e r).map (fun a=>a)
def UD:=(Iu b t).bind (fun a=>UC r a.1 a.2)
def UE:Option (((List Int))):=some b
def UF:=(UD b r t).bind (fun a=>UE a)
def yM:=(It).bind (fun a=>UF b r t)
@[irreducible] def yN:=yM b r t
def Iv:Option (Unit):=some ()
def Iw:Option (Int):=some (b.length:Int)
def sN:Option ((Int×Int×(List Int))⊕(Int×(List Int))):=cond (decide (u<t)) ((idx r u).bind fun a=>(shr .u64 e u).bind fun b=>(same (List.length z) 2).bind fun c=>(ap (dM .u64 b 1) 2).bind fun d=>(z[d]?).bind fun f=>(same (List.length z) 2).bind fun g=>(ap (dM .u64 b 1) 2).bind fun h=>(z[h]?).bind fun i=>(same (List.length z) 2).bind fun j=>(ap (dM .u64 b 1) 2).bind fun k=>some (Sum.inl ((wrap .i64 (n+(wrap .i64 (f+1)))),(wrap .i64 (u+1)),(z.set k (wrap .i64 (i+a)))))) (some (Sum.inr (n,z)))
def UG:Option ((Int×(List Int))):=ai (fun(a:Int×Int×(List Int))=>((sN e a.1 r t a.2.1 a.2.2).map (Sum.elim (fun b=>Sum.inl (b.1,b.2.1,b.2.2)) (fun b=>Sum.inr b)))) LL (0,0,(replicate 2 (0:Int)))
def UH:=(UG e r t).map (fun a=>(a.1,a.2))
def UI:=(Iw b).bind (fun a=>UH e b a)
def Ix:Option (Int):=cond a ((same (List.length r) 2).bind fun b=>(ap 0 2).bind fun c=>(r[c]?).bind fun d=>some (wrap .i64 (e+d))) (some e)
def UJ:=(UI b e).bind (fun a=>Ix g a.1 a.2)
def yO:=(Iv).bind (fun a=>UJ b e g)
@[irreducible] def pG:=yO b e g
def Iy:Option (Int):=(pG b 0 g).bind fun a=>some a
def Iz:Option (Int):=(shl .u64 1 (b.length:Int)).bind fun a=>some a
def sO:Option ((Int×Int)⊕Int):=cond (decide (p<o)) ((pG b p g).bind fun a=>some (Sum.inl ((bV n a),(wrap .u64 (p+1))))) (some (Sum.inr n))
def UK:Option (Int):=ai (fun(a:Int×Int)=>((sO b g a.1 o a.2).map (Sum.elim (fun c=>Sum.inl (c.1,c.2)) (fun c=>Sum.inr c)))) LL (n,0)
def UL:=(UK b g n o).map (fun a=>a)
def UM:=(Iz b).bind (fun a=>UL b g n a)
def IA:Option (Int):=some e
def UN:=(UM b g n).bind (fun a=>IA a)
def yP:=(Iy b g).bind (fun a=>UN b g a)
@[irreducible] def yQ:=yP b g
def IB:Option (((List Int))⊕Int):=(fj b).bind fun a=>cond (!a) (some (Sum.inr (-1))) ((lM b).bind fun c=>some (Sum.inl c))
def IC:Option (Int):=some (b.length:Int)
def sP:Option ((Int×Int)⊕Int):=cond (decide (o<n)) ((idx b o).bind fun a=>(yN b r (wrap .i64 (o+1))).bind fun c=>(yQ c (a !=0)).bind fun d=>some (Sum.inl ((wrap .i64 (e+d)),(wrap .i64 (o+1))))) (some (Sum.inr e))
def UO:Option (Int):=ai (fun(a:Int×Int)=>((sP b a.1 e a.2 r).map (Sum.elim (fun c=>Sum.inl (c.1,c.2)) (fun c=>Sum.inr c)))) LL (0,0)
def UP:=(UO b e r).map (fun a=>a)
def UQ:=(IC b).bind (fun a=>UP b a r)
def UR:Option (Int):=some e
def US:=(UQ b r).bind (fun a=>UR a)
def yR:=(IB b).bind (Sum.elim (fun a=>US b a) (fun c=>some ((fun a=>a) c)))
@[irreducible] def yS:=yR b
def yT:Option (ByteArray):=(yS b).bind fun a=>(strconv_Itoa a).bind fun c=>some c
@[irreducible] def ID (a:List Int) (b:List (List Int)):=yT a
def sQ:Option (Int):=(quo .i64 (wrap .i64 (e*(wrap .i64 (e-1)))) 2).bind fun a=>some a
@[irreducible] def sR:=sQ e
def IE:Option (Unit):=some ()
def IF:Option (Int):=some (q.length:Int)
def sS:Option ((Int×(List Int))⊕((List Int))):=cond (decide (u<t)) ((idx q u).bind fun a=>(same (List.length z) 9).bind fun b=>(ap (a.1) 9).bind fun c=>(z[c]?).bind fun d=>(same (List.length z) 9).bind fun e=>(ap (a.1) 9).bind fun f=>(same (List.length (z.set f (wrap .i64 (d+1)))) 9).bind fun g=>(ap ((a.2).1) 9).bind fun h=>((z.set f (wrap .i64 (d+1)))[h]?).bind fun i=>(same (List.length (z.set f (wrap .i64 (d+1)))) 9).bind fun j=>(ap ((a.2).1) 9).bind fun k=>some (Sum.inl ((wrap .i64 (u+1)),((z.set f (wrap .i64 (d+1))).set k (wrap .i64 (i+1)))))) (some (Sum.inr z))
def UT:Option (((List Int))):=ai (fun(a:Int×(List Int))=>((sS q t a.1 a.2).map (Sum.elim (fun b=>Sum.inl (b.1,b.2)) (fun b=>Sum.inr b)))) LL (0,(replicate 9 (0:Int)))
def UU:=(UT q t).map (fun a=>a)
def UV:=(IF q).bind (fun a=>UU q a)
def IG:Option ((Int×Int×Int×Int×Int×Int×Int×Int×Int)):=(same (List.length b) 9).bind fun a=>(same (List.length (replicate 9 (0:Int))) 9).bind fun c=>some ((b.getD 0 (0:Int)),(b.getD 1 (0:Int)),(b.getD 2 (0:Int)),(b.getD 3 (0:Int)),(b.getD 4 (0:Int)),(b.getD 5 (0:Int)),(b.getD 6 (0:Int)),(b.getD 7 (0:Int)),(b.getD 8 (0:Int)))
def UW:=(UV q).bind (fun a=>IG a)
def yU:=(IE).bind (fun a=>UW q)
@[irreducible] def sT:=yU q
def IH:Option ((Int×(List (Int×Int×Unit)))⊕Int):=(fj b).bind fun a=>cond (!a) (some (Sum.inr (-1))) ((pA b).bind fun c=>(sR (c.length:Int)).bind fun d=>some (Sum.inl (d,c)))
def yV:Option ((Int×Int×Int×Int×Int×Int×Int×Int×Int)):=(sT q).bind fun a=>some ((a.1),(a.2.1),(a.2.2.1),(a.2.2.2.1),(a.2.2.2.2.1),(a.2.2.2.2.2.1),(a.2.2.2.2.2.2.1),(a.2.2.2.2.2.2.2.1),(a.2.2.2.2.2.2.2.2))
def sV:Option ((Int×Int)⊕Int):=cond (decide (L<9)) ((idx [n,o,p,t,u,v,x,G,J] L).bind fun a=>(sR a).bind fun b=>some (Sum.inl ((wrap .i64 (e-b)),(wrap .i64 (L+1))))) (some (Sum.inr e))
def UX:Option (Int):=ai (fun(a:Int×Int)=>((sV a.1 n o p t u v x G J a.2).map (Sum.elim (fun b=>Sum.inl (b.1,b.2)) (fun b=>Sum.inr b)))) LL (e,0)
def UY:=(UX e n o p t u v x G J).map (fun a=>a)
def UZ:=(yV q).bind (fun a=>UY e a.1 a.2.1 a.2.2.1 a.2.2.2.1 a.2.2.2.2.1 a.2.2.2.2.2.1 a.2.2.2.2.2.2.1 a.2.2.2.2.2.2.2.1 a.2.2.2.2.2.2.2.2)
def II:Option (Int):=some e
def U0:=(UZ e q).bind (fun a=>II a)
def yW:=(IH b).bind (Sum.elim (fun a=>U0 a.1 a.2) (fun c=>some ((fun a=>a) c)))
@[irreducible] def yX:=yW b
def yY:Option (ByteArray):=(yX b).bind fun a=>(strconv_Itoa a).bind fun c=>some c
@[irreducible] def IJ (a:List Int) (b:List (List Int)):=yY a
def IK:Option (Bool):=some ((dM .u64 e (wrap .u64 (e+(dM .u64 e (wrap .u64 (0-e))))))==0)
@[irreducible] def IL:=IK e
def IM:Option (Unit⊕Bool):=(fj b).bind fun a=>cond (!a) (some (Sum.inr false)) (some (Sum.inl ()))
def IN:Option ((Int×(List Int))):=(lM b).bind fun a=>some ((a.length:Int),a)
def pH:Option (Int⊕Bool⊕Unit):=cond (decide (n<e)) ((ap n (List.length r)).bind fun a=>(r[a]?).bind fun b=>(IL b).bind fun c=>cond (!c) (some (Sum.inr (Sum.inl false))) (some (Sum.inl (wrap .i64 (n+1))))) (some (Sum.inr (Sum.inr ())))
def U1:Option (Bool⊕Unit):=ai (fun(a:Int)=>((pH e a r).map (Sum.elim (fun b=>Sum.inl b) (Sum.elim (fun b=>Sum.inr (Sum.inl b)) (fun b=>Sum.inr (Sum.inr b)))))) LL 0
def U2:=(U1 e r).map (Sum.elim (fun a=>(Sum.inr a)) (fun a=>(Sum.inl ())))
def U3:=(IN b).bind (fun a=>U2 a.1 a.2)
def IP:Option (Bool):=some true
def U4:=(U3 b).bind (Sum.elim (fun a=>IP) (fun c=>some ((fun a=>a) c)))
def yZ:=(IM b).bind (Sum.elim (fun a=>U4 b) (fun c=>some ((fun a=>a) c)))
@[irreducible] def nv:=yZ b
def y0:Option (ByteArray):=cond a (some (ByteArray.mk #[121,101,115])) (some (ByteArray.mk #[110,111]))
@[irreducible] def sW:=y0 a
def y1:Option (ByteArray):=(nv b).bind fun a=>(sW a).bind fun c=>some c
@[irreducible] def IQ (a:List Int) (b:List (List Int)):=y1 a
def y2:Option (Bool):=(su e n).bind fun a=>(su o p).bind fun b=>cond (a.1) (cond (b.1) ((yn (a.2.1) (a.2.2) (b.2.1) (b.2.2)).bind fun c=>some c) (some false)) (some false)
@[irreducible] def IR:=y2 e n o p
def y3:Option (Bool):=(IR o p e n).bind fun a=>some a
@[irreducible] def IS:=y3 e n o p
def U5:Option (Unit):=some ()
def U6:Option (Int):=some (b.length:Int)
def U7:Option (Unit⊕Int):=cond (decide (o<n)) (some (Sum.inl ())) (some (Sum.inr e))
def U8:Option ((Int×(List Int)×Int)):=(idx b e).bind fun a=>(inc (wrap .i64 (e+1)) (List.length b)).bind fun c=>some (a,((b.take (List.length b)).drop c),(List.length ((b.take (List.length b)).drop c):Int))
def U9:Option ((Int×Int)⊕Int):=cond (decide (u<t)) ((idx r u).bind fun a=>(IS n a v x).bind fun b=>cond b (some (Sum.inl ((wrap .i64 (e+1)),(wrap .i64 (u+1))))) (some (Sum.inl (e,(wrap .i64 (u+1)))))) (some (Sum.inr e))
def afl:Option (Int):=ai (fun(a:Int×Int)=>((U9 a.1 n r t a.2 u v).map (Sum.elim (fun b=>Sum.inl (b.1,b.2)) (fun b=>Sum.inr b)))) LL (e,0)
def afm:=(afl e n r t u v).map (fun a=>a)
def afn:=(U8 b n).bind (fun a=>afm e a.1 a.2.1 a.2.2 o p)
def afo:=(afn b e n o p).map (fun a=>a)
def Va:Option (Int):=some (wrap .i64 (e+1))
def afp:=(afo b e n o p).bind (fun a=>(Va n).map (fun c=>(a,c)))
def afq:=(U7 e n o).bind (Sum.elim (fun a=>(afp b e o p t).map (fun a=>(Sum.inl (a.1,a.2)))) (fun c=>some ((fun a=>(Sum.inr a)) c)))
def afr:Option (Int):=ai (fun(a:Int×Int)=>((afq b a.1 e a.2 n o).map (Sum.elim (fun c=>Sum.inl (c.1,c.2)) (fun c=>Sum.inr c)))) LL (0,0)
def afs:=(afr b e n o).map (fun a=>a)
def aft:=(U6 b).bind (fun a=>afs b a e n)
def Vb:Option (Int):=some e
def afu:=(aft b e n).bind (fun a=>Vb a)
def Vc:=(U5).bind (fun a=>afu b e n)
@[irreducible] def IT:=Vc b e n
def sX:Option (Bool):=(IT r e n).bind fun a=>some (decide (a>0))
@[irreducible] def sY:=sX e n r
def Vd:Option (Unit):=some ()
def Ve:Option (Int):=some (b.length:Int)
def Vf:Option (Unit⊕Int):=cond (decide (o<n)) (some (Sum.inl ())) (some (Sum.inr e))
def Vg:Option ((Int×(List Int)×Int)):=(idx b e).bind fun a=>(inc (wrap .i64 (e+1)) (List.length b)).bind fun c=>some (a,((b.take (List.length b)).drop c),(List.length ((b.take (List.length b)).drop c):Int))
def Vh:Option ((Int×Int)⊕Int):=cond (decide (u<t)) ((idx r u).bind fun a=>(sY n a z).bind fun b=>cond b (some (Sum.inl ((wrap .i64 (e+1)),(wrap .i64 (u+1))))) (some (Sum.inl (e,(wrap .i64 (u+1)))))) (some (Sum.inr e))
def afv:Option (Int):=ai (fun(a:Int×Int)=>((Vh a.1 n r t a.2 z).map (Sum.elim (fun b=>Sum.inl (b.1,b.2)) (fun b=>Sum.inr b)))) LL (e,0)
def afw:=(afv e n r t z).map (fun a=>a)
def afx:=(Vg b n).bind (fun a=>afw e a.1 a.2.1 a.2.2 r)
def afy:=(afx b e n r).map (fun a=>a)
def Vi:Option (Int):=some (wrap .i64 (e+1))
def afz:=(afy b e n r).bind (fun a=>(Vi n).map (fun c=>(a,c)))
def afA:=(Vf e n o).bind (Sum.elim (fun a=>(afz b e o r).map (fun a=>(Sum.inl (a.1,a.2)))) (fun c=>some ((fun a=>(Sum.inr a)) c)))
def afB:Option (Int):=ai (fun(a:Int×Int)=>((afA b a.1 e a.2 r).map (Sum.elim (fun c=>Sum.inl (c.1,c.2)) (fun c=>Sum.inr c)))) LL (0,0)
def afC:=(afB b e r).map (fun a=>a)
def afD:=(Ve b).bind (fun a=>afC b a r)
def Vj:Option (Int):=some e
def afE:=(afD b r).bind (fun a=>Vj a)
def Vk:=(Vd).bind (fun a=>afE b r)
@[irreducible] def IU:=Vk b r
def sZ:Option (Bool):=cond ((dM .u64 e n) !=0) (some false) ((jt n).bind fun a=>(jt e).bind fun b=>(IU b a).bind fun c=>some (decide (c>0)))
@[irreducible] def s0:=sZ e n
def Vl:Option (Unit):=some ()
def Vm:Option (Int):=some (b.length:Int)
def Vn:Option (Unit⊕Int):=cond (decide (o<n)) (some (Sum.inl ())) (some (Sum.inr e))
def Vo:Option ((Int×(List Int)×Int)):=(idx b e).bind fun a=>(inc (wrap .i64 (e+1)) (List.length b)).bind fun c=>some (a,((b.take (List.length b)).drop c),(List.length ((b.take (List.length b)).drop c):Int))
def Vp:Option ((Int×Int)⊕Int):=cond (decide (u<t)) ((idx r u).bind fun a=>(s0 n a).bind fun b=>cond b (some (Sum.inl ((wrap .i64 (e+1)),(wrap .i64 (u+1))))) (some (Sum.inl (e,(wrap .i64 (u+1)))))) (some (Sum.inr e))
def afF:Option (Int):=ai (fun(a:Int×Int)=>((Vp a.1 n r t a.2).map (Sum.elim (fun b=>Sum.inl (b.1,b.2)) (fun b=>Sum.inr b)))) LL (e,0)
def afG:=(afF e n r t).map (fun a=>a)
def afH:=(Vo b n).bind (fun a=>afG e a.1 a.2.1 a.2.2)
def afI:=(afH b e n).map (fun a=>a)
def Vq:Option (Int):=some (wrap .i64 (e+1))
def afJ:=(afI b e n).bind (fun a=>(Vq n).map (fun c=>(a,c)))
def afK:=(Vn e n o).bind (Sum.elim (fun a=>(afJ b e o).map (fun a=>(Sum.inl (a.1,a.2)))) (fun c=>some ((fun a=>(Sum.inr a)) c)))
def afL:Option (Int):=ai (fun(a:Int×Int)=>((afK b a.1 e a.2).map (Sum.elim (fun c=>Sum.inl (c.1,c.2)) (fun c=>Sum.inr c)))) LL (0,0)
def afM:=(afL b e).map (fun a=>a)
def afN:=(Vm b).bind (fun a=>afM b a)
def Vr:Option (Int):=some e
def afO:=(afN b).bind (fun a=>Vr a)
def Vs:=(Vl).bind (fun a=>afO b)
@[irreducible] def IV:=Vs b
def s1:Option (Bool):=(fj b).bind fun a=>cond a ((lM b).bind fun c=>(IV c).bind fun d=>some (d==0)) (some false)
@[irreducible] def y4:=s1 b
def y5:Option (ByteArray):=(y4 b).bind fun a=>(sW a).bind fun c=>some c
@[irreducible] def IW (a:List Int) (b:List (List Int)):=y5 a
def s2:Option (((List Int))):=(mk e e).bind fun a=>some (replicate a (0:Int))
@[irreducible] def s3:=s2 e
@[irreducible] def IX:=some ()
def y6:Option (Unit):=some ()
@[irreducible] def IY (a:List Int) (b c:Int) (d:List Int):=y6
def pI:Option ((Int×Int×Bool)):=cond (decide ((b.length:Int)<2)) (some (0,0,false)) ((ap (wrap .i64 ((b.length:Int)-2)) (List.length b)).bind fun a=>(b[a]?).bind fun c=>(ap (wrap .i64 ((b.length:Int)-1)) (List.length b)).bind fun d=>(b[d]?).bind fun e=>some (c,e,true))
@[irreducible] def lO (a b:Int) (c d:List Int):=pI d
def y7:Option (Bool):=(idx r (wrap .i64 (e-1))).bind fun a=>cond (a==n) ((lK r e).bind fun b=>(lK z e).bind fun c=>some (b==c)) (some false)
@[irreducible] def s4 (a b:Int) (c:List Int) (d e:Int) (f g:List Int):=y7 a b c f
def y8:Option (Int):=(lO e n z D).bind fun a=>cond (a.2.2) ((s4 (a.1) (a.2.1) r e n z D).bind fun b=>cond b (some 76) (cond (a.2.2) ((s4 (a.2.1) (a.1) r e n z D).bind fun c=>cond c (some 82) (some 83)) (some 83))) (cond (a.2.2) ((s4 (a.2.1) (a.1) r e n z D).bind fun d=>cond d (some 82) (some 83)) (some 83))
@[irreducible] def IZ:=y8 e n r z D
def y9:Option ((Bool×Int×Int×(List Int))):=cond (e==(r.length:Int)) (some (false,e,n,z)) ((room ((List.length z)+List.length ([(wrap .i64 (e+1))]))).bind fun a=>some (true,(wrap .i64 (e+1)),(imax n (List.length (z++([(wrap .i64 (e+1))])):Int)),(z++([(wrap .i64 (e+1))]))))
@[irreducible] def I0:=y9 e n r z
def za:Option (((List Int)×(List Int))):=(ap (wrap .i64 (e-1)) (List.length r)).bind fun a=>(inc (wrap .i64 ((z.length:Int)-2)) (List.length z)).bind fun b=>(room ((b-0)+List.length ([n]))).bind fun c=>some ((r.set a n),(((z.drop 0).take (b-0))++([n])))
@[irreducible] def s5 (a b c d:Int) (e f:List Int):=(za a b e f).map (fun g=>(g.1,g.2))
def zb:Option ((Bool×(List Int)×(List Int))):=(lO e n r z).bind fun a=>cond (a.2.2) ((s5 (a.1) (a.2.1) e n r z).bind fun b=>some ((a.2.2),(b.1),(b.2))) (some ((a.2.2),r,z))
@[irreducible] def I1:=zb e n r z
def zc:Option ((Bool×(List Int)×(List Int))):=(lO e n r z).bind fun a=>cond (a.2.2) ((s5 (a.2.1) (a.1) e n r z).bind fun b=>some ((a.2.2),(b.1),(b.2))) (some ((a.2.2),r,z))
@[irreducible] def I2:=zc e n r z
def I3:Option (((List Int))⊕(ByteArray×Bool)):=(nv b).bind fun a=>cond (!a) (some (Sum.inr (empty,false))) ((s3 (b.length:Int)).bind fun c=>(IX).bind fun d=>(IY b 0 0 c).bind fun e=>some (Sum.inl c))
def I4:Option (Int):=some (wrap .i64 ((wrap .i64 (2*(b.length:Int)))-1))
def pJ:Option ((Int×Int×Int×(List Int)×(List Int)×(List Int))⊕((List Int))):=cond (decide (n<e)) ((IZ o p I z D).bind fun a=>cond (a==83) ((I0 o p z D).bind fun b=>(room ((List.length r)+List.length ([a]))).bind fun c=>some (Sum.inl ((wrap .i64 (n+1)),(b.2.1),(b.2.2.1),(r++([a])),z,(b.2.2.2)))) (cond (a==76) ((I1 o p z D).bind fun d=>(room ((List.length r)+List.length ([a]))).bind fun f=>some (Sum.inl ((wrap .i64 (n+1)),o,p,(r++([a])),(d.2.1),(d.2.2)))) (cond (a==82) ((I2 o p z D).bind fun g=>(room ((List.length r)+List.length ([a]))).bind fun h=>some (Sum.inl ((wrap .i64 (n+1)),o,p,(r++([a])),(g.2.1),(g.2.2)))) (none)))) (some (Sum.inr r))
def Vt:Option (((List Int))):=ai (fun(a:Int×Int×Int×(List Int)×(List Int)×(List Int))=>((pJ e a.1 a.2.1 a.2.2.1 a.2.2.2.1 a.2.2.2.2.1 a.2.2.2.2.2 z).map (Sum.elim (fun b=>Sum.inl (b.1,b.2.1,b.2.2.1,b.2.2.2.1,b.2.2.2.2.1,b.2.2.2.2.2)) (fun b=>Sum.inr b)))) LL (0,0,0,([]:List Int),r,([]:List Int))
def Vu:=(Vt e r z).map (fun a=>a)
def Vv:=(I4 b).bind (fun a=>Vu a r b)
def I5:Option ((ByteArray×Bool)):=some ((bytesOf b),true)
def Vw:=(Vv b r).bind (fun a=>I5 a)
def zd:=(I3 b).bind (Sum.elim (fun a=>Vw b a) (fun c=>some ((fun a=>a) c)))
@[irreducible] def ze:=zd b
def s6:Option (ByteArray):=cond (aE c empty) (some (ByteArray.mk #[110,111,110,101])) (some c)
@[irreducible] def lP:=s6 c
def s7:Option (ByteArray):=(ze b).bind fun a=>(lP (a.1)).bind fun c=>some c
@[irreducible] def zf (a:List Int) (b:List (List Int)):=s7 a
def zg:Option (((List Int))):=(s3 e).bind fun a=>some a
@[irreducible] def I6:=zg e
@[irreducible] def I7:=some ()
def s8:Option ((Int×Int×Bool)):=cond ((((B:Nat):Int))==0) (some (0,0,false)) (cond (G==(I.length:Int)) (some (0,0,false)) ((ap (wrap .i64 ((((B:Nat):Int))-1)) B).bind fun a=>(M[(f+a)]?).bind fun b=>some (b,(wrap .i64 (G+1)),true)))
@[irreducible] def pK (a b:Nat) (c d e:Int) (f g:List Int):=s8 a b c f g
def s9:Option (Bool):=(idx r (wrap .i64 (t-1))).bind fun a=>cond (a==e) (some true) ((idx r (wrap .i64 (e-1))).bind fun b=>some (b==t))
@[irreducible] def zh:=s9 e r t
def I8:Option (Unit):=some ()
def I9:Option (Int):=some (b.length:Int)
def ta:Option (Int⊕Int⊕Unit):=cond (decide (n<e)) ((idx b n).bind fun a=>(zh a r t).bind fun c=>cond c (some (Sum.inr (Sum.inl n))) (some (Sum.inl (wrap .i64 (n+1))))) (some (Sum.inr (Sum.inr ())))
def Vx:Option (Int⊕Unit):=ai (fun(a:Int)=>((ta b e a r t).map (Sum.elim (fun c=>Sum.inl c) (Sum.elim (fun c=>Sum.inr (Sum.inl c)) (fun c=>Sum.inr (Sum.inr c)))))) LL 0
def Vy:=(Vx b e r t).map (Sum.elim (fun a=>(Sum.inr a)) (fun a=>(Sum.inl ())))
def Vz:=(I9 b).bind (fun a=>Vy b a r t)
def VA:Option (Int):=some (-1)
def VB:=(Vz b r t).bind (Sum.elim (fun a=>VA) (fun c=>some ((fun a=>a) c)))
def zi:=(I8).bind (fun a=>VB b r t)
@[irreducible] def Ja:=zi b r t
def zj:Option (Bool):=(Ja b r t).bind fun a=>some (decide (a>=0))
@[irreducible] def Jb:=zj b r t
def tb:Option (Bool):=(inc (wrap .i64 ((((B:Nat):Int))-1)) B).bind fun a=>(Jb ((D.drop (f+0)).take (a-0)) b e).bind fun c=>some c
@[irreducible] def zk (a:List Int) (b:Int) (c d:Nat) (e f g:Int) (h i:List Int):=tb a b c d i
def tc:Option (Int):=(pK f B G J L M N).bind fun a=>cond (!(a.2.2)) (some 83) ((idx b (wrap .i64 ((a.1)-1))).bind fun c=>cond (c==(a.2.1)) (some 76) ((idx b (wrap .i64 ((a.2.1)-1))).bind fun d=>cond (d==(a.1)) (some 82) ((zk b (a.2.1) f B G J L M N).bind fun e=>cond e (some 68) (some 83))))
@[irreducible] def zl:=tc b f B G J L M N
def td:Option ((Bool×Nat×Nat×Int×Int×(List Int))):=cond (G==(M.length:Int)) (some (false,f,B,G,J,N)) ((room (B+List.length ([(wrap .i64 (G+1))]))).bind fun a=>some (true,0,(List.length (((N.drop f).take B)++([(wrap .i64 (G+1))]))),(wrap .i64 (G+1)),(imax J (List.length (((N.drop f).take B)++([(wrap .i64 (G+1))])):Int)),(((N.drop f).take B)++([(wrap .i64 (G+1))]))))
@[irreducible] def pL (a b:Nat) (c d e:Int) (f g:List Int):=td a b c d f g
def Jc:Option (Bool):=some ((dM .u64 e n)==n)
@[irreducible] def Jd:=Jc e n
def te:Option (Bool):=(ku e).bind fun a=>(Jd n a).bind fun b=>some b
@[irreducible] def tf (a:Int) (b c:Nat) (d e f:Int) (g h:List Int):=te a f
def tg:Option ((Int×(List Int))):=(ap (wrap .i64 (e-1)) (List.length r)).bind fun a=>(ku e).bind fun b=>some ((je .u64 o b),(r.set a n))
@[irreducible] def pM (a b:Int) (c d:Nat) (e f g:Int) (h i:List Int):=(tg a b g h).map (fun j=>(j.1,j.2))
def zm:Option ((Nat×Nat)):=(inc (wrap .i64 ((((B:Nat):Int))-1)) B).bind fun a=>some ((f+0),(a-0))
@[irreducible] def th (a b:Nat) (c d e:Int) (f g:List Int):=(zm a b).map (fun h=>(h.1,h.2))
def nw:Option ((Bool×Nat×Nat×Int×(List Int))):=(pK f B G J L M N).bind fun a=>cond (!(a.2.2)) (some (false,f,B,L,M)) ((tf (a.1) f B G J L M N).bind fun b=>cond b (some (false,f,B,L,M)) ((pM (a.1) (a.2.1) f B G J L M N).bind fun c=>(th f B G J (c.1) (c.2) N).bind fun d=>some (true,(d.1),(d.2),(c.1),(c.2))))
@[irreducible] def nx:=nw f B G J L M N
def pN:Option ((Bool×Nat×Nat×Int×Int×Int×(List Int)×(List Int))):=(pK f B G J L M N).bind fun a=>cond (!(a.2.2)) (some (false,f,B,G,J,L,M,N)) ((pM (a.2.1) (a.1) f B G J L M N).bind fun b=>(pL f B G J (b.1) (b.2) N).bind fun c=>some ((c.1),(c.2.1),(c.2.2.1),(c.2.2.2.1),(c.2.2.2.2.1),(b.1),(b.2),(c.2.2.2.2.2)))
@[irreducible] def pO:=pN f B G J L M N
def tj:Option ((Bool×Nat×Nat)):=cond ((((B:Nat):Int))==0) (some (false,f,B)) ((ap (wrap .i64 ((((B:Nat):Int))-1)) B).bind fun a=>(N[(f+a)]?).bind fun b=>(tf b f B G J L M N).bind fun c=>cond (!c) (some (false,f,B)) ((th f B G J L M N).bind fun d=>some (true,(d.1),(d.2))))
@[irreducible] def pP:=tj f B G J L M N
def Je:Option ((Nat×(List Int))⊕(ByteArray×Bool)):=(nv b).bind fun a=>cond (!a) (some (Sum.inr (empty,false))) ((I6 (b.length:Int)).bind fun c=>(I7).bind fun d=>some (Sum.inl ((List.length ([]:List Int)),c)))
def pQ:Option ((Nat×Nat×Int×Int×Int×(List Int)×(List Int)×(List Int))⊕((List Int))):=cond (decide (G<(b.length:Int))) ((zl b f B G J L N O).bind fun a=>cond (a==83) ((pL f B G J L N O).bind fun c=>(room ((List.length M)+List.length ([a]))).bind fun d=>some (Sum.inl ((c.2.1),(c.2.2.1),(c.2.2.2.1),(c.2.2.2.2.1),L,(M++([a])),N,(c.2.2.2.2.2)))) (cond (a==76) ((nx f B G J L N O).bind fun e=>(room ((List.length M)+List.length ([a]))).bind fun g=>some (Sum.inl ((e.2.1),(e.2.2.1),G,J,(e.2.2.2.1),(M++([a])),(e.2.2.2.2),O))) (cond (a==82) ((pO f B G J L N O).bind fun h=>(room ((List.length M)+List.length ([a]))).bind fun i=>some (Sum.inl ((h.2.1),(h.2.2.1),(h.2.2.2.1),(h.2.2.2.2.1),(h.2.2.2.2.2.1),(M++([a])),(h.2.2.2.2.2.2.1),(h.2.2.2.2.2.2.2)))) (cond (a==68) ((pP f B G J L N O).bind fun j=>(room ((List.length M)+List.length ([a]))).bind fun k=>some (Sum.inl ((j.2.1),(j.2.2),G,J,L,(M++([a])),N,O))) (none))))) (some (Sum.inr M))
def VC:Option (((List Int))):=ai (fun(a:Nat×Nat×Int×Int×Int×(List Int)×(List Int)×(List Int))=>((pQ b a.1 a.2.1 a.2.2.1 a.2.2.2.1 a.2.2.2.2.1 a.2.2.2.2.2.1 a.2.2.2.2.2.2.1 a.2.2.2.2.2.2.2).map (Sum.elim (fun c=>Sum.inl (c.1,c.2.1,c.2.2.1,c.2.2.2.1,c.2.2.2.2.1,c.2.2.2.2.2.1,c.2.2.2.2.2.2.1,c.2.2.2.2.2.2.2)) (fun c=>Sum.inr c)))) LL (0,f,0,0,0,([]:List Int),r,([]:List Int))
def VD:=(VC b f r).map (fun a=>a)
def Jf:Option ((ByteArray×Bool)):=some ((bytesOf b),true)
def VE:=(VD b f r).bind (fun a=>Jf a)
def zn:=(Je b).bind (Sum.elim (fun a=>VE b a.1 a.2) (fun c=>some ((fun a=>a) c)))
@[irreducible] def zo:=zn b
def tk:Option (ByteArray):=(zo b).bind fun a=>(lP (a.1)).bind fun c=>some c
@[irreducible] def zp (a:List Int) (b:List (List Int)):=tk a
def Jg:Option (Unit):=some ()
@[irreducible] def VF (a b c d e f g h i j k l m n:Int):=Jg
def VG:Option (Unit):=some ()
def VH:Option (Unit):=some ()
def VI (a b c d e f g h i j k l m n o p q r:Int):Option ((Int×Int)⊕Int):=cond (decide (d<c)) ((ap d 7).bind fun s=>([e,f,g,h,i,j,k,l,m,n,o,p,q,r][s]?).bind fun t=>(ap (wrap .i64 (a-d)) 7).bind fun u=>([l,m,n,o,p,q,r][u]?).bind fun v=>some (Sum.inl ((wrap .i64 (b+(wrap .i64 (t*v)))),(wrap .i64 (d+1))))) (some (Sum.inr b))
def afP (a b c d e f g h i j k l m n o p:Int):Option (Int):=ai (fun(q:Int×Int)=>((VI a q.1 b q.2 c d e f g h i j k l m n o p).map (Sum.elim (fun r=>Sum.inl (r.1,r.2)) (fun r=>Sum.inr r)))) LL (0,0)
def afQ (a b c d e f g h i j k l m n o p:Int):=(afP a b c d e f g h i j k l m n o p).map (fun q=>q)
def afR (a b c d e f g h i j k l m n o p:Int):=(VH).bind (fun q=>afQ a b c d e f g h i j k l m n o p)
def VJ:Option (Int):=some e
def afS (a b c d e f g h i j k l m n o p:Int):=(afR a b c d e f g h i j k l m n o p).bind (fun q=>VJ q)
def VK (a b c d e f g h i j k l m n o p:Int):=(VG).bind (fun q=>afS o p a b c d e f g h i j k l m n)
@[irreducible] def VL (a b c d e f g h i j k l m n o p:Int):=VK a b c d e f g h i j k l m n o p
def Jh (a b c d e f g h i j k l m n o:Int):Option (Int):=(VL a b c d e f g h i j k l m n o (wrap .i64 (o+1))).bind fun p=>some p
@[irreducible] def VM (a b c d e f g h i j k l m n o:Int):=Jh a b c d e f g h i j k l m n o
def Ji:Option (Unit):=some ()
@[irreducible] def VN (a b c d e f g h i j k l m n:Int):=Ji
def VO:Option ((Int×Int×Int×Int×Int×Int×Int)):=(ap 0 7).bind fun a=>(within a 7).bind fun b=>some ((cond (a==0) 1 0),(cond (a==1) 1 0),(cond (a==2) 1 0),(cond (a==3) 1 0),(cond (a==4) 1 0),(cond (a==5) 1 0),(cond (a==6) 1 0))
def VP:Option (Unit):=some ()
def VQ (a b c d e f g h i j k l m n o:Int):Option ((Int×Int×Int×Int×Int×Int×Int×Int×Int×Int×Int×Int×Int×Int×Int)⊕(Int×Int×Int×Int×Int×Int×Int×Int×Int×Int×Int×Int×Int×Int)):=cond (decide (a<=6)) ((VF b c d e f g h i j k l m n o).bind fun p=>(VM i j k l m n o i j k l m n o (wrap .i64 (a-1))).bind fun q=>(ap a 7).bind fun r=>(within r 14).bind fun s=>(VN (cond (r==0) q b) (cond (r==1) q c) (cond (r==2) q d) (cond (r==3) q e) (cond (r==4) q f) (cond (r==5) q g) (cond (r==6) q h) (cond (r==7) q i) (cond (r==8) q j) (cond (r==9) q k) (cond (r==10) q l) (cond (r==11) q m) (cond (r==12) q n) (cond (r==13) q o)).bind fun t=>(VM (cond (r==0) q b) (cond (r==1) q c) (cond (r==2) q d) (cond (r==3) q e) (cond (r==4) q f) (cond (r==5) q g) (cond (r==6) q h) (cond (r==7) q i) (cond (r==8) q j) (cond (r==9) q k) (cond (r==10) q l) (cond (r==11) q m) (cond (r==12) q n) (cond (r==13) q o) a).bind fun u=>(ap a 7).bind fun v=>(within v 7).bind fun w=>some (Sum.inl ((wrap .i64 (a+1)),(cond (r==0) q b),(cond (r==1) q c),(cond (r==2) q d),(cond (r==3) q e),(cond (r==4) q f),(cond (r==5) q g),(cond (r==6) q h),(cond (v==0) u (cond (r==7) q i)),(cond (v==1) u (cond (r==8) q j)),(cond (v==2) u (cond (r==9) q k)),(cond (v==3) u (cond (r==10) q l)),(cond (v==4) u (cond (r==11) q m)),(cond (v==5) u (cond (r==12) q n)),(cond (v==6) u (cond (r==13) q o))))) (some (Sum.inr (b,c,d,e,f,g,h,i,j,k,l,m,n,o)))
def afT:Option ((Int×Int×Int×Int×Int×Int×Int×Int×Int×Int×Int×Int×Int×Int)):=ai (fun(a:Int×Int×Int×Int×Int×Int×Int×Int×Int×Int×Int×Int×Int×Int×Int)=>((VQ a.1 a.2.1 a.2.2.1 a.2.2.2.1 a.2.2.2.2.1 a.2.2.2.2.2.1 a.2.2.2.2.2.2.1 a.2.2.2.2.2.2.2.1 a.2.2.2.2.2.2.2.2.1 a.2.2.2.2.2.2.2.2.2.1 a.2.2.2.2.2.2.2.2.2.2.1 a.2.2.2.2.2.2.2.2.2.2.2.1 a.2.2.2.2.2.2.2.2.2.2.2.2.1 a.2.2.2.2.2.2.2.2.2.2.2.2.2.1 a.2.2.2.2.2.2.2.2.2.2.2.2.2.2).map (Sum.elim (fun b=>Sum.inl (b.1,b.2.1,b.2.2.1,b.2.2.2.1,b.2.2.2.2.1,b.2.2.2.2.2.1,b.2.2.2.2.2.2.1,b.2.2.2.2.2.2.2.1,b.2.2.2.2.2.2.2.2.1,b.2.2.2.2.2.2.2.2.2.1,b.2.2.2.2.2.2.2.2.2.2.1,b.2.2.2.2.2.2.2.2.2.2.2.1,b.2.2.2.2.2.2.2.2.2.2.2.2.1,b.2.2.2.2.2.2.2.2.2.2.2.2.2.1,b.2.2.2.2.2.2.2.2.2.2.2.2.2.2)) (fun b=>Sum.inr b)))) LL (1,0,0,0,0,0,0,0,e,n,o,p,t,u,v)
def afU:=(afT e n o p t u v).map (fun a=>(a.1,a.2.1,a.2.2.1,a.2.2.2.1,a.2.2.2.2.1,a.2.2.2.2.2.1,a.2.2.2.2.2.2.1,a.2.2.2.2.2.2.2.1,a.2.2.2.2.2.2.2.2.1,a.2.2.2.2.2.2.2.2.2.1,a.2.2.2.2.2.2.2.2.2.2.1,a.2.2.2.2.2.2.2.2.2.2.2.1,a.2.2.2.2.2.2.2.2.2.2.2.2.1,a.2.2.2.2.2.2.2.2.2.2.2.2.2))
def afV:=(VP).bind (fun a=>afU e n o p t u v)
def VR (a b c d e f g h i j k l m n:Int):Option ((Int×Int×Int×Int×Int×Int×Int×Int×Int×Int×Int×Int×Int×Int)):=some (a,b,c,d,e,f,g,h,i,j,k,l,m,n)
def afW:=(afV e n o p t u v).bind (fun a=>VR a.1 a.2.1 a.2.2.1 a.2.2.2.1 a.2.2.2.2.1 a.2.2.2.2.2.1 a.2.2.2.2.2.2.1 a.2.2.2.2.2.2.2.1 a.2.2.2.2.2.2.2.2.1 a.2.2.2.2.2.2.2.2.2.1 a.2.2.2.2.2.2.2.2.2.2.1 a.2.2.2.2.2.2.2.2.2.2.2.1 a.2.2.2.2.2.2.2.2.2.2.2.2.1 a.2.2.2.2.2.2.2.2.2.2.2.2.2)
def VS:=(VO).bind (fun a=>afW a.1 a.2.1 a.2.2.1 a.2.2.2.1 a.2.2.2.2.1 a.2.2.2.2.2.1 a.2.2.2.2.2.2)
@[irreducible] def VT:=VS
def Jj (a b c d e f g h i j k l m n o p q r:Int):Option (Int):=(ap q 7).bind fun s=>([h,i,j,k,l,m,n][s]?).bind fun t=>(VL a b c d e f g h i j k l m n (wrap .i64 (o+q)) o).bind fun u=>some (wrap .i64 ((wrap .i64 (u+(wrap .i64 (p*t))))+r))
@[irreducible] def VU (a b c d e f g h i j k l m n o p q r:Int):=Jj a b c d e f g h i j k l m n o p q r
def Jk (R0:Int->Int->Int->Int->Int->Int->Int->Int->Int->Int->Int->Int->Int->Int->(List Int)->Int->Option (Int×Int)) (R1:Int->Int->Int->Int->Int->Int->Int->Int->Int->Int->Int->Int->Int->Int->(List Int)->(List Int)->Option (Int×Int)) (a b c d e f g h i j k l m n:Int) (o:List Int) (p:Int):Option ((Int×Int)):=(sk o p).bind fun q=>(jt (q.1)).bind fun r=>(R1 a b c d e f g h i j k l m n o r).bind fun s=>(jt (q.2)).bind fun t=>(R1 a b c d e f g h i j k l m n o t).bind fun u=>(VF a b c d e f g h i j k l m n).bind fun v=>(VU h i j k l m n h i j k l m n (s.1) (s.2) (u.1) (u.2)).bind fun w=>some ((wrap .i64 ((wrap .i64 ((s.1)+1))+(u.1))),w)
def afX (R0:Int->Int->Int->Int->Int->Int->Int->Int->Int->Int->Int->Int->Int->Int->(List Int)->Int->Option (Int×Int)) (R1:Int->Int->Int->Int->Int->Int->Int->Int->Int->Int->Int->Int->Int->Int->(List Int)->(List Int)->Option (Int×Int)) (a b c d e f g h i j k l m n:Int) (o:List Int) (p:Int):Option (Int×Int):=Jk R0 R1 a b c d e f g h i j k l m n o p
def Jl (R0:Int->Int->Int->Int->Int->Int->Int->Int->Int->Int->Int->Int->Int->Int->(List Int)->Int->Option (Int×Int)) (R1:Int->Int->Int->Int->Int->Int->Int->Int->Int->Int->Int->Int->Int->Int->(List Int)->(List Int)->Option (Int×Int)) (a b c d e f g h i j k l m n:Int) (o p:List Int):Option ((Int×Int)):=cond ((p.length:Int)==0) (some (0,0)) ((idx p 0).bind fun q=>(R0 a b c d e f g h i j k l m n o q).bind fun r=>(inc 1 (List.length p)).bind fun s=>(R1 a b c d e f g h i j k l m n o ((p.take (List.length p)).drop s)).bind fun t=>(VN a b c d e f g h i j k l m n).bind fun u=>(VU a b c d e f g h i j k l m n (r.1) (r.2) (t.1) (t.2)).bind fun v=>some ((wrap .i64 ((r.1)+(t.1))),v))
def afY (R0:Int->Int->Int->Int->Int->Int->Int->Int->Int->Int->Int->Int->Int->Int->(List Int)->Int->Option (Int×Int)) (R1:Int->Int->Int->Int->Int->Int->Int->Int->Int->Int->Int->Int->Int->Int->(List Int)->(List Int)->Option (Int×Int)) (a b c d e f g h i j k l m n:Int) (o p:List Int):Option (Int×Int):=Jl R0 R1 a b c d e f g h i j k l m n o p
def lQ:Nat->(Int->Int->Int->Int->Int->Int->Int->Int->Int->Int->Int->Int->Int->Int->(List Int)->Int->Option (Int×Int))×(Int->Int->Int->Int->Int->Int->Int->Int->Int->Int->Int->Int->Int->Int->(List Int)->(List Int)->Option (Int×Int))
 |0=>((fun _ _ _ _ _ _ _ _ _ _ _ _ _ _ _ _=>none),(fun _ _ _ _ _ _ _ _ _ _ _ _ _ _ _ _=>none))
 |n+1=>((fun P Q X Y Z a0 a1 a2 a3 a4 R S T U V W=>afX (lQ n).1 (lQ n).2 P Q X Y Z a0 a1 a2 a3 a4 R S T U V W),(fun P Q X Y Z a0 a1 a2 a3 a4 R S T U V W=>afY (lQ n).1 (lQ n).2 P Q X Y Z a0 a1 a2 a3 a4 R S T U V W))
def pR (n:Nat):Int->Int->Int->Int->Int->Int->Int->Int->Int->Int->Int->Int->Int->Int->(List Int)->Int->Option (Int×Int):=(lQ n).1
@[irreducible] def zq (a b c d e f g h i j k l m n:Int) (o:List Int) (p:Int):=pR RR a b c d e f g h i j k l m n o p
def pS (n:Nat):Int->Int->Int->Int->Int->Int->Int->Int->Int->Int->Int->Int->Int->Int->(List Int)->(List Int)->Option (Int×Int):=(lQ n).2
@[irreducible] def VV (a b c d e f g h i j k l m n:Int) (o p:List Int):=pS RR a b c d e f g h i j k l m n o p
def zr:Option (Int):=cond (decide ((b.length:Int)>6)) (some (-1)) ((nv b).bind fun a=>cond (!a) (some (-1)) ((VT).bind fun c=>(px b).bind fun d=>(zq (c.1) (c.2.1) (c.2.2.1) (c.2.2.2.1) (c.2.2.2.2.1) (c.2.2.2.2.2.1) (c.2.2.2.2.2.2.1) (c.2.2.2.2.2.2.2.1) (c.2.2.2.2.2.2.2.2.1) (c.2.2.2.2.2.2.2.2.2.1) (c.2.2.2.2.2.2.2.2.2.2.1) (c.2.2.2.2.2.2.2.2.2.2.2.1) (c.2.2.2.2.2.2.2.2.2.2.2.2.1) (c.2.2.2.2.2.2.2.2.2.2.2.2.2) b d).bind fun e=>some (e.2)))
@[irreducible] def Jm:=zr b
def tl:Option (ByteArray):=(Jm b).bind fun a=>cond (decide (a<0)) ((lP empty).bind fun c=>some c) ((strconv_Itoa a).bind fun d=>some d)
@[irreducible] def zt (a:List Int) (b:List (List Int)):=tl a
def tm:Option (Bool):=cond (decide ((((ByteArray.size c:Nat):Int))>=(((ByteArray.size h:Nat):Int)))) ((inc (((ByteArray.size h:Nat):Int)) (ByteArray.size c)).bind fun a=>some (aE (c.extract 0 a) h)) (some false)
@[irreducible] def zu:=tm c h
def tn:Option ((ByteArray×Bool)):=(zu c h).bind fun a=>cond (!a) (some (c,false)) ((inc (((ByteArray.size h:Nat):Int)) (ByteArray.size c)).bind fun b=>some ((c.extract b (ByteArray.size c)),true))
@[irreducible] def Jn:=tn c h
def to:Option ((ByteArray×Bool)):=(Jn c h).bind fun a=>some ((a.1),(a.2))
@[irreducible] def tp:=to c h
def zv:Option (Bool):=(fj b).bind fun a=>cond a (cond (decide (e>=1)) (some (decide (e<=(b.length:Int)))) (some false)) (some false)
@[irreducible] def zw:=zv b e
def tq:Option (((List Int))):=(zw b e).bind fun a=>cond (!a) (some ([]:List Int)) ((lM b).bind fun c=>(ap (wrap .i64 (e-1)) (List.length c)).bind fun d=>(c[d]?).bind fun f=>(jt f).bind fun g=>some g)
@[irreducible] def zx:=tq b e
def tr:Option (ByteArray):=(strconv_Atoi c).bind fun a=>cond (a.2) (some (ByteArray.mk #[119,104,97,116])) (cond (decide ((a.1)<0)) (some (ByteArray.mk #[119,104,97,116])) (cond (decide ((a.1)>999999)) (some (ByteArray.mk #[119,104,97,116])) ((strconv_Itoa (a.1)).bind fun d=>cond (!(aE d c)) (some (ByteArray.mk #[119,104,97,116])) ((zx b (a.1)).bind fun e=>(nu e).bind fun f=>(lP f).bind fun g=>some g))))
@[irreducible] def zy (a:List Int) (b:List (List Int)) (c:ByteArray):=tr a c
def ts:Option (ByteArray):=(Hl).bind fun a=>cond (y==(ByteArray.mk #[104,101,97,100,115])) ((Hp b w).bind fun c=>some c) (cond (y==(ByteArray.mk #[100,101,112,116,104,115])) ((yb b w).bind fun d=>some d) (cond (y==(ByteArray.mk #[111,114,100,101,114])) ((yg b w).bind fun e=>some e) (cond (y==(ByteArray.mk #[114,111,111,116])) ((HL b w).bind fun f=>some f) (cond (y==(ByteArray.mk #[99,114,111,115,115,105,110,103,115])) ((HX b w).bind fun g=>some g) (cond (y==(ByteArray.mk #[103,97,112,115])) ((H8 b w).bind fun h=>some h) (cond (y==(ByteArray.mk #[101,120,99,104,97,110,103,101,115])) ((Il b w).bind fun i=>some i) (cond (y==(ByteArray.mk #[108,101,110,103,116,104])) ((Iq b w).bind fun j=>some j) (cond (y==(ByteArray.mk #[108,101,97,115,116])) ((ID b w).bind fun k=>some k) (cond (y==(ByteArray.mk #[97,112,97,114,116])) ((IJ b w).bind fun l=>some l) (cond (y==(ByteArray.mk #[112,114,111,106,101,99,116,105,118,101])) ((IQ b w).bind fun m=>some m) (cond (y==(ByteArray.mk #[110,101,115,116,101,100])) ((IW b w).bind fun n=>some n) (cond (y==(ByteArray.mk #[109,111,118,101,115])) ((zf b w).bind fun o=>some o) (cond (y==(ByteArray.mk #[101,97,103,101,114])) ((zp b w).bind fun p=>some p) (cond (y==(ByteArray.mk #[112,108,97,99,101])) ((zt b w).bind fun q=>some q) ((tp y (ByteArray.mk #[121,105,101,108,100,32])).bind fun r=>cond (r.2) ((zy b w (r.1)).bind fun s=>some s) (some (ByteArray.mk #[119,104,97,116])))))))))))))))))
@[irreducible] def zz:=ts b w y
def tt:Option ((Bool×(List Int)×(List (List Int)))):=cond (decide ((wrap .i64 ((w.length:Int)-1))<0)) ((js b ([]:List (List Int))).bind fun a=>some (false,(a.1),(a.2))) ((idx w (wrap .i64 ((w.length:Int)-1))).bind fun c=>(inc (wrap .i64 ((w.length:Int)-1)) (List.length w)).bind fun d=>(js c ((w.take d).drop 0)).bind fun e=>some (true,(e.1),(e.2)))
@[irreducible] def zA:=tt b w
def Jo:Option (((List Int))):=(mk e e).bind fun a=>some (replicate a (0:Int))
def Jp:Option (Int):=some (b.length:Int)
def tu:Option ((Int×(List Int))⊕((List Int))):=cond (decide (o<n)) ((ap o (List.length r)).bind fun a=>some (Sum.inl ((wrap .i64 (o+1)),(r.set a (wrap .i64 (e-o)))))) (some (Sum.inr r))
def VW:Option (((List Int))):=ai (fun(a:Int×(List Int))=>((tu e n a.1 a.2).map (Sum.elim (fun b=>Sum.inl (b.1,b.2)) (fun b=>Sum.inr b)))) LL (0,r)
def VX:=(VW e n r).map (fun a=>a)
def VY:=(Jp r).bind (fun a=>VX e a r)
def Jq:Option (((List Int))):=some b
def VZ:=(VY e r).bind (fun a=>Jq a)
def zB:=(Jo e).bind (fun a=>VZ e a)
@[irreducible] def zC:=zB e
def Jr:Option (((List Int))):=(mk (wrap .i64 ((b.length:Int)+1)) (wrap .i64 ((b.length:Int)+1))).bind fun a=>some (replicate a (0:Int))
def Js:Option (Int):=some (b.length:Int)
def tv:Option ((Int×(List Int))⊕((List Int))):=cond (decide (n<e)) ((idx b n).bind fun a=>(ap a (List.length r)).bind fun c=>some (Sum.inl ((wrap .i64 (n+1)),(r.set c (wrap .i64 (n+1)))))) (some (Sum.inr r))
def V0:Option (((List Int))):=ai (fun(a:Int×(List Int))=>((tv b e a.1 a.2).map (Sum.elim (fun c=>Sum.inl (c.1,c.2)) (fun c=>Sum.inr c)))) LL (0,r)
def V1:=(V0 b e r).map (fun a=>a)
def V2:=(Js b).bind (fun a=>V1 b a r)
def Jt:Option (((List Int))):=some b
def V3:=(V2 b r).bind (fun a=>Jt a)
def Ju:=(Jr b).bind (fun a=>V3 b a)
@[irreducible] def Jv:=Ju b
def zD:Option (Int):=(ap e (List.length r)).bind fun a=>(r[a]?).bind fun b=>some b
@[irreducible] def Jw:=zD e r
def Jx:Option (((List Int))):=(mk (b.length:Int) (b.length:Int)).bind fun a=>some (replicate a (0:Int))
def Jy:Option (Int):=some (b.length:Int)
def zE:Option ((Int×(List Int))⊕((List Int))):=cond (decide (u<t)) ((idx r u).bind fun a=>(idx b (wrap .i64 (a-1))).bind fun c=>(Jw c z).bind fun d=>(ap u (List.length D)).bind fun e=>some (Sum.inl ((wrap .i64 (u+1)),(D.set e d)))) (some (Sum.inr D))
def V4:Option (((List Int))):=ai (fun(a:Int×(List Int))=>((zE b r t a.1 z a.2).map (Sum.elim (fun c=>Sum.inl (c.1,c.2)) (fun c=>Sum.inr c)))) LL (0,D)
def V5:=(V4 b r t z D).map (fun a=>a)
def V6:=(Jy r).bind (fun a=>V5 b r a z D)
def Jz:Option (((List Int))):=some b
def V7:=(V6 b r z D).bind (fun a=>Jz a)
def JA:=(Jx r).bind (fun a=>V7 b r z a)
@[irreducible] def V8:=JA b r z
def zF:Option ((Bool×(List Int))):=(fj b).bind fun a=>cond (!a) (some (false,([]:List Int))) ((yx r (b.length:Int)).bind fun c=>cond (!c) (some (false,([]:List Int))) ((Jv r).bind fun d=>(V8 b r d).bind fun e=>some (true,e)))
@[irreducible] def zG:=zF b r
def tw:Option (((List Int))):=(fj b).bind fun a=>cond (!a) (some ([]:List Int)) ((zC (b.length:Int)).bind fun c=>(zG b c).bind fun d=>some (d.2))
@[irreducible] def zH:=tw b
def tx:Option (((List Int))):=(pz b).bind fun a=>(zG b a).bind fun c=>some (c.2)
@[irreducible] def zI:=tx b
def tz:Option (((List Int))):=cond (e==0) ((zw b n).bind fun a=>cond (!a) (some ([]:List Int)) ((nt b).bind fun c=>(ap (wrap .i64 (n-1)) (List.length c)).bind fun d=>some (c.set d o))) (cond (e==1) ((nt b).bind fun f=>(room ((List.length f)+List.length ([n]))).bind fun g=>some (f++([n]))) (cond (e==2) ((inc (wrap .i64 ((b.length:Int)-1)) (List.length b)).bind fun h=>(nt ((b.take h).drop 0)).bind fun i=>some i) (cond (e==3) ((zH b).bind fun j=>some j) (cond (e==4) ((zI b).bind fun k=>some k) (some ([]:List Int))))))
@[irreducible] def zJ:=tz b e n o
def JB:Option (Unit⊕Bool):=cond ((b.length:Int) !=(r.length:Int)) (some (Sum.inr false)) (some (Sum.inl ()))
def JC:Option (Int):=some (b.length:Int)
def pT:Option (Int⊕Bool⊕Unit):=cond (decide (u<t)) ((idx b u).bind fun a=>(idx r u).bind fun c=>cond (a !=c) (some (Sum.inr (Sum.inl false))) (some (Sum.inl (wrap .i64 (u+1))))) (some (Sum.inr (Sum.inr ())))
def V9:Option (Bool⊕Unit):=ai (fun(a:Int)=>((pT b r t a).map (Sum.elim (fun c=>Sum.inl c) (Sum.elim (fun c=>Sum.inr (Sum.inl c)) (fun c=>Sum.inr (Sum.inr c)))))) LL 0
def Wa:=(V9 b r t).map (Sum.elim (fun a=>(Sum.inr a)) (fun a=>(Sum.inl ())))
def Wb:=(JC b).bind (fun a=>Wa b r a)
def Wc:Option (Bool):=some true
def Wd:=(Wb b r).bind (Sum.elim (fun a=>Wc) (fun c=>some ((fun a=>a) c)))
def zK:=(JB b r).bind (Sum.elim (fun a=>Wd b r) (fun c=>some ((fun a=>a) c)))
@[irreducible] def zL:=zK b r
def JD:Option (List (List Int)):=oV w
def tA:Option ((Bool×(List Int)×(List (List Int)))):=(zJ b x G J).bind fun a=>(fj a).bind fun c=>cond (!c) ((js b w).bind fun d=>some (false,(d.1),(d.2))) ((zL a b).bind fun e=>cond e ((js b w).bind fun f=>some (false,(f.1),(f.2))) ((JD w).bind fun g=>(room ((List.length g)+List.length ([b]))).bind fun h=>(inc (imax 0 (wrap .i64 ((List.length (g++([b])):Int)-8))) (List.length (g++([b])))).bind fun i=>(js a (((g++([b])).drop i).take ((List.length (g++([b])))-i))).bind fun j=>some (true,(j.1),(j.2))))
@[irreducible] def zM:=tA b w x G J
def tB:Option ((Bool×(List Int)×(List (List Int)))):=(r6 b w).bind fun a=>cond (!a) (some (false,([]:List Int),([]:List (List Int)))) ((x1 x G J).bind fun c=>cond (!c) ((js b w).bind fun d=>some (false,(d.1),(d.2))) (cond (x==5) ((zA b w).bind fun e=>some ((e.1),(e.2.1),(e.2.2))) ((zM b w x G J).bind fun f=>some ((f.1),(f.2.1),(f.2.2)))))
@[irreducible] def zN:=tB b w x G J
def tC:Option ((ByteArray×(List Int)×(List (List Int)))):=(r6 b w).bind fun a=>cond (!a) (some (empty,([]:List Int),([]:List (List Int)))) ((sd y).bind fun c=>cond (!(c.1)) ((js b w).bind fun d=>(zz b w y).bind fun e=>some (e,(d.1),(d.2))) ((zN b w (c.2.1) (c.2.2.1) (c.2.2.2)).bind fun f=>cond (!(f.1)) (some ((ByteArray.mk #[110,111,116]),(f.2.1),(f.2.2))) (some ((ByteArray.mk #[111,107]),(f.2.1),(f.2.2)))))
@[irreducible] def tD:=tC b w y
def JE:Option (Unit⊕Bool):=cond ((b.length:Int) !=(r.length:Int)) (some (Sum.inr false)) (some (Sum.inl ()))
def JF:Option (Unit):=some ()
def tE:Option (Int⊕Bool⊕Unit):=cond (decide (t<(b.length:Int))) ((idx b t).bind fun a=>(idx r t).bind fun c=>cond (a !=c) (some (Sum.inr (Sum.inl false))) (some (Sum.inl (wrap .i64 (t+1))))) (some (Sum.inr (Sum.inr ())))
def We:Option (Bool⊕Unit):=ai (fun(a:Int)=>((tE b r a).map (Sum.elim (fun c=>Sum.inl c) (Sum.elim (fun c=>Sum.inr (Sum.inl c)) (fun c=>Sum.inr (Sum.inr c)))))) LL 0
def Wf:=(We b r).map (Sum.elim (fun a=>(Sum.inr a)) (fun a=>(Sum.inl ())))
def Wg:=(JF).bind (fun a=>Wf b r)
def JG:Option (Bool):=some true
def Wh:=(Wg b r).bind (Sum.elim (fun a=>JG) (fun c=>some ((fun a=>a) c)))
def JH:=(JE b r).bind (Sum.elim (fun a=>Wh b r) (fun c=>some ((fun a=>a) c)))
@[irreducible] def zO:=JH b r
def JI:Option (Unit⊕Bool):=cond ((w.length:Int) !=(E.length:Int)) (some (Sum.inr false)) (some (Sum.inl ()))
def JJ:Option (Unit):=some ()
def tF:Option (Int⊕Bool⊕Unit):=cond (decide (G<(w.length:Int))) ((idx w G).bind fun a=>(idx E G).bind fun b=>(zO a b).bind fun c=>cond (!c) (some (Sum.inr (Sum.inl false))) (some (Sum.inl (wrap .i64 (G+1))))) (some (Sum.inr (Sum.inr ())))
def Wi:Option (Bool⊕Unit):=ai (fun(a:Int)=>((tF w E a).map (Sum.elim (fun b=>Sum.inl b) (Sum.elim (fun b=>Sum.inr (Sum.inl b)) (fun b=>Sum.inr (Sum.inr b)))))) LL 0
def Wj:=(Wi w E).map (Sum.elim (fun a=>(Sum.inr a)) (fun a=>(Sum.inl ())))
def Wk:=(JJ).bind (fun a=>Wj w E)
def JK:Option (Bool):=some true
def Wl:=(Wk w E).bind (Sum.elim (fun a=>JK) (fun b=>some ((fun a=>a) b)))
def zP:=(JI w E).bind (Sum.elim (fun a=>Wl w E) (fun b=>some ((fun a=>a) b)))
@[irreducible] def zQ:=zP w E
def zR:Option (Bool):=(zO b z).bind fun a=>cond (!a) (some false) ((zQ w E).bind fun c=>cond (!c) (some false) (some true))
@[irreducible] def pU:=zR b w z E
def JL:Option (Unit):=some ()
def JM:Option (Unit):=some ()
def zS:Option ((Int×Int×(List Int))⊕(Int×(List Int))):=cond (decide (n<(r.length:Int))) ((ap n (List.length r)).bind fun a=>some (Sum.inl ((wrap .i64 (e+1)),(wrap .i64 (n+1)),(r.set a e)))) (some (Sum.inr (e,r)))
def Wm:Option ((Int×(List Int))):=ai (fun(a:Int×Int×(List Int))=>((zS a.1 a.2.1 a.2.2).map (Sum.elim (fun b=>Sum.inl (b.1,b.2.1,b.2.2)) (fun b=>Sum.inr b)))) LL (e,0,r)
def Wn:=(Wm e r).map (fun a=>(a.1,a.2))
def Wo:=(JM).bind (fun a=>Wn e r)
def JN:Option ((Int×(List Int))):=some (e,r)
def Wp:=(Wo e r).bind (fun a=>JN a.1 a.2)
def JO:=(JL).bind (fun a=>Wp e r)
@[irreducible] def tG:=JO e r
def JP:Option (Unit):=some ()
def JQ:Option (Unit):=some ()
def tH:Option ((Int×Int×(List (List Int)))⊕(Int×(List (List Int)))):=cond (decide (n<(w.length:Int))) ((ap n (List.length w)).bind fun a=>((w)[a]?).bind fun b=>(tG e b).bind fun c=>some (Sum.inl ((c.1),(wrap .i64 (n+1)),((((w).set a [])).set a (c.2))))) (some (Sum.inr (e,w)))
def Wq:Option ((Int×(List (List Int)))):=ai (fun(a:Int×Int×(List (List Int)))=>((tH a.1 a.2.1 a.2.2).map (Sum.elim (fun b=>Sum.inl (b.1,b.2.1,b.2.2)) (fun b=>Sum.inr b)))) LL (e,0,w)
def Wr:=(Wq e w).map (fun a=>(a.1,a.2))
def Ws:=(JQ).bind (fun a=>Wr e w)
def JR:Option ((Int×(List (List Int)))):=some (e,w)
def Wt:=(Ws e w).bind (fun a=>JR a.1 a.2)
def zT:=(JP).bind (fun a=>Wt e w)
@[irreducible] def zU:=zT e w
def zV:Option ((Int×(List Int)×(List (List Int)))):=(tG e r).bind fun a=>(zU (a.1) w).bind fun b=>some ((b.1),(a.2),(b.2))
@[irreducible] def zW:=zV e r w
def JS:Option (Unit):=some ()
def JT:Option (Unit):=some ()
def zX:Option ((Int×Int)⊕Int⊕Int):=cond (decide (n<(b.length:Int))) ((idx b n).bind fun a=>cond (a !=e) (some (Sum.inr (Sum.inl (-1)))) (some (Sum.inl ((wrap .i64 (e+1)),(wrap .i64 (n+1)))))) (some (Sum.inr (Sum.inr e)))
def Wu:Option (Int⊕Int):=ai (fun(a:Int×Int)=>((zX b a.1 a.2).map (Sum.elim (fun c=>Sum.inl (c.1,c.2)) (Sum.elim (fun c=>Sum.inr (Sum.inl c)) (fun c=>Sum.inr (Sum.inr c)))))) LL (e,0)
def Wv:=(Wu b e).map (Sum.elim (fun a=>(Sum.inr a)) (fun a=>(Sum.inl a)))
def Ww:=(JT).bind (fun a=>Wv b e)
def JU:Option (Int):=some e
def Wx:=(Ww b e).bind (Sum.elim (fun a=>JU a) (fun c=>some ((fun a=>a) c)))
def JV:=(JS).bind (fun a=>Wx b e)
@[irreducible] def tI:=JV b e
def JW:Option (Unit):=some ()
def JX:Option (Unit):=some ()
def tJ:Option ((Int×Int)⊕Int⊕Int):=cond (decide (G<(w.length:Int))) ((idx w G).bind fun a=>(tI a x).bind fun b=>cond (decide (b<0)) (some (Sum.inr (Sum.inl (-1)))) (some (Sum.inl (b,(wrap .i64 (G+1)))))) (some (Sum.inr (Sum.inr x)))
def Wy:Option (Int⊕Int):=ai (fun(a:Int×Int)=>((tJ w a.1 a.2).map (Sum.elim (fun b=>Sum.inl (b.1,b.2)) (Sum.elim (fun b=>Sum.inr (Sum.inl b)) (fun b=>Sum.inr (Sum.inr b)))))) LL (x,0)
def Wz:=(Wy w x).map (Sum.elim (fun a=>(Sum.inr a)) (fun a=>(Sum.inl a)))
def WA:=(JX).bind (fun a=>Wz w x)
def JY:Option (Int):=some e
def WB:=(WA w x).bind (Sum.elim (fun a=>JY a) (fun b=>some ((fun a=>a) b)))
def zY:=(JW).bind (fun a=>WB w x)
@[irreducible] def zZ:=zY w x
def z1:Option (Int):=(tI b x).bind fun a=>cond (decide (a<0)) (some (-1)) ((zZ w a).bind fun c=>cond (decide (c<0)) (some (-1)) (some c))
@[irreducible] def z6:=z1 b w x
def JZ:Option ((Int×Int)⊕Bool):=cond (decide ((((ByteArray.size y:Nat):Int))>1048576)) (some (Sum.inr true)) ((Dx b w 1048576).bind fun a=>cond (decide (a<0)) (some (Sum.inr true)) ((pc b w).bind fun c=>(xO (c.1) (c.2) y).bind fun d=>(pc b w).bind fun e=>(tD (e.1) (e.2) y).bind fun f=>(pU (f.2.1) (f.2.2) (d.2.1) (d.2.2)).bind fun g=>cond (!g) (some (Sum.inr false)) (cond (!(aE (f.1) (d.1))) (some (Sum.inr false)) ((pc b w).bind fun h=>(pU (e.1) (e.2) (h.1) (h.2)).bind fun i=>cond (!i) (some (Sum.inr false)) ((zW 1 (e.1) (e.2)).bind fun j=>cond (decide ((j.1)<0)) (some (Sum.inr false)) ((pU (f.2.1) (f.2.2) (d.2.1) (d.2.2)).bind fun k=>cond (!k) (some (Sum.inr false)) (cond (!(aE (f.1) (d.1))) (some (Sum.inr false)) ((zW 1 (f.2.1) (f.2.2)).bind fun l=>(z6 (l.2.1) (l.2.2) 1).bind fun m=>cond (decide (m<0)) (some (Sum.inr false)) (cond (m !=(l.1)) (some (Sum.inr false)) ((pc b w).bind fun n=>(tD (n.1) (n.2) y).bind fun o=>(pU (o.2.1) (o.2.2) (d.2.1) (d.2.2)).bind fun p=>cond (!p) (some (Sum.inr false)) (cond (!(aE (o.1) (d.1))) (some (Sum.inr false)) ((z6 (l.2.1) (l.2.2) 1).bind fun q=>cond (decide (q<0)) (some (Sum.inr false)) (some (Sum.inl ((l.1),q)))))))))))))))
def J0:Option (Bool):=cond (n !=e) (some false) (some true)
def J1:=(JZ b w y).bind (Sum.elim (fun a=>J0 a.1 a.2) (fun c=>some ((fun a=>a) c)))
@[irreducible] def z7:=J1 b w y
end Go.Rv
