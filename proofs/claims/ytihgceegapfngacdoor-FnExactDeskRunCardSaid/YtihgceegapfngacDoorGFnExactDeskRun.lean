/-
  Plain functions,written by program for functions of the checked code. Conditions: none.
-/
import Derived.Test.YtihgceegapfngacDoorFB
set_option linter.unusedVariables false
namespace Go.Rv
def N47 (a : List Int) (b : Int) : Option (Int) :=
  cond (decide ((IntKind.wrap .i64 (b - (((List.length a : Nat) : Int)))) < 0)) (some (-1)) (some (IntKind.wrap .i64 (b - (((List.length a : Nat) : Int)))))
@[irreducible] def N23 (a : List Int) (b : Int) : Option (Int) :=
  N47 a b
def N51 (a : List (List Int)) (b : Int) : Option (Int ⊕ Int) :=
  cond (decide ((IntKind.wrap .i64 (b - (((List.length a : Nat) : Int)))) < 0)) (some (Sum.inr (-1))) (some (Sum.inl (IntKind.wrap .i64 (b - (((List.length a : Nat) : Int))))))
def N6b : Option (Unit) :=
  some ()
def N41 (a : List (List Int)) (b c : Int) : Option ((Int × Int) ⊕ Int ⊕ Int) :=
  cond (decide (c < (((List.length a : Nat) : Int)))) ((idx a c).bind fun (d : List Int) => (N23 d b).bind fun (g : Int) => cond (decide (g < 0)) (some (Sum.inr (Sum.inl (-1)))) (some (Sum.inl (g,(IntKind.wrap .i64 (c + 1)))))) (some (Sum.inr (Sum.inr b)))
def Nfg (a : List (List Int)) (b : Int) : Option (Int ⊕ Int) :=
  nloop (fun (s : Int × Int) => ((N41 a s.1 s.2).map (Sum.elim (fun (t : Int × Int) => Sum.inl (t.1,t.2)) (Sum.elim (fun (t : Int) => Sum.inr (Sum.inl t)) (fun (t : Int) => Sum.inr (Sum.inr t)))) : Option ((Int × Int) ⊕ (Int ⊕ Int)))) LL (b,0)
def Nia (a : List (List Int)) (b : Int) : Option (Int ⊕ Int) :=
  (Nfg a b).map (Sum.elim (fun (t : Int) => (Sum.inr t)) (fun (t : Int) => (Sum.inl t)))
def Nhn (a : List (List Int)) (b : Int) : Option (Int ⊕ Int) :=
  (N6b).bind (fun (t : Unit) => Nia a b)
def Nei (a : Int) : Option (Int) :=
  some a
def Nf3 (a : List (List Int)) (b : Int) : Option (Int) :=
  (Nhn a b).bind (Sum.elim (fun (t : Int) => Nei t) (fun e => some ((fun (t : Int) => t) e)))
def Nc3 (a : List (List Int)) (b : Int) : Option (Int) :=
  (N51 a b).bind (Sum.elim (fun (t : Int) => Nf3 a t) (fun e => some ((fun (t : Int) => t) e)))
@[irreducible] def N1w (a : List (List Int)) (b : Int) : Option (Int) :=
  Nc3 a b
def N5f (a : List Int) (b : List (List Int)) (c : Int) : Option (Int) :=
  (N23 a c).bind fun (d : Int) => cond (decide (d < 0)) (some (-1)) ((N1w b d).bind fun (g : Int) => cond (decide (g < 0)) (some (-1)) (some g))
@[irreducible] def N2v (a : List Int) (b : List (List Int)) (c : Int) : Option (Int) :=
  N5f a b c
def N4u (a : List Int) : Option (((List Int))) :=
  (mk (((List.length a : Nat) : Int)) (((List.length a : Nat) : Int))).bind fun (b : Nat) => some (List.replicate b (0 : Int))
def N63 : Option (Unit) :=
  some ()
def N3m (a : List Int) (b : Int) (c : List Int) : Option ((Int × (List Int)) ⊕ ((List Int))) :=
  cond (decide (b < (((List.length a : Nat) : Int)))) ((idx a b).bind fun (d : Int) => (inb b (List.length c)).bind fun (g : Nat) => some (Sum.inl ((IntKind.wrap .i64 (b + 1)),(c.set g d)))) (some (Sum.inr c))
def Nfr (a b : List Int) : Option (((List Int))) :=
  nloop (fun (s : Int × (List Int)) => ((N3m a s.1 s.2).map (Sum.elim (fun (t : Int × (List Int)) => Sum.inl (t.1,t.2)) (fun (t : (List Int)) => Sum.inr t)) : Option ((Int × (List Int)) ⊕ (((List Int)))))) LL (0,b)
def Nge (a b : List Int) : Option (((List Int))) :=
  (Nfr a b).map (fun (t : (List Int)) => t)
def Nfq (a b : List Int) : Option (((List Int))) :=
  (N63).bind (fun (t : Unit) => Nge a b)
def N8a (a : List Int) : Option (((List Int))) :=
  some a
def Nfx (a b : List Int) : Option (((List Int))) :=
  (Nfq a b).bind (fun (t : (List Int)) => N8a t)
def Nih (a : List Int) : Option (((List Int))) :=
  (N4u a).bind (fun (t : (List Int)) => Nfx a t)
@[irreducible] def N26 (a : List Int) : Option ((List Int)) :=
  Nih a
def N5j (a : List (List Int)) : Option (((List (List Int)))) :=
  (mk (((List.length a : Nat) : Int)) (((List.length a : Nat) : Int))).bind fun (b : Nat) => some (List.replicate b [])
def N7y : Option (Unit) :=
  some ()
def N2l (a : List (List Int)) (b : Int) (c : List (List Int)) : Option ((Int × (List (List Int))) ⊕ ((List (List Int)))) :=
  cond (decide (b < (((List.length a : Nat) : Int)))) ((idx a b).bind fun (d : List Int) => (N26 d).bind fun (g : List Int) => (inb b (List.length c)).bind fun (i : Nat) => (within i (List.length c)).bind fun (j : Unit) => some (Sum.inl ((IntKind.wrap .i64 (b + 1)),((c).set i g)))) (some (Sum.inr c))
def Nh4 (a b : List (List Int)) : Option (((List (List Int)))) :=
  nloop (fun (s : Int × (List (List Int))) => ((N2l a s.1 s.2).map (Sum.elim (fun (t : Int × (List (List Int))) => Sum.inl (t.1,t.2)) (fun (t : (List (List Int))) => Sum.inr t)) : Option ((Int × (List (List Int))) ⊕ (((List (List Int))))))) LL (0,b)
def Nfs (a b : List (List Int)) : Option (((List (List Int)))) :=
  (Nh4 a b).map (fun (t : (List (List Int))) => t)
def Ng6 (a b : List (List Int)) : Option (((List (List Int)))) :=
  (N7y).bind (fun (t : Unit) => Nfs a b)
def N6j (a : List (List Int)) : Option (((List (List Int)))) :=
  some a
def Ng0 (a b : List (List Int)) : Option (((List (List Int)))) :=
  (Ng6 a b).bind (fun (t : (List (List Int))) => N6j t)
def N92 (a : List (List Int)) : Option (((List (List Int)))) :=
  (N5j a).bind (fun (t : (List (List Int))) => Ng0 a t)
@[irreducible] def N1v (a : List (List Int)) : Option ((List (List Int))) :=
  N92 a
def N6g (a : List Int) (b : List (List Int)) : Option (((List Int) × (List (List Int)))) :=
  (N26 a).bind fun (c : List Int) => (N1v b).bind fun (d : List (List Int)) => some (c,d)
@[irreducible] def Ns (a : List Int) (b : List (List Int)) : Option ((List Int) × (List (List Int))) :=
  N6g a b
def N73 : Option (Unit) :=
  some ()
@[irreducible] def N3e (a b c : Int) : Option (Unit) :=
  N73
def N6i (a b c : Int) : Option (Bool) :=
  cond (decide (a ≥ b)) (some (decide (a ≤ c))) (some false)
@[irreducible] def Nh (a b c : Int) : Option (Bool) :=
  N6i a b c
def N7k (a : List Int) : Option (Int ⊕ Bool) :=
  (Nh (((List.length a : Nat) : Int)) 1 8).bind fun (b : Bool) => cond (!b) (some (Sum.inr false)) (some (Sum.inl (((List.length a : Nat) : Int))))
def N5t : Option (Unit) :=
  some ()
def N4g (a b c : Int) : Option (Unit ⊕ Int) :=
  cond (decide (c < a)) (some (Sum.inl ())) (some (Sum.inr b))
def N60 (a : List Int) (b c d : Int) : Option ((Int × Int) ⊕ Bool) :=
  (idx a d).bind fun (g : Int) => (Nh g 0 b).bind fun (i : Bool) => cond (!i) (some (Sum.inr false)) ((idx a d).bind fun (j : Int) => cond (j == (IntKind.wrap .i64 (d + 1))) (some (Sum.inr false)) ((idx a d).bind fun (k : Int) => cond (k == 0) (some (Sum.inl ((IntKind.wrap .i64 (c + 1)),(IntKind.wrap .i64 (d + 1))))) (some (Sum.inl (c,(IntKind.wrap .i64 (d + 1)))))))
def N7b : Option (Unit) :=
  some ()
def N44 (a : List Int) (b c d : Int) : Option ((Int × Int) ⊕ Bool ⊕ Int) :=
  cond (decide (c > 0)) (cond (decide (d < b)) ((idx a (IntKind.wrap .i64 (c - 1))).bind fun (g : Int) => (Nh g 0 b).bind fun (i : Bool) => cond (!i) (some (Sum.inr (Sum.inl false))) (some (Sum.inl (g,(IntKind.wrap .i64 (d + 1)))))) (some (Sum.inr (Sum.inr c)))) (some (Sum.inr (Sum.inr c)))
def Nc9 (a : List Int) (b c : Int) : Option (Bool ⊕ Int) :=
  nloop (fun (s : Int × Int) => ((N44 a b s.1 s.2).map (Sum.elim (fun (t : Int × Int) => Sum.inl (t.1,t.2)) (Sum.elim (fun (t : Bool) => Sum.inr (Sum.inl t)) (fun (t : Int) => Sum.inr (Sum.inr t)))) : Option ((Int × Int) ⊕ (Bool ⊕ Int)))) LL (c,0)
def Nh0 (a : List Int) (b c : Int) : Option (Int ⊕ Bool) :=
  (Nc9 a b c).map (Sum.elim (fun (t : Bool) => (Sum.inr t)) (fun (t : Int) => (Sum.inl t)))
def Ng7 (a : List Int) (b c : Int) : Option (Int ⊕ Bool) :=
  (N7b).bind (fun (t : Unit) => Nh0 a b c)
def N5l (a : Int) : Option (Unit ⊕ Bool) :=
  cond (decide (a > 0)) (some (Sum.inr false)) (some (Sum.inl ()))
def Ngk (a : List Int) (b c : Int) : Option (Unit ⊕ Bool) :=
  (Ng7 a b c).bind (Sum.elim (fun (t : Int) => N5l t) (fun e => some ((fun (t : Bool) => (Sum.inr t)) e)))
def Ngf (a : List Int) (b c d : Int) : Option (Int ⊕ Bool) :=
  (N60 a b c d).bind (Sum.elim (fun (t : Int × Int) => (Ngk a b t.2).map (Sum.elim (fun (u : Unit) => (Sum.inl t.1)) (fun (u : Bool) => (Sum.inr u)))) (fun e => some ((fun (t : Bool) => (Sum.inr t)) e)))
def Ni1 (a : List Int) (b c d : Int) : Option (Int ⊕ Bool) :=
  (Ngf a b c d).map (Sum.elim (fun (t : Int) => (Sum.inl t)) (fun (t : Bool) => (Sum.inr t)))
def N7c (a : Int) : Option (Int) :=
  some (IntKind.wrap .i64 (a + 1))
def Ngy (a : List Int) (b c d : Int) : Option ((Int × Int) ⊕ Bool) :=
  (Ni1 a b c d).bind (Sum.elim (fun (t : Int) => (N7c d).map (fun (u : Int) => (Sum.inl (t,u)))) (fun e => some ((fun (t : Bool) => (Sum.inr t)) e)))
def N4o (a : List Int) (b c d : Int) : Option ((Int × Int) ⊕ Bool ⊕ Int) :=
  (N4g b c d).bind (Sum.elim (fun (t : Unit) => (Ngy a b c d).map (Sum.elim (fun (t : Int × Int) => (Sum.inl (t.1,t.2))) (fun (t : Bool) => (Sum.inr (Sum.inl t))))) (fun e => some ((fun (t : Int) => (Sum.inr (Sum.inr t))) e)))
def Nii (a : List Int) (b : Int) : Option (Bool ⊕ Int) :=
  nloop (fun (s : Int × Int) => ((N4o a b s.1 s.2).map (Sum.elim (fun (t : Int × Int) => Sum.inl (t.1,t.2)) (Sum.elim (fun (t : Bool) => Sum.inr (Sum.inl t)) (fun (t : Int) => Sum.inr (Sum.inr t)))) : Option ((Int × Int) ⊕ (Bool ⊕ Int)))) LL (0,0)
def Nhe (a : List Int) (b : Int) : Option (Int ⊕ Bool) :=
  (Nii a b).map (Sum.elim (fun (t : Bool) => (Sum.inr t)) (fun (t : Int) => (Sum.inl t)))
def Nf2 (a : List Int) (b : Int) : Option (Int ⊕ Bool) :=
  (N5t).bind (fun (t : Unit) => Nhe a b)
def N5p (a : Int) : Option (Bool) :=
  some (a == 1)
def Nht (a : List Int) (b : Int) : Option (Bool) :=
  (Nf2 a b).bind (Sum.elim (fun (t : Int) => N5p t) (fun e => some ((fun (t : Bool) => t) e)))
def Nft (a : List Int) : Option (Bool) :=
  (N7k a).bind (Sum.elim (fun (t : Int) => Nht a t) (fun e => some ((fun (t : Bool) => t) e)))
@[irreducible] def N8 (a : List Int) : Option (Bool) :=
  Nft a
def N8d : Option (Unit) :=
  some ()
def N5o : Option (Unit) :=
  some ()
def N25 (a : Int) (b : List (List Int)) : Option (Int ⊕ Bool ⊕ Unit) :=
  cond (decide (a < (((List.length b : Nat) : Int)))) ((idx b a).bind fun (c : List Int) => (N8 c).bind fun (d : Bool) => cond (!d) (some (Sum.inr (Sum.inl false))) (some (Sum.inl (IntKind.wrap .i64 (a + 1))))) (some (Sum.inr (Sum.inr ())))
def Nfn (a : List (List Int)) : Option (Bool ⊕ Unit) :=
  nloop (fun (s : Int) => ((N25 s a).map (Sum.elim (fun (t : Int) => Sum.inl t) (Sum.elim (fun (t : Bool) => Sum.inr (Sum.inl t)) (fun (t : Unit) => Sum.inr (Sum.inr t)))) : Option ((Int) ⊕ (Bool ⊕ Unit)))) LL 0
def Nh1 (a : List (List Int)) : Option (Unit ⊕ Bool) :=
  (Nfn a).map (Sum.elim (fun (t : Bool) => (Sum.inr t)) (fun (t : Unit) => (Sum.inl ())))
def Ngz (a : List (List Int)) : Option (Unit ⊕ Bool) :=
  (N5o).bind (fun (t : Unit) => Nh1 a)
def N5u (a : List Int) (b : List (List Int)) : Option (Bool) :=
  (N8 a).bind fun (c : Bool) => cond c (some (decide ((((List.length b : Nat) : Int)) ≤ 8))) (some false)
def Nin (a : List Int) (b : List (List Int)) : Option (Bool) :=
  (Ngz b).bind (Sum.elim (fun (t : Unit) => N5u a b) (fun e => some ((fun (t : Bool) => t) e)))
def Naa (a : List Int) (b : List (List Int)) : Option (Bool) :=
  (N8d).bind (fun (t : Unit) => Nin a b)
@[irreducible] def N1r (a : List Int) (b : List (List Int)) : Option (Bool) :=
  Naa a b
def N6q (a : List Int) : Option (((List Int))) :=
  (room ((List.length ([] : List Int)) + List.length a)).bind fun (b : Unit) => some (([] : List Int) ++ a)
def N65 : Option (Unit) :=
  some ()
def N36 (a : Int) (b c : List (List Int)) : Option ((Int × (List (List Int))) ⊕ ((List (List Int)))) :=
  cond (decide (a < (((List.length b : Nat) : Int)))) ((idx b a).bind fun (d : List Int) => (room (List.length d)).bind fun (g : Unit) => (room (List.length c + 1)).bind fun (i : Unit) => some (Sum.inl ((IntKind.wrap .i64 (a + 1)),((c ++ [[]]).set (List.length c) d)))) (some (Sum.inr c))
def Ni9 (a : List (List Int)) : Option (((List (List Int)))) :=
  nloop (fun (s : Int × (List (List Int))) => ((N36 s.1 a s.2).map (Sum.elim (fun (t : Int × (List (List Int))) => Sum.inl (t.1,t.2)) (fun (t : (List (List Int))) => Sum.inr t)) : Option ((Int × (List (List Int))) ⊕ (((List (List Int))))))) LL (0,([] : List (List Int)))
def Nfh (a : List (List Int)) : Option (((List (List Int)))) :=
  (Ni9 a).map (fun (t : (List (List Int))) => t)
def Nhd (a : List (List Int)) : Option (((List (List Int)))) :=
  (N65).bind (fun (t : Unit) => Nfh a)
def N4s (a : List Int) (b : List (List Int)) : Option (((List Int) × (List (List Int)))) :=
  some (a,b)
def Nhr (a : List (List Int)) (b : List Int) : Option (((List Int) × (List (List Int)))) :=
  (Nhd a).bind (fun (t : (List (List Int))) => N4s b t)
def Ndb (a : List Int) (b : List (List Int)) : Option (((List Int) × (List (List Int)))) :=
  (N6q a).bind (fun (t : (List Int)) => Nhr b t)
@[irreducible] def N1l (a : List Int) (b : List (List Int)) : Option ((List Int) × (List (List Int))) :=
  Ndb a b
def N7t (a : List Int) : Option (Int) :=
  some (((List.length a : Nat) : Int))
def N79 (a : Int) : Option (Int) :=
  some (IntKind.wrap .i64 (a - 1))
def N1k (a : List Int) (b c : Int) (d : List Int) : Option ((Int × (List Int)) ⊕ ((List Int))) :=
  cond (decide (c ≥ 0)) ((N8 a).bind fun (g : Bool) => cond g ((idx a c).bind fun (i : Int) => cond (i == 0) ((room ((List.length d) + List.length ([0]))).bind fun (j : Unit) => some (Sum.inl ((IntKind.wrap .i64 (c - 1)),(d ++ ([0]))))) ((idx a c).bind fun (k : Int) => (room ((List.length d) + List.length ([(IntKind.wrap .i64 ((IntKind.wrap .i64 (b + 1)) - k))]))).bind fun (l : Unit) => some (Sum.inl ((IntKind.wrap .i64 (c - 1)),(d ++ ([(IntKind.wrap .i64 ((IntKind.wrap .i64 (b + 1)) - k))])))))) (some (Sum.inr d))) (some (Sum.inr d))
def Ni3 (a : List Int) (b c : Int) : Option (((List Int))) :=
  nloop (fun (s : Int × (List Int)) => ((N1k a b s.1 s.2).map (Sum.elim (fun (t : Int × (List Int)) => Sum.inl (t.1,t.2)) (fun (t : (List Int)) => Sum.inr t)) : Option ((Int × (List Int)) ⊕ (((List Int)))))) LL (c,([] : List Int))
def Nff (a : List Int) (b c : Int) : Option (((List Int))) :=
  (Ni3 a b c).map (fun (t : (List Int)) => t)
def Ngg (a : List Int) (b : Int) : Option (((List Int))) :=
  (N79 b).bind (fun (t : Int) => Nff a b t)
def N66 (a : List Int) : Option (((List Int))) :=
  some a
def Ngu (a : List Int) (b : Int) : Option (((List Int))) :=
  (Ngg a b).bind (fun (t : (List Int)) => N66 t)
def Nbu (a : List Int) : Option (((List Int))) :=
  (N7t a).bind (fun (t : Int) => Ngu a t)
@[irreducible] def N10 (a : List Int) : Option ((List Int)) :=
  Nbu a
def N7e : Option (Unit) :=
  some ()
def N77 : Option (Unit) :=
  some ()
def N27 (a : List Int) (b : Int) : Option (Int ⊕ Int ⊕ Unit) :=
  cond (decide (b < (((List.length a : Nat) : Int)))) ((N8 a).bind fun (c : Bool) => cond c ((idx a b).bind fun (d : Int) => cond (d == 0) (some (Sum.inr (Sum.inl (IntKind.wrap .i64 (b + 1))))) (some (Sum.inl (IntKind.wrap .i64 (b + 1))))) (some (Sum.inr (Sum.inr ())))) (some (Sum.inr (Sum.inr ())))
def Ngs (a : List Int) : Option (Int ⊕ Unit) :=
  nloop (fun (s : Int) => ((N27 a s).map (Sum.elim (fun (t : Int) => Sum.inl t) (Sum.elim (fun (t : Int) => Sum.inr (Sum.inl t)) (fun (t : Unit) => Sum.inr (Sum.inr t)))) : Option ((Int) ⊕ (Int ⊕ Unit)))) LL 0
def Nhp (a : List Int) : Option (Unit ⊕ Int) :=
  (Ngs a).map (Sum.elim (fun (t : Int) => (Sum.inr t)) (fun (t : Unit) => (Sum.inl ())))
def Ngm (a : List Int) : Option (Unit ⊕ Int) :=
  (N77).bind (fun (t : Unit) => Nhp a)
def N6y : Option (Int) :=
  some (-1)
def Ng9 (a : List Int) : Option (Int) :=
  (Ngm a).bind (Sum.elim (fun (t : Unit) => N6y) (fun e => some ((fun (t : Int) => t) e)))
def Nie (a : List Int) : Option (Int) :=
  (N7e).bind (fun (t : Unit) => Ng9 a)
@[irreducible] def N2o (a : List Int) : Option (Int) :=
  Nie a
def N5q (R0 : (List Int) → Int → Option ((List Int))) : Option (Unit) :=
  some ()
def N7u (R0 : (List Int) → Int → Option ((List Int))) : Option (Unit) :=
  some ()
def N2h (R0 : (List Int) → Int → Option ((List Int))) (a : List Int) (b c : Int) (d : List Int) : Option ((Int × (List Int)) ⊕ ((List Int))) :=
  cond (decide (c < b)) ((idx a (IntKind.wrap .i64 (c - 1))).bind fun (g : Int) => cond (g == b) ((R0 a c).bind fun (i : List Int) => (room ((List.length d) + List.length i)).bind fun (j : Unit) => some (Sum.inl ((IntKind.wrap .i64 (c + 1)),(d ++ i)))) (some (Sum.inl ((IntKind.wrap .i64 (c + 1)),d)))) (some (Sum.inr d))
def Nhc (R0 : (List Int) → Int → Option ((List Int))) (a : List Int) (b : Int) : Option (((List Int))) :=
  nloop (fun (s : Int × (List Int)) => ((N2h R0 a b s.1 s.2).map (Sum.elim (fun (t : Int × (List Int)) => Sum.inl (t.1,t.2)) (fun (t : (List Int)) => Sum.inr t)) : Option ((Int × (List Int)) ⊕ (((List Int)))))) LL (1,([] : List Int))
def Nf1 (R0 : (List Int) → Int → Option ((List Int))) (a : List Int) (b : Int) : Option (((List Int))) :=
  (Nhc R0 a b).map (fun (t : (List Int)) => t)
def Nfa (R0 : (List Int) → Int → Option ((List Int))) (a : List Int) (b : Int) : Option (((List Int))) :=
  (N7u R0).bind (fun (t : Unit) => Nf1 R0 a b)
def N4x (R0 : (List Int) → Int → Option ((List Int))) (a : Int) (b : List Int) : Option (((List Int))) :=
  (room ((List.length b) + List.length ([a]))).bind fun (c : Unit) => some (b ++ ([a]))
def N74 (R0 : (List Int) → Int → Option ((List Int))) (a : Int) : Option (Int) :=
  some (IntKind.wrap .i64 (a + 1))
def N3f (R0 : (List Int) → Int → Option ((List Int))) (a : List Int) (b c : Int) (d : List Int) : Option ((Int × (List Int)) ⊕ ((List Int))) :=
  cond (decide (c ≤ (((List.length a : Nat) : Int)))) ((idx a (IntKind.wrap .i64 (c - 1))).bind fun (g : Int) => cond (g == b) ((R0 a c).bind fun (i : List Int) => (room ((List.length d) + List.length i)).bind fun (j : Unit) => some (Sum.inl ((IntKind.wrap .i64 (c + 1)),(d ++ i)))) (some (Sum.inl ((IntKind.wrap .i64 (c + 1)),d)))) (some (Sum.inr d))
def Ngx (R0 : (List Int) → Int → Option ((List Int))) (a : List Int) (b c : Int) (d : List Int) : Option (((List Int))) :=
  nloop (fun (s : Int × (List Int)) => ((N3f R0 a b s.1 s.2).map (Sum.elim (fun (t : Int × (List Int)) => Sum.inl (t.1,t.2)) (fun (t : (List Int)) => Sum.inr t)) : Option ((Int × (List Int)) ⊕ (((List Int)))))) LL (c,d)
def Nfy (R0 : (List Int) → Int → Option ((List Int))) (a : List Int) (b c : Int) (d : List Int) : Option (((List Int))) :=
  (Ngx R0 a b c d).map (fun (t : (List Int)) => t)
def Nim (R0 : (List Int) → Int → Option ((List Int))) (a : List Int) (b : Int) (c : List Int) : Option (((List Int))) :=
  (N74 R0 b).bind (fun (t : Int) => Nfy R0 a b t c)
def N5w (R0 : (List Int) → Int → Option ((List Int))) (a : List Int) : Option (((List Int))) :=
  some a
def Ni7 (R0 : (List Int) → Int → Option ((List Int))) (a : List Int) (b : Int) (c : List Int) : Option (((List Int))) :=
  (Nim R0 a b c).bind (fun (t : (List Int)) => N5w R0 t)
def Nhh (R0 : (List Int) → Int → Option ((List Int))) (a : List Int) (b : Int) (c : List Int) : Option (((List Int))) :=
  (N4x R0 b c).bind (fun (t : (List Int)) => Ni7 R0 a b t)
def Ngo (R0 : (List Int) → Int → Option ((List Int))) (a : List Int) (b : Int) : Option (((List Int))) :=
  (Nfa R0 a b).bind (fun (t : (List Int)) => Nhh R0 a b t)
def Ni5 (R0 : (List Int) → Int → Option ((List Int))) (a : List Int) (b : Int) : Option (((List Int))) :=
  (N5q R0).bind (fun (t : Unit) => Ngo R0 a b)
def Ndr (R0 : (List Int) → Int → Option ((List Int))) (a : List Int) (b : Int) : Option ((List Int)) :=
  Ni5 R0 a b
def N1z : Nat → ((List Int) → Int → Option ((List Int)))
  | 0 => (fun _ _ => none)
  | n + 1 => (fun y0 y1 => Ndr (N1z n) y0 y1)
def N5 (n : Nat) : (List Int) → Int → Option ((List Int)) := (N1z n)
@[irreducible] def N4a (a : List Int) (b : Int) : Option ((List Int)) := N5 RR a b
def N4p (a : List Int) : Option (((List Int))) :=
  (N8 a).bind fun (b : Bool) => cond (!b) (some ([] : List Int)) ((N2o a).bind fun (c : Int) => (N4a a c).bind fun (d : List Int) => some d)
@[irreducible] def N3y (a : List Int) : Option ((List Int)) :=
  N4p a
def N7f : Option (Unit) :=
  some ()
def N4t : Option (Unit) :=
  some ()
def N6w (a : List Int) (b : Int) : Option (Unit ⊕ Unit) :=
  cond (decide (b < (((List.length a : Nat) : Int)))) (some (Sum.inl ())) (some (Sum.inr ()))
def N84 (a : List Int) (b c : Int) : Option (Unit ⊕ Bool) :=
  (idx a c).bind fun (d : Int) => (Nh d 1 b).bind fun (g : Bool) => cond (!g) (some (Sum.inr false)) (some (Sum.inl ()))
def N45 (a : List Int) (b c : Int) : Option (Int ⊕ Bool ⊕ Unit) :=
  cond (decide (c < b)) ((idx a c).bind fun (d : Int) => (idx a b).bind fun (g : Int) => cond (d == g) (some (Sum.inr (Sum.inl false))) (some (Sum.inl (IntKind.wrap .i64 (c + 1))))) (some (Sum.inr (Sum.inr ())))
def N9e (a : List Int) (b : Int) : Option (Bool ⊕ Unit) :=
  nloop (fun (s : Int) => ((N45 a b s).map (Sum.elim (fun (t : Int) => Sum.inl t) (Sum.elim (fun (t : Bool) => Sum.inr (Sum.inl t)) (fun (t : Unit) => Sum.inr (Sum.inr t)))) : Option ((Int) ⊕ (Bool ⊕ Unit)))) LL 0
def Nh8 (a : List Int) (b : Int) : Option (Unit ⊕ Bool) :=
  (N9e a b).map (Sum.elim (fun (t : Bool) => (Sum.inr t)) (fun (t : Unit) => (Sum.inl ())))
def Nga (a : List Int) (b c : Int) : Option (Unit ⊕ Bool) :=
  (N84 a b c).bind (Sum.elim (fun (t : Unit) => Nh8 a c) (fun e => some ((fun (t : Bool) => (Sum.inr t)) e)))
def Ngl (a : List Int) (b c : Int) : Option (Unit ⊕ Bool) :=
  (Nga a b c).map (Sum.elim (fun (t : Unit) => (Sum.inl ())) (fun (t : Bool) => (Sum.inr t)))
def N8b (a : Int) : Option (Int) :=
  some (IntKind.wrap .i64 (a + 1))
def Nhw (a : List Int) (b c : Int) : Option (Int ⊕ Bool) :=
  (Ngl a b c).bind (Sum.elim (fun (t : Unit) => (N8b c).map (fun (t : Int) => (Sum.inl t))) (fun e => some ((fun (t : Bool) => (Sum.inr t)) e)))
def Nen (a : List Int) (b c : Int) : Option (Int ⊕ Bool ⊕ Unit) :=
  (N6w a c).bind (Sum.elim (fun (t : Unit) => (Nhw a b c).map (Sum.elim (fun (t : Int) => (Sum.inl t)) (fun (t : Bool) => (Sum.inr (Sum.inl t))))) (fun e => some ((fun (t : Unit) => (Sum.inr (Sum.inr t))) e)))
def Nid (a : List Int) (b : Int) : Option (Bool ⊕ Unit) :=
  nloop (fun (s : Int) => ((Nen a b s).map (Sum.elim (fun (t : Int) => Sum.inl t) (Sum.elim (fun (t : Bool) => Sum.inr (Sum.inl t)) (fun (t : Unit) => Sum.inr (Sum.inr t)))) : Option ((Int) ⊕ (Bool ⊕ Unit)))) LL 0
def Nfk (a : List Int) (b : Int) : Option (Unit ⊕ Bool) :=
  (Nid a b).map (Sum.elim (fun (t : Bool) => (Sum.inr t)) (fun (t : Unit) => (Sum.inl ())))
def Nf4 (a : List Int) (b : Int) : Option (Unit ⊕ Bool) :=
  (N4t).bind (fun (t : Unit) => Nfk a b)
def N55 (a : List Int) (b : Int) : Option (Bool) :=
  (Nh b 1 8).bind fun (c : Bool) => cond c (some ((((List.length a : Nat) : Int)) == b)) (some false)
def Nf5 (a : List Int) (b : Int) : Option (Bool) :=
  (Nf4 a b).bind (Sum.elim (fun (t : Unit) => N55 a b) (fun e => some ((fun (t : Bool) => t) e)))
def Nf0 (a : List Int) (b : Int) : Option (Bool) :=
  (N7f).bind (fun (t : Unit) => Nf5 a b)
@[irreducible] def N2i (a : List Int) (b : Int) : Option (Bool) :=
  Nf0 a b
def N6p (a b : List Int) : Option (((List Int)) ⊕ (Bool × (List Int))) :=
  (N8 a).bind fun (c : Bool) => cond (!c) (some (Sum.inr (false,([] : List Int)))) ((N2i b (((List.length a : Nat) : Int))).bind fun (d : Bool) => cond (!d) (some (Sum.inr (false,([] : List Int)))) ((mk (IntKind.wrap .i64 ((((List.length a : Nat) : Int)) + 1)) (IntKind.wrap .i64 ((((List.length a : Nat) : Int)) + 1))).bind fun (g : Nat) => some (Sum.inl (List.replicate g (0 : Int)))))
def N53 : Option (Unit) :=
  some ()
def N78 (a : List Int) (b : Int) (c : List Int) : Option ((Int × (List Int)) ⊕ ((List Int))) :=
  cond (decide (b < (((List.length a : Nat) : Int)))) ((idx a b).bind fun (d : Int) => (inb d (List.length c)).bind fun (g : Nat) => some (Sum.inl ((IntKind.wrap .i64 (b + 1)),(c.set g (IntKind.wrap .i64 (b + 1)))))) (some (Sum.inr c))
def Nhb (a b : List Int) : Option (((List Int))) :=
  nloop (fun (s : Int × (List Int)) => ((N78 a s.1 s.2).map (Sum.elim (fun (t : Int × (List Int)) => Sum.inl (t.1,t.2)) (fun (t : (List Int)) => Sum.inr t)) : Option ((Int × (List Int)) ⊕ (((List Int)))))) LL (0,b)
def Nfv (a b : List Int) : Option (((List Int))) :=
  (Nhb a b).map (fun (t : (List Int)) => t)
def Ni6 (a b : List Int) : Option (((List Int))) :=
  (N53).bind (fun (t : Unit) => Nfv a b)
def N5b : Option (Unit) :=
  some ()
def N7s : Option (Unit) :=
  some ()
def N4j (a b : List Int) (c : Int) (d g : List Int) : Option ((Int × (List Int)) ⊕ ((List Int))) :=
  cond (decide (c < (((List.length b : Nat) : Int)))) ((idx b c).bind fun (i : Int) => (idx a (IntKind.wrap .i64 (i - 1))).bind fun (j : Int) => (inb j (List.length d)).bind fun (k : Nat) => (d[k]?).bind fun (l : Int) => (room ((List.length g) + List.length ([l]))).bind fun (m : Unit) => some (Sum.inl ((IntKind.wrap .i64 (c + 1)),(g ++ ([l]))))) (some (Sum.inr g))
def Nfo (a b c : List Int) : Option (((List Int))) :=
  nloop (fun (s : Int × (List Int)) => ((N4j a b s.1 c s.2).map (Sum.elim (fun (t : Int × (List Int)) => Sum.inl (t.1,t.2)) (fun (t : (List Int)) => Sum.inr t)) : Option ((Int × (List Int)) ⊕ (((List Int)))))) LL (0,([] : List Int))
def Nfw (a b c : List Int) : Option (((List Int))) :=
  (Nfo a b c).map (fun (t : (List Int)) => t)
def Nh6 (a b c : List Int) : Option (((List Int))) :=
  (N7s).bind (fun (t : Unit) => Nfw a b c)
def N62 (a : List Int) : Option ((Bool × (List Int))) :=
  some (true,a)
def Ngh (a b c : List Int) : Option ((Bool × (List Int))) :=
  (Nh6 a b c).bind (fun (t : (List Int)) => N62 t)
def Nfp (a b c : List Int) : Option ((Bool × (List Int))) :=
  (N5b).bind (fun (t : Unit) => Ngh a b c)
def Ng1 (a b c : List Int) : Option ((Bool × (List Int))) :=
  (Ni6 b c).bind (fun (t : (List Int)) => Nfp a b t)
def Nhv (a b : List Int) : Option ((Bool × (List Int))) :=
  (N6p a b).bind (Sum.elim (fun (t : (List Int)) => Ng1 a b t) (fun e => some ((fun (t : Bool × (List Int)) => t) e)))
@[irreducible] def N3i (a b : List Int) : Option (Bool × (List Int)) :=
  Nhv a b
def N5h (a : List Int) : Option (((List Int))) :=
  (N3y a).bind fun (b : List Int) => (N3i a b).bind fun (c : Bool × (List Int)) => some (c.2)
@[irreducible] def N1q (a : List Int) : Option ((List Int)) :=
  N5h a
def N46 (a : List Int) (b c d : Int) : Option ((Nat × (List Int))) :=
  (room ((List.length ([] : List Int)) + List.length a)).bind fun (g : Unit) => cond (b == 0) ((Nh c 1 (((List.length a : Nat) : Int))).bind fun (i : Bool) => cond i ((inb (IntKind.wrap .i64 (c - 1)) (List.length (([] : List Int) ++ a))).bind fun (j : Nat) => some ((List.length ((([] : List Int) ++ a).set j d)),((([] : List Int) ++ a).set j d))) (cond ((b == 1) && ((c == c) && ((d == 0) && true))) ((room ((List.length (([] : List Int) ++ a)) + List.length ([c]))).bind fun (k : Unit) => some ((List.length ((([] : List Int) ++ a) ++ ([c]))),((([] : List Int) ++ a) ++ ([c])))) (cond ((b == 2) && ((c == 0) && ((d == 0) && true))) ((inc (IntKind.wrap .i64 ((((List.length (([] : List Int) ++ a) : Nat) : Int)) - 1)) (List.length (([] : List Int) ++ a))).bind fun (l : Nat) => some ((l - 0),(([] : List Int) ++ a))) (cond ((b == 3) && ((c == 0) && ((d == 0) && true))) ((N10 a).bind fun (m : List Int) => some ((List.length m),m)) (cond ((b == 4) && ((c == 0) && ((d == 0) && true))) ((N1q a).bind fun (o : List Int) => some ((List.length o),o)) (some ((List.length ([] : List Int)),([] : List Int)))))))) (cond ((b == 1) && ((c == c) && ((d == 0) && true))) ((room ((List.length (([] : List Int) ++ a)) + List.length ([c]))).bind fun (p : Unit) => some ((List.length ((([] : List Int) ++ a) ++ ([c]))),((([] : List Int) ++ a) ++ ([c])))) (cond ((b == 2) && ((c == 0) && ((d == 0) && true))) ((inc (IntKind.wrap .i64 ((((List.length (([] : List Int) ++ a) : Nat) : Int)) - 1)) (List.length (([] : List Int) ++ a))).bind fun (q : Nat) => some ((q - 0),(([] : List Int) ++ a))) (cond ((b == 3) && ((c == 0) && ((d == 0) && true))) ((N10 a).bind fun (w : List Int) => some ((List.length w),w)) (cond ((b == 4) && ((c == 0) && ((d == 0) && true))) ((N1q a).bind fun (y : List Int) => some ((List.length y),y)) (some ((List.length ([] : List Int)),([] : List Int)))))))
@[irreducible] def N15 (a : List Int) (b c d : Int) : Option (Nat × (List Int)) :=
  N46 a b c d
def N52 (a : List Int) (b : List (List Int)) (c d g : Int) : Option ((Nat × Bool × (List Int) × (List Int) × (List (List Int))) ⊕ (Bool × (List Int) × (List (List Int)))) :=
  (N1r a b).bind fun (i : Bool) => cond (!i) (some (Sum.inr (false,([] : List Int),([] : List (List Int))))) ((N1l a b).bind fun (j : (List Int) × (List (List Int))) => cond ((c == 5) && ((d == 0) && ((g == 0) && true))) (cond (decide ((((List.length b : Nat) : Int)) > 0)) ((inb (IntKind.wrap .i64 ((((List.length (j.2) : Nat) : Int)) - 1)) (List.length (j.2))).bind fun (k : Nat) => (((j.2))[k]?).bind fun (l : List Int) => (inc (IntKind.wrap .i64 ((((List.length (j.2) : Nat) : Int)) - 1)) (List.length (((j.2)).set k []))).bind fun (m : Nat) => (sure (Nat.blt k 0 || Nat.ble m k)).bind fun (o : Unit) => some (Sum.inr (true,l,(((((j.2)).set k []).take m).drop 0)))) ((N15 a c d g).bind fun (p : Nat × (List Int)) => some (Sum.inl ((p.1),(((((p.1) : Nat) : Int)) == (((List.length a : Nat) : Int))),(p.2),(j.1),(j.2))))) ((N15 a c d g).bind fun (q : Nat × (List Int)) => some (Sum.inl ((q.1),(((((q.1) : Nat) : Int)) == (((List.length a : Nat) : Int))),(q.2),(j.1),(j.2)))))
def N71 : Option (Unit) :=
  some ()
def N1x (a : Nat) (b : Bool) (c : Int) (d g : List Int) : Option ((Bool × Int) ⊕ Bool) :=
  cond (decide (c < (((a : Nat) : Int)))) (cond b ((inb c a).bind fun (i : Nat) => (g[(0 + i)]?).bind fun (j : Int) => (idx d c).bind fun (k : Int) => some (Sum.inl ((j == k),(IntKind.wrap .i64 (c + 1))))) (some (Sum.inr b))) (some (Sum.inr b))
def Ndi (a : Nat) (b : Bool) (c d : List Int) : Option (Bool) :=
  nloop (fun (s : Bool × Int) => ((N1x a s.1 s.2 c d).map (Sum.elim (fun (t : Bool × Int) => Sum.inl (t.1,t.2)) (fun (t : Bool) => Sum.inr t)) : Option ((Bool × Int) ⊕ (Bool)))) LL (b,0)
def Ng4 (a : Nat) (b : Bool) (c d : List Int) : Option (Bool) :=
  (Ndi a b c d).map (fun (t : Bool) => t)
def Nf6 (a : Nat) (b : Bool) (c d : List Int) : Option (Bool) :=
  (N71).bind (fun (t : Unit) => Ng4 a b c d)
def N6z (a : Nat) (b : Bool) (c d : List Int) (g : List (List Int)) : Option ((Bool × (List Int) × (List (List Int)))) :=
  cond b (some (false,d,g)) ((N8 ((c.drop 0).take a)).bind fun (i : Bool) => cond (!i) (some (false,d,g)) ((room (List.length g + 1)).bind fun (j : Unit) => cond (decide ((((List.length ((g ++ [[]]).set (List.length g) d) : Nat) : Int)) > 8)) ((inc 1 (List.length ((g ++ [[]]).set (List.length g) d))).bind fun (k : Nat) => (room ((List.length ([] : List Int)) + List.length ((c.drop 0).take a))).bind fun (l : Unit) => some (true,(([] : List Int) ++ ((c.drop 0).take a)),((((g ++ [[]]).set (List.length g) d).take (List.length ((g ++ [[]]).set (List.length g) d))).drop k))) ((room ((List.length ([] : List Int)) + List.length ((c.drop 0).take a))).bind fun (m : Unit) => some (true,(([] : List Int) ++ ((c.drop 0).take a)),((g ++ [[]]).set (List.length g) d)))))
def Nao (a : Nat) (b : Bool) (c d g : List Int) (i : List (List Int)) : Option ((Bool × (List Int) × (List (List Int)))) :=
  (Nf6 a b c d).bind (fun (t : Bool) => N6z a t d g i)
def N8f (a : List Int) (b : List (List Int)) (c d g : Int) : Option ((Bool × (List Int) × (List (List Int)))) :=
  (N52 a b c d g).bind (Sum.elim (fun (t : Nat × Bool × (List Int) × (List Int) × (List (List Int))) => Nao t.1 t.2.1 a t.2.2.1 t.2.2.2.1 t.2.2.2.2) (fun e => some ((fun (t : Bool × (List Int) × (List (List Int))) => t) e)))
@[irreducible] def N2a (a : List Int) (b : List (List Int)) (c d g : Int) : Option (Bool × (List Int) × (List (List Int))) :=
  N8f a b c d g
def Ncy : Option (Unit) :=
  some ()
def N9p (a : List Int) : Option (Int) :=
  some (((List.length a : Nat) : Int))
def Nbg (a : List Int) (b c d : Int) : Option ((Int × Int) ⊕ Bool ⊕ Int) :=
  cond (decide (d < c)) ((idx a d).bind fun (g : Int) => cond (decide (g < 0)) (some (Sum.inr (Sum.inl false))) (cond (decide (g > (((List.length a : Nat) : Int)))) (some (Sum.inr (Sum.inl false))) (cond (g == 0) (some (Sum.inl ((IntKind.wrap .i64 (b + 1)),(IntKind.wrap .i64 (d + 1))))) (some (Sum.inl (b,(IntKind.wrap .i64 (d + 1)))))))) (some (Sum.inr (Sum.inr b)))
def Nor (a : List Int) (b : Int) : Option (Bool ⊕ Int) :=
  nloop (fun (s : Int × Int) => ((Nbg a s.1 b s.2).map (Sum.elim (fun (t : Int × Int) => Sum.inl (t.1,t.2)) (Sum.elim (fun (t : Bool) => Sum.inr (Sum.inl t)) (fun (t : Int) => Sum.inr (Sum.inr t)))) : Option ((Int × Int) ⊕ (Bool ⊕ Int)))) LL (0,0)
def Nkt (a : List Int) (b : Int) : Option (Int ⊕ Bool) :=
  (Nor a b).map (Sum.elim (fun (t : Bool) => (Sum.inr t)) (fun (t : Int) => (Sum.inl t)))
def Nm7 (a : List Int) : Option (Int ⊕ Bool) :=
  (N9p a).bind (fun (t : Int) => Nkt a t)
def N9f (a : Int) : Option (Bool) :=
  some (a == 1)
def Nnx (a : List Int) : Option (Bool) :=
  (Nm7 a).bind (Sum.elim (fun (t : Int) => N9f t) (fun e => some ((fun (t : Bool) => t) e)))
def Nqs (a : List Int) : Option (Bool) :=
  (Ncy).bind (fun (t : Unit) => Nnx a)
@[irreducible] def N6r (a : List Int) : Option (Bool) :=
  Nqs a
def Ncb (a : List Int) (b c : Int) : Option ((Bool × Int × Int)) :=
  (idx a (IntKind.wrap .i64 (b - 1))).bind fun (d : Int) => cond (d == 0) (some (false,b,c)) (some (true,d,(IntKind.wrap .i64 (c + 1))))
@[irreducible] def N4h (a : List Int) (b c : Int) : Option (Bool × Int × Int) :=
  Ncb a b c
def Neo : Option (Unit) :=
  some ()
def Ndc (a : List Int) (b c : Int) : Option ((Int × Int) ⊕ (Int × Bool) ⊕ (Int × Int)) :=
  (N4h a b c).bind fun (d : Bool × Int × Int) => cond (d.1) (cond (decide ((d.2.2) ≥ (((List.length a : Nat) : Int)))) (some (Sum.inr (Sum.inl (0,false)))) (some (Sum.inl ((d.2.1),(d.2.2))))) (some (Sum.inr (Sum.inr ((d.2.1),(d.2.2)))))
def N10o (a : List Int) (b : Int) : Option ((Int × Bool) ⊕ (Int × Int)) :=
  nloop (fun (s : Int × Int) => ((Ndc a s.1 s.2).map (Sum.elim (fun (t : Int × Int) => Sum.inl (t.1,t.2)) (Sum.elim (fun (t : Int × Bool) => Sum.inr (Sum.inl t)) (fun (t : Int × Int) => Sum.inr (Sum.inr t)))) : Option ((Int × Int) ⊕ ((Int × Bool) ⊕ (Int × Int))))) LL (b,0)
def Nvy (a : List Int) (b : Int) : Option ((Int × Int) ⊕ (Int × Bool)) :=
  (N10o a b).map (Sum.elim (fun (t : Int × Bool) => (Sum.inr t)) (fun (t : Int × Int) => (Sum.inl (t.1,t.2))))
def Nbi (a : Int) : Option ((Int × Bool)) :=
  some (a,true)
def Nus (a : List Int) (b : Int) : Option ((Int × Bool)) :=
  (Nvy a b).bind (Sum.elim (fun (t : Int × Int) => Nbi t.2) (fun e => some ((fun (t : Int × Bool) => t) e)))
def Nsg (a : List Int) (b : Int) : Option ((Int × Bool)) :=
  (Neo).bind (fun (t : Unit) => Nus a b)
@[irreducible] def N5r (a : List Int) (b : Int) : Option (Int × Bool) :=
  Nsg a b
def Nci (a : List Int) : Option (Unit ⊕ Bool) :=
  cond (decide ((((List.length a : Nat) : Int)) < 1)) (some (Sum.inr false)) (cond (decide ((((List.length a : Nat) : Int)) > 8)) (some (Sum.inr false)) ((N6r a).bind fun (b : Bool) => cond (!b) (some (Sum.inr false)) (some (Sum.inl ()))))
def Ndq (a : List Int) : Option (Int) :=
  some (((List.length a : Nat) : Int))
def N91 (a : List Int) (b c : Int) : Option (Int ⊕ Bool ⊕ Unit) :=
  cond (decide (c < b)) ((N5r a (IntKind.wrap .i64 (c + 1))).bind fun (d : Int × Bool) => cond (!(d.2)) (some (Sum.inr (Sum.inl false))) (some (Sum.inl (IntKind.wrap .i64 (c + 1))))) (some (Sum.inr (Sum.inr ())))
def Nx3 (a : List Int) (b : Int) : Option (Bool ⊕ Unit) :=
  nloop (fun (s : Int) => ((N91 a b s).map (Sum.elim (fun (t : Int) => Sum.inl t) (Sum.elim (fun (t : Bool) => Sum.inr (Sum.inl t)) (fun (t : Unit) => Sum.inr (Sum.inr t)))) : Option ((Int) ⊕ (Bool ⊕ Unit)))) LL 0
def Nj3 (a : List Int) (b : Int) : Option (Unit ⊕ Bool) :=
  (Nx3 a b).map (Sum.elim (fun (t : Bool) => (Sum.inr t)) (fun (t : Unit) => (Sum.inl ())))
def Nwk (a : List Int) : Option (Unit ⊕ Bool) :=
  (Ndq a).bind (fun (t : Int) => Nj3 a t)
def Nbf : Option (Bool) :=
  some true
def Np0 (a : List Int) : Option (Bool) :=
  (Nwk a).bind (Sum.elim (fun (t : Unit) => Nbf) (fun e => some ((fun (t : Bool) => t) e)))
def Nln (a : List Int) : Option (Bool) :=
  (Nci a).bind (Sum.elim (fun (t : Unit) => Np0 a) (fun e => some ((fun (t : Bool) => t) e)))
@[irreducible] def Nc (a : List Int) : Option (Bool) :=
  Nln a
def N8i (a : List Int) (b : List (List Int)) : Option (Unit ⊕ Bool) :=
  (Nc a).bind fun (c : Bool) => cond (!c) (some (Sum.inr false)) (cond (decide ((((List.length b : Nat) : Int)) > 8)) (some (Sum.inr false)) (some (Sum.inl ())))
def Nal (a : List (List Int)) : Option (Int) :=
  some (((List.length a : Nat) : Int))
def Nek (a : List (List Int)) (b c : Int) : Option (Int ⊕ Bool ⊕ Unit) :=
  cond (decide (c < b)) ((idx a c).bind fun (d : List Int) => (Nc d).bind fun (g : Bool) => cond (!g) (some (Sum.inr (Sum.inl false))) (some (Sum.inl (IntKind.wrap .i64 (c + 1))))) (some (Sum.inr (Sum.inr ())))
def Nsr (a : List (List Int)) (b : Int) : Option (Bool ⊕ Unit) :=
  nloop (fun (s : Int) => ((Nek a b s).map (Sum.elim (fun (t : Int) => Sum.inl t) (Sum.elim (fun (t : Bool) => Sum.inr (Sum.inl t)) (fun (t : Unit) => Sum.inr (Sum.inr t)))) : Option ((Int) ⊕ (Bool ⊕ Unit)))) LL 0
def Nyr (a : List (List Int)) (b : Int) : Option (Unit ⊕ Bool) :=
  (Nsr a b).map (Sum.elim (fun (t : Bool) => (Sum.inr t)) (fun (t : Unit) => (Sum.inl ())))
def Nwq (a : List (List Int)) : Option (Unit ⊕ Bool) :=
  (Nal a).bind (fun (t : Int) => Nyr a t)
def Nag : Option (Bool) :=
  some true
def Ntq (a : List (List Int)) : Option (Bool) :=
  (Nwq a).bind (Sum.elim (fun (t : Unit) => Nag) (fun e => some ((fun (t : Bool) => t) e)))
def Nlt (a : List Int) (b : List (List Int)) : Option (Bool) :=
  (N8i a b).bind (Sum.elim (fun (t : Unit) => Ntq b) (fun e => some ((fun (t : Bool) => t) e)))
@[irreducible] def N4d (a : List Int) (b : List (List Int)) : Option (Bool) :=
  Nlt a b
def Ncr (a : Int) : Option (Int) :=
  cond (a == 0) (some 2) (cond (a == 1) (some 1) (some 0))
@[irreducible] def N5a (a : Int) : Option (Int) :=
  Ncr a
def N9z (a b c : Int) : Option (Bool) :=
  (N5a a).bind fun (d : Int) => cond (decide (d > 0)) (cond (decide (d > 1)) (some true) (some (c == 0))) (cond (b == 0) (cond (decide (d > 1)) (some true) (some (c == 0))) (some false))
@[irreducible] def N6m (a b c : Int) : Option (Bool) :=
  N9z a b c
def N43 (x1 : List Int) : Option (List Int) := cloneD x1
def N8s (a : List Int) : Option (((List Int))) :=
  (N43 a).bind fun (b : List Int) => some b
def Ncp (a : List (List Int)) : Option (Int) :=
  some (((List.length a : Nat) : Int))
def Nb9 (a : List (List Int)) (b c : Int) (d : List (List Int)) : Option ((Int × (List (List Int))) ⊕ ((List (List Int)))) :=
  cond (decide (c < b)) ((idx a c).bind fun (g : List Int) => (N43 g).bind fun (i : List Int) => (room (List.length d + 1)).bind fun (j : Unit) => some (Sum.inl ((IntKind.wrap .i64 (c + 1)),((d ++ [[]]).set (List.length d) i)))) (some (Sum.inr d))
def N10e (a : List (List Int)) (b : Int) : Option (((List (List Int)))) :=
  nloop (fun (s : Int × (List (List Int))) => ((Nb9 a b s.1 s.2).map (Sum.elim (fun (t : Int × (List (List Int))) => Sum.inl (t.1,t.2)) (fun (t : (List (List Int))) => Sum.inr t)) : Option ((Int × (List (List Int))) ⊕ (((List (List Int))))))) LL (0,([] : List (List Int)))
def Njl (a : List (List Int)) (b : Int) : Option (((List (List Int)))) :=
  (N10e a b).map (fun (t : (List (List Int))) => t)
def Nvi (a : List (List Int)) : Option (((List (List Int)))) :=
  (Ncp a).bind (fun (t : Int) => Njl a t)
def N9j (a : List Int) (b : List (List Int)) : Option (((List Int) × (List (List Int)))) :=
  some (a,b)
def Nqm (a : List (List Int)) (b : List Int) : Option (((List Int) × (List (List Int)))) :=
  (Nvi a).bind (fun (t : (List (List Int))) => N9j b t)
def Nny (a : List Int) (b : List (List Int)) : Option (((List Int) × (List (List Int)))) :=
  (N8s a).bind (fun (t : (List Int)) => Nqm b t)
@[irreducible] def Nl (a : List Int) (b : List (List Int)) : Option ((List Int) × (List (List Int))) :=
  Nny a b
def Ndv (a : List Int) (b : List (List Int)) : Option ((Bool × (List Int) × (List (List Int)))) :=
  cond (decide ((IntKind.wrap .i64 ((((List.length b : Nat) : Int)) - 1)) < 0)) ((Nl a ([] : List (List Int))).bind fun (c : (List Int) × (List (List Int))) => some (false,(c.1),(c.2))) ((idx b (IntKind.wrap .i64 ((((List.length b : Nat) : Int)) - 1))).bind fun (d : List Int) => (inc (IntKind.wrap .i64 ((((List.length b : Nat) : Int)) - 1)) (List.length b)).bind fun (g : Nat) => (Nl d ((b.take g).drop 0)).bind fun (i : (List Int) × (List (List Int))) => some (true,(i.1),(i.2)))
@[irreducible] def N7i (a : List Int) (b : List (List Int)) : Option (Bool × (List Int) × (List (List Int))) :=
  Ndv a b
def N8y (a : List Int) (b : Int) : Option (Bool) :=
  (Nc a).bind fun (c : Bool) => cond c (cond (decide (b ≥ 1)) (some (decide (b ≤ (((List.length a : Nat) : Int))))) (some false)) (some false)
@[irreducible] def N7m (a : List Int) (b : Int) : Option (Bool) :=
  N8y a b
def Ndg (a : Int) : Option (((List Int))) :=
  (mk a a).bind fun (b : Nat) => some (List.replicate b (0 : Int))
def N9u (a : List Int) : Option (Int) :=
  some (((List.length a : Nat) : Int))
def N8l (a b c : Int) (d : List Int) : Option ((Int × (List Int)) ⊕ ((List Int))) :=
  cond (decide (c < b)) ((inb c (List.length d)).bind fun (g : Nat) => some (Sum.inl ((IntKind.wrap .i64 (c + 1)),(d.set g (IntKind.wrap .i64 (a - c)))))) (some (Sum.inr d))
def Nu0 (a b : Int) (c : List Int) : Option (((List Int))) :=
  nloop (fun (s : Int × (List Int)) => ((N8l a b s.1 s.2).map (Sum.elim (fun (t : Int × (List Int)) => Sum.inl (t.1,t.2)) (fun (t : (List Int)) => Sum.inr t)) : Option ((Int × (List Int)) ⊕ (((List Int)))))) LL (0,c)
def N10b (a b : Int) (c : List Int) : Option (((List Int))) :=
  (Nu0 a b c).map (fun (t : (List Int)) => t)
def Nmh (a : Int) (b : List Int) : Option (((List Int))) :=
  (N9u b).bind (fun (t : Int) => N10b a t b)
def Nac (a : List Int) : Option (((List Int))) :=
  some a
def Nry (a : Int) (b : List Int) : Option (((List Int))) :=
  (Nmh a b).bind (fun (t : (List Int)) => Nac t)
def Nqu (a : Int) : Option (((List Int))) :=
  (Ndg a).bind (fun (t : (List Int)) => Nry a t)
@[irreducible] def N83 (a : Int) : Option ((List Int)) :=
  Nqu a
def Ne4 (a : List Int) (b : Int) : Option (Unit ⊕ Bool) :=
  cond (decide (b < 1)) (some (Sum.inr false)) (cond (decide (b > 8)) (some (Sum.inr false)) (cond ((((List.length a : Nat) : Int)) != b) (some (Sum.inr false)) (some (Sum.inl ()))))
def Ne5 (a : List Int) : Option (Int) :=
  some (((List.length a : Nat) : Int))
def Ncg (a : Int) (b : List Int) (c d : Int) (g : List Bool) : Option ((Int × (List Bool)) ⊕ Bool ⊕ Unit) :=
  cond (decide (d < c)) ((idx b d).bind fun (i : Int) => cond (decide (i < 1)) (some (Sum.inr (Sum.inl false))) (cond (decide (i > a)) (some (Sum.inr (Sum.inl false))) ((same (List.length g) 9).bind fun (j : Unit) => (inb i 9).bind fun (k : Nat) => (g[k]?).bind fun (l : Bool) => cond l (some (Sum.inr (Sum.inl false))) ((same (List.length g) 9).bind fun (m : Unit) => (inb i 9).bind fun (o : Nat) => some (Sum.inl ((IntKind.wrap .i64 (d + 1)),(g.set o true))))))) (some (Sum.inr (Sum.inr ())))
def Nwp (a : Int) (b : List Int) (c : Int) : Option (Bool ⊕ Unit) :=
  nloop (fun (s : Int × (List Bool)) => ((Ncg a b c s.1 s.2).map (Sum.elim (fun (t : Int × (List Bool)) => Sum.inl (t.1,t.2)) (Sum.elim (fun (t : Bool) => Sum.inr (Sum.inl t)) (fun (t : Unit) => Sum.inr (Sum.inr t)))) : Option ((Int × (List Bool)) ⊕ (Bool ⊕ Unit)))) LL (0,(List.replicate 9 false))
def Nlq (a : Int) (b : List Int) (c : Int) : Option (Unit ⊕ Bool) :=
  (Nwp a b c).map (Sum.elim (fun (t : Bool) => (Sum.inr t)) (fun (t : Unit) => (Sum.inl ())))
def Nt6 (a : List Int) (b : Int) : Option (Unit ⊕ Bool) :=
  (Ne5 a).bind (fun (t : Int) => Nlq b a t)
def Ndd : Option (Bool) :=
  some true
def N10l (a : List Int) (b : Int) : Option (Bool) :=
  (Nt6 a b).bind (Sum.elim (fun (t : Unit) => Ndd) (fun e => some ((fun (t : Bool) => t) e)))
def N10c (a : List Int) (b : Int) : Option (Bool) :=
  (Ne4 a b).bind (Sum.elim (fun (t : Unit) => N10l a b) (fun e => some ((fun (t : Bool) => t) e)))
@[irreducible] def N5c (a : List Int) (b : Int) : Option (Bool) :=
  N10c a b
def Nd9 (a : List Int) : Option (((List Int))) :=
  (mk (IntKind.wrap .i64 ((((List.length a : Nat) : Int)) + 1)) (IntKind.wrap .i64 ((((List.length a : Nat) : Int)) + 1))).bind fun (b : Nat) => some (List.replicate b (0 : Int))
def Nau (a : List Int) : Option (Int) :=
  some (((List.length a : Nat) : Int))
def N39 (a : List Int) (b c : Int) (d : List Int) : Option ((Int × (List Int)) ⊕ ((List Int))) :=
  cond (decide (c < b)) ((idx a c).bind fun (g : Int) => (inb g (List.length d)).bind fun (i : Nat) => some (Sum.inl ((IntKind.wrap .i64 (c + 1)),(d.set i (IntKind.wrap .i64 (c + 1)))))) (some (Sum.inr d))
def Nlj (a : List Int) (b : Int) (c : List Int) : Option (((List Int))) :=
  nloop (fun (s : Int × (List Int)) => ((N39 a b s.1 s.2).map (Sum.elim (fun (t : Int × (List Int)) => Sum.inl (t.1,t.2)) (fun (t : (List Int)) => Sum.inr t)) : Option ((Int × (List Int)) ⊕ (((List Int)))))) LL (0,c)
def Nrw (a : List Int) (b : Int) (c : List Int) : Option (((List Int))) :=
  (Nlj a b c).map (fun (t : (List Int)) => t)
def Nmn (a b : List Int) : Option (((List Int))) :=
  (Nau a).bind (fun (t : Int) => Nrw a t b)
def N8m (a : List Int) : Option (((List Int))) :=
  some a
def N10j (a b : List Int) : Option (((List Int))) :=
  (Nmn a b).bind (fun (t : (List Int)) => N8m t)
def Nuf (a : List Int) : Option (((List Int))) :=
  (Nd9 a).bind (fun (t : (List Int)) => N10j a t)
@[irreducible] def N6u (a : List Int) : Option ((List Int)) :=
  Nuf a
def Nd1 (a : Int) (b : List Int) : Option (Int) :=
  (inb a (List.length b)).bind fun (c : Nat) => (b[c]?).bind fun (d : Int) => some d
@[irreducible] def N7v (a : Int) (b : List Int) : Option (Int) :=
  Nd1 a b
def N9t (a : List Int) : Option (((List Int))) :=
  (mk (((List.length a : Nat) : Int)) (((List.length a : Nat) : Int))).bind fun (b : Nat) => some (List.replicate b (0 : Int))
def Nap (a : List Int) : Option (Int) :=
  some (((List.length a : Nat) : Int))
def New (a b : List Int) (c d : Int) (g i : List Int) : Option ((Int × (List Int)) ⊕ ((List Int))) :=
  cond (decide (d < c)) ((idx b d).bind fun (j : Int) => (idx a (IntKind.wrap .i64 (j - 1))).bind fun (k : Int) => (N7v k g).bind fun (l : Int) => (inb d (List.length i)).bind fun (m : Nat) => some (Sum.inl ((IntKind.wrap .i64 (d + 1)),(i.set m l)))) (some (Sum.inr i))
def Nl7 (a b : List Int) (c : Int) (d g : List Int) : Option (((List Int))) :=
  nloop (fun (s : Int × (List Int)) => ((New a b c s.1 d s.2).map (Sum.elim (fun (t : Int × (List Int)) => Sum.inl (t.1,t.2)) (fun (t : (List Int)) => Sum.inr t)) : Option ((Int × (List Int)) ⊕ (((List Int)))))) LL (0,g)
def Ntl (a b : List Int) (c : Int) (d g : List Int) : Option (((List Int))) :=
  (Nl7 a b c d g).map (fun (t : (List Int)) => t)
def Nsm (a b c d : List Int) : Option (((List Int))) :=
  (Nap b).bind (fun (t : Int) => Ntl a b t c d)
def Nch (a : List Int) : Option (((List Int))) :=
  some a
def Nv1 (a b c d : List Int) : Option (((List Int))) :=
  (Nsm a b c d).bind (fun (t : (List Int)) => Nch t)
def Nm2 (a b c : List Int) : Option (((List Int))) :=
  (N9t b).bind (fun (t : (List Int)) => Nv1 a b c t)
@[irreducible] def N54 (a b c : List Int) : Option ((List Int)) :=
  Nm2 a b c
def N9b (a b : List Int) : Option ((Bool × (List Int))) :=
  (Nc a).bind fun (c : Bool) => cond (!c) (some (false,([] : List Int))) ((N5c b (((List.length a : Nat) : Int))).bind fun (d : Bool) => cond (!d) (some (false,([] : List Int))) ((N6u b).bind fun (g : List Int) => (N54 a b g).bind fun (i : List Int) => some (true,i)))
@[irreducible] def N4c (a b : List Int) : Option (Bool × (List Int)) :=
  N9b a b
def Ncj (a : List Int) : Option (((List Int))) :=
  (Nc a).bind fun (b : Bool) => cond (!b) (some ([] : List Int)) ((N83 (((List.length a : Nat) : Int))).bind fun (c : List Int) => (N4c a c).bind fun (d : Bool × (List Int)) => some (d.2))
@[irreducible] def N6o (a : List Int) : Option ((List Int)) :=
  Ncj a
def Na1 (a : List Int) : Option (Unit ⊕ Int) :=
  (Nc a).bind fun (b : Bool) => cond (!b) (some (Sum.inr (-1))) (some (Sum.inl ()))
def Nea (a : List Int) (b c : Int) : Option ((Int × Int) ⊕ (Int × Int)) :=
  (N4h a b c).bind fun (d : Bool × Int × Int) => cond (d.1) (some (Sum.inl ((d.2.1),(d.2.2)))) (some (Sum.inr ((d.2.1),(d.2.2))))
def Nlb (a : List Int) : Option ((Int × Int)) :=
  nloop (fun (s : Int × Int) => ((Nea a s.1 s.2).map (Sum.elim (fun (t : Int × Int) => Sum.inl (t.1,t.2)) (fun (t : Int × Int) => Sum.inr t)) : Option ((Int × Int) ⊕ ((Int × Int))))) LL (1,0)
def Not (a : List Int) : Option ((Int × Int)) :=
  (Nlb a).map (fun (t : Int × Int) => (t.1,t.2))
def Ndl (a : Int) : Option (Int) :=
  some a
def Nyt (a : List Int) : Option (Int) :=
  (Not a).bind (fun (t : Int × Int) => Ndl t.1)
def Nox (a : List Int) : Option (Int) :=
  (Na1 a).bind (Sum.elim (fun (t : Unit) => Nyt a) (fun e => some ((fun (t : Int) => t) e)))
@[irreducible] def N82 (a : List Int) : Option (Int) :=
  Nox a
def N8t (a : Int) : Option (Int) :=
  (shl .u64 1 (IntKind.wrap .i64 (a - 1))).bind fun (b : Int) => some b
@[irreducible] def N4e (a : Int) : Option (Int) :=
  N8t a
def Nbe : Option (Unit) :=
  some ()
def Nef (a : List Int) : Option (Int) :=
  some (((List.length a : Nat) : Int))
def Ndp (a : List Int) (b c d g : Int) : Option ((Int × Int) ⊕ Int) :=
  cond (decide (g < d)) ((idx a g).bind fun (i : Int) => cond (i == b) ((N4e (IntKind.wrap .i64 (g + 1))).bind fun (j : Int) => some (Sum.inl ((ior .u64 c j),(IntKind.wrap .i64 (g + 1))))) (some (Sum.inl (c,(IntKind.wrap .i64 (g + 1)))))) (some (Sum.inr c))
def Nzs (a : List Int) (b c : Int) : Option (Int) :=
  nloop (fun (s : Int × Int) => ((Ndp a b s.1 c s.2).map (Sum.elim (fun (t : Int × Int) => Sum.inl (t.1,t.2)) (fun (t : Int) => Sum.inr t)) : Option ((Int × Int) ⊕ (Int)))) LL (0,0)
def Nja (a : List Int) (b c : Int) : Option (Int) :=
  (Nzs a b c).map (fun (t : Int) => t)
def Nw7 (a : List Int) (b : Int) : Option (Int) :=
  (Nef a).bind (fun (t : Int) => Nja a b t)
def N9m (a : Int) : Option (Int) :=
  some a
def Njo (a : List Int) (b : Int) : Option (Int) :=
  (Nw7 a b).bind (fun (t : Int) => N9m t)
def Nrl (a : List Int) (b : Int) : Option (Int) :=
  (Nbe).bind (fun (t : Unit) => Njo a b)
@[irreducible] def N8c (a : List Int) (b : Int) : Option (Int) :=
  Nrl a b
def Nd5 (a : Int) : Option (Int) :=
  (N4e a).bind fun (b : Int) => some (IntKind.wrap .u64 (b - 1))
@[irreducible] def N48 (a : Int) : Option (Int) :=
  Nd5 a
def Nc0 (a : List Int) (b : Int) : Option ((Int × Int)) :=
  (N8c a b).bind fun (c : Int) => (N48 b).bind fun (d : Int) => (N48 b).bind fun (g : Int) => some ((iand .u64 c d),(iandn .u64 c g))
@[irreducible] def N4q (a : List Int) (b : Int) : Option (Int × Int) :=
  Nc0 a b
def Nas (a : Int) : Option (Int) :=
  (shr .u64 a 1).bind fun (b : Int) => some (IntKind.wrap .u64 ((iand .u64 b 6148914691236517205) + (iand .u64 a 6148914691236517205)))
def Naj (a : Int) : Option (Int) :=
  (shr .u64 a 2).bind fun (b : Int) => some (IntKind.wrap .u64 ((iand .u64 b 3689348814741910323) + (iand .u64 a 3689348814741910323)))
def Nca (a : Int) : Option (Int) :=
  (shr .u64 a 4).bind fun (b : Int) => some (iand .u64 (IntKind.wrap .u64 (b + a)) 1085102592571150095)
def Nbz (a : Int) : Option (Int) :=
  (shr .u64 a 8).bind fun (b : Int) => some (IntKind.wrap .u64 (a + b))
def Neb (a : Int) : Option (Int) :=
  (shr .u64 a 16).bind fun (b : Int) => some (IntKind.wrap .u64 (a + b))
def Ncc (a : Int) : Option (Int) :=
  (shr .u64 a 32).bind fun (b : Int) => some (IntKind.wrap .u64 (a + b))
def Ncn (a : Int) : Option (Int) :=
  some (iand .i64 (IntKind.wrap .i64 a) 127)
def Nem (a : Int) : Option (Int) :=
  some a
def Nuh (a : Int) : Option (Int) :=
  (Ncn a).bind (fun (t : Int) => Nem t)
def Nzg (a : Int) : Option (Int) :=
  (Ncc a).bind (fun (t : Int) => Nuh t)
def Nsk (a : Int) : Option (Int) :=
  (Neb a).bind (fun (t : Int) => Nzg t)
def Nt5 (a : Int) : Option (Int) :=
  (Nbz a).bind (fun (t : Int) => Nsk t)
def Nmt (a : Int) : Option (Int) :=
  (Nca a).bind (fun (t : Int) => Nt5 t)
def Nv5 (a : Int) : Option (Int) :=
  (Naj a).bind (fun (t : Int) => Nmt t)
def N10m (a : Int) : Option (Int) :=
  (Nas a).bind (fun (t : Int) => Nv5 t)
@[irreducible] def N4m (a : Int) : Option (Int) :=
  N10m a
def N8q (a : Int) : Option (Int) :=
  (N4m a).bind fun (b : Int) => some b
@[irreducible] def N5v (a : Int) : Option (Int) :=
  N8q a
def Naf (a : Int) : Option (Int) :=
  (N5v a).bind fun (b : Int) => some b
@[irreducible] def N6e (a : Int) : Option (Int) :=
  Naf a
def Nc5 (a : Int) : Option (Int) :=
  cond (a == 0) (some 64) ((shr .u64 (IntKind.wrap .u64 ((iand .u64 a (IntKind.wrap .u64 (0 - a))) * 285870213051353865)) 58).bind fun (b : Int) => (same (List.length tab1) 64).bind fun (c : Unit) => (idx tab1 b).bind fun (d : Int) => some (IntKind.wrap .i64 d))
@[irreducible] def N59 (a : Int) : Option (Int) :=
  Nc5 a
def Ndh (a : Int) : Option (Int) :=
  (N59 a).bind fun (b : Int) => some b
@[irreducible] def N50 (a : Int) : Option (Int) :=
  Ndh a
def N9w (a : Int) : Option (((List Int))) :=
  (N6e a).bind fun (b : Int) => (mk 0 b).bind fun (c : Nat) => some (List.replicate c (0 : Int))
def Nbm : Option (Unit) :=
  some ()
def Nay (a : Int) (b : List Int) : Option ((Int × (List Int)) ⊕ ((List Int))) :=
  cond (a != 0) ((N50 a).bind fun (c : Int) => (room ((List.length b) + List.length ([(IntKind.wrap .i64 (c + 1))]))).bind fun (d : Unit) => some (Sum.inl ((iand .u64 a (IntKind.wrap .u64 (a - 1))),(b ++ ([(IntKind.wrap .i64 (c + 1))]))))) (some (Sum.inr b))
def Np9 (a : Int) (b : List Int) : Option (((List Int))) :=
  nloop (fun (s : Int × (List Int)) => ((Nay s.1 s.2).map (Sum.elim (fun (t : Int × (List Int)) => Sum.inl (t.1,t.2)) (fun (t : (List Int)) => Sum.inr t)) : Option ((Int × (List Int)) ⊕ (((List Int)))))) LL (a,b)
def Nqf (a : Int) (b : List Int) : Option (((List Int))) :=
  (Np9 a b).map (fun (t : (List Int)) => t)
def Nmm (a : Int) (b : List Int) : Option (((List Int))) :=
  (Nbm).bind (fun (t : Unit) => Nqf a b)
def Nee (a : List Int) : Option (((List Int))) :=
  some a
def Nun (a : Int) (b : List Int) : Option (((List Int))) :=
  (Nmm a b).bind (fun (t : (List Int)) => Nee t)
def Nrp (a : Int) : Option (((List Int))) :=
  (N9w a).bind (fun (t : (List Int)) => Nun a t)
@[irreducible] def N6n (a : Int) : Option ((List Int)) :=
  Nrp a
def N9x (R0 R1 : (List Int) → Int → (List Int) → Option ((List Int))) (a : List Int) (b : Int) (c : List Int) : Option (((List Int))) :=
  (N4q a b).bind fun (d : Int × Int) => (R1 a (d.1) c).bind fun (g : List Int) => (room ((List.length g) + List.length ([b]))).bind fun (i : Unit) => (R1 a (d.2) (g ++ ([b]))).bind fun (j : List Int) => some j
def Nkz (R0 R1 : (List Int) → Int → (List Int) → Option ((List Int))) (a : List Int) (b : Int) (c : List Int) : Option ((List Int)) :=
  N9x R0 R1 a b c
def Nce (R0 R1 : (List Int) → Int → (List Int) → Option ((List Int))) : Option (Unit) :=
  some ()
def Na7 (R0 R1 : (List Int) → Int → (List Int) → Option ((List Int))) (a : Int) : Option ((Int × (List Int))) :=
  (N6n a).bind fun (b : List Int) => some ((((List.length b : Nat) : Int)),b)
def N96 (R0 R1 : (List Int) → Int → (List Int) → Option ((List Int))) (a : List Int) (b c : Int) (d g : List Int) : Option ((Int × (List Int)) ⊕ ((List Int))) :=
  cond (decide (c < b)) ((inb c (List.length g)).bind fun (i : Nat) => (g[i]?).bind fun (j : Int) => (R0 a j d).bind fun (k : List Int) => some (Sum.inl ((IntKind.wrap .i64 (c + 1)),k))) (some (Sum.inr d))
def Nzr (R0 R1 : (List Int) → Int → (List Int) → Option ((List Int))) (a : List Int) (b : Int) (c d : List Int) : Option (((List Int))) :=
  nloop (fun (s : Int × (List Int)) => ((N96 R0 R1 a b s.1 s.2 d).map (Sum.elim (fun (t : Int × (List Int)) => Sum.inl (t.1,t.2)) (fun (t : (List Int)) => Sum.inr t)) : Option ((Int × (List Int)) ⊕ (((List Int)))))) LL (0,c)
def Nwo (R0 R1 : (List Int) → Int → (List Int) → Option ((List Int))) (a : List Int) (b : Int) (c d : List Int) : Option (((List Int))) :=
  (Nzr R0 R1 a b c d).map (fun (t : (List Int)) => t)
def Npv (R0 R1 : (List Int) → Int → (List Int) → Option ((List Int))) (a : List Int) (b : Int) (c : List Int) : Option (((List Int))) :=
  (Na7 R0 R1 b).bind (fun (t : Int × (List Int)) => Nwo R0 R1 a t.1 c t.2)
def Ncs (R0 R1 : (List Int) → Int → (List Int) → Option ((List Int))) (a : List Int) : Option (((List Int))) :=
  some a
def Nkm (R0 R1 : (List Int) → Int → (List Int) → Option ((List Int))) (a : List Int) (b : Int) (c : List Int) : Option (((List Int))) :=
  (Npv R0 R1 a b c).bind (fun (t : (List Int)) => Ncs R0 R1 t)
def N106 (R0 R1 : (List Int) → Int → (List Int) → Option ((List Int))) (a : List Int) (b : Int) (c : List Int) : Option (((List Int))) :=
  (Nce R0 R1).bind (fun (t : Unit) => Nkm R0 R1 a b c)
def Niq (R0 R1 : (List Int) → Int → (List Int) → Option ((List Int))) (a : List Int) (b : Int) (c : List Int) : Option ((List Int)) :=
  N106 R0 R1 a b c
def N1n : Nat → ((List Int) → Int → (List Int) → Option ((List Int))) × ((List Int) → Int → (List Int) → Option ((List Int)))
  | 0 => ((fun _ _ _ => none),(fun _ _ _ => none))
  | n + 1 => ((fun y0 y1 y2 => Nkz (N1n n).1 (N1n n).2 y0 y1 y2),(fun y0 y1 y2 => Niq (N1n n).1 (N1n n).2 y0 y1 y2))
def N12 (n : Nat) : (List Int) → Int → (List Int) → Option ((List Int)) := (N1n n).1
@[irreducible] def Nd2 (a : List Int) (b : Int) (c : List Int) : Option ((List Int)) := N12 RR a b c
def N1a (n : Nat) : (List Int) → Int → (List Int) → Option ((List Int)) := (N1n n).2
@[irreducible] def Nhs (a : List Int) (b : Int) (c : List Int) : Option ((List Int)) := N1a RR a b c
def Nd8 (a : List Int) : Option (((List Int))) :=
  (Nc a).bind fun (b : Bool) => cond (!b) (some ([] : List Int)) ((N82 a).bind fun (c : Int) => (mk 0 (((List.length a : Nat) : Int))).bind fun (d : Nat) => (Nd2 a c (List.replicate d (0 : Int))).bind fun (g : List Int) => some g)
@[irreducible] def N75 (a : List Int) : Option ((List Int)) :=
  Nd8 a
def Nbx (a : List Int) : Option (((List Int))) :=
  (N75 a).bind fun (b : List Int) => (N4c a b).bind fun (c : Bool × (List Int)) => some (c.2)
@[irreducible] def N4v (a : List Int) : Option ((List Int)) :=
  Nbx a
def Ndk (a : List Int) (b c d : Int) : Option (((List Int))) :=
  cond (b == 0) ((N7m a c).bind fun (g : Bool) => cond (!g) (some ([] : List Int)) ((N43 a).bind fun (i : List Int) => (inb (IntKind.wrap .i64 (c - 1)) (List.length i)).bind fun (j : Nat) => some (i.set j d))) (cond (b == 1) ((N43 a).bind fun (k : List Int) => (room ((List.length k) + List.length ([c]))).bind fun (l : Unit) => some (k ++ ([c]))) (cond (b == 2) ((inc (IntKind.wrap .i64 ((((List.length a : Nat) : Int)) - 1)) (List.length a)).bind fun (m : Nat) => (N43 ((a.take m).drop 0)).bind fun (o : List Int) => some o) (cond (b == 3) ((N6o a).bind fun (p : List Int) => some p) (cond (b == 4) ((N4v a).bind fun (q : List Int) => some q) (some ([] : List Int))))))
@[irreducible] def N6t (a : List Int) (b c d : Int) : Option ((List Int)) :=
  Ndk a b c d
def Nbv (a b : List Int) : Option (Unit ⊕ Bool) :=
  cond ((((List.length a : Nat) : Int)) != (((List.length b : Nat) : Int))) (some (Sum.inr false)) (some (Sum.inl ()))
def N8w (a : List Int) : Option (Int) :=
  some (((List.length a : Nat) : Int))
def Ndo (a b : List Int) (c d : Int) : Option (Int ⊕ Bool ⊕ Unit) :=
  cond (decide (d < c)) ((idx a d).bind fun (g : Int) => (idx b d).bind fun (i : Int) => cond (g != i) (some (Sum.inr (Sum.inl false))) (some (Sum.inl (IntKind.wrap .i64 (d + 1))))) (some (Sum.inr (Sum.inr ())))
def Nwt (a b : List Int) (c : Int) : Option (Bool ⊕ Unit) :=
  nloop (fun (s : Int) => ((Ndo a b c s).map (Sum.elim (fun (t : Int) => Sum.inl t) (Sum.elim (fun (t : Bool) => Sum.inr (Sum.inl t)) (fun (t : Unit) => Sum.inr (Sum.inr t)))) : Option ((Int) ⊕ (Bool ⊕ Unit)))) LL 0
def Nue (a b : List Int) (c : Int) : Option (Unit ⊕ Bool) :=
  (Nwt a b c).map (Sum.elim (fun (t : Bool) => (Sum.inr t)) (fun (t : Unit) => (Sum.inl ())))
def Nyu (a b : List Int) : Option (Unit ⊕ Bool) :=
  (N8w a).bind (fun (t : Int) => Nue a b t)
def N98 : Option (Bool) :=
  some true
def Nwn (a b : List Int) : Option (Bool) :=
  (Nyu a b).bind (Sum.elim (fun (t : Unit) => N98) (fun e => some ((fun (t : Bool) => t) e)))
def Nw9 (a b : List Int) : Option (Bool) :=
  (Nbv a b).bind (Sum.elim (fun (t : Unit) => Nwn a b) (fun e => some ((fun (t : Bool) => t) e)))
@[irreducible] def N6s (a b : List Int) : Option (Bool) :=
  Nw9 a b
def Nyo (x1 : List (List Int)) : Option (List (List Int)) := cloneD x1
def Ncm (a : List Int) (b : List (List Int)) (c d g : Int) : Option ((Bool × (List Int) × (List (List Int)))) :=
  (N6t a c d g).bind fun (i : List Int) => (Nc i).bind fun (j : Bool) => cond (!j) ((Nl a b).bind fun (k : (List Int) × (List (List Int))) => some (false,(k.1),(k.2))) ((N6s i a).bind fun (l : Bool) => cond l ((Nl a b).bind fun (m : (List Int) × (List (List Int))) => some (false,(m.1),(m.2))) ((Nyo b).bind fun (o : List (List Int)) => (room ((List.length o) + List.length ([a]))).bind fun (p : Unit) => (inc (imax 0 (IntKind.wrap .i64 ((((List.length (o ++ ([a])) : Nat) : Int)) - 8))) (List.length (o ++ ([a])))).bind fun (q : Nat) => (Nl i (((o ++ ([a])).drop q).take ((List.length (o ++ ([a]))) - q))).bind fun (w : (List Int) × (List (List Int))) => some (true,(w.1),(w.2))))
@[irreducible] def N88 (a : List Int) (b : List (List Int)) (c d g : Int) : Option (Bool × (List Int) × (List (List Int))) :=
  Ncm a b c d g
def Nai (a : List Int) (b : List (List Int)) (c d g : Int) : Option ((Bool × (List Int) × (List (List Int)))) :=
  (N4d a b).bind fun (i : Bool) => cond (!i) (some (false,([] : List Int),([] : List (List Int)))) ((N6m c d g).bind fun (j : Bool) => cond (!j) ((Nl a b).bind fun (k : (List Int) × (List (List Int))) => some (false,(k.1),(k.2))) (cond (c == 5) ((N7i a b).bind fun (l : Bool × (List Int) × (List (List Int))) => some ((l.1),(l.2.1),(l.2.2))) ((N88 a b c d g).bind fun (m : Bool × (List Int) × (List (List Int))) => some ((m.1),(m.2.1),(m.2.2)))))
@[irreducible] def N76 (a : List Int) (b : List (List Int)) (c d g : Int) : Option (Bool × (List Int) × (List (List Int))) :=
  Nai a b c d g
def N68 (a b : List Int) : Option (Unit ⊕ Bool) :=
  cond ((((List.length a : Nat) : Int)) != (((List.length b : Nat) : Int))) (some (Sum.inr false)) (some (Sum.inl ()))
def N61 : Option (Unit) :=
  some ()
def N31 (a b : List Int) (c : Int) : Option (Int ⊕ Bool ⊕ Unit) :=
  cond (decide (c < (((List.length a : Nat) : Int)))) ((idx a c).bind fun (d : Int) => (idx b c).bind fun (g : Int) => cond (d != g) (some (Sum.inr (Sum.inl false))) (some (Sum.inl (IntKind.wrap .i64 (c + 1))))) (some (Sum.inr (Sum.inr ())))
def Ngw (a b : List Int) : Option (Bool ⊕ Unit) :=
  nloop (fun (s : Int) => ((N31 a b s).map (Sum.elim (fun (t : Int) => Sum.inl t) (Sum.elim (fun (t : Bool) => Sum.inr (Sum.inl t)) (fun (t : Unit) => Sum.inr (Sum.inr t)))) : Option ((Int) ⊕ (Bool ⊕ Unit)))) LL 0
def Nfe (a b : List Int) : Option (Unit ⊕ Bool) :=
  (Ngw a b).map (Sum.elim (fun (t : Bool) => (Sum.inr t)) (fun (t : Unit) => (Sum.inl ())))
def Ney (a b : List Int) : Option (Unit ⊕ Bool) :=
  (N61).bind (fun (t : Unit) => Nfe a b)
def N81 : Option (Bool) :=
  some true
def Ngr (a b : List Int) : Option (Bool) :=
  (Ney a b).bind (Sum.elim (fun (t : Unit) => N81) (fun e => some ((fun (t : Bool) => t) e)))
def Ngj (a b : List Int) : Option (Bool) :=
  (N68 a b).bind (Sum.elim (fun (t : Unit) => Ngr a b) (fun e => some ((fun (t : Bool) => t) e)))
@[irreducible] def N2b (a b : List Int) : Option (Bool) :=
  Ngj a b
def N5m (a b : List (List Int)) : Option (Unit ⊕ Bool) :=
  cond ((((List.length a : Nat) : Int)) != (((List.length b : Nat) : Int))) (some (Sum.inr false)) (some (Sum.inl ()))
def N70 : Option (Unit) :=
  some ()
def N2p (a b : List (List Int)) (c : Int) : Option (Int ⊕ Bool ⊕ Unit) :=
  cond (decide (c < (((List.length a : Nat) : Int)))) ((idx a c).bind fun (d : List Int) => (idx b c).bind fun (g : List Int) => (N2b d g).bind fun (i : Bool) => cond (!i) (some (Sum.inr (Sum.inl false))) (some (Sum.inl (IntKind.wrap .i64 (c + 1))))) (some (Sum.inr (Sum.inr ())))
def Nik (a b : List (List Int)) : Option (Bool ⊕ Unit) :=
  nloop (fun (s : Int) => ((N2p a b s).map (Sum.elim (fun (t : Int) => Sum.inl t) (Sum.elim (fun (t : Bool) => Sum.inr (Sum.inl t)) (fun (t : Unit) => Sum.inr (Sum.inr t)))) : Option ((Int) ⊕ (Bool ⊕ Unit)))) LL 0
def Nhy (a b : List (List Int)) : Option (Unit ⊕ Bool) :=
  (Nik a b).map (Sum.elim (fun (t : Bool) => (Sum.inr t)) (fun (t : Unit) => (Sum.inl ())))
def Nil (a b : List (List Int)) : Option (Unit ⊕ Bool) :=
  (N70).bind (fun (t : Unit) => Nhy a b)
def N67 : Option (Bool) :=
  some true
def Nfu (a b : List (List Int)) : Option (Bool) :=
  (Nil a b).bind (Sum.elim (fun (t : Unit) => N67) (fun e => some ((fun (t : Bool) => t) e)))
def Ncx (a b : List (List Int)) : Option (Bool) :=
  (N5m a b).bind (Sum.elim (fun (t : Unit) => Nfu a b) (fun e => some ((fun (t : Bool) => t) e)))
@[irreducible] def N29 (a b : List (List Int)) : Option (Bool) :=
  Ncx a b
def N7h (a : List Int) (b : List (List Int)) (c : List Int) (d : List (List Int)) : Option (Bool) :=
  (N2b a c).bind fun (g : Bool) => cond (!g) (some false) ((N29 b d).bind fun (i : Bool) => cond (!i) (some false) (some true))
@[irreducible] def N1e (a : List Int) (b : List (List Int)) (c : List Int) (d : List (List Int)) : Option (Bool) :=
  N7h a b c d
def N7p : Option (Unit) :=
  some ()
def N7d : Option (Unit) :=
  some ()
def N4i (a b : Int) (c : List Int) : Option ((Int × Int × (List Int)) ⊕ (Int × (List Int))) :=
  cond (decide (b < (((List.length c : Nat) : Int)))) ((inb b (List.length c)).bind fun (d : Nat) => some (Sum.inl ((IntKind.wrap .i64 (a + 1)),(IntKind.wrap .i64 (b + 1)),(c.set d a)))) (some (Sum.inr (a,c)))
def Nfd (a : Int) (b : List Int) : Option ((Int × (List Int))) :=
  nloop (fun (s : Int × Int × (List Int)) => ((N4i s.1 s.2.1 s.2.2).map (Sum.elim (fun (t : Int × Int × (List Int)) => Sum.inl (t.1,t.2.1,t.2.2)) (fun (t : Int × (List Int)) => Sum.inr t)) : Option ((Int × Int × (List Int)) ⊕ ((Int × (List Int)))))) LL (a,0,b)
def Ni4 (a : Int) (b : List Int) : Option ((Int × (List Int))) :=
  (Nfd a b).map (fun (t : Int × (List Int)) => (t.1,t.2))
def Ng2 (a : Int) (b : List Int) : Option ((Int × (List Int))) :=
  (N7d).bind (fun (t : Unit) => Ni4 a b)
def N5z (a : Int) (b : List Int) : Option ((Int × (List Int))) :=
  some (a,b)
def Nib (a : Int) (b : List Int) : Option ((Int × (List Int))) :=
  (Ng2 a b).bind (fun (t : Int × (List Int)) => N5z t.1 t.2)
def Ni2 (a : Int) (b : List Int) : Option ((Int × (List Int))) :=
  (N7p).bind (fun (t : Unit) => Nib a b)
@[irreducible] def N1o (a : Int) (b : List Int) : Option (Int × (List Int)) :=
  Ni2 a b
def N7g : Option (Unit) :=
  some ()
def N80 : Option (Unit) :=
  some ()
def N2j (a b : Int) (c : List (List Int)) : Option ((Int × Int × (List (List Int))) ⊕ (Int × (List (List Int)))) :=
  cond (decide (b < (((List.length c : Nat) : Int)))) ((inb b (List.length c)).bind fun (d : Nat) => ((c)[d]?).bind fun (g : List Int) => (N1o a g).bind fun (i : Int × (List Int)) => some (Sum.inl ((i.1),(IntKind.wrap .i64 (b + 1)),((((c).set d [])).set d (i.2))))) (some (Sum.inr (a,c)))
def Nh2 (a : Int) (b : List (List Int)) : Option ((Int × (List (List Int)))) :=
  nloop (fun (s : Int × Int × (List (List Int))) => ((N2j s.1 s.2.1 s.2.2).map (Sum.elim (fun (t : Int × Int × (List (List Int))) => Sum.inl (t.1,t.2.1,t.2.2)) (fun (t : Int × (List (List Int))) => Sum.inr t)) : Option ((Int × Int × (List (List Int))) ⊕ ((Int × (List (List Int))))))) LL (a,0,b)
def Nfm (a : Int) (b : List (List Int)) : Option ((Int × (List (List Int)))) :=
  (Nh2 a b).map (fun (t : Int × (List (List Int))) => (t.1,t.2))
def Ngv (a : Int) (b : List (List Int)) : Option ((Int × (List (List Int)))) :=
  (N80).bind (fun (t : Unit) => Nfm a b)
def N72 (a : Int) (b : List (List Int)) : Option ((Int × (List (List Int)))) :=
  some (a,b)
def Ngn (a : Int) (b : List (List Int)) : Option ((Int × (List (List Int)))) :=
  (Ngv a b).bind (fun (t : Int × (List (List Int))) => N72 t.1 t.2)
def Ncl (a : Int) (b : List (List Int)) : Option ((Int × (List (List Int)))) :=
  (N7g).bind (fun (t : Unit) => Ngn a b)
@[irreducible] def N28 (a : Int) (b : List (List Int)) : Option (Int × (List (List Int))) :=
  Ncl a b
def N64 (a : Int) (b : List Int) (c : List (List Int)) : Option ((Int × (List Int) × (List (List Int)))) :=
  (N1o a b).bind fun (d : Int × (List Int)) => (N28 (d.1) c).bind fun (g : Int × (List (List Int))) => some ((g.1),(d.2),(g.2))
@[irreducible] def N1u (a : Int) (b : List Int) (c : List (List Int)) : Option (Int × (List Int) × (List (List Int))) :=
  N64 a b c
def N7l : Option (Unit) :=
  some ()
def N85 : Option (Unit) :=
  some ()
def N4f (a : List Int) (b c : Int) : Option ((Int × Int) ⊕ Int ⊕ Int) :=
  cond (decide (c < (((List.length a : Nat) : Int)))) ((idx a c).bind fun (d : Int) => cond (d != b) (some (Sum.inr (Sum.inl (-1)))) (some (Sum.inl ((IntKind.wrap .i64 (b + 1)),(IntKind.wrap .i64 (c + 1)))))) (some (Sum.inr (Sum.inr b)))
def Nh5 (a : List Int) (b : Int) : Option (Int ⊕ Int) :=
  nloop (fun (s : Int × Int) => ((N4f a s.1 s.2).map (Sum.elim (fun (t : Int × Int) => Sum.inl (t.1,t.2)) (Sum.elim (fun (t : Int) => Sum.inr (Sum.inl t)) (fun (t : Int) => Sum.inr (Sum.inr t)))) : Option ((Int × Int) ⊕ (Int ⊕ Int)))) LL (b,0)
def Nhl (a : List Int) (b : Int) : Option (Int ⊕ Int) :=
  (Nh5 a b).map (Sum.elim (fun (t : Int) => (Sum.inr t)) (fun (t : Int) => (Sum.inl t)))
def Nhq (a : List Int) (b : Int) : Option (Int ⊕ Int) :=
  (N85).bind (fun (t : Unit) => Nhl a b)
def N4n (a : Int) : Option (Int) :=
  some a
def Ngq (a : List Int) (b : Int) : Option (Int) :=
  (Nhq a b).bind (Sum.elim (fun (t : Int) => N4n t) (fun e => some ((fun (t : Int) => t) e)))
def Ngc (a : List Int) (b : Int) : Option (Int) :=
  (N7l).bind (fun (t : Unit) => Ngq a b)
@[irreducible] def N1p (a : List Int) (b : Int) : Option (Int) :=
  Ngc a b
def N5y : Option (Unit) :=
  some ()
def N4y : Option (Unit) :=
  some ()
def N2q (a : List (List Int)) (b c : Int) : Option ((Int × Int) ⊕ Int ⊕ Int) :=
  cond (decide (c < (((List.length a : Nat) : Int)))) ((idx a c).bind fun (d : List Int) => (N1p d b).bind fun (g : Int) => cond (decide (g < 0)) (some (Sum.inr (Sum.inl (-1)))) (some (Sum.inl (g,(IntKind.wrap .i64 (c + 1)))))) (some (Sum.inr (Sum.inr b)))
def Nh9 (a : List (List Int)) (b : Int) : Option (Int ⊕ Int) :=
  nloop (fun (s : Int × Int) => ((N2q a s.1 s.2).map (Sum.elim (fun (t : Int × Int) => Sum.inl (t.1,t.2)) (Sum.elim (fun (t : Int) => Sum.inr (Sum.inl t)) (fun (t : Int) => Sum.inr (Sum.inr t)))) : Option ((Int × Int) ⊕ (Int ⊕ Int)))) LL (b,0)
def Nio (a : List (List Int)) (b : Int) : Option (Int ⊕ Int) :=
  (Nh9 a b).map (Sum.elim (fun (t : Int) => (Sum.inr t)) (fun (t : Int) => (Sum.inl t)))
def Ng8 (a : List (List Int)) (b : Int) : Option (Int ⊕ Int) :=
  (N4y).bind (fun (t : Unit) => Nio a b)
def N7q (a : Int) : Option (Int) :=
  some a
def Ngp (a : List (List Int)) (b : Int) : Option (Int) :=
  (Ng8 a b).bind (Sum.elim (fun (t : Int) => N7q t) (fun e => some ((fun (t : Int) => t) e)))
def N9n (a : List (List Int)) (b : Int) : Option (Int) :=
  (N5y).bind (fun (t : Unit) => Ngp a b)
@[irreducible] def N1t (a : List (List Int)) (b : Int) : Option (Int) :=
  N9n a b
def N6d (a : List Int) (b : List (List Int)) (c : Int) : Option (Int) :=
  (N1p a c).bind fun (d : Int) => cond (decide (d < 0)) (some (-1)) ((N1t b d).bind fun (g : Int) => cond (decide (g < 0)) (some (-1)) (some g))
@[irreducible] def N21 (a : List Int) (b : List (List Int)) (c : Int) : Option (Int) :=
  N6d a b c
def N87 (a : List (Int × Int × Int × Unit)) (b : Int) : Option (Int) :=
  cond (decide ((IntKind.wrap .i64 (b - (((List.length a : Nat) : Int)))) < 0)) (some (-1)) (some (IntKind.wrap .i64 (b - (((List.length a : Nat) : Int)))))
@[irreducible] def N4k (a : List (Int × Int × Int × Unit)) (b : Int) : Option (Int) :=
  N87 a b
def N57 (a : List (Int × Int × Int × Unit)) : Option (((List (Int × Int × Int × Unit)))) :=
  (mk (((List.length a : Nat) : Int)) (((List.length a : Nat) : Int))).bind fun (b : Nat) => some (List.replicate b ((0 : Int),((0 : Int),((0 : Int),()))))
def N6v : Option (Unit) :=
  some ()
def N2n (a : List (Int × Int × Int × Unit)) (b : Int) (c : List (Int × Int × Int × Unit)) : Option ((Int × (List (Int × Int × Int × Unit))) ⊕ ((List (Int × Int × Int × Unit)))) :=
  cond (decide (b < (((List.length a : Nat) : Int)))) ((idx a b).bind fun (d : Int × Int × Int × Unit) => (N3e (d.1) ((d.2).1) (((d.2).2).1)).bind fun (g : Unit) => (inb b (List.length c)).bind fun (i : Nat) => ((c)[i]?).bind fun (j : Int × Int × Int × Unit) => some (Sum.inl ((IntKind.wrap .i64 (b + 1)),((c).set i ((d.1),(((d.2).1),((((d.2).2).1),()))))))) (some (Sum.inr c))
def Nf8 (a b : List (Int × Int × Int × Unit)) : Option (((List (Int × Int × Int × Unit)))) :=
  nloop (fun (s : Int × (List (Int × Int × Int × Unit))) => ((N2n a s.1 s.2).map (Sum.elim (fun (t : Int × (List (Int × Int × Int × Unit))) => Sum.inl (t.1,t.2)) (fun (t : (List (Int × Int × Int × Unit))) => Sum.inr t)) : Option ((Int × (List (Int × Int × Int × Unit))) ⊕ (((List (Int × Int × Int × Unit))))))) LL (0,b)
def Ng3 (a b : List (Int × Int × Int × Unit)) : Option (((List (Int × Int × Int × Unit)))) :=
  (Nf8 a b).map (fun (t : (List (Int × Int × Int × Unit))) => t)
def Nij (a b : List (Int × Int × Int × Unit)) : Option (((List (Int × Int × Int × Unit)))) :=
  (N6v).bind (fun (t : Unit) => Ng3 a b)
def N4l (a : List (Int × Int × Int × Unit)) : Option (((List (Int × Int × Int × Unit)))) :=
  some a
def Nhk (a b : List (Int × Int × Int × Unit)) : Option (((List (Int × Int × Int × Unit)))) :=
  (Nij a b).bind (fun (t : (List (Int × Int × Int × Unit))) => N4l t)
def Nbp (a : List (Int × Int × Int × Unit)) : Option (((List (Int × Int × Int × Unit)))) :=
  (N57 a).bind (fun (t : (List (Int × Int × Int × Unit))) => Nhk a t)
@[irreducible] def Nq (a : List (Int × Int × Int × Unit)) : Option ((List (Int × Int × Int × Unit))) :=
  Nbp a
def N6h (a : List Int) (b : List (List Int)) (c : List (Int × Int × Int × Unit)) : Option (((List Int) × (List (List Int))) ⊕ (Int × (List Int) × (List (List Int)))) :=
  (N1r a b).bind fun (d : Bool) => cond (!d) (some (Sum.inr (0,([] : List Int),([] : List (List Int))))) (cond (decide ((((List.length c : Nat) : Int)) > 40)) (some (Sum.inr (0,([] : List Int),([] : List (List Int))))) ((N1l a b).bind fun (g : (List Int) × (List (List Int))) => some (Sum.inl ((g.1),(g.2)))))
def N4w : Option (Unit) :=
  some ()
def N2x (a : List (Int × Int × Int × Unit)) (b c : Int) (d : List Int) (g : List (List Int)) : Option ((Int × Int × (List Int) × (List (List Int))) ⊕ (Int × (List Int) × (List (List Int)))) :=
  cond (decide (c < (((List.length a : Nat) : Int)))) ((idx a c).bind fun (i : Int × Int × Int × Unit) => (N2a d g (i.1) ((i.2).1) (((i.2).2).1)).bind fun (j : Bool × (List Int) × (List (List Int))) => cond (j.1) (some (Sum.inl ((IntKind.wrap .i64 (b + 1)),(IntKind.wrap .i64 (c + 1)),(j.2.1),(j.2.2)))) (some (Sum.inl (b,(IntKind.wrap .i64 (c + 1)),d,g)))) (some (Sum.inr (b,d,g)))
def Nfj (a : List (Int × Int × Int × Unit)) (b : List Int) (c : List (List Int)) : Option ((Int × (List Int) × (List (List Int)))) :=
  nloop (fun (s : Int × Int × (List Int) × (List (List Int))) => ((N2x a s.1 s.2.1 s.2.2.1 s.2.2.2).map (Sum.elim (fun (t : Int × Int × (List Int) × (List (List Int))) => Sum.inl (t.1,t.2.1,t.2.2.1,t.2.2.2)) (fun (t : Int × (List Int) × (List (List Int))) => Sum.inr t)) : Option ((Int × Int × (List Int) × (List (List Int))) ⊕ ((Int × (List Int) × (List (List Int))))))) LL (0,0,b,c)
def Nhz (a : List (Int × Int × Int × Unit)) (b : List Int) (c : List (List Int)) : Option ((Int × (List Int) × (List (List Int)))) :=
  (Nfj a b c).map (fun (t : Int × (List Int) × (List (List Int))) => (t.1,t.2.1,t.2.2))
def Nf7 (a : List (Int × Int × Int × Unit)) (b : List Int) (c : List (List Int)) : Option ((Int × (List Int) × (List (List Int)))) :=
  (N4w).bind (fun (t : Unit) => Nhz a b c)
def Nda (a : Int) (b : List Int) (c : List (List Int)) : Option ((Int × (List Int) × (List (List Int)))) :=
  some (a,b,c)
def Ngd (a : List (Int × Int × Int × Unit)) (b : List Int) (c : List (List Int)) : Option ((Int × (List Int) × (List (List Int)))) :=
  (Nf7 a b c).bind (fun (t : Int × (List Int) × (List (List Int))) => Nda t.1 t.2.1 t.2.2)
def Na6 (a : List Int) (b : List (List Int)) (c : List (Int × Int × Int × Unit)) : Option ((Int × (List Int) × (List (List Int)))) :=
  (N6h a b c).bind (Sum.elim (fun (t : (List Int) × (List (List Int))) => Ngd c t.1 t.2) (fun e => some ((fun (t : Int × (List Int) × (List (List Int))) => t) e)))
@[irreducible] def N24 (a : List Int) (b : List (List Int)) (c : List (Int × Int × Int × Unit)) : Option (Int × (List Int) × (List (List Int))) :=
  Na6 a b c
def Nc7 (a : List Int) (b : List (List Int)) (c : List (Int × Int × Int × Unit)) : Option (((List Int) × (List (List Int))) ⊕ (Int × (List Int) × (List (List Int)))) :=
  (N4d a b).bind fun (d : Bool) => cond (!d) (some (Sum.inr (0,([] : List Int),([] : List (List Int))))) (cond (decide ((((List.length c : Nat) : Int)) > 40)) (some (Sum.inr (0,([] : List Int),([] : List (List Int))))) ((Nl a b).bind fun (g : (List Int) × (List (List Int))) => some (Sum.inl ((g.1),(g.2)))))
def Nep (a : List (Int × Int × Int × Unit)) : Option (Int) :=
  some (((List.length a : Nat) : Int))
def Ncv (a : Int) (b : List (Int × Int × Int × Unit)) (c d : Int) (g : List Int) (i : List (List Int)) : Option ((Int × Int × (List Int) × (List (List Int))) ⊕ (Int × (List Int) × (List (List Int)))) :=
  cond (decide (d < c)) ((idx b d).bind fun (j : Int × Int × Int × Unit) => (N76 g i (j.1) ((j.2).1) (((j.2).2).1)).bind fun (k : Bool × (List Int) × (List (List Int))) => cond (k.1) (some (Sum.inl ((IntKind.wrap .i64 (a + 1)),(IntKind.wrap .i64 (d + 1)),(k.2.1),(k.2.2)))) (some (Sum.inl (a,(IntKind.wrap .i64 (d + 1)),g,i)))) (some (Sum.inr (a,g,i)))
def Nxn (a : List (Int × Int × Int × Unit)) (b : Int) (c : List Int) (d : List (List Int)) : Option ((Int × (List Int) × (List (List Int)))) :=
  nloop (fun (s : Int × Int × (List Int) × (List (List Int))) => ((Ncv s.1 a b s.2.1 s.2.2.1 s.2.2.2).map (Sum.elim (fun (t : Int × Int × (List Int) × (List (List Int))) => Sum.inl (t.1,t.2.1,t.2.2.1,t.2.2.2)) (fun (t : Int × (List Int) × (List (List Int))) => Sum.inr t)) : Option ((Int × Int × (List Int) × (List (List Int))) ⊕ ((Int × (List Int) × (List (List Int))))))) LL (0,0,c,d)
def Nvk (a : List (Int × Int × Int × Unit)) (b : Int) (c : List Int) (d : List (List Int)) : Option ((Int × (List Int) × (List (List Int)))) :=
  (Nxn a b c d).map (fun (t : Int × (List Int) × (List (List Int))) => (t.1,t.2.1,t.2.2))
def Nyc (a : List (Int × Int × Int × Unit)) (b : List Int) (c : List (List Int)) : Option ((Int × (List Int) × (List (List Int)))) :=
  (Nep a).bind (fun (t : Int) => Nvk a t b c)
def Nah (a : Int) (b : List Int) (c : List (List Int)) : Option ((Int × (List Int) × (List (List Int)))) :=
  some (a,b,c)
def N108 (a : List (Int × Int × Int × Unit)) (b : List Int) (c : List (List Int)) : Option ((Int × (List Int) × (List (List Int)))) :=
  (Nyc a b c).bind (fun (t : Int × (List Int) × (List (List Int))) => Nah t.1 t.2.1 t.2.2)
def Nlr (a : List Int) (b : List (List Int)) (c : List (Int × Int × Int × Unit)) : Option ((Int × (List Int) × (List (List Int)))) :=
  (Nc7 a b c).bind (Sum.elim (fun (t : (List Int) × (List (List Int))) => N108 c t.1 t.2) (fun e => some ((fun (t : Int × (List Int) × (List (List Int))) => t) e)))
@[irreducible] def N3u (a : List Int) (b : List (List Int)) (c : List (Int × Int × Int × Unit)) : Option (Int × (List Int) × (List (List Int))) :=
  Nlr a b c
def N4z (a b c d g i : Int) : Option (Bool) :=
  cond (a != d) (some false) (cond (b != g) (some false) (cond (c != i) (some false) (some true)))
@[irreducible] def N40 (a b c d g i : Int) : Option (Bool) :=
  N4z a b c d g i
def N5d (a b : List (Int × Int × Int × Unit)) : Option (Unit ⊕ Bool) :=
  cond ((((List.length a : Nat) : Int)) != (((List.length b : Nat) : Int))) (some (Sum.inr false)) (some (Sum.inl ()))
def N7x : Option (Unit) :=
  some ()
def N3w (a b : List (Int × Int × Int × Unit)) (c : Int) : Option (Int ⊕ Bool ⊕ Unit) :=
  cond (decide (c < (((List.length a : Nat) : Int)))) ((idx a c).bind fun (d : Int × Int × Int × Unit) => (idx b c).bind fun (g : Int × Int × Int × Unit) => (N40 (d.1) ((d.2).1) (((d.2).2).1) (g.1) ((g.2).1) (((g.2).2).1)).bind fun (i : Bool) => cond (!i) (some (Sum.inr (Sum.inl false))) (some (Sum.inl (IntKind.wrap .i64 (c + 1))))) (some (Sum.inr (Sum.inr ())))
def Ng5 (a b : List (Int × Int × Int × Unit)) : Option (Bool ⊕ Unit) :=
  nloop (fun (s : Int) => ((N3w a b s).map (Sum.elim (fun (t : Int) => Sum.inl t) (Sum.elim (fun (t : Bool) => Sum.inr (Sum.inl t)) (fun (t : Unit) => Sum.inr (Sum.inr t)))) : Option ((Int) ⊕ (Bool ⊕ Unit)))) LL 0
def Ngt (a b : List (Int × Int × Int × Unit)) : Option (Unit ⊕ Bool) :=
  (Ng5 a b).map (Sum.elim (fun (t : Bool) => (Sum.inr t)) (fun (t : Unit) => (Sum.inl ())))
def Nhm (a b : List (Int × Int × Int × Unit)) : Option (Unit ⊕ Bool) :=
  (N7x).bind (fun (t : Unit) => Ngt a b)
def N7r : Option (Bool) :=
  some true
def Nfi (a b : List (Int × Int × Int × Unit)) : Option (Bool) :=
  (Nhm a b).bind (Sum.elim (fun (t : Unit) => N7r) (fun e => some ((fun (t : Bool) => t) e)))
def N8h (a b : List (Int × Int × Int × Unit)) : Option (Bool) :=
  (N5d a b).bind (Sum.elim (fun (t : Unit) => Nfi a b) (fun e => some ((fun (t : Bool) => t) e)))
@[irreducible] def N22 (a b : List (Int × Int × Int × Unit)) : Option (Bool) :=
  N8h a b
def N5g : Option (Unit) :=
  some ()
def N5e : Option (Unit) :=
  some ()
def N3z (a b : Int) (c : List (Int × Int × Int × Unit)) : Option (Unit ⊕ (Int × (List (Int × Int × Int × Unit)))) :=
  cond (decide (b < (((List.length c : Nat) : Int)))) (some (Sum.inl ())) (some (Sum.inr (a,c)))
def N5i (a b : Int) (c : List (Int × Int × Int × Unit)) : Option ((Int × (List (Int × Int × Int × Unit)))) :=
  (inb b (List.length c)).bind fun (d : Nat) => ((c)[d]?).bind fun (g : Int × Int × Int × Unit) => (inb b (List.length ((c).set d (a,(((g.2).1),((((g.2).2).1),())))))).bind fun (i : Nat) => ((((c).set d (a,(((g.2).1),((((g.2).2).1),())))))[i]?).bind fun (j : Int × Int × Int × Unit) => some ((IntKind.wrap .i64 ((IntKind.wrap .i64 (a + 1)) + 1)),((((c).set d (a,(((g.2).1),((((g.2).2).1),()))))).set i ((j.1),((IntKind.wrap .i64 (a + 1)),((((j.2).2).1),())))))
def N58 (a b : Int) (c : List (Int × Int × Int × Unit)) : Option (((List (Int × Int × Int × Unit)))) :=
  (inb b (List.length c)).bind fun (d : Nat) => ((c)[d]?).bind fun (g : Int × Int × Int × Unit) => some ((c).set d ((g.1),(((g.2).1),(a,()))))
def N7z (a : Int) : Option (Int) :=
  some (IntKind.wrap .i64 (a + 1))
def Nig (a b : Int) (c : List (Int × Int × Int × Unit)) : Option ((Int × (List (Int × Int × Int × Unit)))) :=
  (N58 a b c).bind (fun (t : (List (Int × Int × Int × Unit))) => (N7z a).map (fun (u : Int) => (u,t)))
def Nha (a b : Int) (c : List (Int × Int × Int × Unit)) : Option ((Int × (List (Int × Int × Int × Unit)))) :=
  (N5i a b c).bind (fun (t : Int × (List (Int × Int × Int × Unit))) => Nig t.1 b t.2)
def Nic (a b : Int) (c : List (Int × Int × Int × Unit)) : Option ((Int × (List (Int × Int × Int × Unit)))) :=
  (Nha a b c).map (fun (t : Int × (List (Int × Int × Int × Unit))) => (t.1,t.2))
def N6f (a : Int) : Option (Int) :=
  some (IntKind.wrap .i64 (a + 1))
def Nh7 (a b : Int) (c : List (Int × Int × Int × Unit)) : Option ((Int × Int × (List (Int × Int × Int × Unit)))) :=
  (Nic a b c).bind (fun (t : Int × (List (Int × Int × Int × Unit))) => (N6f b).map (fun (u : Int) => (t.1,u,t.2)))
def N7a (a b : Int) (c : List (Int × Int × Int × Unit)) : Option ((Int × Int × (List (Int × Int × Int × Unit))) ⊕ (Int × (List (Int × Int × Int × Unit)))) :=
  (N3z a b c).bind (Sum.elim (fun (t : Unit) => (Nh7 a b c).map (fun (t : Int × Int × (List (Int × Int × Int × Unit))) => (Sum.inl (t.1,t.2.1,t.2.2)))) (fun e => some ((fun (t : Int × (List (Int × Int × Int × Unit))) => (Sum.inr t)) e)))
def Ngi (a : Int) (b : List (Int × Int × Int × Unit)) : Option ((Int × (List (Int × Int × Int × Unit)))) :=
  nloop (fun (s : Int × Int × (List (Int × Int × Int × Unit))) => ((N7a s.1 s.2.1 s.2.2).map (Sum.elim (fun (t : Int × Int × (List (Int × Int × Int × Unit))) => Sum.inl (t.1,t.2.1,t.2.2)) (fun (t : Int × (List (Int × Int × Int × Unit))) => Sum.inr t)) : Option ((Int × Int × (List (Int × Int × Int × Unit))) ⊕ ((Int × (List (Int × Int × Int × Unit))))))) LL (a,0,b)
def Nez (a : Int) (b : List (Int × Int × Int × Unit)) : Option ((Int × (List (Int × Int × Int × Unit)))) :=
  (Ngi a b).map (fun (t : Int × (List (Int × Int × Int × Unit))) => (t.1,t.2))
def Nfc (a : Int) (b : List (Int × Int × Int × Unit)) : Option ((Int × (List (Int × Int × Int × Unit)))) :=
  (N5e).bind (fun (t : Unit) => Nez a b)
def N5x (a : Int) (b : List (Int × Int × Int × Unit)) : Option ((Int × (List (Int × Int × Int × Unit)))) :=
  some (a,b)
def Nfb (a : Int) (b : List (Int × Int × Int × Unit)) : Option ((Int × (List (Int × Int × Int × Unit)))) :=
  (Nfc a b).bind (fun (t : Int × (List (Int × Int × Int × Unit))) => N5x t.1 t.2)
def N8o (a : Int) (b : List (Int × Int × Int × Unit)) : Option ((Int × (List (Int × Int × Int × Unit)))) :=
  (N5g).bind (fun (t : Unit) => Nfb a b)
@[irreducible] def N1y (a : Int) (b : List (Int × Int × Int × Unit)) : Option (Int × (List (Int × Int × Int × Unit))) :=
  N8o a b
def N5n (a : List Int) (b : List (List Int)) (c : List (Int × Int × Int × Unit)) : Option ((Int × Int) ⊕ Bool) :=
  (N2v a b 1048576).bind fun (d : Int) => cond (decide (d < 0)) (some (Sum.inr true)) ((N4k c d).bind fun (g : Int) => cond (decide (g < 0)) (some (Sum.inr true)) ((Ns a b).bind fun (i : (List Int) × (List (List Int))) => (Nq c).bind fun (j : List (Int × Int × Int × Unit)) => (N24 (i.1) (i.2) j).bind fun (k : Int × (List Int) × (List (List Int))) => (Ns a b).bind fun (l : (List Int) × (List (List Int))) => (Nq c).bind fun (m : List (Int × Int × Int × Unit)) => (N3u (l.1) (l.2) m).bind fun (o : Int × (List Int) × (List (List Int))) => (N1e (o.2.1) (o.2.2) (k.2.1) (k.2.2)).bind fun (p : Bool) => cond (!p) (some (Sum.inr false)) (cond ((o.1) != (k.1)) (some (Sum.inr false)) ((Ns a b).bind fun (q : (List Int) × (List (List Int))) => (N1e (l.1) (l.2) (q.1) (q.2)).bind fun (w : Bool) => cond (!w) (some (Sum.inr false)) ((Nq c).bind fun (y : List (Int × Int × Int × Unit)) => (N22 m y).bind fun (z : Bool) => cond (!z) (some (Sum.inr false)) ((N1u 1 (l.1) (l.2)).bind fun (a0 : Int × (List Int) × (List (List Int))) => (N1y (a0.1) m).bind fun (a1 : Int × (List (Int × Int × Int × Unit))) => cond (decide ((a1.1) < 0)) (some (Sum.inr false)) ((N1e (o.2.1) (o.2.2) (k.2.1) (k.2.2)).bind fun (a2 : Bool) => cond (!a2) (some (Sum.inr false)) (cond ((o.1) != (k.1)) (some (Sum.inr false)) ((N1u 1 (o.2.1) (o.2.2)).bind fun (a3 : Int × (List Int) × (List (List Int))) => (N21 (a3.2.1) (a3.2.2) 1).bind fun (a4 : Int) => cond (decide (a4 < 0)) (some (Sum.inr false)) (cond (a4 != (a3.1)) (some (Sum.inr false)) ((Ns a b).bind fun (a5 : (List Int) × (List (List Int))) => (Nq c).bind fun (a6 : List (Int × Int × Int × Unit)) => (N3u (a5.1) (a5.2) a6).bind fun (a7 : Int × (List Int) × (List (List Int))) => (N1e (a7.2.1) (a7.2.2) (k.2.1) (k.2.2)).bind fun (a8 : Bool) => cond (!a8) (some (Sum.inr false)) (cond ((a7.1) != (k.1)) (some (Sum.inr false)) ((N21 (a3.2.1) (a3.2.2) 1).bind fun (a9 : Int) => some (Sum.inl ((a3.1),a9)))))))))))))))
def N86 (a b : Int) : Option (Bool) :=
  cond (decide (b < 0)) (some false) (cond (b != a) (some false) (some true))
def Nhg (a : List Int) (b : List (List Int)) (c : List (Int × Int × Int × Unit)) : Option (Bool) :=
  (N5n a b c).bind (Sum.elim (fun (t : Int × Int) => N86 t.1 t.2) (fun e => some ((fun (t : Bool) => t) e)))
@[irreducible] def N20 (a : List Int) (b : List (List Int)) (c : List (Int × Int × Int × Unit)) : Option (Bool) :=
  Nhg a b c
end Go.Rv
