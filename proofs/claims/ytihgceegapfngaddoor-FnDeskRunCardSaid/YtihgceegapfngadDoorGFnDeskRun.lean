/-
  Plain functions,written by program for functions of the checked code. Conditions: none.
-/
import Derived.Test.YtihgceegapfngadDoorFB
set_option linter.unusedVariables false
namespace Go.Rv
def N8r (a : List Int) : Option (((List Int))) :=
  cond (decide ((((List.length a : Nat) : Int)) > 2000)) ((inc 2000 (List.length a)).bind fun (b : Nat) => some ((a.take b).drop 0)) (some a)
@[irreducible] def N30 (a : List Int) : Option ((List Int)) :=
  N8r a
def N8e (a : Int) (b : List Int) (c : Int) : Option ((Int × Int)) :=
  cond (decide (a < 1)) (some (0,(IntKind.wrap .i64 (c + 1)))) (cond ((((List.length b : Nat) : Int)) == 0) (some (0,(IntKind.wrap .i64 (c + 1)))) (cond (decide ((IntKind.wrap .i64 ((IntKind.wrap .i64 (c + 1)) - 1)) < (((List.length b : Nat) : Int)))) ((idx b (IntKind.wrap .i64 ((IntKind.wrap .i64 (c + 1)) - 1))).bind fun (d : Int) => (rem (IntKind.wrap .i64 d) a).bind fun (g : Int) => some (g,(IntKind.wrap .i64 (c + 1)))) ((rem (IntKind.wrap .i64 ((IntKind.wrap .i64 (c + 1)) - 1)) (((List.length b : Nat) : Int))).bind fun (i : Int) => (idx b i).bind fun (j : Int) => (rem (IntKind.wrap .i64 ((IntKind.wrap .i64 ((IntKind.wrap .i64 ((IntKind.wrap .i64 (c + 1)) - 1)) * 7)) + 3)) (((List.length b : Nat) : Int))).bind fun (k : Int) => (idx b k).bind fun (l : Int) => (quo .i64 (IntKind.wrap .i64 ((IntKind.wrap .i64 (c + 1)) - 1)) (((List.length b : Nat) : Int))).bind fun (m : Int) => (quo .i64 (IntKind.wrap .i64 ((IntKind.wrap .i64 ((IntKind.wrap .i64 ((IntKind.wrap .i64 ((IntKind.wrap .i64 j) * 131)) + (IntKind.wrap .i64 ((IntKind.wrap .i64 l) * 1117)))) + (IntKind.wrap .i64 ((IntKind.wrap .i64 ((IntKind.wrap .i64 (c + 1)) - 1)) * 29)))) + (IntKind.wrap .i64 (m * 53)))) 64).bind fun (o : Int) => (rem (ixor .i64 (IntKind.wrap .i64 ((IntKind.wrap .i64 ((IntKind.wrap .i64 ((IntKind.wrap .i64 ((IntKind.wrap .i64 j) * 131)) + (IntKind.wrap .i64 ((IntKind.wrap .i64 l) * 1117)))) + (IntKind.wrap .i64 ((IntKind.wrap .i64 ((IntKind.wrap .i64 (c + 1)) - 1)) * 29)))) + (IntKind.wrap .i64 (m * 53)))) o) a).bind fun (p : Int) => some (p,(IntKind.wrap .i64 (c + 1))))))
@[irreducible] def N0 (a : Int) (b : List Int) (c : Int) : Option (Int × Int) :=
  N8e a b c
def N5u (a : List Int) (b : Int) : Option ((Int × Int)) :=
  (N0 2 a b).bind fun (c : Int × Int) => some ((c.1),(c.2))
def N6i : Option (Unit) :=
  some ()
def N53 (a b c : Int) (d : List Int) (g : Int) (i : List Int) : Option ((Int × Int × (List Int)) ⊕ (Int × (List Int))) :=
  cond (decide (c ≤ a)) (cond (b == 0) ((N0 c d g).bind fun (j : Int × Int) => (inc (j.1) (List.length i)).bind fun (k : Nat) => (room ((List.length ([] : List Int)) + List.length ((i.drop 0).take (k - 0)))).bind fun (l : Unit) => (room ((List.length (([] : List Int) ++ ((i.drop 0).take (k - 0)))) + List.length ([c]))).bind fun (m : Unit) => (inc (j.1) (List.length i)).bind fun (o : Nat) => (room ((List.length ((([] : List Int) ++ ((i.drop 0).take (k - 0))) ++ ([c]))) + List.length ((i.drop o).take ((List.length i) - o)))).bind fun (p : Unit) => some (Sum.inl ((IntKind.wrap .i64 (c + 1)),(j.2),(((([] : List Int) ++ ((i.drop 0).take (k - 0))) ++ ([c])) ++ ((i.drop o).take ((List.length i) - o)))))) ((N0 3 d g).bind fun (q : Int × Int) => cond ((q.1) == 0) ((N0 c d (q.2)).bind fun (w : Int × Int) => (inc (w.1) (List.length i)).bind fun (y : Nat) => (room ((List.length ([] : List Int)) + List.length ((i.drop 0).take (y - 0)))).bind fun (z : Unit) => (room ((List.length (([] : List Int) ++ ((i.drop 0).take (y - 0)))) + List.length ([c]))).bind fun (a0 : Unit) => (inc (w.1) (List.length i)).bind fun (a1 : Nat) => (room ((List.length ((([] : List Int) ++ ((i.drop 0).take (y - 0))) ++ ([c]))) + List.length ((i.drop a1).take ((List.length i) - a1)))).bind fun (a2 : Unit) => some (Sum.inl ((IntKind.wrap .i64 (c + 1)),(w.2),(((([] : List Int) ++ ((i.drop 0).take (y - 0))) ++ ([c])) ++ ((i.drop a1).take ((List.length i) - a1)))))) ((inc (((List.length i : Nat) : Int)) (List.length i)).bind fun (a3 : Nat) => (room ((List.length ([] : List Int)) + List.length ((i.drop 0).take (a3 - 0)))).bind fun (a4 : Unit) => (room ((List.length (([] : List Int) ++ ((i.drop 0).take (a3 - 0)))) + List.length ([c]))).bind fun (a5 : Unit) => (inc (((List.length i : Nat) : Int)) (List.length i)).bind fun (a6 : Nat) => (room ((List.length ((([] : List Int) ++ ((i.drop 0).take (a3 - 0))) ++ ([c]))) + List.length ((i.drop a6).take ((List.length i) - a6)))).bind fun (a7 : Unit) => some (Sum.inl ((IntKind.wrap .i64 (c + 1)),(q.2),(((([] : List Int) ++ ((i.drop 0).take (a3 - 0))) ++ ([c])) ++ ((i.drop a6).take ((List.length i) - a6)))))))) (some (Sum.inr (g,i)))
def Nf6 (a b : Int) (c : List Int) (d : Int) : Option ((Int × (List Int))) :=
  nloop (fun (s : Int × Int × (List Int)) => ((N53 a b s.1 c s.2.1 s.2.2).map (Sum.elim (fun (t : Int × Int × (List Int)) => Sum.inl (t.1,t.2.1,t.2.2)) (fun (t : Int × (List Int)) => Sum.inr t)) : Option ((Int × Int × (List Int)) ⊕ ((Int × (List Int)))))) LL (1,d,([] : List Int))
def Nfv (a b : Int) (c : List Int) (d : Int) : Option ((Int × (List Int))) :=
  (Nf6 a b c d).map (fun (t : Int × (List Int)) => (t.1,t.2))
def Ned (a b : Int) (c : List Int) (d : Int) : Option ((Int × (List Int))) :=
  (N6i).bind (fun (t : Unit) => Nfv a b c d)
def Nb2 (a : Int) (b : List Int) : Option ((Int × (List Int))) :=
  some (a,b)
def Nif (a b : Int) (c : List Int) (d : Int) : Option ((Int × (List Int))) :=
  (Ned a b c d).bind (fun (t : Int × (List Int)) => Nb2 t.1 t.2)
def Niu (a : Int) (b : List Int) (c : Int) : Option ((Int × (List Int))) :=
  (N5u b c).bind (fun (t : Int × Int) => Nif a t.1 b t.2)
@[irreducible] def N2p (a : Int) (b : List Int) (c : Int) : Option (Int × (List Int)) :=
  Niu a b c
def N8f (a : Int) (b : List Int) (c : Int) : Option ((Bool × Int)) :=
  cond (decide (a > 0)) ((N0 a b c).bind fun (d : Int × Int) => some (((d.1) == (IntKind.wrap .i64 (a - 1))),(d.2))) (some (false,c))
@[irreducible] def Ni (a : Int) (b : List Int) (c : Int) : Option (Bool × Int) :=
  N8f a b c
def N76 (a : List Int) (b : Int) : Option ((Int × Int × Int × (List Int) × (List Int))) :=
  (N0 7 a b).bind fun (c : Int × Int) => (N2p (IntKind.wrap .i64 (1 + (c.1))) a (c.2)).bind fun (d : Int × (List Int)) => (mk (IntKind.wrap .i64 (1 + (c.1))) (IntKind.wrap .i64 (1 + (c.1)))).bind fun (g : Nat) => (N0 2 a (d.1)).bind fun (i : Int × Int) => some ((IntKind.wrap .i64 (1 + (c.1))),(i.1),(i.2),(d.2),(List.replicate g (0 : Int)))
def N97 : Option (Unit) :=
  some ()
def N50 (a b c : Int) (d : List Int) (g : Int) (i j : List Int) : Option ((Int × Int × (List Int)) ⊕ (Int × (List Int))) :=
  cond (decide (c < a)) ((N0 c d g).bind fun (k : Int × Int) => cond (b == 1) ((N0 2 d (k.2)).bind fun (l : Int × Int) => cond ((l.1) == 0) ((inb c (List.length i)).bind fun (m : Nat) => (i[m]?).bind fun (o : Int) => (inb (IntKind.wrap .i64 (c - 1)) (List.length i)).bind fun (p : Nat) => (i[p]?).bind fun (q : Int) => (inb (IntKind.wrap .i64 (o - 1)) (List.length j)).bind fun (w : Nat) => some (Sum.inl ((IntKind.wrap .i64 (c + 1)),(l.2),(j.set w q)))) ((inb c (List.length i)).bind fun (y : Nat) => (i[y]?).bind fun (z : Int) => (inb (k.1) (List.length i)).bind fun (a0 : Nat) => (i[a0]?).bind fun (a1 : Int) => (inb (IntKind.wrap .i64 (z - 1)) (List.length j)).bind fun (a2 : Nat) => some (Sum.inl ((IntKind.wrap .i64 (c + 1)),(l.2),(j.set a2 a1))))) ((inb c (List.length i)).bind fun (a3 : Nat) => (i[a3]?).bind fun (a4 : Int) => (inb (k.1) (List.length i)).bind fun (a5 : Nat) => (i[a5]?).bind fun (a6 : Int) => (inb (IntKind.wrap .i64 (a4 - 1)) (List.length j)).bind fun (a7 : Nat) => some (Sum.inl ((IntKind.wrap .i64 (c + 1)),(k.2),(j.set a7 a6))))) (some (Sum.inr (g,j)))
def Nhx (a b : Int) (c : List Int) (d : Int) (g i : List Int) : Option ((Int × (List Int))) :=
  nloop (fun (s : Int × Int × (List Int)) => ((N50 a b s.1 c s.2.1 g s.2.2).map (Sum.elim (fun (t : Int × Int × (List Int)) => Sum.inl (t.1,t.2.1,t.2.2)) (fun (t : Int × (List Int)) => Sum.inr t)) : Option ((Int × Int × (List Int)) ⊕ ((Int × (List Int)))))) LL (1,d,i)
def Nj4 (a b : Int) (c : List Int) (d : Int) (g i : List Int) : Option ((Int × (List Int))) :=
  (Nhx a b c d g i).map (fun (t : Int × (List Int)) => (t.1,t.2))
def Nhh (a b : Int) (c : List Int) (d : Int) (g i : List Int) : Option ((Int × (List Int))) :=
  (N97).bind (fun (t : Unit) => Nj4 a b c d g i)
def N8q (a b : Int) (c : List Int) (d : Int) (g : List Int) : Option ((Int × (List Int))) :=
  (Ni a c d).bind fun (i : Bool × Int) => cond (i.1) ((N0 4 c (i.2)).bind fun (j : Int × Int) => cond ((j.1) == 0) (some ((j.2),([] : List Int))) (cond ((j.1) == 1) (some ((j.2),([2,1,0]))) (cond ((j.1) == 2) ((N0 b c (j.2)).bind fun (k : Int × Int) => (inb (k.1) (List.length g)).bind fun (l : Nat) => (room ((List.length (g.set l 0)) + List.length ([0]))).bind fun (m : Unit) => some ((k.2),((g.set l 0) ++ ([0])))) ((N0 3 c (j.2)).bind fun (o : Int × Int) => (inb (o.1) (List.length ([1,(IntKind.wrap .i64 (b + 1)),(-1)]))).bind fun (p : Nat) => (([1,(IntKind.wrap .i64 (b + 1)),(-1)])[p]?).bind fun (q : Int) => (inb 0 (List.length g)).bind fun (w : Nat) => some ((o.2),(g.set w q)))))) (some ((i.2),g))
def Nhv (a b c : Int) (d : List Int) (g : Int) (i j : List Int) : Option ((Int × (List Int))) :=
  (Nhh b c d g i j).bind (fun (t : Int × (List Int)) => N8q a b d t.1 t.2)
def Ngm (a : Int) (b : List Int) (c : Int) : Option ((Int × (List Int))) :=
  (N76 b c).bind (fun (t : Int × Int × Int × (List Int) × (List Int)) => Nhv a t.1 t.2.1 b t.2.2.1 t.2.2.2.1 t.2.2.2.2)
@[irreducible] def N22 (a : Int) (b : List Int) (c : Int) : Option (Int × (List Int)) :=
  Ngm a b c
def N75 (a b c : Int) : Option (Bool) :=
  cond (decide (a ≥ b)) (some (decide (a ≤ c))) (some false)
@[irreducible] def Nr (a b c : Int) : Option (Bool) :=
  N75 a b c
def N60 (a : List Int) : Option (Int ⊕ Bool) :=
  (Nr (((List.length a : Nat) : Int)) 1 8).bind fun (b : Bool) => cond (!b) (some (Sum.inr false)) (some (Sum.inl (((List.length a : Nat) : Int))))
def N9e : Option (Unit) :=
  some ()
def N4x (a b c : Int) : Option (Unit ⊕ Int) :=
  cond (decide (c < a)) (some (Sum.inl ())) (some (Sum.inr b))
def N5x (a : List Int) (b c d : Int) : Option ((Int × Int) ⊕ Bool) :=
  (idx a d).bind fun (g : Int) => (Nr g 0 b).bind fun (i : Bool) => cond (!i) (some (Sum.inr false)) ((idx a d).bind fun (j : Int) => cond (j == (IntKind.wrap .i64 (d + 1))) (some (Sum.inr false)) ((idx a d).bind fun (k : Int) => cond (k == 0) (some (Sum.inl ((IntKind.wrap .i64 (c + 1)),(IntKind.wrap .i64 (d + 1))))) (some (Sum.inl (c,(IntKind.wrap .i64 (d + 1)))))))
def N6n : Option (Unit) :=
  some ()
def N52 (a : List Int) (b c d : Int) : Option ((Int × Int) ⊕ Bool ⊕ Int) :=
  cond (decide (c > 0)) (cond (decide (d < b)) ((idx a (IntKind.wrap .i64 (c - 1))).bind fun (g : Int) => (Nr g 0 b).bind fun (i : Bool) => cond (!i) (some (Sum.inr (Sum.inl false))) (some (Sum.inl (g,(IntKind.wrap .i64 (d + 1)))))) (some (Sum.inr (Sum.inr c)))) (some (Sum.inr (Sum.inr c)))
def Nb4 (a : List Int) (b c : Int) : Option (Bool ⊕ Int) :=
  nloop (fun (s : Int × Int) => ((N52 a b s.1 s.2).map (Sum.elim (fun (t : Int × Int) => Sum.inl (t.1,t.2)) (Sum.elim (fun (t : Bool) => Sum.inr (Sum.inl t)) (fun (t : Int) => Sum.inr (Sum.inr t)))) : Option ((Int × Int) ⊕ (Bool ⊕ Int)))) LL (c,0)
def Nhd (a : List Int) (b c : Int) : Option (Int ⊕ Bool) :=
  (Nb4 a b c).map (Sum.elim (fun (t : Bool) => (Sum.inr t)) (fun (t : Int) => (Sum.inl t)))
def Nit (a : List Int) (b c : Int) : Option (Int ⊕ Bool) :=
  (N6n).bind (fun (t : Unit) => Nhd a b c)
def N7w (a : Int) : Option (Unit ⊕ Bool) :=
  cond (decide (a > 0)) (some (Sum.inr false)) (some (Sum.inl ()))
def Nfq (a : List Int) (b c : Int) : Option (Unit ⊕ Bool) :=
  (Nit a b c).bind (Sum.elim (fun (t : Int) => N7w t) (fun e => some ((fun (t : Bool) => (Sum.inr t)) e)))
def Ngh (a : List Int) (b c d : Int) : Option (Int ⊕ Bool) :=
  (N5x a b c d).bind (Sum.elim (fun (t : Int × Int) => (Nfq a b t.2).map (Sum.elim (fun (u : Unit) => (Sum.inl t.1)) (fun (u : Bool) => (Sum.inr u)))) (fun e => some ((fun (t : Bool) => (Sum.inr t)) e)))
def Ngw (a : List Int) (b c d : Int) : Option (Int ⊕ Bool) :=
  (Ngh a b c d).map (Sum.elim (fun (t : Int) => (Sum.inl t)) (fun (t : Bool) => (Sum.inr t)))
def N89 (a : Int) : Option (Int) :=
  some (IntKind.wrap .i64 (a + 1))
def Ngg (a : List Int) (b c d : Int) : Option ((Int × Int) ⊕ Bool) :=
  (Ngw a b c d).bind (Sum.elim (fun (t : Int) => (N89 d).map (fun (u : Int) => (Sum.inl (t,u)))) (fun e => some ((fun (t : Bool) => (Sum.inr t)) e)))
def N6x (a : List Int) (b c d : Int) : Option ((Int × Int) ⊕ Bool ⊕ Int) :=
  (N4x b c d).bind (Sum.elim (fun (t : Unit) => (Ngg a b c d).map (Sum.elim (fun (t : Int × Int) => (Sum.inl (t.1,t.2))) (fun (t : Bool) => (Sum.inr (Sum.inl t))))) (fun e => some ((fun (t : Int) => (Sum.inr (Sum.inr t))) e)))
def Nff (a : List Int) (b : Int) : Option (Bool ⊕ Int) :=
  nloop (fun (s : Int × Int) => ((N6x a b s.1 s.2).map (Sum.elim (fun (t : Int × Int) => Sum.inl (t.1,t.2)) (Sum.elim (fun (t : Bool) => Sum.inr (Sum.inl t)) (fun (t : Int) => Sum.inr (Sum.inr t)))) : Option ((Int × Int) ⊕ (Bool ⊕ Int)))) LL (0,0)
def Nib (a : List Int) (b : Int) : Option (Int ⊕ Bool) :=
  (Nff a b).map (Sum.elim (fun (t : Bool) => (Sum.inr t)) (fun (t : Int) => (Sum.inl t)))
def Nj5 (a : List Int) (b : Int) : Option (Int ⊕ Bool) :=
  (N9e).bind (fun (t : Unit) => Nib a b)
def N7n (a : Int) : Option (Bool) :=
  some (a == 1)
def Nei (a : List Int) (b : Int) : Option (Bool) :=
  (Nj5 a b).bind (Sum.elim (fun (t : Int) => N7n t) (fun e => some ((fun (t : Bool) => t) e)))
def Ngq (a : List Int) : Option (Bool) :=
  (N60 a).bind (Sum.elim (fun (t : Int) => Nei a t) (fun e => some ((fun (t : Bool) => t) e)))
@[irreducible] def N6 (a : List Int) : Option (Bool) :=
  Ngq a
def N79 : Option (Unit) :=
  some ()
def N7m : Option (Unit) :=
  some ()
def N71 (a : List Int) (b : Int) : Option (Unit ⊕ Unit) :=
  cond (decide (b < (((List.length a : Nat) : Int)))) (some (Sum.inl ())) (some (Sum.inr ()))
def N6u (a : List Int) (b c : Int) : Option (Unit ⊕ Bool) :=
  (idx a c).bind fun (d : Int) => (Nr d 1 b).bind fun (g : Bool) => cond (!g) (some (Sum.inr false)) (some (Sum.inl ()))
def N58 (a : List Int) (b c : Int) : Option (Int ⊕ Bool ⊕ Unit) :=
  cond (decide (c < b)) ((idx a c).bind fun (d : Int) => (idx a b).bind fun (g : Int) => cond (d == g) (some (Sum.inr (Sum.inl false))) (some (Sum.inl (IntKind.wrap .i64 (c + 1))))) (some (Sum.inr (Sum.inr ())))
def Ndb (a : List Int) (b : Int) : Option (Bool ⊕ Unit) :=
  nloop (fun (s : Int) => ((N58 a b s).map (Sum.elim (fun (t : Int) => Sum.inl t) (Sum.elim (fun (t : Bool) => Sum.inr (Sum.inl t)) (fun (t : Unit) => Sum.inr (Sum.inr t)))) : Option ((Int) ⊕ (Bool ⊕ Unit)))) LL 0
def Ngs (a : List Int) (b : Int) : Option (Unit ⊕ Bool) :=
  (Ndb a b).map (Sum.elim (fun (t : Bool) => (Sum.inr t)) (fun (t : Unit) => (Sum.inl ())))
def Neg (a : List Int) (b c : Int) : Option (Unit ⊕ Bool) :=
  (N6u a b c).bind (Sum.elim (fun (t : Unit) => Ngs a c) (fun e => some ((fun (t : Bool) => (Sum.inr t)) e)))
def Ng2 (a : List Int) (b c : Int) : Option (Unit ⊕ Bool) :=
  (Neg a b c).map (Sum.elim (fun (t : Unit) => (Sum.inl ())) (fun (t : Bool) => (Sum.inr t)))
def N6s (a : Int) : Option (Int) :=
  some (IntKind.wrap .i64 (a + 1))
def Nhs (a : List Int) (b c : Int) : Option (Int ⊕ Bool) :=
  (Ng2 a b c).bind (Sum.elim (fun (t : Unit) => (N6s c).map (fun (t : Int) => (Sum.inl t))) (fun e => some ((fun (t : Bool) => (Sum.inr t)) e)))
def Nar (a : List Int) (b c : Int) : Option (Int ⊕ Bool ⊕ Unit) :=
  (N71 a c).bind (Sum.elim (fun (t : Unit) => (Nhs a b c).map (Sum.elim (fun (t : Int) => (Sum.inl t)) (fun (t : Bool) => (Sum.inr (Sum.inl t))))) (fun e => some ((fun (t : Unit) => (Sum.inr (Sum.inr t))) e)))
def Niz (a : List Int) (b : Int) : Option (Bool ⊕ Unit) :=
  nloop (fun (s : Int) => ((Nar a b s).map (Sum.elim (fun (t : Int) => Sum.inl t) (Sum.elim (fun (t : Bool) => Sum.inr (Sum.inl t)) (fun (t : Unit) => Sum.inr (Sum.inr t)))) : Option ((Int) ⊕ (Bool ⊕ Unit)))) LL 0
def Nh0 (a : List Int) (b : Int) : Option (Unit ⊕ Bool) :=
  (Niz a b).map (Sum.elim (fun (t : Bool) => (Sum.inr t)) (fun (t : Unit) => (Sum.inl ())))
def Nhu (a : List Int) (b : Int) : Option (Unit ⊕ Bool) :=
  (N7m).bind (fun (t : Unit) => Nh0 a b)
def N5r (a : List Int) (b : Int) : Option (Bool) :=
  (Nr b 1 8).bind fun (c : Bool) => cond c (some ((((List.length a : Nat) : Int)) == b)) (some false)
def Ner (a : List Int) (b : Int) : Option (Bool) :=
  (Nhu a b).bind (Sum.elim (fun (t : Unit) => N5r a b) (fun e => some ((fun (t : Bool) => t) e)))
def Ngt (a : List Int) (b : Int) : Option (Bool) :=
  (N79).bind (fun (t : Unit) => Ner a b)
@[irreducible] def N3l (a : List Int) (b : Int) : Option (Bool) :=
  Ngt a b
def N67 (a b : List Int) : Option (((List Int)) ⊕ (Bool × (List Int))) :=
  (N6 a).bind fun (c : Bool) => cond (!c) (some (Sum.inr (false,([] : List Int)))) ((N3l b (((List.length a : Nat) : Int))).bind fun (d : Bool) => cond (!d) (some (Sum.inr (false,([] : List Int)))) ((mk (IntKind.wrap .i64 ((((List.length a : Nat) : Int)) + 1)) (IntKind.wrap .i64 ((((List.length a : Nat) : Int)) + 1))).bind fun (g : Nat) => some (Sum.inl (List.replicate g (0 : Int)))))
def N8k : Option (Unit) :=
  some ()
def N45 (a : List Int) (b : Int) (c : List Int) : Option ((Int × (List Int)) ⊕ ((List Int))) :=
  cond (decide (b < (((List.length a : Nat) : Int)))) ((idx a b).bind fun (d : Int) => (inb d (List.length c)).bind fun (g : Nat) => some (Sum.inl ((IntKind.wrap .i64 (b + 1)),(c.set g (IntKind.wrap .i64 (b + 1)))))) (some (Sum.inr c))
def Nfg (a b : List Int) : Option (((List Int))) :=
  nloop (fun (s : Int × (List Int)) => ((N45 a s.1 s.2).map (Sum.elim (fun (t : Int × (List Int)) => Sum.inl (t.1,t.2)) (fun (t : (List Int)) => Sum.inr t)) : Option ((Int × (List Int)) ⊕ (((List Int)))))) LL (0,b)
def Nha (a b : List Int) : Option (((List Int))) :=
  (Nfg a b).map (fun (t : (List Int)) => t)
def Nim (a b : List Int) : Option (((List Int))) :=
  (N8k).bind (fun (t : Unit) => Nha a b)
def N6f : Option (Unit) :=
  some ()
def N9c : Option (Unit) :=
  some ()
def N4m (a b : List Int) (c : Int) (d g : List Int) : Option ((Int × (List Int)) ⊕ ((List Int))) :=
  cond (decide (c < (((List.length b : Nat) : Int)))) ((idx b c).bind fun (i : Int) => (idx a (IntKind.wrap .i64 (i - 1))).bind fun (j : Int) => (inb j (List.length d)).bind fun (k : Nat) => (d[k]?).bind fun (l : Int) => (room ((List.length g) + List.length ([l]))).bind fun (m : Unit) => some (Sum.inl ((IntKind.wrap .i64 (c + 1)),(g ++ ([l]))))) (some (Sum.inr g))
def Nfj (a b c : List Int) : Option (((List Int))) :=
  nloop (fun (s : Int × (List Int)) => ((N4m a b s.1 c s.2).map (Sum.elim (fun (t : Int × (List Int)) => Sum.inl (t.1,t.2)) (fun (t : (List Int)) => Sum.inr t)) : Option ((Int × (List Int)) ⊕ (((List Int)))))) LL (0,([] : List Int))
def Nf4 (a b c : List Int) : Option (((List Int))) :=
  (Nfj a b c).map (fun (t : (List Int)) => t)
def Ni0 (a b c : List Int) : Option (((List Int))) :=
  (N9c).bind (fun (t : Unit) => Nf4 a b c)
def N8t (a : List Int) : Option ((Bool × (List Int))) :=
  some (true,a)
def Nez (a b c : List Int) : Option ((Bool × (List Int))) :=
  (Ni0 a b c).bind (fun (t : (List Int)) => N8t t)
def Ng6 (a b c : List Int) : Option ((Bool × (List Int))) :=
  (N6f).bind (fun (t : Unit) => Nez a b c)
def Ngo (a b c : List Int) : Option ((Bool × (List Int))) :=
  (Nim b c).bind (fun (t : (List Int)) => Ng6 a b t)
def Nek (a b : List Int) : Option ((Bool × (List Int))) :=
  (N67 a b).bind (Sum.elim (fun (t : (List Int)) => Ngo a b t) (fun e => some ((fun (t : Bool × (List Int)) => t) e)))
@[irreducible] def N2i (a b : List Int) : Option (Bool × (List Int)) :=
  Nek a b
def N8l (R0 : Int → Int → Int → (List Int) → Int → (List Int) → Option (Int × (List Int))) (a b c : Int) (d : List Int) (g : Int) (i : List Int) : Option ((Int × Int × (List Int)) ⊕ (Int × (List Int))) :=
  cond (decide (a > b)) (some (Sum.inr (g,i))) ((N0 (IntKind.wrap .i64 ((IntKind.wrap .i64 (b - a)) + 1)) d g).bind fun (j : Int × Int) => (inb (IntKind.wrap .i64 ((IntKind.wrap .i64 (a + (j.1))) - 1)) (List.length i)).bind fun (k : Nat) => some (Sum.inl ((IntKind.wrap .i64 (a + (j.1))),(j.2),(i.set k c))))
def N5d (R0 : Int → Int → Int → (List Int) → Int → (List Int) → Option (Int × (List Int))) (a b : Int) (c : List Int) (d : Int) (g : List Int) : Option ((Int × Int × (List Int)) ⊕ (Int × (List Int))) :=
  cond (decide (b < a)) ((N0 (IntKind.wrap .i64 (a - b)) c d).bind fun (i : Int × Int) => (R0 b (IntKind.wrap .i64 (b + (i.1))) a c (i.2) g).bind fun (j : Int × (List Int)) => some (Sum.inl ((IntKind.wrap .i64 ((IntKind.wrap .i64 (b + (i.1))) + 1)),(j.1),(j.2)))) (some (Sum.inr (d,g)))
def Ng9 (R0 : Int → Int → Int → (List Int) → Int → (List Int) → Option (Int × (List Int))) (a b : Int) (c : List Int) (d : Int) (g : List Int) : Option ((Int × (List Int))) :=
  nloop (fun (s : Int × Int × (List Int)) => ((N5d R0 a s.1 c s.2.1 s.2.2).map (Sum.elim (fun (t : Int × Int × (List Int)) => Sum.inl (t.1,t.2.1,t.2.2)) (fun (t : Int × (List Int)) => Sum.inr t)) : Option ((Int × Int × (List Int)) ⊕ ((Int × (List Int)))))) LL (b,d,g)
def Nfm (R0 : Int → Int → Int → (List Int) → Int → (List Int) → Option (Int × (List Int))) (a b : Int) (c : List Int) (d : Int) (g : List Int) : Option ((Int × (List Int))) :=
  (Ng9 R0 a b c d g).map (fun (t : Int × (List Int)) => (t.1,t.2))
def N9b (R0 : Int → Int → Int → (List Int) → Int → (List Int) → Option (Int × (List Int))) (a : Int) : Option (Int) :=
  some (IntKind.wrap .i64 (a + 1))
def N5e (R0 : Int → Int → Int → (List Int) → Int → (List Int) → Option (Int × (List Int))) (a b c : Int) (d : List Int) (g : Int) (i : List Int) : Option ((Int × Int × (List Int)) ⊕ (Int × (List Int))) :=
  cond (decide (c ≤ a)) ((N0 (IntKind.wrap .i64 ((IntKind.wrap .i64 (a - c)) + 1)) d g).bind fun (j : Int × Int) => (R0 c (IntKind.wrap .i64 (c + (j.1))) b d (j.2) i).bind fun (k : Int × (List Int)) => some (Sum.inl ((IntKind.wrap .i64 ((IntKind.wrap .i64 (c + (j.1))) + 1)),(k.1),(k.2)))) (some (Sum.inr (g,i)))
def Nfi (R0 : Int → Int → Int → (List Int) → Int → (List Int) → Option (Int × (List Int))) (a b c : Int) (d : List Int) (g : Int) (i : List Int) : Option ((Int × (List Int))) :=
  nloop (fun (s : Int × Int × (List Int)) => ((N5e R0 a b s.1 d s.2.1 s.2.2).map (Sum.elim (fun (t : Int × Int × (List Int)) => Sum.inl (t.1,t.2.1,t.2.2)) (fun (t : Int × (List Int)) => Sum.inr t)) : Option ((Int × Int × (List Int)) ⊕ ((Int × (List Int)))))) LL (c,g,i)
def Ng5 (R0 : Int → Int → Int → (List Int) → Int → (List Int) → Option (Int × (List Int))) (a b c : Int) (d : List Int) (g : Int) (i : List Int) : Option ((Int × (List Int))) :=
  (Nfi R0 a b c d g i).map (fun (t : Int × (List Int)) => (t.1,t.2))
def Ngv (R0 : Int → Int → Int → (List Int) → Int → (List Int) → Option (Int × (List Int))) (a b : Int) (c : List Int) (d : Int) (g : List Int) : Option ((Int × (List Int))) :=
  (N9b R0 b).bind (fun (t : Int) => Ng5 R0 a b t c d g)
def Nf1 (R0 : Int → Int → Int → (List Int) → Int → (List Int) → Option (Int × (List Int))) (a b c : Int) (d : List Int) (g : Int) (i : List Int) : Option ((Int × (List Int))) :=
  (Nfm R0 b c d g i).bind (fun (t : Int × (List Int)) => Ngv R0 a b d t.1 t.2)
def Nge (R0 : Int → Int → Int → (List Int) → Int → (List Int) → Option (Int × (List Int))) (a b c : Int) (d : List Int) (g : Int) (i : List Int) : Option ((Int × (List Int)) ⊕ (Int × (List Int))) :=
  (N8l R0 a b c d g i).bind (Sum.elim (fun (t : Int × Int × (List Int)) => (Nf1 R0 b t.1 a d t.2.1 t.2.2).map (fun (u : Int × (List Int)) => (Sum.inl (u.1,u.2)))) (fun e => some ((fun (t : Int × (List Int)) => (Sum.inr t)) e)))
def Ng7 (R0 : Int → Int → Int → (List Int) → Int → (List Int) → Option (Int × (List Int))) (a b c : Int) (d : List Int) (g : Int) (i : List Int) : Option (Int × (List Int)) :=
  (Nge R0 a b c d g i).map (Sum.elim (fun (t : Int × (List Int)) => (t.1,t.2)) (fun (t : Int × (List Int)) => t))
def N2n : Nat → (Int → Int → Int → (List Int) → Int → (List Int) → Option (Int × (List Int)))
  | 0 => (fun _ _ _ _ _ _ => none)
  | n + 1 => (fun y0 y1 y2 y3 y4 y5 => Ng7 (N2n n) y0 y1 y2 y3 y4 y5)
def N17 (n : Nat) : Int → Int → Int → (List Int) → Int → (List Int) → Option (Int × (List Int)) := (N2n n)
@[irreducible] def N5j (a b c : Int) (d : List Int) (g : Int) (i : List Int) : Option (Int × (List Int)) := N17 RR a b c d g i
def N4o (a : Int) (b : List Int) (c : Int) : Option ((Int × (List Int))) :=
  (N0 3 b c).bind fun (d : Int × Int) => cond ((d.1) == 0) ((N22 a b (d.2)).bind fun (g : Int × (List Int)) => some ((g.1),(g.2))) ((N0 7 b (d.2)).bind fun (i : Int × Int) => (mk (IntKind.wrap .i64 (1 + (i.1))) (IntKind.wrap .i64 (1 + (i.1)))).bind fun (j : Nat) => (N5j 1 (IntKind.wrap .i64 (1 + (i.1))) 0 b (i.2) (List.replicate j (0 : Int))).bind fun (k : Int × (List Int)) => some ((k.1),(k.2)))
@[irreducible] def N16 (a : Int) (b : List Int) (c : Int) : Option (Int × (List Int)) :=
  N4o a b c
def N4y (a : Int) (b : List Int) (c : Int) : Option ((Int × (List Int))) :=
  (N22 a b c).bind fun (d : Int × (List Int)) => (N0 2 b (d.1)).bind fun (g : Int × Int) => cond ((g.1) == 0) ((N6 (d.2)).bind fun (i : Bool) => cond i ((N2p (((List.length (d.2) : Nat) : Int)) b (g.2)).bind fun (j : Int × (List Int)) => (N2i (d.2) (j.2)).bind fun (k : Bool × (List Int)) => some ((j.1),(k.2))) ((N0 3 b (g.2)).bind fun (l : Int × Int) => cond ((l.1) == 0) ((N16 a b (l.2)).bind fun (m : Int × (List Int)) => some ((m.1),(m.2))) (some ((l.2),(d.2))))) ((N0 3 b (g.2)).bind fun (o : Int × Int) => cond ((o.1) == 0) ((N16 a b (o.2)).bind fun (p : Int × (List Int)) => some ((p.1),(p.2))) (some ((o.2),(d.2))))
@[irreducible] def N2m (a : Int) (b : List Int) (c : Int) : Option (Int × (List Int)) :=
  N4y a b c
def N51 (a : List Int) : Option ((Bool × (List Int))) :=
  (N6 a).bind fun (b : Bool) => cond (!b) (some (false,([] : List Int))) ((room ((List.length ([] : List Int)) + List.length a)).bind fun (c : Unit) => some (true,(([] : List Int) ++ a)))
@[irreducible] def N2e (a : List Int) : Option (Bool × (List Int)) :=
  N51 a
def N5n (a b : List Int) (c : Int) : Option ((Int × Int × Int × Int)) :=
  (N0 8 b c).bind fun (d : Int × Int) => (idx ([0,0,1,1,2,3,4,5]) (d.1)).bind fun (g : Int) => (N0 60 b (d.2)).bind fun (i : Int × Int) => (quo .i64 (i.1) 59).bind fun (j : Int) => cond ((IntKind.wrap .i64 (g + (IntKind.wrap .i64 (j * 6)))) == 0) ((N0 (imax (((List.length a : Nat) : Int)) 1) b (i.2)).bind fun (k : Int × Int) => (N0 (IntKind.wrap .i64 ((((List.length a : Nat) : Int)) + 1)) b (k.2)).bind fun (l : Int × Int) => (Ni 40 b (l.2)).bind fun (m : Bool × Int) => cond (m.1) ((N0 3 b (m.2)).bind fun (o : Int × Int) => (inb (o.1) (List.length ([(-1),9,100]))).bind fun (p : Nat) => (([(-1),9,100])[p]?).bind fun (q : Int) => some ((o.2),(IntKind.wrap .i64 (g + (IntKind.wrap .i64 (j * 6)))),(IntKind.wrap .i64 (1 + (k.1))),q)) (some ((m.2),(IntKind.wrap .i64 (g + (IntKind.wrap .i64 (j * 6)))),(IntKind.wrap .i64 (1 + (k.1))),(l.1)))) (cond ((IntKind.wrap .i64 (g + (IntKind.wrap .i64 (j * 6)))) == 1) ((N0 (IntKind.wrap .i64 ((((List.length a : Nat) : Int)) + 1)) b (i.2)).bind fun (w : Int × Int) => (N0 9 b (w.2)).bind fun (y : Int × Int) => (quo .i64 (y.1) 8).bind fun (z : Int) => (Ni 40 b (y.2)).bind fun (a0 : Bool × Int) => cond (a0.1) ((N0 3 b (a0.2)).bind fun (a1 : Int × Int) => (inb (a1.1) (List.length ([(-1),9,100]))).bind fun (a2 : Nat) => (([(-1),9,100])[a2]?).bind fun (a3 : Int) => some ((a1.2),(IntKind.wrap .i64 (g + (IntKind.wrap .i64 (j * 6)))),(IntKind.wrap .i64 ((w.1) + z)),a3)) (some ((a0.2),(IntKind.wrap .i64 (g + (IntKind.wrap .i64 (j * 6)))),(IntKind.wrap .i64 ((w.1) + z)),0))) ((Ni 40 b (i.2)).bind fun (a4 : Bool × Int) => cond (a4.1) ((N0 3 b (a4.2)).bind fun (a5 : Int × Int) => (inb (a5.1) (List.length ([(-1),9,100]))).bind fun (a6 : Nat) => (([(-1),9,100])[a6]?).bind fun (a7 : Int) => some ((a5.2),(IntKind.wrap .i64 (g + (IntKind.wrap .i64 (j * 6)))),0,a7)) (some ((a4.2),(IntKind.wrap .i64 (g + (IntKind.wrap .i64 (j * 6)))),0,0))))
@[irreducible] def N1j (a b : List Int) (c : Int) : Option (Int × Int × Int × Int) :=
  N5n a b c
def N94 : Option (Unit) :=
  some ()
def N6b : Option (Unit) :=
  some ()
def N29 (a : Int) (b : List (List Int)) : Option (Int ⊕ Bool ⊕ Unit) :=
  cond (decide (a < (((List.length b : Nat) : Int)))) ((idx b a).bind fun (c : List Int) => (N6 c).bind fun (d : Bool) => cond (!d) (some (Sum.inr (Sum.inl false))) (some (Sum.inl (IntKind.wrap .i64 (a + 1))))) (some (Sum.inr (Sum.inr ())))
def Nhw (a : List (List Int)) : Option (Bool ⊕ Unit) :=
  nloop (fun (s : Int) => ((N29 s a).map (Sum.elim (fun (t : Int) => Sum.inl t) (Sum.elim (fun (t : Bool) => Sum.inr (Sum.inl t)) (fun (t : Unit) => Sum.inr (Sum.inr t)))) : Option ((Int) ⊕ (Bool ⊕ Unit)))) LL 0
def Nig (a : List (List Int)) : Option (Unit ⊕ Bool) :=
  (Nhw a).map (Sum.elim (fun (t : Bool) => (Sum.inr t)) (fun (t : Unit) => (Sum.inl ())))
def Nf0 (a : List (List Int)) : Option (Unit ⊕ Bool) :=
  (N6b).bind (fun (t : Unit) => Nig a)
def N8y (a : List Int) (b : List (List Int)) : Option (Bool) :=
  (N6 a).bind fun (c : Bool) => cond c (some (decide ((((List.length b : Nat) : Int)) ≤ 8))) (some false)
def Nj3 (a : List Int) (b : List (List Int)) : Option (Bool) :=
  (Nf0 b).bind (Sum.elim (fun (t : Unit) => N8y a b) (fun e => some ((fun (t : Bool) => t) e)))
def Nct (a : List Int) (b : List (List Int)) : Option (Bool) :=
  (N94).bind (fun (t : Unit) => Nj3 a b)
@[irreducible] def Nx (a : List Int) (b : List (List Int)) : Option (Bool) :=
  Nct a b
def N72 (a : List Int) : Option (((List Int))) :=
  (room ((List.length ([] : List Int)) + List.length a)).bind fun (b : Unit) => some (([] : List Int) ++ a)
def N78 : Option (Unit) :=
  some ()
def N4f (a : Int) (b c : List (List Int)) : Option ((Int × (List (List Int))) ⊕ ((List (List Int)))) :=
  cond (decide (a < (((List.length b : Nat) : Int)))) ((idx b a).bind fun (d : List Int) => (room (List.length d)).bind fun (g : Unit) => (room (List.length c + 1)).bind fun (i : Unit) => some (Sum.inl ((IntKind.wrap .i64 (a + 1)),((c ++ [[]]).set (List.length c) d)))) (some (Sum.inr c))
def Nip (a : List (List Int)) : Option (((List (List Int)))) :=
  nloop (fun (s : Int × (List (List Int))) => ((N4f s.1 a s.2).map (Sum.elim (fun (t : Int × (List (List Int))) => Sum.inl (t.1,t.2)) (fun (t : (List (List Int))) => Sum.inr t)) : Option ((Int × (List (List Int))) ⊕ (((List (List Int))))))) LL (0,([] : List (List Int)))
def Ngl (a : List (List Int)) : Option (((List (List Int)))) :=
  (Nip a).map (fun (t : (List (List Int))) => t)
def Nfl (a : List (List Int)) : Option (((List (List Int)))) :=
  (N78).bind (fun (t : Unit) => Ngl a)
def N6z (a : List Int) (b : List (List Int)) : Option (((List Int) × (List (List Int)))) :=
  some (a,b)
def Nfb (a : List (List Int)) (b : List Int) : Option (((List Int) × (List (List Int)))) :=
  (Nfl a).bind (fun (t : (List (List Int))) => N6z b t)
def Ndc (a : List Int) (b : List (List Int)) : Option (((List Int) × (List (List Int)))) :=
  (N72 a).bind (fun (t : (List Int)) => Nfb b t)
@[irreducible] def N1t (a : List Int) (b : List (List Int)) : Option ((List Int) × (List (List Int))) :=
  Ndc a b
def N92 (a : List Int) : Option (Int) :=
  some (((List.length a : Nat) : Int))
def N7p (a : Int) : Option (Int) :=
  some (IntKind.wrap .i64 (a - 1))
def N1v (a : List Int) (b c : Int) (d : List Int) : Option ((Int × (List Int)) ⊕ ((List Int))) :=
  cond (decide (c ≥ 0)) ((N6 a).bind fun (g : Bool) => cond g ((idx a c).bind fun (i : Int) => cond (i == 0) ((room ((List.length d) + List.length ([0]))).bind fun (j : Unit) => some (Sum.inl ((IntKind.wrap .i64 (c - 1)),(d ++ ([0]))))) ((idx a c).bind fun (k : Int) => (room ((List.length d) + List.length ([(IntKind.wrap .i64 ((IntKind.wrap .i64 (b + 1)) - k))]))).bind fun (l : Unit) => some (Sum.inl ((IntKind.wrap .i64 (c - 1)),(d ++ ([(IntKind.wrap .i64 ((IntKind.wrap .i64 (b + 1)) - k))])))))) (some (Sum.inr d))) (some (Sum.inr d))
def Nft (a : List Int) (b c : Int) : Option (((List Int))) :=
  nloop (fun (s : Int × (List Int)) => ((N1v a b s.1 s.2).map (Sum.elim (fun (t : Int × (List Int)) => Sum.inl (t.1,t.2)) (fun (t : (List Int)) => Sum.inr t)) : Option ((Int × (List Int)) ⊕ (((List Int)))))) LL (c,([] : List Int))
def Nf8 (a : List Int) (b c : Int) : Option (((List Int))) :=
  (Nft a b c).map (fun (t : (List Int)) => t)
def Nik (a : List Int) (b : Int) : Option (((List Int))) :=
  (N7p b).bind (fun (t : Int) => Nf8 a b t)
def N6g (a : List Int) : Option (((List Int))) :=
  some a
def Nec (a : List Int) (b : Int) : Option (((List Int))) :=
  (Nik a b).bind (fun (t : (List Int)) => N6g t)
def Nbr (a : List Int) : Option (((List Int))) :=
  (N92 a).bind (fun (t : Int) => Nec a t)
@[irreducible] def N1e (a : List Int) : Option ((List Int)) :=
  Nbr a
def N8j : Option (Unit) :=
  some ()
def N7x : Option (Unit) :=
  some ()
def N27 (a : List Int) (b : Int) : Option (Int ⊕ Int ⊕ Unit) :=
  cond (decide (b < (((List.length a : Nat) : Int)))) ((N6 a).bind fun (c : Bool) => cond c ((idx a b).bind fun (d : Int) => cond (d == 0) (some (Sum.inr (Sum.inl (IntKind.wrap .i64 (b + 1))))) (some (Sum.inl (IntKind.wrap .i64 (b + 1))))) (some (Sum.inr (Sum.inr ())))) (some (Sum.inr (Sum.inr ())))
def Ney (a : List Int) : Option (Int ⊕ Unit) :=
  nloop (fun (s : Int) => ((N27 a s).map (Sum.elim (fun (t : Int) => Sum.inl t) (Sum.elim (fun (t : Int) => Sum.inr (Sum.inl t)) (fun (t : Unit) => Sum.inr (Sum.inr t)))) : Option ((Int) ⊕ (Int ⊕ Unit)))) LL 0
def Nj0 (a : List Int) : Option (Unit ⊕ Int) :=
  (Ney a).map (Sum.elim (fun (t : Int) => (Sum.inr t)) (fun (t : Unit) => (Sum.inl ())))
def Ngx (a : List Int) : Option (Unit ⊕ Int) :=
  (N7x).bind (fun (t : Unit) => Nj0 a)
def N91 : Option (Int) :=
  some (-1)
def Nea (a : List Int) : Option (Int) :=
  (Ngx a).bind (Sum.elim (fun (t : Unit) => N91) (fun e => some ((fun (t : Int) => t) e)))
def Nj2 (a : List Int) : Option (Int) :=
  (N8j).bind (fun (t : Unit) => Nea a)
@[irreducible] def N3i (a : List Int) : Option (Int) :=
  Nj2 a
def N64 (R0 : (List Int) → Int → Option ((List Int))) : Option (Unit) :=
  some ()
def N7r (R0 : (List Int) → Int → Option ((List Int))) : Option (Unit) :=
  some ()
def N40 (R0 : (List Int) → Int → Option ((List Int))) (a : List Int) (b c : Int) (d : List Int) : Option ((Int × (List Int)) ⊕ ((List Int))) :=
  cond (decide (c < b)) ((idx a (IntKind.wrap .i64 (c - 1))).bind fun (g : Int) => cond (g == b) ((R0 a c).bind fun (i : List Int) => (room ((List.length d) + List.length i)).bind fun (j : Unit) => some (Sum.inl ((IntKind.wrap .i64 (c + 1)),(d ++ i)))) (some (Sum.inl ((IntKind.wrap .i64 (c + 1)),d)))) (some (Sum.inr d))
def Nih (R0 : (List Int) → Int → Option ((List Int))) (a : List Int) (b : Int) : Option (((List Int))) :=
  nloop (fun (s : Int × (List Int)) => ((N40 R0 a b s.1 s.2).map (Sum.elim (fun (t : Int × (List Int)) => Sum.inl (t.1,t.2)) (fun (t : (List Int)) => Sum.inr t)) : Option ((Int × (List Int)) ⊕ (((List Int)))))) LL (1,([] : List Int))
def Ni9 (R0 : (List Int) → Int → Option ((List Int))) (a : List Int) (b : Int) : Option (((List Int))) :=
  (Nih R0 a b).map (fun (t : (List Int)) => t)
def Nev (R0 : (List Int) → Int → Option ((List Int))) (a : List Int) (b : Int) : Option (((List Int))) :=
  (N7r R0).bind (fun (t : Unit) => Ni9 R0 a b)
def N7c (R0 : (List Int) → Int → Option ((List Int))) (a : Int) (b : List Int) : Option (((List Int))) :=
  (room ((List.length b) + List.length ([a]))).bind fun (c : Unit) => some (b ++ ([a]))
def N80 (R0 : (List Int) → Int → Option ((List Int))) (a : Int) : Option (Int) :=
  some (IntKind.wrap .i64 (a + 1))
def N3h (R0 : (List Int) → Int → Option ((List Int))) (a : List Int) (b c : Int) (d : List Int) : Option ((Int × (List Int)) ⊕ ((List Int))) :=
  cond (decide (c ≤ (((List.length a : Nat) : Int)))) ((idx a (IntKind.wrap .i64 (c - 1))).bind fun (g : Int) => cond (g == b) ((R0 a c).bind fun (i : List Int) => (room ((List.length d) + List.length i)).bind fun (j : Unit) => some (Sum.inl ((IntKind.wrap .i64 (c + 1)),(d ++ i)))) (some (Sum.inl ((IntKind.wrap .i64 (c + 1)),d)))) (some (Sum.inr d))
def Ni8 (R0 : (List Int) → Int → Option ((List Int))) (a : List Int) (b c : Int) (d : List Int) : Option (((List Int))) :=
  nloop (fun (s : Int × (List Int)) => ((N3h R0 a b s.1 s.2).map (Sum.elim (fun (t : Int × (List Int)) => Sum.inl (t.1,t.2)) (fun (t : (List Int)) => Sum.inr t)) : Option ((Int × (List Int)) ⊕ (((List Int)))))) LL (c,d)
def Neb (R0 : (List Int) → Int → Option ((List Int))) (a : List Int) (b c : Int) (d : List Int) : Option (((List Int))) :=
  (Ni8 R0 a b c d).map (fun (t : (List Int)) => t)
def Nfh (R0 : (List Int) → Int → Option ((List Int))) (a : List Int) (b : Int) (c : List Int) : Option (((List Int))) :=
  (N80 R0 b).bind (fun (t : Int) => Neb R0 a b t c)
def N7d (R0 : (List Int) → Int → Option ((List Int))) (a : List Int) : Option (((List Int))) :=
  some a
def Nh6 (R0 : (List Int) → Int → Option ((List Int))) (a : List Int) (b : Int) (c : List Int) : Option (((List Int))) :=
  (Nfh R0 a b c).bind (fun (t : (List Int)) => N7d R0 t)
def Neo (R0 : (List Int) → Int → Option ((List Int))) (a : List Int) (b : Int) (c : List Int) : Option (((List Int))) :=
  (N7c R0 b c).bind (fun (t : (List Int)) => Nh6 R0 a b t)
def Net (R0 : (List Int) → Int → Option ((List Int))) (a : List Int) (b : Int) : Option (((List Int))) :=
  (Nev R0 a b).bind (fun (t : (List Int)) => Neo R0 a b t)
def Ngz (R0 : (List Int) → Int → Option ((List Int))) (a : List Int) (b : Int) : Option (((List Int))) :=
  (N64 R0).bind (fun (t : Unit) => Net R0 a b)
def Nai (R0 : (List Int) → Int → Option ((List Int))) (a : List Int) (b : Int) : Option ((List Int)) :=
  Ngz R0 a b
def N21 : Nat → ((List Int) → Int → Option ((List Int)))
  | 0 => (fun _ _ => none)
  | n + 1 => (fun y0 y1 => Nai (N21 n) y0 y1)
def N7 (n : Nat) : (List Int) → Int → Option ((List Int)) := (N21 n)
@[irreducible] def N5c (a : List Int) (b : Int) : Option ((List Int)) := N7 RR a b
def N7z (a : List Int) : Option (((List Int))) :=
  (N6 a).bind fun (b : Bool) => cond (!b) (some ([] : List Int)) ((N3i a).bind fun (c : Int) => (N5c a c).bind fun (d : List Int) => some d)
@[irreducible] def N4i (a : List Int) : Option ((List Int)) :=
  N7z a
def N77 (a : List Int) : Option (((List Int))) :=
  (N4i a).bind fun (b : List Int) => (N2i a b).bind fun (c : Bool × (List Int)) => some (c.2)
@[irreducible] def N1u (a : List Int) : Option ((List Int)) :=
  N77 a
def N4v (a : List Int) (b c d : Int) : Option ((Nat × (List Int))) :=
  (room ((List.length ([] : List Int)) + List.length a)).bind fun (g : Unit) => cond (b == 0) ((Nr c 1 (((List.length a : Nat) : Int))).bind fun (i : Bool) => cond i ((inb (IntKind.wrap .i64 (c - 1)) (List.length (([] : List Int) ++ a))).bind fun (j : Nat) => some ((List.length ((([] : List Int) ++ a).set j d)),((([] : List Int) ++ a).set j d))) (cond ((b == 1) && ((c == c) && ((d == 0) && true))) ((room ((List.length (([] : List Int) ++ a)) + List.length ([c]))).bind fun (k : Unit) => some ((List.length ((([] : List Int) ++ a) ++ ([c]))),((([] : List Int) ++ a) ++ ([c])))) (cond ((b == 2) && ((c == 0) && ((d == 0) && true))) ((inc (IntKind.wrap .i64 ((((List.length (([] : List Int) ++ a) : Nat) : Int)) - 1)) (List.length (([] : List Int) ++ a))).bind fun (l : Nat) => some ((l - 0),(([] : List Int) ++ a))) (cond ((b == 3) && ((c == 0) && ((d == 0) && true))) ((N1e a).bind fun (m : List Int) => some ((List.length m),m)) (cond ((b == 4) && ((c == 0) && ((d == 0) && true))) ((N1u a).bind fun (o : List Int) => some ((List.length o),o)) (some ((List.length ([] : List Int)),([] : List Int)))))))) (cond ((b == 1) && ((c == c) && ((d == 0) && true))) ((room ((List.length (([] : List Int) ++ a)) + List.length ([c]))).bind fun (p : Unit) => some ((List.length ((([] : List Int) ++ a) ++ ([c]))),((([] : List Int) ++ a) ++ ([c])))) (cond ((b == 2) && ((c == 0) && ((d == 0) && true))) ((inc (IntKind.wrap .i64 ((((List.length (([] : List Int) ++ a) : Nat) : Int)) - 1)) (List.length (([] : List Int) ++ a))).bind fun (q : Nat) => some ((q - 0),(([] : List Int) ++ a))) (cond ((b == 3) && ((c == 0) && ((d == 0) && true))) ((N1e a).bind fun (w : List Int) => some ((List.length w),w)) (cond ((b == 4) && ((c == 0) && ((d == 0) && true))) ((N1u a).bind fun (y : List Int) => some ((List.length y),y)) (some ((List.length ([] : List Int)),([] : List Int)))))))
@[irreducible] def N1p (a : List Int) (b c d : Int) : Option (Nat × (List Int)) :=
  N4v a b c d
def N7l (a : List Int) (b : List (List Int)) (c d g : Int) : Option ((Nat × Bool × (List Int) × (List Int) × (List (List Int))) ⊕ (Bool × (List Int) × (List (List Int)))) :=
  (Nx a b).bind fun (i : Bool) => cond (!i) (some (Sum.inr (false,([] : List Int),([] : List (List Int))))) ((N1t a b).bind fun (j : (List Int) × (List (List Int))) => cond ((c == 5) && ((d == 0) && ((g == 0) && true))) (cond (decide ((((List.length b : Nat) : Int)) > 0)) ((inb (IntKind.wrap .i64 ((((List.length (j.2) : Nat) : Int)) - 1)) (List.length (j.2))).bind fun (k : Nat) => (((j.2))[k]?).bind fun (l : List Int) => (inc (IntKind.wrap .i64 ((((List.length (j.2) : Nat) : Int)) - 1)) (List.length (((j.2)).set k []))).bind fun (m : Nat) => (sure (Nat.blt k 0 || Nat.ble m k)).bind fun (o : Unit) => some (Sum.inr (true,l,(((((j.2)).set k []).take m).drop 0)))) ((N1p a c d g).bind fun (p : Nat × (List Int)) => some (Sum.inl ((p.1),(((((p.1) : Nat) : Int)) == (((List.length a : Nat) : Int))),(p.2),(j.1),(j.2))))) ((N1p a c d g).bind fun (q : Nat × (List Int)) => some (Sum.inl ((q.1),(((((q.1) : Nat) : Int)) == (((List.length a : Nat) : Int))),(q.2),(j.1),(j.2)))))
def N6v : Option (Unit) :=
  some ()
def N2w (a : Nat) (b : Bool) (c : Int) (d g : List Int) : Option ((Bool × Int) ⊕ Bool) :=
  cond (decide (c < (((a : Nat) : Int)))) (cond b ((inb c a).bind fun (i : Nat) => (g[(0 + i)]?).bind fun (j : Int) => (idx d c).bind fun (k : Int) => some (Sum.inl ((j == k),(IntKind.wrap .i64 (c + 1))))) (some (Sum.inr b))) (some (Sum.inr b))
def Nd6 (a : Nat) (b : Bool) (c d : List Int) : Option (Bool) :=
  nloop (fun (s : Bool × Int) => ((N2w a s.1 s.2 c d).map (Sum.elim (fun (t : Bool × Int) => Sum.inl (t.1,t.2)) (fun (t : Bool) => Sum.inr t)) : Option ((Bool × Int) ⊕ (Bool)))) LL (b,0)
def Nfz (a : Nat) (b : Bool) (c d : List Int) : Option (Bool) :=
  (Nd6 a b c d).map (fun (t : Bool) => t)
def Neq (a : Nat) (b : Bool) (c d : List Int) : Option (Bool) :=
  (N6v).bind (fun (t : Unit) => Nfz a b c d)
def N6d (a : Nat) (b : Bool) (c d : List Int) (g : List (List Int)) : Option ((Bool × (List Int) × (List (List Int)))) :=
  cond b (some (false,d,g)) ((N6 ((c.drop 0).take a)).bind fun (i : Bool) => cond (!i) (some (false,d,g)) ((room (List.length g + 1)).bind fun (j : Unit) => cond (decide ((((List.length ((g ++ [[]]).set (List.length g) d) : Nat) : Int)) > 8)) ((inc 1 (List.length ((g ++ [[]]).set (List.length g) d))).bind fun (k : Nat) => (room ((List.length ([] : List Int)) + List.length ((c.drop 0).take a))).bind fun (l : Unit) => some (true,(([] : List Int) ++ ((c.drop 0).take a)),((((g ++ [[]]).set (List.length g) d).take (List.length ((g ++ [[]]).set (List.length g) d))).drop k))) ((room ((List.length ([] : List Int)) + List.length ((c.drop 0).take a))).bind fun (m : Unit) => some (true,(([] : List Int) ++ ((c.drop 0).take a)),((g ++ [[]]).set (List.length g) d)))))
def Nde (a : Nat) (b : Bool) (c d g : List Int) (i : List (List Int)) : Option ((Bool × (List Int) × (List (List Int)))) :=
  (Neq a b c d).bind (fun (t : Bool) => N6d a t d g i)
def Na9 (a : List Int) (b : List (List Int)) (c d g : Int) : Option ((Bool × (List Int) × (List (List Int)))) :=
  (N7l a b c d g).bind (Sum.elim (fun (t : Nat × Bool × (List Int) × (List Int) × (List (List Int))) => Nde t.1 t.2.1 a t.2.2.1 t.2.2.2.1 t.2.2.2.2) (fun e => some ((fun (t : Bool × (List Int) × (List (List Int))) => t) e)))
@[irreducible] def N1w (a : List Int) (b : List (List Int)) (c d g : Int) : Option (Bool × (List Int) × (List (List Int))) :=
  Na9 a b c d g
def N6h (a : List Int) (b : Int) : Option ((Int × (List Int))) :=
  (N2m 0 a b).bind fun (c : Int × (List Int)) => (N2e (c.2)).bind fun (d : Bool × (List Int)) => some ((c.1),(d.2))
def N6w (a : List Int) (b : Int) : Option ((Int × Int)) :=
  (N0 6 a b).bind fun (c : Int × Int) => some ((c.1),(c.2))
def N5m (a : Int) (b : List Int) (c : Int) (d : List Int) (g : List (List Int)) : Option ((Int × Int × (List Int) × (List (List Int))) ⊕ (Int × (List Int) × (List (List Int)))) :=
  cond (decide (a > 0)) ((N1j d b c).bind fun (i : Int × Int × Int × Int) => (N1w d g (i.2.1) (i.2.2.1) (i.2.2.2)).bind fun (j : Bool × (List Int) × (List (List Int))) => cond (j.1) (some (Sum.inl ((IntKind.wrap .i64 (a - 1)),(i.1),(j.2.1),(j.2.2)))) (some (Sum.inl ((IntKind.wrap .i64 (a - 1)),(i.1),d,g)))) (some (Sum.inr (c,d,g)))
def New (a : Int) (b : List Int) (c : Int) (d : List Int) : Option ((Int × (List Int) × (List (List Int)))) :=
  nloop (fun (s : Int × Int × (List Int) × (List (List Int))) => ((N5m s.1 b s.2.1 s.2.2.1 s.2.2.2).map (Sum.elim (fun (t : Int × Int × (List Int) × (List (List Int))) => Sum.inl (t.1,t.2.1,t.2.2.1,t.2.2.2)) (fun (t : Int × (List Int) × (List (List Int))) => Sum.inr t)) : Option ((Int × Int × (List Int) × (List (List Int))) ⊕ ((Int × (List Int) × (List (List Int))))))) LL (a,c,d,([] : List (List Int)))
def Nfx (a : Int) (b : List Int) (c : Int) (d : List Int) : Option ((Int × (List Int) × (List (List Int)))) :=
  (New a b c d).map (fun (t : Int × (List Int) × (List (List Int))) => (t.1,t.2.1,t.2.2))
def Ngr (a : List Int) (b : Int) (c : List Int) : Option ((Int × (List Int) × (List (List Int)))) :=
  (N6w a b).bind (fun (t : Int × Int) => Nfx t.1 a t.2 c)
def N7b (a : Int) (b : List Int) (c : Int) (d : List Int) (g : List (List Int)) : Option ((Int × (List Int) × (List (List Int)))) :=
  (Ni a b c).bind fun (i : Bool × Int) => cond (i.1) ((N0 3 b (i.2)).bind fun (j : Int × Int) => cond ((j.1) == 0) (some ((j.2),([1]),g)) (cond ((j.1) == 1) ((room (List.length g + 1)).bind fun (k : Unit) => some ((j.2),d,((g ++ [[]]).set (List.length g) ([] : List Int)))) (some ((j.2),([] : List Int),([] : List (List Int)))))) (some ((i.2),d,g))
def Nh4 (a : Int) (b : List Int) (c : Int) (d : List Int) : Option ((Int × (List Int) × (List (List Int)))) :=
  (Ngr b c d).bind (fun (t : Int × (List Int) × (List (List Int))) => N7b a b t.1 t.2.1 t.2.2)
def Nbi (a : Int) (b : List Int) (c : Int) : Option ((Int × (List Int) × (List (List Int)))) :=
  (N6h b c).bind (fun (t : Int × (List Int)) => Nh4 a b t.1 t.2)
@[irreducible] def N2a (a : Int) (b : List Int) (c : Int) : Option (Int × (List Int) × (List (List Int))) :=
  Nbi a b c
def N8b : Option (Unit) :=
  some ()
def N8w (a : List Int) : Option (Int) :=
  some (((List.length a : Nat) : Int))
def N48 (a : List Int) (b c d : Int) : Option ((Int × Int) ⊕ Bool ⊕ Int) :=
  cond (decide (d < c)) ((idx a d).bind fun (g : Int) => cond (decide (g < 0)) (some (Sum.inr (Sum.inl false))) (cond (decide (g > (((List.length a : Nat) : Int)))) (some (Sum.inr (Sum.inl false))) (cond (g == 0) (some (Sum.inl ((IntKind.wrap .i64 (b + 1)),(IntKind.wrap .i64 (d + 1))))) (some (Sum.inl (b,(IntKind.wrap .i64 (d + 1)))))))) (some (Sum.inr (Sum.inr b)))
def Nhf (a : List Int) (b : Int) : Option (Bool ⊕ Int) :=
  nloop (fun (s : Int × Int) => ((N48 a s.1 b s.2).map (Sum.elim (fun (t : Int × Int) => Sum.inl (t.1,t.2)) (Sum.elim (fun (t : Bool) => Sum.inr (Sum.inl t)) (fun (t : Int) => Sum.inr (Sum.inr t)))) : Option ((Int × Int) ⊕ (Bool ⊕ Int)))) LL (0,0)
def Ngu (a : List Int) (b : Int) : Option (Int ⊕ Bool) :=
  (Nhf a b).map (Sum.elim (fun (t : Bool) => (Sum.inr t)) (fun (t : Int) => (Sum.inl t)))
def Nfd (a : List Int) : Option (Int ⊕ Bool) :=
  (N8w a).bind (fun (t : Int) => Ngu a t)
def N8s (a : Int) : Option (Bool) :=
  some (a == 1)
def Ni2 (a : List Int) : Option (Bool) :=
  (Nfd a).bind (Sum.elim (fun (t : Int) => N8s t) (fun e => some ((fun (t : Bool) => t) e)))
def Nhq (a : List Int) : Option (Bool) :=
  (N8b).bind (fun (t : Unit) => Ni2 a)
@[irreducible] def N3e (a : List Int) : Option (Bool) :=
  Nhq a
def N82 (a : List Int) (b c : Int) : Option ((Bool × Int × Int)) :=
  (idx a (IntKind.wrap .i64 (b - 1))).bind fun (d : Int) => cond (d == 0) (some (false,b,c)) (some (true,d,(IntKind.wrap .i64 (c + 1))))
@[irreducible] def N2y (a : List Int) (b c : Int) : Option (Bool × Int × Int) :=
  N82 a b c
def N5w : Option (Unit) :=
  some ()
def N4w (a : List Int) (b c : Int) : Option ((Int × Int) ⊕ (Int × Bool) ⊕ (Int × Int)) :=
  (N2y a b c).bind fun (d : Bool × Int × Int) => cond (d.1) (cond (decide ((d.2.2) ≥ (((List.length a : Nat) : Int)))) (some (Sum.inr (Sum.inl (0,false)))) (some (Sum.inl ((d.2.1),(d.2.2))))) (some (Sum.inr (Sum.inr ((d.2.1),(d.2.2)))))
def Nfw (a : List Int) (b : Int) : Option ((Int × Bool) ⊕ (Int × Int)) :=
  nloop (fun (s : Int × Int) => ((N4w a s.1 s.2).map (Sum.elim (fun (t : Int × Int) => Sum.inl (t.1,t.2)) (Sum.elim (fun (t : Int × Bool) => Sum.inr (Sum.inl t)) (fun (t : Int × Int) => Sum.inr (Sum.inr t)))) : Option ((Int × Int) ⊕ ((Int × Bool) ⊕ (Int × Int))))) LL (b,0)
def Nex (a : List Int) (b : Int) : Option ((Int × Int) ⊕ (Int × Bool)) :=
  (Nfw a b).map (Sum.elim (fun (t : Int × Bool) => (Sum.inr t)) (fun (t : Int × Int) => (Sum.inl (t.1,t.2))))
def N6k (a : Int) : Option ((Int × Bool)) :=
  some (a,true)
def Nij (a : List Int) (b : Int) : Option ((Int × Bool)) :=
  (Nex a b).bind (Sum.elim (fun (t : Int × Int) => N6k t.2) (fun e => some ((fun (t : Int × Bool) => t) e)))
def Nii (a : List Int) (b : Int) : Option ((Int × Bool)) :=
  (N5w).bind (fun (t : Unit) => Nij a b)
@[irreducible] def N3p (a : List Int) (b : Int) : Option (Int × Bool) :=
  Nii a b
def N65 (a : List Int) : Option (Unit ⊕ Bool) :=
  cond (decide ((((List.length a : Nat) : Int)) < 1)) (some (Sum.inr false)) (cond (decide ((((List.length a : Nat) : Int)) > 8)) (some (Sum.inr false)) ((N3e a).bind fun (b : Bool) => cond (!b) (some (Sum.inr false)) (some (Sum.inl ()))))
def N98 (a : List Int) : Option (Int) :=
  some (((List.length a : Nat) : Int))
def N3a (a : List Int) (b c : Int) : Option (Int ⊕ Bool ⊕ Unit) :=
  cond (decide (c < b)) ((N3p a (IntKind.wrap .i64 (c + 1))).bind fun (d : Int × Bool) => cond (!(d.2)) (some (Sum.inr (Sum.inl false))) (some (Sum.inl (IntKind.wrap .i64 (c + 1))))) (some (Sum.inr (Sum.inr ())))
def Ni3 (a : List Int) (b : Int) : Option (Bool ⊕ Unit) :=
  nloop (fun (s : Int) => ((N3a a b s).map (Sum.elim (fun (t : Int) => Sum.inl t) (Sum.elim (fun (t : Bool) => Sum.inr (Sum.inl t)) (fun (t : Unit) => Sum.inr (Sum.inr t)))) : Option ((Int) ⊕ (Bool ⊕ Unit)))) LL 0
def Ng0 (a : List Int) (b : Int) : Option (Unit ⊕ Bool) :=
  (Ni3 a b).map (Sum.elim (fun (t : Bool) => (Sum.inr t)) (fun (t : Unit) => (Sum.inl ())))
def Nfa (a : List Int) : Option (Unit ⊕ Bool) :=
  (N98 a).bind (fun (t : Int) => Ng0 a t)
def Nco : Option (Bool) :=
  some true
def Nee (a : List Int) : Option (Bool) :=
  (Nfa a).bind (Sum.elim (fun (t : Unit) => Nco) (fun e => some ((fun (t : Bool) => t) e)))
def Ngc (a : List Int) : Option (Bool) :=
  (N65 a).bind (Sum.elim (fun (t : Unit) => Nee a) (fun e => some ((fun (t : Bool) => t) e)))
@[irreducible] def N5 (a : List Int) : Option (Bool) :=
  Ngc a
def N95 (a : List Int) (b : List (List Int)) : Option (Unit ⊕ Bool) :=
  (N5 a).bind fun (c : Bool) => cond (!c) (some (Sum.inr false)) (cond (decide ((((List.length b : Nat) : Int)) > 8)) (some (Sum.inr false)) (some (Sum.inl ())))
def N8o (a : List (List Int)) : Option (Int) :=
  some (((List.length a : Nat) : Int))
def N2k (a : List (List Int)) (b c : Int) : Option (Int ⊕ Bool ⊕ Unit) :=
  cond (decide (c < b)) ((idx a c).bind fun (d : List Int) => (N5 d).bind fun (g : Bool) => cond (!g) (some (Sum.inr (Sum.inl false))) (some (Sum.inl (IntKind.wrap .i64 (c + 1))))) (some (Sum.inr (Sum.inr ())))
def Nhg (a : List (List Int)) (b : Int) : Option (Bool ⊕ Unit) :=
  nloop (fun (s : Int) => ((N2k a b s).map (Sum.elim (fun (t : Int) => Sum.inl t) (Sum.elim (fun (t : Bool) => Sum.inr (Sum.inl t)) (fun (t : Unit) => Sum.inr (Sum.inr t)))) : Option ((Int) ⊕ (Bool ⊕ Unit)))) LL 0
def Nf2 (a : List (List Int)) (b : Int) : Option (Unit ⊕ Bool) :=
  (Nhg a b).map (Sum.elim (fun (t : Bool) => (Sum.inr t)) (fun (t : Unit) => (Sum.inl ())))
def Ni6 (a : List (List Int)) : Option (Unit ⊕ Bool) :=
  (N8o a).bind (fun (t : Int) => Nf2 a t)
def Nd0 : Option (Bool) :=
  some true
def Ngp (a : List (List Int)) : Option (Bool) :=
  (Ni6 a).bind (Sum.elim (fun (t : Unit) => Nd0) (fun e => some ((fun (t : Bool) => t) e)))
def N9m (a : List Int) (b : List (List Int)) : Option (Bool) :=
  (N95 a b).bind (Sum.elim (fun (t : Unit) => Ngp b) (fun e => some ((fun (t : Bool) => t) e)))
@[irreducible] def Nq (a : List Int) (b : List (List Int)) : Option (Bool) :=
  N9m a b
def N6j (a : Int) : Option (Int) :=
  cond (a == 0) (some 2) (cond (a == 1) (some 1) (some 0))
@[irreducible] def N5p (a : Int) : Option (Int) :=
  N6j a
def N7o (a b c : Int) : Option (Bool) :=
  (N5p a).bind fun (d : Int) => cond (decide (d > 0)) (cond (decide (d > 1)) (some true) (some (c == 0))) (cond (b == 0) (cond (decide (d > 1)) (some true) (some (c == 0))) (some false))
@[irreducible] def N39 (a b c : Int) : Option (Bool) :=
  N7o a b c
def N2o (x1 : List Int) : Option (List Int) := cloneD x1
def N7a (a : List Int) : Option (((List Int))) :=
  (N2o a).bind fun (b : List Int) => some b
def N6l (a : List (List Int)) : Option (Int) :=
  some (((List.length a : Nat) : Int))
def N3m (a : List (List Int)) (b c : Int) (d : List (List Int)) : Option ((Int × (List (List Int))) ⊕ ((List (List Int)))) :=
  cond (decide (c < b)) ((idx a c).bind fun (g : List Int) => (N2o g).bind fun (i : List Int) => (room (List.length d + 1)).bind fun (j : Unit) => some (Sum.inl ((IntKind.wrap .i64 (c + 1)),((d ++ [[]]).set (List.length d) i)))) (some (Sum.inr d))
def Nhm (a : List (List Int)) (b : Int) : Option (((List (List Int)))) :=
  nloop (fun (s : Int × (List (List Int))) => ((N3m a b s.1 s.2).map (Sum.elim (fun (t : Int × (List (List Int))) => Sum.inl (t.1,t.2)) (fun (t : (List (List Int))) => Sum.inr t)) : Option ((Int × (List (List Int))) ⊕ (((List (List Int))))))) LL (0,([] : List (List Int)))
def Nhz (a : List (List Int)) (b : Int) : Option (((List (List Int)))) :=
  (Nhm a b).map (fun (t : (List (List Int))) => t)
def Ngf (a : List (List Int)) : Option (((List (List Int)))) :=
  (N6l a).bind (fun (t : Int) => Nhz a t)
def N6r (a : List Int) (b : List (List Int)) : Option (((List Int) × (List (List Int)))) :=
  some (a,b)
def Nh8 (a : List (List Int)) (b : List Int) : Option (((List Int) × (List (List Int)))) :=
  (Ngf a).bind (fun (t : (List (List Int))) => N6r b t)
def Naa (a : List Int) (b : List (List Int)) : Option (((List Int) × (List (List Int)))) :=
  (N7a a).bind (fun (t : (List Int)) => Nh8 b t)
@[irreducible] def Na (a : List Int) (b : List (List Int)) : Option ((List Int) × (List (List Int))) :=
  Naa a b
def N4t (a : List Int) (b : List (List Int)) : Option ((Bool × (List Int) × (List (List Int)))) :=
  cond (decide ((IntKind.wrap .i64 ((((List.length b : Nat) : Int)) - 1)) < 0)) ((Na a ([] : List (List Int))).bind fun (c : (List Int) × (List (List Int))) => some (false,(c.1),(c.2))) ((idx b (IntKind.wrap .i64 ((((List.length b : Nat) : Int)) - 1))).bind fun (d : List Int) => (inc (IntKind.wrap .i64 ((((List.length b : Nat) : Int)) - 1)) (List.length b)).bind fun (g : Nat) => (Na d ((b.take g).drop 0)).bind fun (i : (List Int) × (List (List Int))) => some (true,(i.1),(i.2)))
@[irreducible] def N2q (a : List Int) (b : List (List Int)) : Option (Bool × (List Int) × (List (List Int))) :=
  N4t a b
def N5o (a : List Int) (b : Int) : Option (Bool) :=
  (N5 a).bind fun (c : Bool) => cond c (cond (decide (b ≥ 1)) (some (decide (b ≤ (((List.length a : Nat) : Int))))) (some false)) (some false)
@[irreducible] def N2g (a : List Int) (b : Int) : Option (Bool) :=
  N5o a b
def N8v (a : Int) : Option (((List Int))) :=
  (mk a a).bind fun (b : Nat) => some (List.replicate b (0 : Int))
def N6m (a : List Int) : Option (Int) :=
  some (((List.length a : Nat) : Int))
def N3g (a b c : Int) (d : List Int) : Option ((Int × (List Int)) ⊕ ((List Int))) :=
  cond (decide (c < b)) ((inb c (List.length d)).bind fun (g : Nat) => some (Sum.inl ((IntKind.wrap .i64 (c + 1)),(d.set g (IntKind.wrap .i64 (a - c)))))) (some (Sum.inr d))
def Nem (a b : Int) (c : List Int) : Option (((List Int))) :=
  nloop (fun (s : Int × (List Int)) => ((N3g a b s.1 s.2).map (Sum.elim (fun (t : Int × (List Int)) => Sum.inl (t.1,t.2)) (fun (t : (List Int)) => Sum.inr t)) : Option ((Int × (List Int)) ⊕ (((List Int)))))) LL (0,c)
def Nix (a b : Int) (c : List Int) : Option (((List Int))) :=
  (Nem a b c).map (fun (t : (List Int)) => t)
def Nel (a : Int) (b : List Int) : Option (((List Int))) :=
  (N6m b).bind (fun (t : Int) => Nix a t b)
def N8c (a : List Int) : Option (((List Int))) :=
  some a
def Nf3 (a : Int) (b : List Int) : Option (((List Int))) :=
  (Nel a b).bind (fun (t : (List Int)) => N8c t)
def Nd4 (a : Int) : Option (((List Int))) :=
  (N8v a).bind (fun (t : (List Int)) => Nf3 a t)
@[irreducible] def N2s (a : Int) : Option ((List Int)) :=
  Nd4 a
def N8a (a : List Int) (b : Int) : Option (Unit ⊕ Bool) :=
  cond (decide (b < 1)) (some (Sum.inr false)) (cond (decide (b > 8)) (some (Sum.inr false)) (cond ((((List.length a : Nat) : Int)) != b) (some (Sum.inr false)) (some (Sum.inl ()))))
def N93 (a : List Int) : Option (Int) :=
  some (((List.length a : Nat) : Int))
def N5g (a : Int) (b : List Int) (c d : Int) (g : List Bool) : Option ((Int × (List Bool)) ⊕ Bool ⊕ Unit) :=
  cond (decide (d < c)) ((idx b d).bind fun (i : Int) => cond (decide (i < 1)) (some (Sum.inr (Sum.inl false))) (cond (decide (i > a)) (some (Sum.inr (Sum.inl false))) ((same (List.length g) 9).bind fun (j : Unit) => (inb i 9).bind fun (k : Nat) => (g[k]?).bind fun (l : Bool) => cond l (some (Sum.inr (Sum.inl false))) ((same (List.length g) 9).bind fun (m : Unit) => (inb i 9).bind fun (o : Nat) => some (Sum.inl ((IntKind.wrap .i64 (d + 1)),(g.set o true))))))) (some (Sum.inr (Sum.inr ())))
def Nj7 (a : Int) (b : List Int) (c : Int) : Option (Bool ⊕ Unit) :=
  nloop (fun (s : Int × (List Bool)) => ((N5g a b c s.1 s.2).map (Sum.elim (fun (t : Int × (List Bool)) => Sum.inl (t.1,t.2)) (Sum.elim (fun (t : Bool) => Sum.inr (Sum.inl t)) (fun (t : Unit) => Sum.inr (Sum.inr t)))) : Option ((Int × (List Bool)) ⊕ (Bool ⊕ Unit)))) LL (0,(List.replicate 9 false))
def Niv (a : Int) (b : List Int) (c : Int) : Option (Unit ⊕ Bool) :=
  (Nj7 a b c).map (Sum.elim (fun (t : Bool) => (Sum.inr t)) (fun (t : Unit) => (Sum.inl ())))
def Nj6 (a : List Int) (b : Int) : Option (Unit ⊕ Bool) :=
  (N93 a).bind (fun (t : Int) => Niv b a t)
def N7y : Option (Bool) :=
  some true
def Ng4 (a : List Int) (b : Int) : Option (Bool) :=
  (Nj6 a b).bind (Sum.elim (fun (t : Unit) => N7y) (fun e => some ((fun (t : Bool) => t) e)))
def Nfy (a : List Int) (b : Int) : Option (Bool) :=
  (N8a a b).bind (Sum.elim (fun (t : Unit) => Ng4 a b) (fun e => some ((fun (t : Bool) => t) e)))
@[irreducible] def N44 (a : List Int) (b : Int) : Option (Bool) :=
  Nfy a b
def N9f (a : List Int) : Option (((List Int))) :=
  (mk (IntKind.wrap .i64 ((((List.length a : Nat) : Int)) + 1)) (IntKind.wrap .i64 ((((List.length a : Nat) : Int)) + 1))).bind fun (b : Nat) => some (List.replicate b (0 : Int))
def N9d (a : List Int) : Option (Int) :=
  some (((List.length a : Nat) : Int))
def N47 (a : List Int) (b c : Int) (d : List Int) : Option ((Int × (List Int)) ⊕ ((List Int))) :=
  cond (decide (c < b)) ((idx a c).bind fun (g : Int) => (inb g (List.length d)).bind fun (i : Nat) => some (Sum.inl ((IntKind.wrap .i64 (c + 1)),(d.set i (IntKind.wrap .i64 (c + 1)))))) (some (Sum.inr d))
def Nfp (a : List Int) (b : Int) (c : List Int) : Option (((List Int))) :=
  nloop (fun (s : Int × (List Int)) => ((N47 a b s.1 s.2).map (Sum.elim (fun (t : Int × (List Int)) => Sum.inl (t.1,t.2)) (fun (t : (List Int)) => Sum.inr t)) : Option ((Int × (List Int)) ⊕ (((List Int)))))) LL (0,c)
def Nid (a : List Int) (b : Int) (c : List Int) : Option (((List Int))) :=
  (Nfp a b c).map (fun (t : (List Int)) => t)
def Nga (a b : List Int) : Option (((List Int))) :=
  (N9d a).bind (fun (t : Int) => Nid a t b)
def N8d (a : List Int) : Option (((List Int))) :=
  some a
def Nh2 (a b : List Int) : Option (((List Int))) :=
  (Nga a b).bind (fun (t : (List Int)) => N8d t)
def Nfr (a : List Int) : Option (((List Int))) :=
  (N9f a).bind (fun (t : (List Int)) => Nh2 a t)
@[irreducible] def N3q (a : List Int) : Option ((List Int)) :=
  Nfr a
def N6y (a : Int) (b : List Int) : Option (Int) :=
  (inb a (List.length b)).bind fun (c : Nat) => (b[c]?).bind fun (d : Int) => some d
@[irreducible] def N4j (a : Int) (b : List Int) : Option (Int) :=
  N6y a b
def N5t (a : List Int) : Option (((List Int))) :=
  (mk (((List.length a : Nat) : Int)) (((List.length a : Nat) : Int))).bind fun (b : Nat) => some (List.replicate b (0 : Int))
def N7s (a : List Int) : Option (Int) :=
  some (((List.length a : Nat) : Int))
def N4q (a b : List Int) (c d : Int) (g i : List Int) : Option ((Int × (List Int)) ⊕ ((List Int))) :=
  cond (decide (d < c)) ((idx b d).bind fun (j : Int) => (idx a (IntKind.wrap .i64 (j - 1))).bind fun (k : Int) => (N4j k g).bind fun (l : Int) => (inb d (List.length i)).bind fun (m : Nat) => some (Sum.inl ((IntKind.wrap .i64 (d + 1)),(i.set m l)))) (some (Sum.inr i))
def Nf5 (a b : List Int) (c : Int) (d g : List Int) : Option (((List Int))) :=
  nloop (fun (s : Int × (List Int)) => ((N4q a b c s.1 d s.2).map (Sum.elim (fun (t : Int × (List Int)) => Sum.inl (t.1,t.2)) (fun (t : (List Int)) => Sum.inr t)) : Option ((Int × (List Int)) ⊕ (((List Int)))))) LL (0,g)
def Nie (a b : List Int) (c : Int) (d g : List Int) : Option (((List Int))) :=
  (Nf5 a b c d g).map (fun (t : (List Int)) => t)
def Nj1 (a b c d : List Int) : Option (((List Int))) :=
  (N7s b).bind (fun (t : Int) => Nie a b t c d)
def N5v (a : List Int) : Option (((List Int))) :=
  some a
def Niq (a b c d : List Int) : Option (((List Int))) :=
  (Nj1 a b c d).bind (fun (t : (List Int)) => N5v t)
def Nfc (a b c : List Int) : Option (((List Int))) :=
  (N5t b).bind (fun (t : (List Int)) => Niq a b c t)
@[irreducible] def N4u (a b c : List Int) : Option ((List Int)) :=
  Nfc a b c
def N8p (a b : List Int) : Option ((Bool × (List Int))) :=
  (N5 a).bind fun (c : Bool) => cond (!c) (some (false,([] : List Int))) ((N44 b (((List.length a : Nat) : Int))).bind fun (d : Bool) => cond (!d) (some (false,([] : List Int))) ((N3q b).bind fun (g : List Int) => (N4u a b g).bind fun (i : List Int) => some (true,i)))
@[irreducible] def N2f (a b : List Int) : Option (Bool × (List Int)) :=
  N8p a b
def N5f (a : List Int) : Option (((List Int))) :=
  (N5 a).bind fun (b : Bool) => cond (!b) (some ([] : List Int)) ((N2s (((List.length a : Nat) : Int))).bind fun (c : List Int) => (N2f a c).bind fun (d : Bool × (List Int)) => some (d.2))
@[irreducible] def N23 (a : List Int) : Option ((List Int)) :=
  N5f a
def N6t (a : List Int) : Option (Unit ⊕ Int) :=
  (N5 a).bind fun (b : Bool) => cond (!b) (some (Sum.inr (-1))) (some (Sum.inl ()))
def N5h (a : List Int) (b c : Int) : Option ((Int × Int) ⊕ (Int × Int)) :=
  (N2y a b c).bind fun (d : Bool × Int × Int) => cond (d.1) (some (Sum.inl ((d.2.1),(d.2.2)))) (some (Sum.inr ((d.2.1),(d.2.2))))
def Nio (a : List Int) : Option ((Int × Int)) :=
  nloop (fun (s : Int × Int) => ((N5h a s.1 s.2).map (Sum.elim (fun (t : Int × Int) => Sum.inl (t.1,t.2)) (fun (t : Int × Int) => Sum.inr t)) : Option ((Int × Int) ⊕ ((Int × Int))))) LL (1,0)
def Nhc (a : List Int) : Option ((Int × Int)) :=
  (Nio a).map (fun (t : Int × Int) => (t.1,t.2))
def N8x (a : Int) : Option (Int) :=
  some a
def Nht (a : List Int) : Option (Int) :=
  (Nhc a).bind (fun (t : Int × Int) => N8x t.1)
def Nfu (a : List Int) : Option (Int) :=
  (N6t a).bind (Sum.elim (fun (t : Unit) => Nht a) (fun e => some ((fun (t : Int) => t) e)))
@[irreducible] def N2z (a : List Int) : Option (Int) :=
  Nfu a
def Ndh (a : Int) : Option (Int) :=
  (shl .u64 1 (IntKind.wrap .i64 (a - 1))).bind fun (b : Int) => some b
@[irreducible] def N28 (a : Int) : Option (Int) :=
  Ndh a
def N8z : Option (Unit) :=
  some ()
def N88 (a : List Int) : Option (Int) :=
  some (((List.length a : Nat) : Int))
def N4l (a : List Int) (b c d g : Int) : Option ((Int × Int) ⊕ Int) :=
  cond (decide (g < d)) ((idx a g).bind fun (i : Int) => cond (i == b) ((N28 (IntKind.wrap .i64 (g + 1))).bind fun (j : Int) => some (Sum.inl ((ior .u64 c j),(IntKind.wrap .i64 (g + 1))))) (some (Sum.inl (c,(IntKind.wrap .i64 (g + 1)))))) (some (Sum.inr c))
def Nh5 (a : List Int) (b c : Int) : Option (Int) :=
  nloop (fun (s : Int × Int) => ((N4l a b s.1 c s.2).map (Sum.elim (fun (t : Int × Int) => Sum.inl (t.1,t.2)) (fun (t : Int) => Sum.inr t)) : Option ((Int × Int) ⊕ (Int)))) LL (0,0)
def Nej (a : List Int) (b c : Int) : Option (Int) :=
  (Nh5 a b c).map (fun (t : Int) => t)
def Ni7 (a : List Int) (b : Int) : Option (Int) :=
  (N88 a).bind (fun (t : Int) => Nej a b t)
def Nb8 (a : Int) : Option (Int) :=
  some a
def Nfn (a : List Int) (b : Int) : Option (Int) :=
  (Ni7 a b).bind (fun (t : Int) => Nb8 t)
def Ne1 (a : List Int) (b : Int) : Option (Int) :=
  (N8z).bind (fun (t : Unit) => Nfn a b)
@[irreducible] def N2b (a : List Int) (b : Int) : Option (Int) :=
  Ne1 a b
def Na2 (a : Int) : Option (Int) :=
  (N28 a).bind fun (b : Int) => some (IntKind.wrap .u64 (b - 1))
@[irreducible] def N26 (a : Int) : Option (Int) :=
  Na2 a
def N59 (a : List Int) (b : Int) : Option ((Int × Int)) :=
  (N2b a b).bind fun (c : Int) => (N26 b).bind fun (d : Int) => (N26 b).bind fun (g : Int) => some ((iand .u64 c d),(iandn .u64 c g))
@[irreducible] def N2t (a : List Int) (b : Int) : Option (Int × Int) :=
  N59 a b
def Naz (a : Int) : Option (Int) :=
  (shr .u64 a 1).bind fun (b : Int) => some (IntKind.wrap .u64 ((iand .u64 b 6148914691236517205) + (iand .u64 a 6148914691236517205)))
def Ncx (a : Int) : Option (Int) :=
  (shr .u64 a 2).bind fun (b : Int) => some (IntKind.wrap .u64 ((iand .u64 b 3689348814741910323) + (iand .u64 a 3689348814741910323)))
def Nbe (a : Int) : Option (Int) :=
  (shr .u64 a 4).bind fun (b : Int) => some (iand .u64 (IntKind.wrap .u64 (b + a)) 1085102592571150095)
def Nbn (a : Int) : Option (Int) :=
  (shr .u64 a 8).bind fun (b : Int) => some (IntKind.wrap .u64 (a + b))
def Nby (a : Int) : Option (Int) :=
  (shr .u64 a 16).bind fun (b : Int) => some (IntKind.wrap .u64 (a + b))
def Ncn (a : Int) : Option (Int) :=
  (shr .u64 a 32).bind fun (b : Int) => some (IntKind.wrap .u64 (a + b))
def Nd5 (a : Int) : Option (Int) :=
  some (iand .i64 (IntKind.wrap .i64 a) 127)
def N9w (a : Int) : Option (Int) :=
  some a
def Nsm (a : Int) : Option (Int) :=
  (Nd5 a).bind (fun (t : Int) => N9w t)
def Nr5 (a : Int) : Option (Int) :=
  (Ncn a).bind (fun (t : Int) => Nsm t)
def Nl2 (a : Int) : Option (Int) :=
  (Nby a).bind (fun (t : Int) => Nr5 t)
def Nl0 (a : Int) : Option (Int) :=
  (Nbn a).bind (fun (t : Int) => Nl2 t)
def Nsx (a : Int) : Option (Int) :=
  (Nbe a).bind (fun (t : Int) => Nl0 t)
def Now (a : Int) : Option (Int) :=
  (Ncx a).bind (fun (t : Int) => Nsx t)
def Nnd (a : Int) : Option (Int) :=
  (Naz a).bind (fun (t : Int) => Now t)
@[irreducible] def N7g (a : Int) : Option (Int) :=
  Nnd a
def Na0 (a : Int) : Option (Int) :=
  (N7g a).bind fun (b : Int) => some b
@[irreducible] def N6o (a : Int) : Option (Int) :=
  Na0 a
def Nci (a : Int) : Option (Int) :=
  (N6o a).bind fun (b : Int) => some b
@[irreducible] def N68 (a : Int) : Option (Int) :=
  Nci a
def Nck (a : Int) : Option (Int) :=
  cond (a == 0) (some 64) ((shr .u64 (IntKind.wrap .u64 ((iand .u64 a (IntKind.wrap .u64 (0 - a))) * 285870213051353865)) 58).bind fun (b : Int) => (same (List.length tab1) 64).bind fun (c : Unit) => (idx tab1 b).bind fun (d : Int) => some (IntKind.wrap .i64 d))
@[irreducible] def N87 (a : Int) : Option (Int) :=
  Nck a
def Nae (a : Int) : Option (Int) :=
  (N87 a).bind fun (b : Int) => some b
@[irreducible] def N62 (a : Int) : Option (Int) :=
  Nae a
def Ndw (a : Int) : Option (((List Int))) :=
  (N68 a).bind fun (b : Int) => (mk 0 b).bind fun (c : Nat) => some (List.replicate c (0 : Int))
def Ndy : Option (Unit) :=
  some ()
def Nbf (a : Int) (b : List Int) : Option ((Int × (List Int)) ⊕ ((List Int))) :=
  cond (a != 0) ((N62 a).bind fun (c : Int) => (room ((List.length b) + List.length ([(IntKind.wrap .i64 (c + 1))]))).bind fun (d : Unit) => some (Sum.inl ((iand .u64 a (IntKind.wrap .u64 (a - 1))),(b ++ ([(IntKind.wrap .i64 (c + 1))]))))) (some (Sum.inr b))
def Nm9 (a : Int) (b : List Int) : Option (((List Int))) :=
  nloop (fun (s : Int × (List Int)) => ((Nbf s.1 s.2).map (Sum.elim (fun (t : Int × (List Int)) => Sum.inl (t.1,t.2)) (fun (t : (List Int)) => Sum.inr t)) : Option ((Int × (List Int)) ⊕ (((List Int)))))) LL (a,b)
def Nlh (a : Int) (b : List Int) : Option (((List Int))) :=
  (Nm9 a b).map (fun (t : (List Int)) => t)
def Nrl (a : Int) (b : List Int) : Option (((List Int))) :=
  (Ndy).bind (fun (t : Unit) => Nlh a b)
def N9t (a : List Int) : Option (((List Int))) :=
  some a
def Nsl (a : Int) (b : List Int) : Option (((List Int))) :=
  (Nrl a b).bind (fun (t : (List Int)) => N9t t)
def Nws (a : Int) : Option (((List Int))) :=
  (Ndw a).bind (fun (t : (List Int)) => Nsl a t)
@[irreducible] def N36 (a : Int) : Option ((List Int)) :=
  Nws a
def N56 (R0 R1 : (List Int) → Int → (List Int) → Option ((List Int))) (a : List Int) (b : Int) (c : List Int) : Option (((List Int))) :=
  (N2t a b).bind fun (d : Int × Int) => (R1 a (d.1) c).bind fun (g : List Int) => (room ((List.length g) + List.length ([b]))).bind fun (i : Unit) => (R1 a (d.2) (g ++ ([b]))).bind fun (j : List Int) => some j
def Ns7 (R0 R1 : (List Int) → Int → (List Int) → Option ((List Int))) (a : List Int) (b : Int) (c : List Int) : Option ((List Int)) :=
  N56 R0 R1 a b c
def N5z (R0 R1 : (List Int) → Int → (List Int) → Option ((List Int))) : Option (Unit) :=
  some ()
def N6c (R0 R1 : (List Int) → Int → (List Int) → Option ((List Int))) (a : Int) : Option ((Int × (List Int))) :=
  (N36 a).bind fun (b : List Int) => some ((((List.length b : Nat) : Int)),b)
def N3f (R0 R1 : (List Int) → Int → (List Int) → Option ((List Int))) (a : List Int) (b c : Int) (d g : List Int) : Option ((Int × (List Int)) ⊕ ((List Int))) :=
  cond (decide (c < b)) ((inb c (List.length g)).bind fun (i : Nat) => (g[i]?).bind fun (j : Int) => (R0 a j d).bind fun (k : List Int) => some (Sum.inl ((IntKind.wrap .i64 (c + 1)),k))) (some (Sum.inr d))
def Nic (R0 R1 : (List Int) → Int → (List Int) → Option ((List Int))) (a : List Int) (b : Int) (c d : List Int) : Option (((List Int))) :=
  nloop (fun (s : Int × (List Int)) => ((N3f R0 R1 a b s.1 s.2 d).map (Sum.elim (fun (t : Int × (List Int)) => Sum.inl (t.1,t.2)) (fun (t : (List Int)) => Sum.inr t)) : Option ((Int × (List Int)) ⊕ (((List Int)))))) LL (0,c)
def Nfo (R0 R1 : (List Int) → Int → (List Int) → Option ((List Int))) (a : List Int) (b : Int) (c d : List Int) : Option (((List Int))) :=
  (Nic R0 R1 a b c d).map (fun (t : (List Int)) => t)
def Nhj (R0 R1 : (List Int) → Int → (List Int) → Option ((List Int))) (a : List Int) (b : Int) (c : List Int) : Option (((List Int))) :=
  (N6c R0 R1 b).bind (fun (t : Int × (List Int)) => Nfo R0 R1 a t.1 c t.2)
def N7t (R0 R1 : (List Int) → Int → (List Int) → Option ((List Int))) (a : List Int) : Option (((List Int))) :=
  some a
def Niw (R0 R1 : (List Int) → Int → (List Int) → Option ((List Int))) (a : List Int) (b : Int) (c : List Int) : Option (((List Int))) :=
  (Nhj R0 R1 a b c).bind (fun (t : (List Int)) => N7t R0 R1 t)
def Nfs (R0 R1 : (List Int) → Int → (List Int) → Option ((List Int))) (a : List Int) (b : Int) (c : List Int) : Option (((List Int))) :=
  (N5z R0 R1).bind (fun (t : Unit) => Niw R0 R1 a b c)
def N81 (R0 R1 : (List Int) → Int → (List Int) → Option ((List Int))) (a : List Int) (b : Int) (c : List Int) : Option ((List Int)) :=
  Nfs R0 R1 a b c
def N2 : Nat → ((List Int) → Int → (List Int) → Option ((List Int))) × ((List Int) → Int → (List Int) → Option ((List Int)))
  | 0 => ((fun _ _ _ => none),(fun _ _ _ => none))
  | n + 1 => ((fun y0 y1 y2 => Ns7 (N2 n).1 (N2 n).2 y0 y1 y2),(fun y0 y1 y2 => N81 (N2 n).1 (N2 n).2 y0 y1 y2))
def Ng (n : Nat) : (List Int) → Int → (List Int) → Option ((List Int)) := (N2 n).1
@[irreducible] def N54 (a : List Int) (b : Int) (c : List Int) : Option ((List Int)) := Ng RR a b c
def N1l (n : Nat) : (List Int) → Int → (List Int) → Option ((List Int)) := (N2 n).2
@[irreducible] def Ngd (a : List Int) (b : Int) (c : List Int) : Option ((List Int)) := N1l RR a b c
def N5a (a : List Int) : Option (((List Int))) :=
  (N5 a).bind fun (b : Bool) => cond (!b) (some ([] : List Int)) ((N2z a).bind fun (c : Int) => (mk 0 (((List.length a : Nat) : Int))).bind fun (d : Nat) => (N54 a c (List.replicate d (0 : Int))).bind fun (g : List Int) => some g)
@[irreducible] def N2h (a : List Int) : Option ((List Int)) :=
  N5a a
def N4n (a : List Int) : Option (((List Int))) :=
  (N2h a).bind fun (b : List Int) => (N2f a b).bind fun (c : Bool × (List Int)) => some (c.2)
@[irreducible] def N2x (a : List Int) : Option ((List Int)) :=
  N4n a
def N5k (a : List Int) (b c d : Int) : Option (((List Int))) :=
  cond (b == 0) ((N2g a c).bind fun (g : Bool) => cond (!g) (some ([] : List Int)) ((N2o a).bind fun (i : List Int) => (inb (IntKind.wrap .i64 (c - 1)) (List.length i)).bind fun (j : Nat) => some (i.set j d))) (cond (b == 1) ((N2o a).bind fun (k : List Int) => (room ((List.length k) + List.length ([c]))).bind fun (l : Unit) => some (k ++ ([c]))) (cond (b == 2) ((inc (IntKind.wrap .i64 ((((List.length a : Nat) : Int)) - 1)) (List.length a)).bind fun (m : Nat) => (N2o ((a.take m).drop 0)).bind fun (o : List Int) => some o) (cond (b == 3) ((N23 a).bind fun (p : List Int) => some p) (cond (b == 4) ((N2x a).bind fun (q : List Int) => some q) (some ([] : List Int))))))
@[irreducible] def N2r (a : List Int) (b c d : Int) : Option ((List Int)) :=
  N5k a b c d
def N90 (a b : List Int) : Option (Unit ⊕ Bool) :=
  cond ((((List.length a : Nat) : Int)) != (((List.length b : Nat) : Int))) (some (Sum.inr false)) (some (Sum.inl ()))
def N73 (a : List Int) : Option (Int) :=
  some (((List.length a : Nat) : Int))
def N25 (a b : List Int) (c d : Int) : Option (Int ⊕ Bool ⊕ Unit) :=
  cond (decide (d < c)) ((idx a d).bind fun (g : Int) => (idx b d).bind fun (i : Int) => cond (g != i) (some (Sum.inr (Sum.inl false))) (some (Sum.inl (IntKind.wrap .i64 (d + 1))))) (some (Sum.inr (Sum.inr ())))
def Nhp (a b : List Int) (c : Int) : Option (Bool ⊕ Unit) :=
  nloop (fun (s : Int) => ((N25 a b c s).map (Sum.elim (fun (t : Int) => Sum.inl t) (Sum.elim (fun (t : Bool) => Sum.inr (Sum.inl t)) (fun (t : Unit) => Sum.inr (Sum.inr t)))) : Option ((Int) ⊕ (Bool ⊕ Unit)))) LL 0
def Nf7 (a b : List Int) (c : Int) : Option (Unit ⊕ Bool) :=
  (Nhp a b c).map (Sum.elim (fun (t : Bool) => (Sum.inr t)) (fun (t : Unit) => (Sum.inl ())))
def Nen (a b : List Int) : Option (Unit ⊕ Bool) :=
  (N73 a).bind (fun (t : Int) => Nf7 a b t)
def Ncs : Option (Bool) :=
  some true
def Niy (a b : List Int) : Option (Bool) :=
  (Nen a b).bind (Sum.elim (fun (t : Unit) => Ncs) (fun e => some ((fun (t : Bool) => t) e)))
def Nch (a b : List Int) : Option (Bool) :=
  (N90 a b).bind (Sum.elim (fun (t : Unit) => Niy a b) (fun e => some ((fun (t : Bool) => t) e)))
@[irreducible] def N2u (a b : List Int) : Option (Bool) :=
  Nch a b
def Nb0 (x1 : List (List Int)) : Option (List (List Int)) := cloneD x1
def N5l (a : List Int) (b : List (List Int)) (c d g : Int) : Option ((Bool × (List Int) × (List (List Int)))) :=
  (N2r a c d g).bind fun (i : List Int) => (N5 i).bind fun (j : Bool) => cond (!j) ((Na a b).bind fun (k : (List Int) × (List (List Int))) => some (false,(k.1),(k.2))) ((N2u i a).bind fun (l : Bool) => cond l ((Na a b).bind fun (m : (List Int) × (List (List Int))) => some (false,(m.1),(m.2))) ((Nb0 b).bind fun (o : List (List Int)) => (room ((List.length o) + List.length ([a]))).bind fun (p : Unit) => (inc (imax 0 (IntKind.wrap .i64 ((((List.length (o ++ ([a])) : Nat) : Int)) - 8))) (List.length (o ++ ([a])))).bind fun (q : Nat) => (Na i (((o ++ ([a])).drop q).take ((List.length (o ++ ([a]))) - q))).bind fun (w : (List Int) × (List (List Int))) => some (true,(w.1),(w.2))))
@[irreducible] def N2d (a : List Int) (b : List (List Int)) (c d g : Int) : Option (Bool × (List Int) × (List (List Int))) :=
  N5l a b c d g
def N55 (a : List Int) (b : List (List Int)) (c d g : Int) : Option ((Bool × (List Int) × (List (List Int)))) :=
  (Nq a b).bind fun (i : Bool) => cond (!i) (some (false,([] : List Int),([] : List (List Int)))) ((N39 c d g).bind fun (j : Bool) => cond (!j) ((Na a b).bind fun (k : (List Int) × (List (List Int))) => some (false,(k.1),(k.2))) (cond (c == 5) ((N2q a b).bind fun (l : Bool × (List Int) × (List (List Int))) => some ((l.1),(l.2.1),(l.2.2))) ((N2d a b c d g).bind fun (m : Bool × (List Int) × (List (List Int))) => some ((m.1),(m.2.1),(m.2.2)))))
@[irreducible] def N1z (a : List Int) (b : List (List Int)) (c d g : Int) : Option (Bool × (List Int) × (List (List Int))) :=
  N55 a b c d g
def N7k (a b : List Int) : Option (Unit ⊕ Bool) :=
  cond ((((List.length a : Nat) : Int)) != (((List.length b : Nat) : Int))) (some (Sum.inr false)) (some (Sum.inl ()))
def N70 : Option (Unit) :=
  some ()
def N32 (a b : List Int) (c : Int) : Option (Int ⊕ Bool ⊕ Unit) :=
  cond (decide (c < (((List.length a : Nat) : Int)))) ((idx a c).bind fun (d : Int) => (idx b c).bind fun (g : Int) => cond (d != g) (some (Sum.inr (Sum.inl false))) (some (Sum.inl (IntKind.wrap .i64 (c + 1))))) (some (Sum.inr (Sum.inr ())))
def Nh3 (a b : List Int) : Option (Bool ⊕ Unit) :=
  nloop (fun (s : Int) => ((N32 a b s).map (Sum.elim (fun (t : Int) => Sum.inl t) (Sum.elim (fun (t : Bool) => Sum.inr (Sum.inl t)) (fun (t : Unit) => Sum.inr (Sum.inr t)))) : Option ((Int) ⊕ (Bool ⊕ Unit)))) LL 0
def Nhn (a b : List Int) : Option (Unit ⊕ Bool) :=
  (Nh3 a b).map (Sum.elim (fun (t : Bool) => (Sum.inr t)) (fun (t : Unit) => (Sum.inl ())))
def Nh9 (a b : List Int) : Option (Unit ⊕ Bool) :=
  (N70).bind (fun (t : Unit) => Nhn a b)
def N5s : Option (Bool) :=
  some true
def Ngy (a b : List Int) : Option (Bool) :=
  (Nh9 a b).bind (Sum.elim (fun (t : Unit) => N5s) (fun e => some ((fun (t : Bool) => t) e)))
def Nce (a b : List Int) : Option (Bool) :=
  (N7k a b).bind (Sum.elim (fun (t : Unit) => Ngy a b) (fun e => some ((fun (t : Bool) => t) e)))
@[irreducible] def N1a (a b : List Int) : Option (Bool) :=
  Nce a b
def N61 (a b : List (List Int)) : Option (Unit ⊕ Bool) :=
  cond ((((List.length a : Nat) : Int)) != (((List.length b : Nat) : Int))) (some (Sum.inr false)) (some (Sum.inl ()))
def N6q : Option (Unit) :=
  some ()
def N4e (a b : List (List Int)) (c : Int) : Option (Int ⊕ Bool ⊕ Unit) :=
  cond (decide (c < (((List.length a : Nat) : Int)))) ((idx a c).bind fun (d : List Int) => (idx b c).bind fun (g : List Int) => (N1a d g).bind fun (i : Bool) => cond (!i) (some (Sum.inr (Sum.inl false))) (some (Sum.inl (IntKind.wrap .i64 (c + 1))))) (some (Sum.inr (Sum.inr ())))
def Nfk (a b : List (List Int)) : Option (Bool ⊕ Unit) :=
  nloop (fun (s : Int) => ((N4e a b s).map (Sum.elim (fun (t : Int) => Sum.inl t) (Sum.elim (fun (t : Bool) => Sum.inr (Sum.inl t)) (fun (t : Unit) => Sum.inr (Sum.inr t)))) : Option ((Int) ⊕ (Bool ⊕ Unit)))) LL 0
def Ni1 (a b : List (List Int)) : Option (Unit ⊕ Bool) :=
  (Nfk a b).map (Sum.elim (fun (t : Bool) => (Sum.inr t)) (fun (t : Unit) => (Sum.inl ())))
def Nef (a b : List (List Int)) : Option (Unit ⊕ Bool) :=
  (N6q).bind (fun (t : Unit) => Ni1 a b)
def N7e : Option (Bool) :=
  some true
def Nfe (a b : List (List Int)) : Option (Bool) :=
  (Nef a b).bind (Sum.elim (fun (t : Unit) => N7e) (fun e => some ((fun (t : Bool) => t) e)))
def Ne0 (a b : List (List Int)) : Option (Bool) :=
  (N61 a b).bind (Sum.elim (fun (t : Unit) => Nfe a b) (fun e => some ((fun (t : Bool) => t) e)))
@[irreducible] def N1x (a b : List (List Int)) : Option (Bool) :=
  Ne0 a b
def N7f (a : List Int) (b : List (List Int)) (c : List Int) (d : List (List Int)) : Option (Bool) :=
  (N1a a c).bind fun (g : Bool) => cond g ((N1x b d).bind fun (i : Bool) => some i) (some false)
@[irreducible] def N2j (a : List Int) (b : List (List Int)) (c : List Int) (d : List (List Int)) : Option (Bool) :=
  N7f a b c d
def N6a (a : List Int) (b : List (List Int)) : Option (Bool) :=
  (N1a a ([] : List Int)).bind fun (c : Bool) => cond c ((N1x b ([] : List (List Int))).bind fun (d : Bool) => some d) (some false)
@[irreducible] def N57 (a : List Int) (b : List (List Int)) : Option (Bool) :=
  N6a a b
def N83 : Option (Bool) :=
  (N5 ([0])).bind fun (a : Bool) => cond a ((N5 ([1])).bind fun (b : Bool) => some (!b)) (some false)
@[irreducible] def N20 : Option (Bool) :=
  N83
def N8n : Option (Unit) :=
  some ()
def N6e (a : List Int) (b : Int) : Option ((Int × Int)) :=
  (N0 6 a b).bind fun (c : Int × Int) => some ((c.1),(c.2))
def N5q (a : List Int) (b : Int) (c : List Int) (d : Int) (g : List (Int × Int × Int × Unit)) : Option ((Int × Int × (List (Int × Int × Int × Unit))) ⊕ (Int × (List (Int × Int × Int × Unit)))) :=
  cond (decide (b > 0)) ((N1j a c d).bind fun (i : Int × Int × Int × Int) => (room ((List.length g) + List.length ([((i.2.1),((i.2.2.1),((i.2.2.2),())))]))).bind fun (j : Unit) => some (Sum.inl ((IntKind.wrap .i64 (b - 1)),(i.1),(g ++ ([((i.2.1),((i.2.2.1),((i.2.2.2),())))]))))) (some (Sum.inr (d,g)))
def Nhb (a : List Int) (b : Int) (c : List Int) (d : Int) : Option ((Int × (List (Int × Int × Int × Unit)))) :=
  nloop (fun (s : Int × Int × (List (Int × Int × Int × Unit))) => ((N5q a s.1 c s.2.1 s.2.2).map (Sum.elim (fun (t : Int × Int × (List (Int × Int × Int × Unit))) => Sum.inl (t.1,t.2.1,t.2.2)) (fun (t : Int × (List (Int × Int × Int × Unit))) => Sum.inr t)) : Option ((Int × Int × (List (Int × Int × Int × Unit))) ⊕ ((Int × (List (Int × Int × Int × Unit))))))) LL (b,d,([] : List (Int × Int × Int × Unit)))
def Nes (a : List Int) (b : Int) (c : List Int) (d : Int) : Option ((Int × (List (Int × Int × Int × Unit)))) :=
  (Nhb a b c d).map (fun (t : Int × (List (Int × Int × Int × Unit))) => (t.1,t.2))
def Ngn (a b : List Int) (c : Int) : Option ((Int × (List (Int × Int × Int × Unit)))) :=
  (N6e b c).bind (fun (t : Int × Int) => Nes a t.1 b t.2)
def Ndk (a : Int) (b : List (Int × Int × Int × Unit)) : Option ((Int × (List (Int × Int × Int × Unit)))) :=
  some (a,b)
def Nhi (a b : List Int) (c : Int) : Option ((Int × (List (Int × Int × Int × Unit)))) :=
  (Ngn a b c).bind (fun (t : Int × (List (Int × Int × Int × Unit))) => Ndk t.1 t.2)
def Nao (a b : List Int) (c : Int) : Option ((Int × (List (Int × Int × Int × Unit)))) :=
  (N8n).bind (fun (t : Unit) => Nhi a b c)
@[irreducible] def N2l (a b : List Int) (c : Int) : Option (Int × (List (Int × Int × Int × Unit))) :=
  Nao a b c
def N69 (a : List Int) : Option (((List Int) × (List (Int × Int × Int × Unit)) × (List (List Int)))) :=
  (N30 a).bind fun (b : List Int) => (N2a 12 b 0).bind fun (c : Int × (List Int) × (List (List Int))) => (Ni 30 b (c.1)).bind fun (d : Bool × Int) => cond (d.1) ((mk 41 41).bind fun (g : Nat) => some ((c.2.1),(List.replicate g ((0 : Int),((0 : Int),((0 : Int),())))),(c.2.2))) ((N2l (c.2.1) b (d.2)).bind fun (i : Int × (List (Int × Int × Int × Unit))) => some ((c.2.1),(i.2),(c.2.2)))
@[irreducible] def N3b (a : List Int) : Option ((List Int) × (List (Int × Int × Int × Unit)) × (List (List Int))) :=
  N69 a
def N5y (a : List Int) (b : List (List Int)) (c : List (Int × Int × Int × Unit)) : Option (((List Int) × (List (List Int))) ⊕ (Int × (List Int) × (List (List Int)))) :=
  (Nq a b).bind fun (d : Bool) => cond (!d) (some (Sum.inr (0,([] : List Int),([] : List (List Int))))) (cond (decide ((((List.length c : Nat) : Int)) > 40)) (some (Sum.inr (0,([] : List Int),([] : List (List Int))))) ((Na a b).bind fun (g : (List Int) × (List (List Int))) => some (Sum.inl ((g.1),(g.2)))))
def N99 (a : List (Int × Int × Int × Unit)) : Option (Int) :=
  some (((List.length a : Nat) : Int))
def N3y (a : Int) (b : List (Int × Int × Int × Unit)) (c d : Int) (g : List Int) (i : List (List Int)) : Option ((Int × Int × (List Int) × (List (List Int))) ⊕ (Int × (List Int) × (List (List Int)))) :=
  cond (decide (d < c)) ((idx b d).bind fun (j : Int × Int × Int × Unit) => (N1z g i (j.1) ((j.2).1) (((j.2).2).1)).bind fun (k : Bool × (List Int) × (List (List Int))) => cond (k.1) (some (Sum.inl ((IntKind.wrap .i64 (a + 1)),(IntKind.wrap .i64 (d + 1)),(k.2.1),(k.2.2)))) (some (Sum.inl (a,(IntKind.wrap .i64 (d + 1)),g,i)))) (some (Sum.inr (a,g,i)))
def Nil (a : List (Int × Int × Int × Unit)) (b : Int) (c : List Int) (d : List (List Int)) : Option ((Int × (List Int) × (List (List Int)))) :=
  nloop (fun (s : Int × Int × (List Int) × (List (List Int))) => ((N3y s.1 a b s.2.1 s.2.2.1 s.2.2.2).map (Sum.elim (fun (t : Int × Int × (List Int) × (List (List Int))) => Sum.inl (t.1,t.2.1,t.2.2.1,t.2.2.2)) (fun (t : Int × (List Int) × (List (List Int))) => Sum.inr t)) : Option ((Int × Int × (List Int) × (List (List Int))) ⊕ ((Int × (List Int) × (List (List Int))))))) LL (0,0,c,d)
def Nir (a : List (Int × Int × Int × Unit)) (b : Int) (c : List Int) (d : List (List Int)) : Option ((Int × (List Int) × (List (List Int)))) :=
  (Nil a b c d).map (fun (t : Int × (List Int) × (List (List Int))) => (t.1,t.2.1,t.2.2))
def Nep (a : List (Int × Int × Int × Unit)) (b : List Int) (c : List (List Int)) : Option ((Int × (List Int) × (List (List Int)))) :=
  (N99 a).bind (fun (t : Int) => Nir a t b c)
def N8g (a : Int) (b : List Int) (c : List (List Int)) : Option ((Int × (List Int) × (List (List Int)))) :=
  some (a,b,c)
def Nis (a : List (Int × Int × Int × Unit)) (b : List Int) (c : List (List Int)) : Option ((Int × (List Int) × (List (List Int)))) :=
  (Nep a b c).bind (fun (t : Int × (List Int) × (List (List Int))) => N8g t.1 t.2.1 t.2.2)
def Nbw (a : List Int) (b : List (List Int)) (c : List (Int × Int × Int × Unit)) : Option ((Int × (List Int) × (List (List Int)))) :=
  (N5y a b c).bind (Sum.elim (fun (t : (List Int) × (List (List Int))) => Nis c t.1 t.2) (fun e => some ((fun (t : Int × (List Int) × (List (List Int))) => t) e)))
@[irreducible] def Nb (a : List Int) (b : List (List Int)) (c : List (Int × Int × Int × Unit)) : Option (Int × (List Int) × (List (List Int))) :=
  Nbw a b c
def N8m (a : List Int) (b : List (List Int)) (c : List (Int × Int × Int × Unit)) : Option (((List Int) × (List (List Int))) ⊕ (Int × (List Int) × (List (List Int)))) :=
  (Nx a b).bind fun (d : Bool) => cond (!d) (some (Sum.inr (0,([] : List Int),([] : List (List Int))))) (cond (decide ((((List.length c : Nat) : Int)) > 40)) (some (Sum.inr (0,([] : List Int),([] : List (List Int))))) ((N1t a b).bind fun (g : (List Int) × (List (List Int))) => some (Sum.inl ((g.1),(g.2)))))
def N8i : Option (Unit) :=
  some ()
def N37 (a : List (Int × Int × Int × Unit)) (b c : Int) (d : List Int) (g : List (List Int)) : Option ((Int × Int × (List Int) × (List (List Int))) ⊕ (Int × (List Int) × (List (List Int)))) :=
  cond (decide (c < (((List.length a : Nat) : Int)))) ((idx a c).bind fun (i : Int × Int × Int × Unit) => (N1w d g (i.1) ((i.2).1) (((i.2).2).1)).bind fun (j : Bool × (List Int) × (List (List Int))) => cond (j.1) (some (Sum.inl ((IntKind.wrap .i64 (b + 1)),(IntKind.wrap .i64 (c + 1)),(j.2.1),(j.2.2)))) (some (Sum.inl (b,(IntKind.wrap .i64 (c + 1)),d,g)))) (some (Sum.inr (b,d,g)))
def Ng3 (a : List (Int × Int × Int × Unit)) (b : List Int) (c : List (List Int)) : Option ((Int × (List Int) × (List (List Int)))) :=
  nloop (fun (s : Int × Int × (List Int) × (List (List Int))) => ((N37 a s.1 s.2.1 s.2.2.1 s.2.2.2).map (Sum.elim (fun (t : Int × Int × (List Int) × (List (List Int))) => Sum.inl (t.1,t.2.1,t.2.2.1,t.2.2.2)) (fun (t : Int × (List Int) × (List (List Int))) => Sum.inr t)) : Option ((Int × Int × (List Int) × (List (List Int))) ⊕ ((Int × (List Int) × (List (List Int))))))) LL (0,0,b,c)
def Ni5 (a : List (Int × Int × Int × Unit)) (b : List Int) (c : List (List Int)) : Option ((Int × (List Int) × (List (List Int)))) :=
  (Ng3 a b c).map (fun (t : Int × (List Int) × (List (List Int))) => (t.1,t.2.1,t.2.2))
def Nho (a : List (Int × Int × Int × Unit)) (b : List Int) (c : List (List Int)) : Option ((Int × (List Int) × (List (List Int)))) :=
  (N8i).bind (fun (t : Unit) => Ni5 a b c)
def Nam (a : Int) (b : List Int) (c : List (List Int)) : Option ((Int × (List Int) × (List (List Int)))) :=
  some (a,b,c)
def Ngb (a : List (Int × Int × Int × Unit)) (b : List Int) (c : List (List Int)) : Option ((Int × (List Int) × (List (List Int)))) :=
  (Nho a b c).bind (fun (t : Int × (List Int) × (List (List Int))) => Nam t.1 t.2.1 t.2.2)
def N9p (a : List Int) (b : List (List Int)) (c : List (Int × Int × Int × Unit)) : Option ((Int × (List Int) × (List (List Int)))) :=
  (N8m a b c).bind (Sum.elim (fun (t : (List Int) × (List (List Int))) => Ngb c t.1 t.2) (fun e => some ((fun (t : Int × (List Int) × (List (List Int))) => t) e)))
@[irreducible] def N2c (a : List Int) (b : List (List Int)) (c : List (Int × Int × Int × Unit)) : Option (Int × (List Int) × (List (List Int))) :=
  N9p a b c
def N74 (a : List Int) (b : List (List Int)) : Option (Bool) :=
  (N57 a b).bind fun (c : Bool) => some c
@[irreducible] def N24 (a : List Int) (b : List (List Int)) : Option (Bool) :=
  N74 a b
def N7h (a : List Int) : Option (Bool) :=
  cond (decide ((((List.length a : Nat) : Int)) > 1048576)) (some true) ((N3b a).bind fun (b : (List Int) × (List (Int × Int × Int × Unit)) × (List (List Int))) => (Nb (b.1) (b.2.2) (b.2.1)).bind fun (c : Int × (List Int) × (List (List Int))) => (N2c (b.1) (b.2.2) (b.2.1)).bind fun (d : Int × (List Int) × (List (List Int))) => (N2j (c.2.1) (c.2.2) (d.2.1) (d.2.2)).bind fun (g : Bool) => cond (!g) (some false) (cond ((c.1) != (d.1)) (some false) ((Nx (b.1) (b.2.2)).bind fun (i : Bool) => cond (!i) (cond ((c.1) == 0) ((N24 (c.2.1) (c.2.2)).bind fun (j : Bool) => cond j ((N20).bind fun (k : Bool) => some k) (some false)) (some false)) (cond (decide ((((List.length (b.2.1) : Nat) : Int)) > 40)) (cond ((c.1) == 0) ((N24 (c.2.1) (c.2.2)).bind fun (l : Bool) => cond l ((N20).bind fun (m : Bool) => some m) (some false)) (some false)) ((quo .i64 (((List.length (b.2.1) : Nat) : Int)) 2).bind fun (o : Int) => (inc o (List.length (b.2.1))).bind fun (p : Nat) => (Nb (b.1) (b.2.2) (((b.2.1).drop 0).take (p - 0))).bind fun (q : Int × (List Int) × (List (List Int))) => (inc o (List.length (b.2.1))).bind fun (w : Nat) => (Nb (q.2.1) (q.2.2) (((b.2.1).drop w).take ((List.length (b.2.1)) - w))).bind fun (y : Int × (List Int) × (List (List Int))) => (Nq (c.2.1) (c.2.2)).bind fun (z : Bool) => cond z ((N2j (y.2.1) (y.2.2) (c.2.1) (c.2.2)).bind fun (a0 : Bool) => cond a0 (some ((IntKind.wrap .i64 ((q.1) + (y.1))) == (c.1))) (some false)) (some false))))))
@[irreducible] def N2v (a : List Int) : Option (Bool) :=
  N7h a
end Go.Rv
