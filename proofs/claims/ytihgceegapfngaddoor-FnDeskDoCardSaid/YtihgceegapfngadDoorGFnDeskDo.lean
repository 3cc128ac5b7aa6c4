/-
  Plain functions,written by program for functions of the checked code. Conditions: none.
-/
import Derived.Test.YtihgceegapfngadDoorFB
set_option linter.unusedVariables false
namespace Go.Rv
def N6g (a : List Int) : Option (((List Int))) :=
  cond (decide ((((List.length a : Nat) : Int)) > 2000)) ((inc 2000 (List.length a)).bind fun (b : Nat) => some ((a.take b).drop 0)) (some a)
@[irreducible] def N3t (a : List Int) : Option ((List Int)) :=
  N6g a
def N6n (a : Int) (b : List Int) (c : Int) : Option ((Int × Int)) :=
  cond (decide (a < 1)) (some (0,(IntKind.wrap .i64 (c + 1)))) (cond ((((List.length b : Nat) : Int)) == 0) (some (0,(IntKind.wrap .i64 (c + 1)))) (cond (decide ((IntKind.wrap .i64 ((IntKind.wrap .i64 (c + 1)) - 1)) < (((List.length b : Nat) : Int)))) ((idx b (IntKind.wrap .i64 ((IntKind.wrap .i64 (c + 1)) - 1))).bind fun (d : Int) => (rem (IntKind.wrap .i64 d) a).bind fun (g : Int) => some (g,(IntKind.wrap .i64 (c + 1)))) ((rem (IntKind.wrap .i64 ((IntKind.wrap .i64 (c + 1)) - 1)) (((List.length b : Nat) : Int))).bind fun (i : Int) => (idx b i).bind fun (j : Int) => (rem (IntKind.wrap .i64 ((IntKind.wrap .i64 ((IntKind.wrap .i64 ((IntKind.wrap .i64 (c + 1)) - 1)) * 7)) + 3)) (((List.length b : Nat) : Int))).bind fun (k : Int) => (idx b k).bind fun (l : Int) => (quo .i64 (IntKind.wrap .i64 ((IntKind.wrap .i64 (c + 1)) - 1)) (((List.length b : Nat) : Int))).bind fun (m : Int) => (quo .i64 (IntKind.wrap .i64 ((IntKind.wrap .i64 ((IntKind.wrap .i64 ((IntKind.wrap .i64 ((IntKind.wrap .i64 j) * 131)) + (IntKind.wrap .i64 ((IntKind.wrap .i64 l) * 1117)))) + (IntKind.wrap .i64 ((IntKind.wrap .i64 ((IntKind.wrap .i64 (c + 1)) - 1)) * 29)))) + (IntKind.wrap .i64 (m * 53)))) 64).bind fun (o : Int) => (rem (ixor .i64 (IntKind.wrap .i64 ((IntKind.wrap .i64 ((IntKind.wrap .i64 ((IntKind.wrap .i64 ((IntKind.wrap .i64 j) * 131)) + (IntKind.wrap .i64 ((IntKind.wrap .i64 l) * 1117)))) + (IntKind.wrap .i64 ((IntKind.wrap .i64 ((IntKind.wrap .i64 (c + 1)) - 1)) * 29)))) + (IntKind.wrap .i64 (m * 53)))) o) a).bind fun (p : Int) => some (p,(IntKind.wrap .i64 (c + 1))))))
@[irreducible] def N0 (a : Int) (b : List Int) (c : Int) : Option (Int × Int) :=
  N6n a b c
def N6p (a : List Int) (b : Int) : Option ((Int × Int)) :=
  (N0 2 a b).bind fun (c : Int × Int) => some ((c.1),(c.2))
def N8e : Option (Unit) :=
  some ()
def N5c (a b c : Int) (d : List Int) (g : Int) (i : List Int) : Option ((Int × Int × (List Int)) ⊕ (Int × (List Int))) :=
  cond (decide (c ≤ a)) (cond (b == 0) ((N0 c d g).bind fun (j : Int × Int) => (inc (j.1) (List.length i)).bind fun (k : Nat) => (room ((List.length ([] : List Int)) + List.length ((i.drop 0).take (k - 0)))).bind fun (l : Unit) => (room ((List.length (([] : List Int) ++ ((i.drop 0).take (k - 0)))) + List.length ([c]))).bind fun (m : Unit) => (inc (j.1) (List.length i)).bind fun (o : Nat) => (room ((List.length ((([] : List Int) ++ ((i.drop 0).take (k - 0))) ++ ([c]))) + List.length ((i.drop o).take ((List.length i) - o)))).bind fun (p : Unit) => some (Sum.inl ((IntKind.wrap .i64 (c + 1)),(j.2),(((([] : List Int) ++ ((i.drop 0).take (k - 0))) ++ ([c])) ++ ((i.drop o).take ((List.length i) - o)))))) ((N0 3 d g).bind fun (q : Int × Int) => cond ((q.1) == 0) ((N0 c d (q.2)).bind fun (w : Int × Int) => (inc (w.1) (List.length i)).bind fun (y : Nat) => (room ((List.length ([] : List Int)) + List.length ((i.drop 0).take (y - 0)))).bind fun (z : Unit) => (room ((List.length (([] : List Int) ++ ((i.drop 0).take (y - 0)))) + List.length ([c]))).bind fun (a0 : Unit) => (inc (w.1) (List.length i)).bind fun (a1 : Nat) => (room ((List.length ((([] : List Int) ++ ((i.drop 0).take (y - 0))) ++ ([c]))) + List.length ((i.drop a1).take ((List.length i) - a1)))).bind fun (a2 : Unit) => some (Sum.inl ((IntKind.wrap .i64 (c + 1)),(w.2),(((([] : List Int) ++ ((i.drop 0).take (y - 0))) ++ ([c])) ++ ((i.drop a1).take ((List.length i) - a1)))))) ((inc (((List.length i : Nat) : Int)) (List.length i)).bind fun (a3 : Nat) => (room ((List.length ([] : List Int)) + List.length ((i.drop 0).take (a3 - 0)))).bind fun (a4 : Unit) => (room ((List.length (([] : List Int) ++ ((i.drop 0).take (a3 - 0)))) + List.length ([c]))).bind fun (a5 : Unit) => (inc (((List.length i : Nat) : Int)) (List.length i)).bind fun (a6 : Nat) => (room ((List.length ((([] : List Int) ++ ((i.drop 0).take (a3 - 0))) ++ ([c]))) + List.length ((i.drop a6).take ((List.length i) - a6)))).bind fun (a7 : Unit) => some (Sum.inl ((IntKind.wrap .i64 (c + 1)),(q.2),(((([] : List Int) ++ ((i.drop 0).take (a3 - 0))) ++ ([c])) ++ ((i.drop a6).take ((List.length i) - a6)))))))) (some (Sum.inr (g,i)))
def Nim (a b : Int) (c : List Int) (d : Int) : Option ((Int × (List Int))) :=
  nloop (fun (s : Int × Int × (List Int)) => ((N5c a b s.1 c s.2.1 s.2.2).map (Sum.elim (fun (t : Int × Int × (List Int)) => Sum.inl (t.1,t.2.1,t.2.2)) (fun (t : Int × (List Int)) => Sum.inr t)) : Option ((Int × Int × (List Int)) ⊕ ((Int × (List Int)))))) LL (1,d,([] : List Int))
def Nj9 (a b : Int) (c : List Int) (d : Int) : Option ((Int × (List Int))) :=
  (Nim a b c d).map (fun (t : Int × (List Int)) => (t.1,t.2))
def Ni3 (a b : Int) (c : List Int) (d : Int) : Option ((Int × (List Int))) :=
  (N8e).bind (fun (t : Unit) => Nj9 a b c d)
def Nbs (a : Int) (b : List Int) : Option ((Int × (List Int))) :=
  some (a,b)
def Njr (a b : Int) (c : List Int) (d : Int) : Option ((Int × (List Int))) :=
  (Ni3 a b c d).bind (fun (t : Int × (List Int)) => Nbs t.1 t.2)
def Nit (a : Int) (b : List Int) (c : Int) : Option ((Int × (List Int))) :=
  (N6p b c).bind (fun (t : Int × Int) => Njr a t.1 b t.2)
@[irreducible] def N2s (a : Int) (b : List Int) (c : Int) : Option (Int × (List Int)) :=
  Nit a b c
def N6w (a : Int) (b : List Int) (c : Int) : Option ((Bool × Int)) :=
  cond (decide (a > 0)) ((N0 a b c).bind fun (d : Int × Int) => some (((d.1) == (IntKind.wrap .i64 (a - 1))),(d.2))) (some (false,c))
@[irreducible] def Nl (a : Int) (b : List Int) (c : Int) : Option (Bool × Int) :=
  N6w a b c
def N76 (a : List Int) (b : Int) : Option ((Int × Int × Int × (List Int) × (List Int))) :=
  (N0 7 a b).bind fun (c : Int × Int) => (N2s (IntKind.wrap .i64 (1 + (c.1))) a (c.2)).bind fun (d : Int × (List Int)) => (mk (IntKind.wrap .i64 (1 + (c.1))) (IntKind.wrap .i64 (1 + (c.1)))).bind fun (g : Nat) => (N0 2 a (d.1)).bind fun (i : Int × Int) => some ((IntKind.wrap .i64 (1 + (c.1))),(i.1),(i.2),(d.2),(List.replicate g (0 : Int)))
def N71 : Option (Unit) :=
  some ()
def N60 (a b c : Int) (d : List Int) (g : Int) (i j : List Int) : Option ((Int × Int × (List Int)) ⊕ (Int × (List Int))) :=
  cond (decide (c < a)) ((N0 c d g).bind fun (k : Int × Int) => cond (b == 1) ((N0 2 d (k.2)).bind fun (l : Int × Int) => cond ((l.1) == 0) ((inb c (List.length i)).bind fun (m : Nat) => (i[m]?).bind fun (o : Int) => (inb (IntKind.wrap .i64 (c - 1)) (List.length i)).bind fun (p : Nat) => (i[p]?).bind fun (q : Int) => (inb (IntKind.wrap .i64 (o - 1)) (List.length j)).bind fun (w : Nat) => some (Sum.inl ((IntKind.wrap .i64 (c + 1)),(l.2),(j.set w q)))) ((inb c (List.length i)).bind fun (y : Nat) => (i[y]?).bind fun (z : Int) => (inb (k.1) (List.length i)).bind fun (a0 : Nat) => (i[a0]?).bind fun (a1 : Int) => (inb (IntKind.wrap .i64 (z - 1)) (List.length j)).bind fun (a2 : Nat) => some (Sum.inl ((IntKind.wrap .i64 (c + 1)),(l.2),(j.set a2 a1))))) ((inb c (List.length i)).bind fun (a3 : Nat) => (i[a3]?).bind fun (a4 : Int) => (inb (k.1) (List.length i)).bind fun (a5 : Nat) => (i[a5]?).bind fun (a6 : Int) => (inb (IntKind.wrap .i64 (a4 - 1)) (List.length j)).bind fun (a7 : Nat) => some (Sum.inl ((IntKind.wrap .i64 (c + 1)),(k.2),(j.set a7 a6))))) (some (Sum.inr (g,j)))
def Nh4 (a b : Int) (c : List Int) (d : Int) (g i : List Int) : Option ((Int × (List Int))) :=
  nloop (fun (s : Int × Int × (List Int)) => ((N60 a b s.1 c s.2.1 g s.2.2).map (Sum.elim (fun (t : Int × Int × (List Int)) => Sum.inl (t.1,t.2.1,t.2.2)) (fun (t : Int × (List Int)) => Sum.inr t)) : Option ((Int × Int × (List Int)) ⊕ ((Int × (List Int)))))) LL (1,d,i)
def Nj8 (a b : Int) (c : List Int) (d : Int) (g i : List Int) : Option ((Int × (List Int))) :=
  (Nh4 a b c d g i).map (fun (t : Int × (List Int)) => (t.1,t.2))
def Nft (a b : Int) (c : List Int) (d : Int) (g i : List Int) : Option ((Int × (List Int))) :=
  (N71).bind (fun (t : Unit) => Nj8 a b c d g i)
def N8i (a b : Int) (c : List Int) (d : Int) (g : List Int) : Option ((Int × (List Int))) :=
  (Nl a c d).bind fun (i : Bool × Int) => cond (i.1) ((N0 4 c (i.2)).bind fun (j : Int × Int) => cond ((j.1) == 0) (some ((j.2),([] : List Int))) (cond ((j.1) == 1) (some ((j.2),([2,1,0]))) (cond ((j.1) == 2) ((N0 b c (j.2)).bind fun (k : Int × Int) => (inb (k.1) (List.length g)).bind fun (l : Nat) => (room ((List.length (g.set l 0)) + List.length ([0]))).bind fun (m : Unit) => some ((k.2),((g.set l 0) ++ ([0])))) ((N0 3 c (j.2)).bind fun (o : Int × Int) => (inb (o.1) (List.length ([1,(IntKind.wrap .i64 (b + 1)),(-1)]))).bind fun (p : Nat) => (([1,(IntKind.wrap .i64 (b + 1)),(-1)])[p]?).bind fun (q : Int) => (inb 0 (List.length g)).bind fun (w : Nat) => some ((o.2),(g.set w q)))))) (some ((i.2),g))
def Nis (a b c : Int) (d : List Int) (g : Int) (i j : List Int) : Option ((Int × (List Int))) :=
  (Nft b c d g i j).bind (fun (t : Int × (List Int)) => N8i a b d t.1 t.2)
def Ngj (a : Int) (b : List Int) (c : Int) : Option ((Int × (List Int))) :=
  (N76 b c).bind (fun (t : Int × Int × Int × (List Int) × (List Int)) => Nis a t.1 t.2.1 b t.2.2.1 t.2.2.2.1 t.2.2.2.2)
@[irreducible] def N38 (a : Int) (b : List Int) (c : Int) : Option (Int × (List Int)) :=
  Ngj a b c
def N9o (a b c : Int) : Option (Bool) :=
  cond (decide (a ≥ b)) (some (decide (a ≤ c))) (some false)
@[irreducible] def Nn (a b c : Int) : Option (Bool) :=
  N9o a b c
def N96 (a : List Int) : Option (Int ⊕ Bool) :=
  (Nn (((List.length a : Nat) : Int)) 1 8).bind fun (b : Bool) => cond (!b) (some (Sum.inr false)) (some (Sum.inl (((List.length a : Nat) : Int))))
def N9d : Option (Unit) :=
  some ()
def N56 (a b c : Int) : Option (Unit ⊕ Int) :=
  cond (decide (c < a)) (some (Sum.inl ())) (some (Sum.inr b))
def N83 (a : List Int) (b c d : Int) : Option ((Int × Int) ⊕ Bool) :=
  (idx a d).bind fun (g : Int) => (Nn g 0 b).bind fun (i : Bool) => cond (!i) (some (Sum.inr false)) ((idx a d).bind fun (j : Int) => cond (j == (IntKind.wrap .i64 (d + 1))) (some (Sum.inr false)) ((idx a d).bind fun (k : Int) => cond (k == 0) (some (Sum.inl ((IntKind.wrap .i64 (c + 1)),(IntKind.wrap .i64 (d + 1))))) (some (Sum.inl (c,(IntKind.wrap .i64 (d + 1)))))))
def Na6 : Option (Unit) :=
  some ()
def N5p (a : List Int) (b c d : Int) : Option ((Int × Int) ⊕ Bool ⊕ Int) :=
  cond (decide (c > 0)) (cond (decide (d < b)) ((idx a (IntKind.wrap .i64 (c - 1))).bind fun (g : Int) => (Nn g 0 b).bind fun (i : Bool) => cond (!i) (some (Sum.inr (Sum.inl false))) (some (Sum.inl (g,(IntKind.wrap .i64 (d + 1)))))) (some (Sum.inr (Sum.inr c)))) (some (Sum.inr (Sum.inr c)))
def Nbc (a : List Int) (b c : Int) : Option (Bool ⊕ Int) :=
  nloop (fun (s : Int × Int) => ((N5p a b s.1 s.2).map (Sum.elim (fun (t : Int × Int) => Sum.inl (t.1,t.2)) (Sum.elim (fun (t : Bool) => Sum.inr (Sum.inl t)) (fun (t : Int) => Sum.inr (Sum.inr t)))) : Option ((Int × Int) ⊕ (Bool ⊕ Int)))) LL (c,0)
def Nh7 (a : List Int) (b c : Int) : Option (Int ⊕ Bool) :=
  (Nbc a b c).map (Sum.elim (fun (t : Bool) => (Sum.inr t)) (fun (t : Int) => (Sum.inl t)))
def Njn (a : List Int) (b c : Int) : Option (Int ⊕ Bool) :=
  (Na6).bind (fun (t : Unit) => Nh7 a b c)
def N8m (a : Int) : Option (Unit ⊕ Bool) :=
  cond (decide (a > 0)) (some (Sum.inr false)) (some (Sum.inl ()))
def Ni1 (a : List Int) (b c : Int) : Option (Unit ⊕ Bool) :=
  (Njn a b c).bind (Sum.elim (fun (t : Int) => N8m t) (fun e => some ((fun (t : Bool) => (Sum.inr t)) e)))
def Nhz (a : List Int) (b c d : Int) : Option (Int ⊕ Bool) :=
  (N83 a b c d).bind (Sum.elim (fun (t : Int × Int) => (Ni1 a b t.2).map (Sum.elim (fun (u : Unit) => (Sum.inl t.1)) (fun (u : Bool) => (Sum.inr u)))) (fun e => some ((fun (t : Bool) => (Sum.inr t)) e)))
def Ng4 (a : List Int) (b c d : Int) : Option (Int ⊕ Bool) :=
  (Nhz a b c d).map (Sum.elim (fun (t : Int) => (Sum.inl t)) (fun (t : Bool) => (Sum.inr t)))
def N9y (a : Int) : Option (Int) :=
  some (IntKind.wrap .i64 (a + 1))
def Nfr (a : List Int) (b c d : Int) : Option ((Int × Int) ⊕ Bool) :=
  (Ng4 a b c d).bind (Sum.elim (fun (t : Int) => (N9y d).map (fun (u : Int) => (Sum.inl (t,u)))) (fun e => some ((fun (t : Bool) => (Sum.inr t)) e)))
def N65 (a : List Int) (b c d : Int) : Option ((Int × Int) ⊕ Bool ⊕ Int) :=
  (N56 b c d).bind (Sum.elim (fun (t : Unit) => (Nfr a b c d).map (Sum.elim (fun (t : Int × Int) => (Sum.inl (t.1,t.2))) (fun (t : Bool) => (Sum.inr (Sum.inl t))))) (fun e => some ((fun (t : Int) => (Sum.inr (Sum.inr t))) e)))
def Njl (a : List Int) (b : Int) : Option (Bool ⊕ Int) :=
  nloop (fun (s : Int × Int) => ((N65 a b s.1 s.2).map (Sum.elim (fun (t : Int × Int) => Sum.inl (t.1,t.2)) (Sum.elim (fun (t : Bool) => Sum.inr (Sum.inl t)) (fun (t : Int) => Sum.inr (Sum.inr t)))) : Option ((Int × Int) ⊕ (Bool ⊕ Int)))) LL (0,0)
def Nk3 (a : List Int) (b : Int) : Option (Int ⊕ Bool) :=
  (Njl a b).map (Sum.elim (fun (t : Bool) => (Sum.inr t)) (fun (t : Int) => (Sum.inl t)))
def Njx (a : List Int) (b : Int) : Option (Int ⊕ Bool) :=
  (N9d).bind (fun (t : Unit) => Nk3 a b)
def N6b (a : Int) : Option (Bool) :=
  some (a == 1)
def Nku (a : List Int) (b : Int) : Option (Bool) :=
  (Njx a b).bind (Sum.elim (fun (t : Int) => N6b t) (fun e => some ((fun (t : Bool) => t) e)))
def Nif (a : List Int) : Option (Bool) :=
  (N96 a).bind (Sum.elim (fun (t : Int) => Nku a t) (fun e => some ((fun (t : Bool) => t) e)))
@[irreducible] def N8 (a : List Int) : Option (Bool) :=
  Nif a
def N6s : Option (Unit) :=
  some ()
def N87 : Option (Unit) :=
  some ()
def N79 (a : List Int) (b : Int) : Option (Unit ⊕ Unit) :=
  cond (decide (b < (((List.length a : Nat) : Int)))) (some (Sum.inl ())) (some (Sum.inr ()))
def Na2 (a : List Int) (b c : Int) : Option (Unit ⊕ Bool) :=
  (idx a c).bind fun (d : Int) => (Nn d 1 b).bind fun (g : Bool) => cond (!g) (some (Sum.inr false)) (some (Sum.inl ()))
def N5r (a : List Int) (b c : Int) : Option (Int ⊕ Bool ⊕ Unit) :=
  cond (decide (c < b)) ((idx a c).bind fun (d : Int) => (idx a b).bind fun (g : Int) => cond (d == g) (some (Sum.inr (Sum.inl false))) (some (Sum.inl (IntKind.wrap .i64 (c + 1))))) (some (Sum.inr (Sum.inr ())))
def Nch (a : List Int) (b : Int) : Option (Bool ⊕ Unit) :=
  nloop (fun (s : Int) => ((N5r a b s).map (Sum.elim (fun (t : Int) => Sum.inl t) (Sum.elim (fun (t : Bool) => Sum.inr (Sum.inl t)) (fun (t : Unit) => Sum.inr (Sum.inr t)))) : Option ((Int) ⊕ (Bool ⊕ Unit)))) LL 0
def Ng3 (a : List Int) (b : Int) : Option (Unit ⊕ Bool) :=
  (Nch a b).map (Sum.elim (fun (t : Bool) => (Sum.inr t)) (fun (t : Unit) => (Sum.inl ())))
def Nk2 (a : List Int) (b c : Int) : Option (Unit ⊕ Bool) :=
  (Na2 a b c).bind (Sum.elim (fun (t : Unit) => Ng3 a c) (fun e => some ((fun (t : Bool) => (Sum.inr t)) e)))
def Nk9 (a : List Int) (b c : Int) : Option (Unit ⊕ Bool) :=
  (Nk2 a b c).map (Sum.elim (fun (t : Unit) => (Sum.inl ())) (fun (t : Bool) => (Sum.inr t)))
def N7w (a : Int) : Option (Int) :=
  some (IntKind.wrap .i64 (a + 1))
def Nj7 (a : List Int) (b c : Int) : Option (Int ⊕ Bool) :=
  (Nk9 a b c).bind (Sum.elim (fun (t : Unit) => (N7w c).map (fun (t : Int) => (Sum.inl t))) (fun e => some ((fun (t : Bool) => (Sum.inr t)) e)))
def Neq (a : List Int) (b c : Int) : Option (Int ⊕ Bool ⊕ Unit) :=
  (N79 a c).bind (Sum.elim (fun (t : Unit) => (Nj7 a b c).map (Sum.elim (fun (t : Int) => (Sum.inl t)) (fun (t : Bool) => (Sum.inr (Sum.inl t))))) (fun e => some ((fun (t : Unit) => (Sum.inr (Sum.inr t))) e)))
def Niw (a : List Int) (b : Int) : Option (Bool ⊕ Unit) :=
  nloop (fun (s : Int) => ((Neq a b s).map (Sum.elim (fun (t : Int) => Sum.inl t) (Sum.elim (fun (t : Bool) => Sum.inr (Sum.inl t)) (fun (t : Unit) => Sum.inr (Sum.inr t)))) : Option ((Int) ⊕ (Bool ⊕ Unit)))) LL 0
def Ngm (a : List Int) (b : Int) : Option (Unit ⊕ Bool) :=
  (Niw a b).map (Sum.elim (fun (t : Bool) => (Sum.inr t)) (fun (t : Unit) => (Sum.inl ())))
def Njm (a : List Int) (b : Int) : Option (Unit ⊕ Bool) :=
  (N87).bind (fun (t : Unit) => Ngm a b)
def N9m (a : List Int) (b : Int) : Option (Bool) :=
  (Nn b 1 8).bind fun (c : Bool) => cond c (some ((((List.length a : Nat) : Int)) == b)) (some false)
def Nj3 (a : List Int) (b : Int) : Option (Bool) :=
  (Njm a b).bind (Sum.elim (fun (t : Unit) => N9m a b) (fun e => some ((fun (t : Bool) => t) e)))
def Nge (a : List Int) (b : Int) : Option (Bool) :=
  (N6s).bind (fun (t : Unit) => Nj3 a b)
@[irreducible] def N3k (a : List Int) (b : Int) : Option (Bool) :=
  Nge a b
def N7m (a b : List Int) : Option (((List Int)) ⊕ (Bool × (List Int))) :=
  (N8 a).bind fun (c : Bool) => cond (!c) (some (Sum.inr (false,([] : List Int)))) ((N3k b (((List.length a : Nat) : Int))).bind fun (d : Bool) => cond (!d) (some (Sum.inr (false,([] : List Int)))) ((mk (IntKind.wrap .i64 ((((List.length a : Nat) : Int)) + 1)) (IntKind.wrap .i64 ((((List.length a : Nat) : Int)) + 1))).bind fun (g : Nat) => some (Sum.inl (List.replicate g (0 : Int)))))
def N8k : Option (Unit) :=
  some ()
def N6e (a : List Int) (b : Int) (c : List Int) : Option ((Int × (List Int)) ⊕ ((List Int))) :=
  cond (decide (b < (((List.length a : Nat) : Int)))) ((idx a b).bind fun (d : Int) => (inb d (List.length c)).bind fun (g : Nat) => some (Sum.inl ((IntKind.wrap .i64 (b + 1)),(c.set g (IntKind.wrap .i64 (b + 1)))))) (some (Sum.inr c))
def Ngi (a b : List Int) : Option (((List Int))) :=
  nloop (fun (s : Int × (List Int)) => ((N6e a s.1 s.2).map (Sum.elim (fun (t : Int × (List Int)) => Sum.inl (t.1,t.2)) (fun (t : (List Int)) => Sum.inr t)) : Option ((Int × (List Int)) ⊕ (((List Int)))))) LL (0,b)
def Ngx (a b : List Int) : Option (((List Int))) :=
  (Ngi a b).map (fun (t : (List Int)) => t)
def Ngq (a b : List Int) : Option (((List Int))) :=
  (N8k).bind (fun (t : Unit) => Ngx a b)
def N73 : Option (Unit) :=
  some ()
def N7o : Option (Unit) :=
  some ()
def N5x (a b : List Int) (c : Int) (d g : List Int) : Option ((Int × (List Int)) ⊕ ((List Int))) :=
  cond (decide (c < (((List.length b : Nat) : Int)))) ((idx b c).bind fun (i : Int) => (idx a (IntKind.wrap .i64 (i - 1))).bind fun (j : Int) => (inb j (List.length d)).bind fun (k : Nat) => (d[k]?).bind fun (l : Int) => (room ((List.length g) + List.length ([l]))).bind fun (m : Unit) => some (Sum.inl ((IntKind.wrap .i64 (c + 1)),(g ++ ([l]))))) (some (Sum.inr g))
def Nhw (a b c : List Int) : Option (((List Int))) :=
  nloop (fun (s : Int × (List Int)) => ((N5x a b s.1 c s.2).map (Sum.elim (fun (t : Int × (List Int)) => Sum.inl (t.1,t.2)) (fun (t : (List Int)) => Sum.inr t)) : Option ((Int × (List Int)) ⊕ (((List Int)))))) LL (0,([] : List Int))
def Nfk (a b c : List Int) : Option (((List Int))) :=
  (Nhw a b c).map (fun (t : (List Int)) => t)
def Njh (a b c : List Int) : Option (((List Int))) :=
  (N7o).bind (fun (t : Unit) => Nfk a b c)
def N6x (a : List Int) : Option ((Bool × (List Int))) :=
  some (true,a)
def Nio (a b c : List Int) : Option ((Bool × (List Int))) :=
  (Njh a b c).bind (fun (t : (List Int)) => N6x t)
def Nh3 (a b c : List Int) : Option ((Bool × (List Int))) :=
  (N73).bind (fun (t : Unit) => Nio a b c)
def Nin (a b c : List Int) : Option ((Bool × (List Int))) :=
  (Ngq b c).bind (fun (t : (List Int)) => Nh3 a b t)
def Niu (a b : List Int) : Option ((Bool × (List Int))) :=
  (N7m a b).bind (Sum.elim (fun (t : (List Int)) => Nin a b t) (fun e => some ((fun (t : Bool × (List Int)) => t) e)))
@[irreducible] def N2b (a b : List Int) : Option (Bool × (List Int)) :=
  Niu a b
def N8l (R0 : Int → Int → Int → (List Int) → Int → (List Int) → Option (Int × (List Int))) (a b c : Int) (d : List Int) (g : Int) (i : List Int) : Option ((Int × Int × (List Int)) ⊕ (Int × (List Int))) :=
  cond (decide (a > b)) (some (Sum.inr (g,i))) ((N0 (IntKind.wrap .i64 ((IntKind.wrap .i64 (b - a)) + 1)) d g).bind fun (j : Int × Int) => (inb (IntKind.wrap .i64 ((IntKind.wrap .i64 (a + (j.1))) - 1)) (List.length i)).bind fun (k : Nat) => some (Sum.inl ((IntKind.wrap .i64 (a + (j.1))),(j.2),(i.set k c))))
def N4z (R0 : Int → Int → Int → (List Int) → Int → (List Int) → Option (Int × (List Int))) (a b : Int) (c : List Int) (d : Int) (g : List Int) : Option ((Int × Int × (List Int)) ⊕ (Int × (List Int))) :=
  cond (decide (b < a)) ((N0 (IntKind.wrap .i64 (a - b)) c d).bind fun (i : Int × Int) => (R0 b (IntKind.wrap .i64 (b + (i.1))) a c (i.2) g).bind fun (j : Int × (List Int)) => some (Sum.inl ((IntKind.wrap .i64 ((IntKind.wrap .i64 (b + (i.1))) + 1)),(j.1),(j.2)))) (some (Sum.inr (d,g)))
def Nhv (R0 : Int → Int → Int → (List Int) → Int → (List Int) → Option (Int × (List Int))) (a b : Int) (c : List Int) (d : Int) (g : List Int) : Option ((Int × (List Int))) :=
  nloop (fun (s : Int × Int × (List Int)) => ((N4z R0 a s.1 c s.2.1 s.2.2).map (Sum.elim (fun (t : Int × Int × (List Int)) => Sum.inl (t.1,t.2.1,t.2.2)) (fun (t : Int × (List Int)) => Sum.inr t)) : Option ((Int × Int × (List Int)) ⊕ ((Int × (List Int)))))) LL (b,d,g)
def Ni2 (R0 : Int → Int → Int → (List Int) → Int → (List Int) → Option (Int × (List Int))) (a b : Int) (c : List Int) (d : Int) (g : List Int) : Option ((Int × (List Int))) :=
  (Nhv R0 a b c d g).map (fun (t : Int × (List Int)) => (t.1,t.2))
def N7s (R0 : Int → Int → Int → (List Int) → Int → (List Int) → Option (Int × (List Int))) (a : Int) : Option (Int) :=
  some (IntKind.wrap .i64 (a + 1))
def N5w (R0 : Int → Int → Int → (List Int) → Int → (List Int) → Option (Int × (List Int))) (a b c : Int) (d : List Int) (g : Int) (i : List Int) : Option ((Int × Int × (List Int)) ⊕ (Int × (List Int))) :=
  cond (decide (c ≤ a)) ((N0 (IntKind.wrap .i64 ((IntKind.wrap .i64 (a - c)) + 1)) d g).bind fun (j : Int × Int) => (R0 c (IntKind.wrap .i64 (c + (j.1))) b d (j.2) i).bind fun (k : Int × (List Int)) => some (Sum.inl ((IntKind.wrap .i64 ((IntKind.wrap .i64 (c + (j.1))) + 1)),(k.1),(k.2)))) (some (Sum.inr (g,i)))
def Ng7 (R0 : Int → Int → Int → (List Int) → Int → (List Int) → Option (Int × (List Int))) (a b c : Int) (d : List Int) (g : Int) (i : List Int) : Option ((Int × (List Int))) :=
  nloop (fun (s : Int × Int × (List Int)) => ((N5w R0 a b s.1 d s.2.1 s.2.2).map (Sum.elim (fun (t : Int × Int × (List Int)) => Sum.inl (t.1,t.2.1,t.2.2)) (fun (t : Int × (List Int)) => Sum.inr t)) : Option ((Int × Int × (List Int)) ⊕ ((Int × (List Int)))))) LL (c,g,i)
def Nh0 (R0 : Int → Int → Int → (List Int) → Int → (List Int) → Option (Int × (List Int))) (a b c : Int) (d : List Int) (g : Int) (i : List Int) : Option ((Int × (List Int))) :=
  (Ng7 R0 a b c d g i).map (fun (t : Int × (List Int)) => (t.1,t.2))
def Nk4 (R0 : Int → Int → Int → (List Int) → Int → (List Int) → Option (Int × (List Int))) (a b : Int) (c : List Int) (d : Int) (g : List Int) : Option ((Int × (List Int))) :=
  (N7s R0 b).bind (fun (t : Int) => Nh0 R0 a b t c d g)
def Ngo (R0 : Int → Int → Int → (List Int) → Int → (List Int) → Option (Int × (List Int))) (a b c : Int) (d : List Int) (g : Int) (i : List Int) : Option ((Int × (List Int))) :=
  (Ni2 R0 b c d g i).bind (fun (t : Int × (List Int)) => Nk4 R0 a b d t.1 t.2)
def Nfm (R0 : Int → Int → Int → (List Int) → Int → (List Int) → Option (Int × (List Int))) (a b c : Int) (d : List Int) (g : Int) (i : List Int) : Option ((Int × (List Int)) ⊕ (Int × (List Int))) :=
  (N8l R0 a b c d g i).bind (Sum.elim (fun (t : Int × Int × (List Int)) => (Ngo R0 b t.1 a d t.2.1 t.2.2).map (fun (u : Int × (List Int)) => (Sum.inl (u.1,u.2)))) (fun e => some ((fun (t : Int × (List Int)) => (Sum.inr t)) e)))
def Nhk (R0 : Int → Int → Int → (List Int) → Int → (List Int) → Option (Int × (List Int))) (a b c : Int) (d : List Int) (g : Int) (i : List Int) : Option (Int × (List Int)) :=
  (Nfm R0 a b c d g i).map (Sum.elim (fun (t : Int × (List Int)) => (t.1,t.2)) (fun (t : Int × (List Int)) => t))
def N2z : Nat → (Int → Int → Int → (List Int) → Int → (List Int) → Option (Int × (List Int)))
  | 0 => (fun _ _ _ _ _ _ => none)
  | n + 1 => (fun y0 y1 y2 y3 y4 y5 => Nhk (N2z n) y0 y1 y2 y3 y4 y5)
def N1l (n : Nat) : Int → Int → Int → (List Int) → Int → (List Int) → Option (Int × (List Int)) := (N2z n)
@[irreducible] def N52 (a b c : Int) (d : List Int) (g : Int) (i : List Int) : Option (Int × (List Int)) := N1l RR a b c d g i
def N53 (a : Int) (b : List Int) (c : Int) : Option ((Int × (List Int))) :=
  (N0 3 b c).bind fun (d : Int × Int) => cond ((d.1) == 0) ((N38 a b (d.2)).bind fun (g : Int × (List Int)) => some ((g.1),(g.2))) ((N0 7 b (d.2)).bind fun (i : Int × Int) => (mk (IntKind.wrap .i64 (1 + (i.1))) (IntKind.wrap .i64 (1 + (i.1)))).bind fun (j : Nat) => (N52 1 (IntKind.wrap .i64 (1 + (i.1))) 0 b (i.2) (List.replicate j (0 : Int))).bind fun (k : Int × (List Int)) => some ((k.1),(k.2)))
@[irreducible] def N1f (a : Int) (b : List Int) (c : Int) : Option (Int × (List Int)) :=
  N53 a b c
def N51 (a : Int) (b : List Int) (c : Int) : Option ((Int × (List Int))) :=
  (N38 a b c).bind fun (d : Int × (List Int)) => (N0 2 b (d.1)).bind fun (g : Int × Int) => cond ((g.1) == 0) ((N8 (d.2)).bind fun (i : Bool) => cond i ((N2s (((List.length (d.2) : Nat) : Int)) b (g.2)).bind fun (j : Int × (List Int)) => (N2b (d.2) (j.2)).bind fun (k : Bool × (List Int)) => some ((j.1),(k.2))) ((N0 3 b (g.2)).bind fun (l : Int × Int) => cond ((l.1) == 0) ((N1f a b (l.2)).bind fun (m : Int × (List Int)) => some ((m.1),(m.2))) (some ((l.2),(d.2))))) ((N0 3 b (g.2)).bind fun (o : Int × Int) => cond ((o.1) == 0) ((N1f a b (o.2)).bind fun (p : Int × (List Int)) => some ((p.1),(p.2))) (some ((o.2),(d.2))))
@[irreducible] def N2p (a : Int) (b : List Int) (c : Int) : Option (Int × (List Int)) :=
  N51 a b c
def N5k (a : List Int) : Option ((Bool × (List Int))) :=
  (N8 a).bind fun (b : Bool) => cond (!b) (some (false,([] : List Int))) ((room ((List.length ([] : List Int)) + List.length a)).bind fun (c : Unit) => some (true,(([] : List Int) ++ a)))
@[irreducible] def N2o (a : List Int) : Option (Bool × (List Int)) :=
  N5k a
def N5e (a b : List Int) (c : Int) : Option ((Int × Int × Int × Int)) :=
  (N0 8 b c).bind fun (d : Int × Int) => (idx ([0,0,1,1,2,3,4,5]) (d.1)).bind fun (g : Int) => (N0 60 b (d.2)).bind fun (i : Int × Int) => (quo .i64 (i.1) 59).bind fun (j : Int) => cond ((IntKind.wrap .i64 (g + (IntKind.wrap .i64 (j * 6)))) == 0) ((N0 (imax (((List.length a : Nat) : Int)) 1) b (i.2)).bind fun (k : Int × Int) => (N0 (IntKind.wrap .i64 ((((List.length a : Nat) : Int)) + 1)) b (k.2)).bind fun (l : Int × Int) => (Nl 40 b (l.2)).bind fun (m : Bool × Int) => cond (m.1) ((N0 3 b (m.2)).bind fun (o : Int × Int) => (inb (o.1) (List.length ([(-1),9,100]))).bind fun (p : Nat) => (([(-1),9,100])[p]?).bind fun (q : Int) => some ((o.2),(IntKind.wrap .i64 (g + (IntKind.wrap .i64 (j * 6)))),(IntKind.wrap .i64 (1 + (k.1))),q)) (some ((m.2),(IntKind.wrap .i64 (g + (IntKind.wrap .i64 (j * 6)))),(IntKind.wrap .i64 (1 + (k.1))),(l.1)))) (cond ((IntKind.wrap .i64 (g + (IntKind.wrap .i64 (j * 6)))) == 1) ((N0 (IntKind.wrap .i64 ((((List.length a : Nat) : Int)) + 1)) b (i.2)).bind fun (w : Int × Int) => (N0 9 b (w.2)).bind fun (y : Int × Int) => (quo .i64 (y.1) 8).bind fun (z : Int) => (Nl 40 b (y.2)).bind fun (a0 : Bool × Int) => cond (a0.1) ((N0 3 b (a0.2)).bind fun (a1 : Int × Int) => (inb (a1.1) (List.length ([(-1),9,100]))).bind fun (a2 : Nat) => (([(-1),9,100])[a2]?).bind fun (a3 : Int) => some ((a1.2),(IntKind.wrap .i64 (g + (IntKind.wrap .i64 (j * 6)))),(IntKind.wrap .i64 ((w.1) + z)),a3)) (some ((a0.2),(IntKind.wrap .i64 (g + (IntKind.wrap .i64 (j * 6)))),(IntKind.wrap .i64 ((w.1) + z)),0))) ((Nl 40 b (i.2)).bind fun (a4 : Bool × Int) => cond (a4.1) ((N0 3 b (a4.2)).bind fun (a5 : Int × Int) => (inb (a5.1) (List.length ([(-1),9,100]))).bind fun (a6 : Nat) => (([(-1),9,100])[a6]?).bind fun (a7 : Int) => some ((a5.2),(IntKind.wrap .i64 (g + (IntKind.wrap .i64 (j * 6)))),0,a7)) (some ((a4.2),(IntKind.wrap .i64 (g + (IntKind.wrap .i64 (j * 6)))),0,0))))
@[irreducible] def N1t (a b : List Int) (c : Int) : Option (Int × Int × Int × Int) :=
  N5e a b c
def N7p : Option (Unit) :=
  some ()
def N7a : Option (Unit) :=
  some ()
def N3b (a : Int) (b : List (List Int)) : Option (Int ⊕ Bool ⊕ Unit) :=
  cond (decide (a < (((List.length b : Nat) : Int)))) ((idx b a).bind fun (c : List Int) => (N8 c).bind fun (d : Bool) => cond (!d) (some (Sum.inr (Sum.inl false))) (some (Sum.inl (IntKind.wrap .i64 (a + 1))))) (some (Sum.inr (Sum.inr ())))
def Nir (a : List (List Int)) : Option (Bool ⊕ Unit) :=
  nloop (fun (s : Int) => ((N3b s a).map (Sum.elim (fun (t : Int) => Sum.inl t) (Sum.elim (fun (t : Bool) => Sum.inr (Sum.inl t)) (fun (t : Unit) => Sum.inr (Sum.inr t)))) : Option ((Int) ⊕ (Bool ⊕ Unit)))) LL 0
def Nho (a : List (List Int)) : Option (Unit ⊕ Bool) :=
  (Nir a).map (Sum.elim (fun (t : Bool) => (Sum.inr t)) (fun (t : Unit) => (Sum.inl ())))
def Ngg (a : List (List Int)) : Option (Unit ⊕ Bool) :=
  (N7a).bind (fun (t : Unit) => Nho a)
def N8s (a : List Int) (b : List (List Int)) : Option (Bool) :=
  (N8 a).bind fun (c : Bool) => cond c (some (decide ((((List.length b : Nat) : Int)) ≤ 8))) (some false)
def Ng5 (a : List Int) (b : List (List Int)) : Option (Bool) :=
  (Ngg b).bind (Sum.elim (fun (t : Unit) => N8s a b) (fun e => some ((fun (t : Bool) => t) e)))
def Nae (a : List Int) (b : List (List Int)) : Option (Bool) :=
  (N7p).bind (fun (t : Unit) => Ng5 a b)
@[irreducible] def N2n (a : List Int) (b : List (List Int)) : Option (Bool) :=
  Nae a b
def N9t (a : List Int) : Option (((List Int))) :=
  (room ((List.length ([] : List Int)) + List.length a)).bind fun (b : Unit) => some (([] : List Int) ++ a)
def N78 : Option (Unit) :=
  some ()
def N3d (a : Int) (b c : List (List Int)) : Option ((Int × (List (List Int))) ⊕ ((List (List Int)))) :=
  cond (decide (a < (((List.length b : Nat) : Int)))) ((idx b a).bind fun (d : List Int) => (room (List.length d)).bind fun (g : Unit) => (room (List.length c + 1)).bind fun (i : Unit) => some (Sum.inl ((IntKind.wrap .i64 (a + 1)),((c ++ [[]]).set (List.length c) d)))) (some (Sum.inr c))
def Nhe (a : List (List Int)) : Option (((List (List Int)))) :=
  nloop (fun (s : Int × (List (List Int))) => ((N3d s.1 a s.2).map (Sum.elim (fun (t : Int × (List (List Int))) => Sum.inl (t.1,t.2)) (fun (t : (List (List Int))) => Sum.inr t)) : Option ((Int × (List (List Int))) ⊕ (((List (List Int))))))) LL (0,([] : List (List Int)))
def Nhn (a : List (List Int)) : Option (((List (List Int)))) :=
  (Nhe a).map (fun (t : (List (List Int))) => t)
def Nks (a : List (List Int)) : Option (((List (List Int)))) :=
  (N78).bind (fun (t : Unit) => Nhn a)
def N7i (a : List Int) (b : List (List Int)) : Option (((List Int) × (List (List Int)))) :=
  some (a,b)
def Nfu (a : List (List Int)) (b : List Int) : Option (((List Int) × (List (List Int)))) :=
  (Nks a).bind (fun (t : (List (List Int))) => N7i b t)
def Naz (a : List Int) (b : List (List Int)) : Option (((List Int) × (List (List Int)))) :=
  (N9t a).bind (fun (t : (List Int)) => Nfu b t)
@[irreducible] def N2d (a : List Int) (b : List (List Int)) : Option ((List Int) × (List (List Int))) :=
  Naz a b
def N9u (a : List Int) : Option (Int) :=
  some (((List.length a : Nat) : Int))
def N8g (a : Int) : Option (Int) :=
  some (IntKind.wrap .i64 (a - 1))
def N20 (a : List Int) (b c : Int) (d : List Int) : Option ((Int × (List Int)) ⊕ ((List Int))) :=
  cond (decide (c ≥ 0)) ((N8 a).bind fun (g : Bool) => cond g ((idx a c).bind fun (i : Int) => cond (i == 0) ((room ((List.length d) + List.length ([0]))).bind fun (j : Unit) => some (Sum.inl ((IntKind.wrap .i64 (c - 1)),(d ++ ([0]))))) ((idx a c).bind fun (k : Int) => (room ((List.length d) + List.length ([(IntKind.wrap .i64 ((IntKind.wrap .i64 (b + 1)) - k))]))).bind fun (l : Unit) => some (Sum.inl ((IntKind.wrap .i64 (c - 1)),(d ++ ([(IntKind.wrap .i64 ((IntKind.wrap .i64 (b + 1)) - k))])))))) (some (Sum.inr d))) (some (Sum.inr d))
def Nkk (a : List Int) (b c : Int) : Option (((List Int))) :=
  nloop (fun (s : Int × (List Int)) => ((N20 a b s.1 s.2).map (Sum.elim (fun (t : Int × (List Int)) => Sum.inl (t.1,t.2)) (fun (t : (List Int)) => Sum.inr t)) : Option ((Int × (List Int)) ⊕ (((List Int)))))) LL (c,([] : List Int))
def Nhf (a : List Int) (b c : Int) : Option (((List Int))) :=
  (Nkk a b c).map (fun (t : (List Int)) => t)
def Nii (a : List Int) (b : Int) : Option (((List Int))) :=
  (N8g b).bind (fun (t : Int) => Nhf a b t)
def N68 (a : List Int) : Option (((List Int))) :=
  some a
def Ni0 (a : List Int) (b : Int) : Option (((List Int))) :=
  (Nii a b).bind (fun (t : (List Int)) => N68 t)
def Nek (a : List Int) : Option (((List Int))) :=
  (N9u a).bind (fun (t : Int) => Ni0 a t)
@[irreducible] def N1o (a : List Int) : Option ((List Int)) :=
  Nek a
def N6l : Option (Unit) :=
  some ()
def N90 : Option (Unit) :=
  some ()
def N2a (a : List Int) (b : Int) : Option (Int ⊕ Int ⊕ Unit) :=
  cond (decide (b < (((List.length a : Nat) : Int)))) ((N8 a).bind fun (c : Bool) => cond c ((idx a b).bind fun (d : Int) => cond (d == 0) (some (Sum.inr (Sum.inl (IntKind.wrap .i64 (b + 1))))) (some (Sum.inl (IntKind.wrap .i64 (b + 1))))) (some (Sum.inr (Sum.inr ())))) (some (Sum.inr (Sum.inr ())))
def Nke (a : List Int) : Option (Int ⊕ Unit) :=
  nloop (fun (s : Int) => ((N2a a s).map (Sum.elim (fun (t : Int) => Sum.inl t) (Sum.elim (fun (t : Int) => Sum.inr (Sum.inl t)) (fun (t : Unit) => Sum.inr (Sum.inr t)))) : Option ((Int) ⊕ (Int ⊕ Unit)))) LL 0
def Nhr (a : List Int) : Option (Unit ⊕ Int) :=
  (Nke a).map (Sum.elim (fun (t : Int) => (Sum.inr t)) (fun (t : Unit) => (Sum.inl ())))
def Nj1 (a : List Int) : Option (Unit ⊕ Int) :=
  (N90).bind (fun (t : Unit) => Nhr a)
def N6a : Option (Int) :=
  some (-1)
def Nji (a : List Int) : Option (Int) :=
  (Nj1 a).bind (Sum.elim (fun (t : Unit) => N6a) (fun e => some ((fun (t : Int) => t) e)))
def Ngy (a : List Int) : Option (Int) :=
  (N6l).bind (fun (t : Unit) => Nji a)
@[irreducible] def N3m (a : List Int) : Option (Int) :=
  Ngy a
def N6y (R0 : (List Int) → Int → Option ((List Int))) : Option (Unit) :=
  some ()
def N7v (R0 : (List Int) → Int → Option ((List Int))) : Option (Unit) :=
  some ()
def N4e (R0 : (List Int) → Int → Option ((List Int))) (a : List Int) (b c : Int) (d : List Int) : Option ((Int × (List Int)) ⊕ ((List Int))) :=
  cond (decide (c < b)) ((idx a (IntKind.wrap .i64 (c - 1))).bind fun (g : Int) => cond (g == b) ((R0 a c).bind fun (i : List Int) => (room ((List.length d) + List.length i)).bind fun (j : Unit) => some (Sum.inl ((IntKind.wrap .i64 (c + 1)),(d ++ i)))) (some (Sum.inl ((IntKind.wrap .i64 (c + 1)),d)))) (some (Sum.inr d))
def Niz (R0 : (List Int) → Int → Option ((List Int))) (a : List Int) (b : Int) : Option (((List Int))) :=
  nloop (fun (s : Int × (List Int)) => ((N4e R0 a b s.1 s.2).map (Sum.elim (fun (t : Int × (List Int)) => Sum.inl (t.1,t.2)) (fun (t : (List Int)) => Sum.inr t)) : Option ((Int × (List Int)) ⊕ (((List Int)))))) LL (1,([] : List Int))
def Nih (R0 : (List Int) → Int → Option ((List Int))) (a : List Int) (b : Int) : Option (((List Int))) :=
  (Niz R0 a b).map (fun (t : (List Int)) => t)
def Ngd (R0 : (List Int) → Int → Option ((List Int))) (a : List Int) (b : Int) : Option (((List Int))) :=
  (N7v R0).bind (fun (t : Unit) => Nih R0 a b)
def N6o (R0 : (List Int) → Int → Option ((List Int))) (a : Int) (b : List Int) : Option (((List Int))) :=
  (room ((List.length b) + List.length ([a]))).bind fun (c : Unit) => some (b ++ ([a]))
def N8d (R0 : (List Int) → Int → Option ((List Int))) (a : Int) : Option (Int) :=
  some (IntKind.wrap .i64 (a + 1))
def N48 (R0 : (List Int) → Int → Option ((List Int))) (a : List Int) (b c : Int) (d : List Int) : Option ((Int × (List Int)) ⊕ ((List Int))) :=
  cond (decide (c ≤ (((List.length a : Nat) : Int)))) ((idx a (IntKind.wrap .i64 (c - 1))).bind fun (g : Int) => cond (g == b) ((R0 a c).bind fun (i : List Int) => (room ((List.length d) + List.length i)).bind fun (j : Unit) => some (Sum.inl ((IntKind.wrap .i64 (c + 1)),(d ++ i)))) (some (Sum.inl ((IntKind.wrap .i64 (c + 1)),d)))) (some (Sum.inr d))
def Njz (R0 : (List Int) → Int → Option ((List Int))) (a : List Int) (b c : Int) (d : List Int) : Option (((List Int))) :=
  nloop (fun (s : Int × (List Int)) => ((N48 R0 a b s.1 s.2).map (Sum.elim (fun (t : Int × (List Int)) => Sum.inl (t.1,t.2)) (fun (t : (List Int)) => Sum.inr t)) : Option ((Int × (List Int)) ⊕ (((List Int)))))) LL (c,d)
def Ngu (R0 : (List Int) → Int → Option ((List Int))) (a : List Int) (b c : Int) (d : List Int) : Option (((List Int))) :=
  (Njz R0 a b c d).map (fun (t : (List Int)) => t)
def Nj5 (R0 : (List Int) → Int → Option ((List Int))) (a : List Int) (b : Int) (c : List Int) : Option (((List Int))) :=
  (N8d R0 b).bind (fun (t : Int) => Ngu R0 a b t c)
def N9e (R0 : (List Int) → Int → Option ((List Int))) (a : List Int) : Option (((List Int))) :=
  some a
def Nhu (R0 : (List Int) → Int → Option ((List Int))) (a : List Int) (b : Int) (c : List Int) : Option (((List Int))) :=
  (Nj5 R0 a b c).bind (fun (t : (List Int)) => N9e R0 t)
def Njg (R0 : (List Int) → Int → Option ((List Int))) (a : List Int) (b : Int) (c : List Int) : Option (((List Int))) :=
  (N6o R0 b c).bind (fun (t : (List Int)) => Nhu R0 a b t)
def Nh8 (R0 : (List Int) → Int → Option ((List Int))) (a : List Int) (b : Int) : Option (((List Int))) :=
  (Ngd R0 a b).bind (fun (t : (List Int)) => Njg R0 a b t)
def Nkp (R0 : (List Int) → Int → Option ((List Int))) (a : List Int) (b : Int) : Option (((List Int))) :=
  (N6y R0).bind (fun (t : Unit) => Nh8 R0 a b)
def Ne6 (R0 : (List Int) → Int → Option ((List Int))) (a : List Int) (b : Int) : Option ((List Int)) :=
  Nkp R0 a b
def N30 : Nat → ((List Int) → Int → Option ((List Int)))
  | 0 => (fun _ _ => none)
  | n + 1 => (fun y0 y1 => Ne6 (N30 n) y0 y1)
def N9 (n : Nat) : (List Int) → Int → Option ((List Int)) := (N30 n)
@[irreducible] def N63 (a : List Int) (b : Int) : Option ((List Int)) := N9 RR a b
def Na5 (a : List Int) : Option (((List Int))) :=
  (N8 a).bind fun (b : Bool) => cond (!b) (some ([] : List Int)) ((N3m a).bind fun (c : Int) => (N63 a c).bind fun (d : List Int) => some d)
@[irreducible] def N43 (a : List Int) : Option ((List Int)) :=
  Na5 a
def N9z (a : List Int) : Option (((List Int))) :=
  (N43 a).bind fun (b : List Int) => (N2b a b).bind fun (c : Bool × (List Int)) => some (c.2)
@[irreducible] def N29 (a : List Int) : Option ((List Int)) :=
  N9z a
def N57 (a : List Int) (b c d : Int) : Option ((Nat × (List Int))) :=
  (room ((List.length ([] : List Int)) + List.length a)).bind fun (g : Unit) => cond (b == 0) ((Nn c 1 (((List.length a : Nat) : Int))).bind fun (i : Bool) => cond i ((inb (IntKind.wrap .i64 (c - 1)) (List.length (([] : List Int) ++ a))).bind fun (j : Nat) => some ((List.length ((([] : List Int) ++ a).set j d)),((([] : List Int) ++ a).set j d))) (cond ((b == 1) && ((c == c) && ((d == 0) && true))) ((room ((List.length (([] : List Int) ++ a)) + List.length ([c]))).bind fun (k : Unit) => some ((List.length ((([] : List Int) ++ a) ++ ([c]))),((([] : List Int) ++ a) ++ ([c])))) (cond ((b == 2) && ((c == 0) && ((d == 0) && true))) ((inc (IntKind.wrap .i64 ((((List.length (([] : List Int) ++ a) : Nat) : Int)) - 1)) (List.length (([] : List Int) ++ a))).bind fun (l : Nat) => some ((l - 0),(([] : List Int) ++ a))) (cond ((b == 3) && ((c == 0) && ((d == 0) && true))) ((N1o a).bind fun (m : List Int) => some ((List.length m),m)) (cond ((b == 4) && ((c == 0) && ((d == 0) && true))) ((N29 a).bind fun (o : List Int) => some ((List.length o),o)) (some ((List.length ([] : List Int)),([] : List Int)))))))) (cond ((b == 1) && ((c == c) && ((d == 0) && true))) ((room ((List.length (([] : List Int) ++ a)) + List.length ([c]))).bind fun (p : Unit) => some ((List.length ((([] : List Int) ++ a) ++ ([c]))),((([] : List Int) ++ a) ++ ([c])))) (cond ((b == 2) && ((c == 0) && ((d == 0) && true))) ((inc (IntKind.wrap .i64 ((((List.length (([] : List Int) ++ a) : Nat) : Int)) - 1)) (List.length (([] : List Int) ++ a))).bind fun (q : Nat) => some ((q - 0),(([] : List Int) ++ a))) (cond ((b == 3) && ((c == 0) && ((d == 0) && true))) ((N1o a).bind fun (w : List Int) => some ((List.length w),w)) (cond ((b == 4) && ((c == 0) && ((d == 0) && true))) ((N29 a).bind fun (y : List Int) => some ((List.length y),y)) (some ((List.length ([] : List Int)),([] : List Int)))))))
@[irreducible] def N1u (a : List Int) (b c d : Int) : Option (Nat × (List Int)) :=
  N57 a b c d
def N7u (a : List Int) (b : List (List Int)) (c d g : Int) : Option ((Nat × Bool × (List Int) × (List Int) × (List (List Int))) ⊕ (Bool × (List Int) × (List (List Int)))) :=
  (N2n a b).bind fun (i : Bool) => cond (!i) (some (Sum.inr (false,([] : List Int),([] : List (List Int))))) ((N2d a b).bind fun (j : (List Int) × (List (List Int))) => cond ((c == 5) && ((d == 0) && ((g == 0) && true))) (cond (decide ((((List.length b : Nat) : Int)) > 0)) ((inb (IntKind.wrap .i64 ((((List.length (j.2) : Nat) : Int)) - 1)) (List.length (j.2))).bind fun (k : Nat) => (((j.2))[k]?).bind fun (l : List Int) => (inc (IntKind.wrap .i64 ((((List.length (j.2) : Nat) : Int)) - 1)) (List.length (((j.2)).set k []))).bind fun (m : Nat) => (sure (Nat.blt k 0 || Nat.ble m k)).bind fun (o : Unit) => some (Sum.inr (true,l,(((((j.2)).set k []).take m).drop 0)))) ((N1u a c d g).bind fun (p : Nat × (List Int)) => some (Sum.inl ((p.1),(((((p.1) : Nat) : Int)) == (((List.length a : Nat) : Int))),(p.2),(j.1),(j.2))))) ((N1u a c d g).bind fun (q : Nat × (List Int)) => some (Sum.inl ((q.1),(((((q.1) : Nat) : Int)) == (((List.length a : Nat) : Int))),(q.2),(j.1),(j.2)))))
def N7g : Option (Unit) :=
  some ()
def N2v (a : Nat) (b : Bool) (c : Int) (d g : List Int) : Option ((Bool × Int) ⊕ Bool) :=
  cond (decide (c < (((a : Nat) : Int)))) (cond b ((inb c a).bind fun (i : Nat) => (g[(0 + i)]?).bind fun (j : Int) => (idx d c).bind fun (k : Int) => some (Sum.inl ((j == k),(IntKind.wrap .i64 (c + 1))))) (some (Sum.inr b))) (some (Sum.inr b))
def Nao (a : Nat) (b : Bool) (c d : List Int) : Option (Bool) :=
  nloop (fun (s : Bool × Int) => ((N2v a s.1 s.2 c d).map (Sum.elim (fun (t : Bool × Int) => Sum.inl (t.1,t.2)) (fun (t : Bool) => Sum.inr t)) : Option ((Bool × Int) ⊕ (Bool)))) LL (b,0)
def Nig (a : Nat) (b : Bool) (c d : List Int) : Option (Bool) :=
  (Nao a b c d).map (fun (t : Bool) => t)
def Niv (a : Nat) (b : Bool) (c d : List Int) : Option (Bool) :=
  (N7g).bind (fun (t : Unit) => Nig a b c d)
def N82 (a : Nat) (b : Bool) (c d : List Int) (g : List (List Int)) : Option ((Bool × (List Int) × (List (List Int)))) :=
  cond b (some (false,d,g)) ((N8 ((c.drop 0).take a)).bind fun (i : Bool) => cond (!i) (some (false,d,g)) ((room (List.length g + 1)).bind fun (j : Unit) => cond (decide ((((List.length ((g ++ [[]]).set (List.length g) d) : Nat) : Int)) > 8)) ((inc 1 (List.length ((g ++ [[]]).set (List.length g) d))).bind fun (k : Nat) => (room ((List.length ([] : List Int)) + List.length ((c.drop 0).take a))).bind fun (l : Unit) => some (true,(([] : List Int) ++ ((c.drop 0).take a)),((((g ++ [[]]).set (List.length g) d).take (List.length ((g ++ [[]]).set (List.length g) d))).drop k))) ((room ((List.length ([] : List Int)) + List.length ((c.drop 0).take a))).bind fun (m : Unit) => some (true,(([] : List Int) ++ ((c.drop 0).take a)),((g ++ [[]]).set (List.length g) d)))))
def Ne5 (a : Nat) (b : Bool) (c d g : List Int) (i : List (List Int)) : Option ((Bool × (List Int) × (List (List Int)))) :=
  (Niv a b c d).bind (fun (t : Bool) => N82 a t d g i)
def Nbp (a : List Int) (b : List (List Int)) (c d g : Int) : Option ((Bool × (List Int) × (List (List Int)))) :=
  (N7u a b c d g).bind (Sum.elim (fun (t : Nat × Bool × (List Int) × (List Int) × (List (List Int))) => Ne5 t.1 t.2.1 a t.2.2.1 t.2.2.2.1 t.2.2.2.2) (fun e => some ((fun (t : Bool × (List Int) × (List (List Int))) => t) e)))
@[irreducible] def N1y (a : List Int) (b : List (List Int)) (c d g : Int) : Option (Bool × (List Int) × (List (List Int))) :=
  Nbp a b c d g
def N97 (a : List Int) (b : Int) : Option ((Int × (List Int))) :=
  (N2p 0 a b).bind fun (c : Int × (List Int)) => (N2o (c.2)).bind fun (d : Bool × (List Int)) => some ((c.1),(d.2))
def N8w (a : List Int) (b : Int) : Option ((Int × Int)) :=
  (N0 6 a b).bind fun (c : Int × Int) => some ((c.1),(c.2))
def N5j (a : Int) (b : List Int) (c : Int) (d : List Int) (g : List (List Int)) : Option ((Int × Int × (List Int) × (List (List Int))) ⊕ (Int × (List Int) × (List (List Int)))) :=
  cond (decide (a > 0)) ((N1t d b c).bind fun (i : Int × Int × Int × Int) => (N1y d g (i.2.1) (i.2.2.1) (i.2.2.2)).bind fun (j : Bool × (List Int) × (List (List Int))) => cond (j.1) (some (Sum.inl ((IntKind.wrap .i64 (a - 1)),(i.1),(j.2.1),(j.2.2)))) (some (Sum.inl ((IntKind.wrap .i64 (a - 1)),(i.1),d,g)))) (some (Sum.inr (c,d,g)))
def Nfz (a : Int) (b : List Int) (c : Int) (d : List Int) : Option ((Int × (List Int) × (List (List Int)))) :=
  nloop (fun (s : Int × Int × (List Int) × (List (List Int))) => ((N5j s.1 b s.2.1 s.2.2.1 s.2.2.2).map (Sum.elim (fun (t : Int × Int × (List Int) × (List (List Int))) => Sum.inl (t.1,t.2.1,t.2.2.1,t.2.2.2)) (fun (t : Int × (List Int) × (List (List Int))) => Sum.inr t)) : Option ((Int × Int × (List Int) × (List (List Int))) ⊕ ((Int × (List Int) × (List (List Int))))))) LL (a,c,d,([] : List (List Int)))
def Nkh (a : Int) (b : List Int) (c : Int) (d : List Int) : Option ((Int × (List Int) × (List (List Int)))) :=
  (Nfz a b c d).map (fun (t : Int × (List Int) × (List (List Int))) => (t.1,t.2.1,t.2.2))
def Nfp (a : List Int) (b : Int) (c : List Int) : Option ((Int × (List Int) × (List (List Int)))) :=
  (N8w a b).bind (fun (t : Int × Int) => Nkh t.1 a t.2 c)
def N95 (a : Int) (b : List Int) (c : Int) (d : List Int) (g : List (List Int)) : Option ((Int × (List Int) × (List (List Int)))) :=
  (Nl a b c).bind fun (i : Bool × Int) => cond (i.1) ((N0 3 b (i.2)).bind fun (j : Int × Int) => cond ((j.1) == 0) (some ((j.2),([1]),g)) (cond ((j.1) == 1) ((room (List.length g + 1)).bind fun (k : Unit) => some ((j.2),d,((g ++ [[]]).set (List.length g) ([] : List Int)))) (some ((j.2),([] : List Int),([] : List (List Int)))))) (some ((i.2),d,g))
def Ng9 (a : Int) (b : List Int) (c : Int) (d : List Int) : Option ((Int × (List Int) × (List (List Int)))) :=
  (Nfp b c d).bind (fun (t : Int × (List Int) × (List (List Int))) => N95 a b t.1 t.2.1 t.2.2)
def Nbt (a : Int) (b : List Int) (c : Int) : Option ((Int × (List Int) × (List (List Int)))) :=
  (N97 b c).bind (fun (t : Int × (List Int)) => Ng9 a b t.1 t.2)
@[irreducible] def N2h (a : Int) (b : List Int) (c : Int) : Option (Int × (List Int) × (List (List Int))) :=
  Nbt a b c
def Na0 (a : List Int) : Option (((List Int) × Int × Int × Int × (List (List Int)))) :=
  (N3t a).bind fun (b : List Int) => (N2h 12 b 0).bind fun (c : Int × (List Int) × (List (List Int))) => (N1t (c.2.1) b (c.1)).bind fun (d : Int × Int × Int × Int) => some ((c.2.1),(d.2.1),(d.2.2.1),(d.2.2.2),(c.2.2))
@[irreducible] def N4c (a : List Int) : Option ((List Int) × Int × Int × Int × (List (List Int))) :=
  Na0 a
def N89 : Option (Unit) :=
  some ()
def N7d (a : List Int) : Option (Int) :=
  some (((List.length a : Nat) : Int))
def N41 (a : List Int) (b c d : Int) : Option ((Int × Int) ⊕ Bool ⊕ Int) :=
  cond (decide (d < c)) ((idx a d).bind fun (g : Int) => cond (decide (g < 0)) (some (Sum.inr (Sum.inl false))) (cond (decide (g > (((List.length a : Nat) : Int)))) (some (Sum.inr (Sum.inl false))) (cond (g == 0) (some (Sum.inl ((IntKind.wrap .i64 (b + 1)),(IntKind.wrap .i64 (d + 1))))) (some (Sum.inl (b,(IntKind.wrap .i64 (d + 1)))))))) (some (Sum.inr (Sum.inr b)))
def Nkt (a : List Int) (b : Int) : Option (Bool ⊕ Int) :=
  nloop (fun (s : Int × Int) => ((N41 a s.1 b s.2).map (Sum.elim (fun (t : Int × Int) => Sum.inl (t.1,t.2)) (Sum.elim (fun (t : Bool) => Sum.inr (Sum.inl t)) (fun (t : Int) => Sum.inr (Sum.inr t)))) : Option ((Int × Int) ⊕ (Bool ⊕ Int)))) LL (0,0)
def Ngk (a : List Int) (b : Int) : Option (Int ⊕ Bool) :=
  (Nkt a b).map (Sum.elim (fun (t : Bool) => (Sum.inr t)) (fun (t : Int) => (Sum.inl t)))
def Ni4 (a : List Int) : Option (Int ⊕ Bool) :=
  (N7d a).bind (fun (t : Int) => Ngk a t)
def N69 (a : Int) : Option (Bool) :=
  some (a == 1)
def Njw (a : List Int) : Option (Bool) :=
  (Ni4 a).bind (Sum.elim (fun (t : Int) => N69 t) (fun e => some ((fun (t : Bool) => t) e)))
def Nh1 (a : List Int) : Option (Bool) :=
  (N89).bind (fun (t : Unit) => Njw a)
@[irreducible] def N4w (a : List Int) : Option (Bool) :=
  Nh1 a
def N6f (a : List Int) (b c : Int) : Option ((Bool × Int × Int)) :=
  (idx a (IntKind.wrap .i64 (b - 1))).bind fun (d : Int) => cond (d == 0) (some (false,b,c)) (some (true,d,(IntKind.wrap .i64 (c + 1))))
@[irreducible] def N2u (a : List Int) (b c : Int) : Option (Bool × Int × Int) :=
  N6f a b c
def N9c : Option (Unit) :=
  some ()
def N54 (a : List Int) (b c : Int) : Option ((Int × Int) ⊕ (Int × Bool) ⊕ (Int × Int)) :=
  (N2u a b c).bind fun (d : Bool × Int × Int) => cond (d.1) (cond (decide ((d.2.2) ≥ (((List.length a : Nat) : Int)))) (some (Sum.inr (Sum.inl (0,false)))) (some (Sum.inl ((d.2.1),(d.2.2))))) (some (Sum.inr (Sum.inr ((d.2.1),(d.2.2)))))
def Nfq (a : List Int) (b : Int) : Option ((Int × Bool) ⊕ (Int × Int)) :=
  nloop (fun (s : Int × Int) => ((N54 a s.1 s.2).map (Sum.elim (fun (t : Int × Int) => Sum.inl (t.1,t.2)) (Sum.elim (fun (t : Int × Bool) => Sum.inr (Sum.inl t)) (fun (t : Int × Int) => Sum.inr (Sum.inr t)))) : Option ((Int × Int) ⊕ ((Int × Bool) ⊕ (Int × Int))))) LL (b,0)
def Ngt (a : List Int) (b : Int) : Option ((Int × Int) ⊕ (Int × Bool)) :=
  (Nfq a b).map (Sum.elim (fun (t : Int × Bool) => (Sum.inr t)) (fun (t : Int × Int) => (Sum.inl (t.1,t.2))))
def N8p (a : Int) : Option ((Int × Bool)) :=
  some (a,true)
def Nfo (a : List Int) (b : Int) : Option ((Int × Bool)) :=
  (Ngt a b).bind (Sum.elim (fun (t : Int × Int) => N8p t.2) (fun e => some ((fun (t : Int × Bool) => t) e)))
def Nkg (a : List Int) (b : Int) : Option ((Int × Bool)) :=
  (N9c).bind (fun (t : Unit) => Nfo a b)
@[irreducible] def N4j (a : List Int) (b : Int) : Option (Int × Bool) :=
  Nkg a b
def N77 (a : List Int) : Option (Unit ⊕ Bool) :=
  cond (decide ((((List.length a : Nat) : Int)) < 1)) (some (Sum.inr false)) (cond (decide ((((List.length a : Nat) : Int)) > 8)) (some (Sum.inr false)) ((N4w a).bind fun (b : Bool) => cond (!b) (some (Sum.inr false)) (some (Sum.inl ()))))
def N7q (a : List Int) : Option (Int) :=
  some (((List.length a : Nat) : Int))
def N3f (a : List Int) (b c : Int) : Option (Int ⊕ Bool ⊕ Unit) :=
  cond (decide (c < b)) ((N4j a (IntKind.wrap .i64 (c + 1))).bind fun (d : Int × Bool) => cond (!(d.2)) (some (Sum.inr (Sum.inl false))) (some (Sum.inl (IntKind.wrap .i64 (c + 1))))) (some (Sum.inr (Sum.inr ())))
def Njp (a : List Int) (b : Int) : Option (Bool ⊕ Unit) :=
  nloop (fun (s : Int) => ((N3f a b s).map (Sum.elim (fun (t : Int) => Sum.inl t) (Sum.elim (fun (t : Bool) => Sum.inr (Sum.inl t)) (fun (t : Unit) => Sum.inr (Sum.inr t)))) : Option ((Int) ⊕ (Bool ⊕ Unit)))) LL 0
def Njq (a : List Int) (b : Int) : Option (Unit ⊕ Bool) :=
  (Njp a b).map (Sum.elim (fun (t : Bool) => (Sum.inr t)) (fun (t : Unit) => (Sum.inl ())))
def Ngf (a : List Int) : Option (Unit ⊕ Bool) :=
  (N7q a).bind (fun (t : Int) => Njq a t)
def Na9 : Option (Bool) :=
  some true
def Nfl (a : List Int) : Option (Bool) :=
  (Ngf a).bind (Sum.elim (fun (t : Unit) => Na9) (fun e => some ((fun (t : Bool) => t) e)))
def Ngv (a : List Int) : Option (Bool) :=
  (N77 a).bind (Sum.elim (fun (t : Unit) => Nfl a) (fun e => some ((fun (t : Bool) => t) e)))
@[irreducible] def N5 (a : List Int) : Option (Bool) :=
  Ngv a
def N6i (a : List Int) (b : List (List Int)) : Option (Unit ⊕ Bool) :=
  (N5 a).bind fun (c : Bool) => cond (!c) (some (Sum.inr false)) (cond (decide ((((List.length b : Nat) : Int)) > 8)) (some (Sum.inr false)) (some (Sum.inl ())))
def N6j (a : List (List Int)) : Option (Int) :=
  some (((List.length a : Nat) : Int))
def N2k (a : List (List Int)) (b c : Int) : Option (Int ⊕ Bool ⊕ Unit) :=
  cond (decide (c < b)) ((idx a c).bind fun (d : List Int) => (N5 d).bind fun (g : Bool) => cond (!g) (some (Sum.inr (Sum.inl false))) (some (Sum.inl (IntKind.wrap .i64 (c + 1))))) (some (Sum.inr (Sum.inr ())))
def Ng0 (a : List (List Int)) (b : Int) : Option (Bool ⊕ Unit) :=
  nloop (fun (s : Int) => ((N2k a b s).map (Sum.elim (fun (t : Int) => Sum.inl t) (Sum.elim (fun (t : Bool) => Sum.inr (Sum.inl t)) (fun (t : Unit) => Sum.inr (Sum.inr t)))) : Option ((Int) ⊕ (Bool ⊕ Unit)))) LL 0
def Ngz (a : List (List Int)) (b : Int) : Option (Unit ⊕ Bool) :=
  (Ng0 a b).map (Sum.elim (fun (t : Bool) => (Sum.inr t)) (fun (t : Unit) => (Sum.inl ())))
def Nfs (a : List (List Int)) : Option (Unit ⊕ Bool) :=
  (N6j a).bind (fun (t : Int) => Ngz a t)
def Nde : Option (Bool) :=
  some true
def Nje (a : List (List Int)) : Option (Bool) :=
  (Nfs a).bind (Sum.elim (fun (t : Unit) => Nde) (fun e => some ((fun (t : Bool) => t) e)))
def Nbv (a : List Int) (b : List (List Int)) : Option (Bool) :=
  (N6i a b).bind (Sum.elim (fun (t : Unit) => Nje b) (fun e => some ((fun (t : Bool) => t) e)))
@[irreducible] def Nx (a : List Int) (b : List (List Int)) : Option (Bool) :=
  Nbv a b
def N7r (a : Int) : Option (Int) :=
  cond (a == 0) (some 2) (cond (a == 1) (some 1) (some 0))
@[irreducible] def N5h (a : Int) : Option (Int) :=
  N7r a
def N8u (a b c : Int) : Option (Bool) :=
  (N5h a).bind fun (d : Int) => cond (decide (d > 0)) (cond (decide (d > 1)) (some true) (some (c == 0))) (cond (b == 0) (cond (decide (d > 1)) (some true) (some (c == 0))) (some false))
@[irreducible] def N4k (a b c : Int) : Option (Bool) :=
  N8u a b c
def N2y (x1 : List Int) : Option (List Int) := cloneD x1
def N8q (a : List Int) : Option (((List Int))) :=
  (N2y a).bind fun (b : List Int) => some b
def N7n (a : List (List Int)) : Option (Int) :=
  some (((List.length a : Nat) : Int))
def N4t (a : List (List Int)) (b c : Int) (d : List (List Int)) : Option ((Int × (List (List Int))) ⊕ ((List (List Int)))) :=
  cond (decide (c < b)) ((idx a c).bind fun (g : List Int) => (N2y g).bind fun (i : List Int) => (room (List.length d + 1)).bind fun (j : Unit) => some (Sum.inl ((IntKind.wrap .i64 (c + 1)),((d ++ [[]]).set (List.length d) i)))) (some (Sum.inr d))
def Nkm (a : List (List Int)) (b : Int) : Option (((List (List Int)))) :=
  nloop (fun (s : Int × (List (List Int))) => ((N4t a b s.1 s.2).map (Sum.elim (fun (t : Int × (List (List Int))) => Sum.inl (t.1,t.2)) (fun (t : (List (List Int))) => Sum.inr t)) : Option ((Int × (List (List Int))) ⊕ (((List (List Int))))))) LL (0,([] : List (List Int)))
def Njd (a : List (List Int)) (b : Int) : Option (((List (List Int)))) :=
  (Nkm a b).map (fun (t : (List (List Int))) => t)
def Nht (a : List (List Int)) : Option (((List (List Int)))) :=
  (N7n a).bind (fun (t : Int) => Njd a t)
def N6q (a : List Int) (b : List (List Int)) : Option (((List Int) × (List (List Int)))) :=
  some (a,b)
def Ngw (a : List (List Int)) (b : List Int) : Option (((List Int) × (List (List Int)))) :=
  (Nht a).bind (fun (t : (List (List Int))) => N6q b t)
def Nf9 (a : List Int) (b : List (List Int)) : Option (((List Int) × (List (List Int)))) :=
  (N8q a).bind (fun (t : (List Int)) => Ngw b t)
@[irreducible] def Nd (a : List Int) (b : List (List Int)) : Option ((List Int) × (List (List Int))) :=
  Nf9 a b
def N50 (a : List Int) (b : List (List Int)) : Option ((Bool × (List Int) × (List (List Int)))) :=
  cond (decide ((IntKind.wrap .i64 ((((List.length b : Nat) : Int)) - 1)) < 0)) ((Nd a ([] : List (List Int))).bind fun (c : (List Int) × (List (List Int))) => some (false,(c.1),(c.2))) ((idx b (IntKind.wrap .i64 ((((List.length b : Nat) : Int)) - 1))).bind fun (d : List Int) => (inc (IntKind.wrap .i64 ((((List.length b : Nat) : Int)) - 1)) (List.length b)).bind fun (g : Nat) => (Nd d ((b.take g).drop 0)).bind fun (i : (List Int) × (List (List Int))) => some (true,(i.1),(i.2)))
@[irreducible] def N34 (a : List Int) (b : List (List Int)) : Option (Bool × (List Int) × (List (List Int))) :=
  N50 a b
def N5m (a : List Int) (b : Int) : Option (Bool) :=
  (N5 a).bind fun (c : Bool) => cond c (cond (decide (b ≥ 1)) (some (decide (b ≤ (((List.length a : Nat) : Int))))) (some false)) (some false)
@[irreducible] def N35 (a : List Int) (b : Int) : Option (Bool) :=
  N5m a b
def N88 (a : Int) : Option (((List Int))) :=
  (mk a a).bind fun (b : Nat) => some (List.replicate b (0 : Int))
def N94 (a : List Int) : Option (Int) :=
  some (((List.length a : Nat) : Int))
def N4i (a b c : Int) (d : List Int) : Option ((Int × (List Int)) ⊕ ((List Int))) :=
  cond (decide (c < b)) ((inb c (List.length d)).bind fun (g : Nat) => some (Sum.inl ((IntKind.wrap .i64 (c + 1)),(d.set g (IntKind.wrap .i64 (a - c)))))) (some (Sum.inr d))
def Nkl (a b : Int) (c : List Int) : Option (((List Int))) :=
  nloop (fun (s : Int × (List Int)) => ((N4i a b s.1 s.2).map (Sum.elim (fun (t : Int × (List Int)) => Sum.inl (t.1,t.2)) (fun (t : (List Int)) => Sum.inr t)) : Option ((Int × (List Int)) ⊕ (((List Int)))))) LL (0,c)
def Nkn (a b : Int) (c : List Int) : Option (((List Int))) :=
  (Nkl a b c).map (fun (t : (List Int)) => t)
def Njc (a : Int) (b : List Int) : Option (((List Int))) :=
  (N94 b).bind (fun (t : Int) => Nkn a t b)
def N9x (a : List Int) : Option (((List Int))) :=
  some a
def Nj2 (a : Int) (b : List Int) : Option (((List Int))) :=
  (Njc a b).bind (fun (t : (List Int)) => N9x t)
def Nd2 (a : Int) : Option (((List Int))) :=
  (N88 a).bind (fun (t : (List Int)) => Nj2 a t)
@[irreducible] def N31 (a : Int) : Option ((List Int)) :=
  Nd2 a
def N9g (a : List Int) (b : Int) : Option (Unit ⊕ Bool) :=
  cond (decide (b < 1)) (some (Sum.inr false)) (cond (decide (b > 8)) (some (Sum.inr false)) (cond ((((List.length a : Nat) : Int)) != b) (some (Sum.inr false)) (some (Sum.inl ()))))
def N8y (a : List Int) : Option (Int) :=
  some (((List.length a : Nat) : Int))
def N5q (a : Int) (b : List Int) (c d : Int) (g : List Bool) : Option ((Int × (List Bool)) ⊕ Bool ⊕ Unit) :=
  cond (decide (d < c)) ((idx b d).bind fun (i : Int) => cond (decide (i < 1)) (some (Sum.inr (Sum.inl false))) (cond (decide (i > a)) (some (Sum.inr (Sum.inl false))) ((same (List.length g) 9).bind fun (j : Unit) => (inb i 9).bind fun (k : Nat) => (g[k]?).bind fun (l : Bool) => cond l (some (Sum.inr (Sum.inl false))) ((same (List.length g) 9).bind fun (m : Unit) => (inb i 9).bind fun (o : Nat) => some (Sum.inl ((IntKind.wrap .i64 (d + 1)),(g.set o true))))))) (some (Sum.inr (Sum.inr ())))
def Nko (a : Int) (b : List Int) (c : Int) : Option (Bool ⊕ Unit) :=
  nloop (fun (s : Int × (List Bool)) => ((N5q a b c s.1 s.2).map (Sum.elim (fun (t : Int × (List Bool)) => Sum.inl (t.1,t.2)) (Sum.elim (fun (t : Bool) => Sum.inr (Sum.inl t)) (fun (t : Unit) => Sum.inr (Sum.inr t)))) : Option ((Int × (List Bool)) ⊕ (Bool ⊕ Unit)))) LL (0,(List.replicate 9 false))
def Ni8 (a : Int) (b : List Int) (c : Int) : Option (Unit ⊕ Bool) :=
  (Nko a b c).map (Sum.elim (fun (t : Bool) => (Sum.inr t)) (fun (t : Unit) => (Sum.inl ())))
def Nhd (a : List Int) (b : Int) : Option (Unit ⊕ Bool) :=
  (N8y a).bind (fun (t : Int) => Ni8 b a t)
def N9r : Option (Bool) :=
  some true
def Njo (a : List Int) (b : Int) : Option (Bool) :=
  (Nhd a b).bind (Sum.elim (fun (t : Unit) => N9r) (fun e => some ((fun (t : Bool) => t) e)))
def Nk1 (a : List Int) (b : Int) : Option (Bool) :=
  (N9g a b).bind (Sum.elim (fun (t : Unit) => Njo a b) (fun e => some ((fun (t : Bool) => t) e)))
@[irreducible] def N3x (a : List Int) (b : Int) : Option (Bool) :=
  Nk1 a b
def N8z (a : List Int) : Option (((List Int))) :=
  (mk (IntKind.wrap .i64 ((((List.length a : Nat) : Int)) + 1)) (IntKind.wrap .i64 ((((List.length a : Nat) : Int)) + 1))).bind fun (b : Nat) => some (List.replicate b (0 : Int))
def N6c (a : List Int) : Option (Int) :=
  some (((List.length a : Nat) : Int))
def N44 (a : List Int) (b c : Int) (d : List Int) : Option ((Int × (List Int)) ⊕ ((List Int))) :=
  cond (decide (c < b)) ((idx a c).bind fun (g : Int) => (inb g (List.length d)).bind fun (i : Nat) => some (Sum.inl ((IntKind.wrap .i64 (c + 1)),(d.set i (IntKind.wrap .i64 (c + 1)))))) (some (Sum.inr d))
def Njj (a : List Int) (b : Int) (c : List Int) : Option (((List Int))) :=
  nloop (fun (s : Int × (List Int)) => ((N44 a b s.1 s.2).map (Sum.elim (fun (t : Int × (List Int)) => Sum.inl (t.1,t.2)) (fun (t : (List Int)) => Sum.inr t)) : Option ((Int × (List Int)) ⊕ (((List Int)))))) LL (0,c)
def Nh9 (a : List Int) (b : Int) (c : List Int) : Option (((List Int))) :=
  (Njj a b c).map (fun (t : (List Int)) => t)
def Njs (a b : List Int) : Option (((List Int))) :=
  (N6c a).bind (fun (t : Int) => Nh9 a t b)
def N66 (a : List Int) : Option (((List Int))) :=
  some a
def Nfw (a b : List Int) : Option (((List Int))) :=
  (Njs a b).bind (fun (t : (List Int)) => N66 t)
def Ngc (a : List Int) : Option (((List Int))) :=
  (N8z a).bind (fun (t : (List Int)) => Nfw a t)
@[irreducible] def N4r (a : List Int) : Option ((List Int)) :=
  Ngc a
def N7t (a : Int) (b : List Int) : Option (Int) :=
  (inb a (List.length b)).bind fun (c : Nat) => (b[c]?).bind fun (d : Int) => some d
@[irreducible] def N4n (a : Int) (b : List Int) : Option (Int) :=
  N7t a b
def N9l (a : List Int) : Option (((List Int))) :=
  (mk (((List.length a : Nat) : Int)) (((List.length a : Nat) : Int))).bind fun (b : Nat) => some (List.replicate b (0 : Int))
def N9k (a : List Int) : Option (Int) :=
  some (((List.length a : Nat) : Int))
def N5b (a b : List Int) (c d : Int) (g i : List Int) : Option ((Int × (List Int)) ⊕ ((List Int))) :=
  cond (decide (d < c)) ((idx b d).bind fun (j : Int) => (idx a (IntKind.wrap .i64 (j - 1))).bind fun (k : Int) => (N4n k g).bind fun (l : Int) => (inb d (List.length i)).bind fun (m : Nat) => some (Sum.inl ((IntKind.wrap .i64 (d + 1)),(i.set m l)))) (some (Sum.inr i))
def Ni7 (a b : List Int) (c : Int) (d g : List Int) : Option (((List Int))) :=
  nloop (fun (s : Int × (List Int)) => ((N5b a b c s.1 d s.2).map (Sum.elim (fun (t : Int × (List Int)) => Sum.inl (t.1,t.2)) (fun (t : (List Int)) => Sum.inr t)) : Option ((Int × (List Int)) ⊕ (((List Int)))))) LL (0,g)
def Nhm (a b : List Int) (c : Int) (d g : List Int) : Option (((List Int))) :=
  (Ni7 a b c d g).map (fun (t : (List Int)) => t)
def Nic (a b c d : List Int) : Option (((List Int))) :=
  (N9k b).bind (fun (t : Int) => Nhm a b t c d)
def N86 (a : List Int) : Option (((List Int))) :=
  some a
def Nip (a b c d : List Int) : Option (((List Int))) :=
  (Nic a b c d).bind (fun (t : (List Int)) => N86 t)
def Nfn (a b c : List Int) : Option (((List Int))) :=
  (N9l b).bind (fun (t : (List Int)) => Nip a b c t)
@[irreducible] def N5d (a b c : List Int) : Option ((List Int)) :=
  Nfn a b c
def N6m (a b : List Int) : Option ((Bool × (List Int))) :=
  (N5 a).bind fun (c : Bool) => cond (!c) (some (false,([] : List Int))) ((N3x b (((List.length a : Nat) : Int))).bind fun (d : Bool) => cond (!d) (some (false,([] : List Int))) ((N4r b).bind fun (g : List Int) => (N5d a b g).bind fun (i : List Int) => some (true,i)))
@[irreducible] def N2q (a b : List Int) : Option (Bool × (List Int)) :=
  N6m a b
def N5v (a : List Int) : Option (((List Int))) :=
  (N5 a).bind fun (b : Bool) => cond (!b) (some ([] : List Int)) ((N31 (((List.length a : Nat) : Int))).bind fun (c : List Int) => (N2q a c).bind fun (d : Bool × (List Int)) => some (d.2))
@[irreducible] def N3a (a : List Int) : Option ((List Int)) :=
  N5v a
def N92 (a : List Int) : Option (Unit ⊕ Int) :=
  (N5 a).bind fun (b : Bool) => cond (!b) (some (Sum.inr (-1))) (some (Sum.inl ()))
def N64 (a : List Int) (b c : Int) : Option ((Int × Int) ⊕ (Int × Int)) :=
  (N2u a b c).bind fun (d : Bool × Int × Int) => cond (d.1) (some (Sum.inl ((d.2.1),(d.2.2)))) (some (Sum.inr ((d.2.1),(d.2.2))))
def Ngs (a : List Int) : Option ((Int × Int)) :=
  nloop (fun (s : Int × Int) => ((N64 a s.1 s.2).map (Sum.elim (fun (t : Int × Int) => Sum.inl (t.1,t.2)) (fun (t : Int × Int) => Sum.inr t)) : Option ((Int × Int) ⊕ ((Int × Int))))) LL (1,0)
def Nix (a : List Int) : Option ((Int × Int)) :=
  (Ngs a).map (fun (t : Int × Int) => (t.1,t.2))
def N8b (a : Int) : Option (Int) :=
  some a
def Nh6 (a : List Int) : Option (Int) :=
  (Nix a).bind (fun (t : Int × Int) => N8b t.1)
def Nkj (a : List Int) : Option (Int) :=
  (N92 a).bind (Sum.elim (fun (t : Unit) => Nh6 a) (fun e => some ((fun (t : Int) => t) e)))
@[irreducible] def N36 (a : List Int) : Option (Int) :=
  Nkj a
def Ndg (a : Int) : Option (Int) :=
  (shl .u64 1 (IntKind.wrap .i64 (a - 1))).bind fun (b : Int) => some b
@[irreducible] def N27 (a : Int) : Option (Int) :=
  Ndg a
def N6r : Option (Unit) :=
  some ()
def N7e (a : List Int) : Option (Int) :=
  some (((List.length a : Nat) : Int))
def N49 (a : List Int) (b c d g : Int) : Option ((Int × Int) ⊕ Int) :=
  cond (decide (g < d)) ((idx a g).bind fun (i : Int) => cond (i == b) ((N27 (IntKind.wrap .i64 (g + 1))).bind fun (j : Int) => some (Sum.inl ((ior .u64 c j),(IntKind.wrap .i64 (g + 1))))) (some (Sum.inl (c,(IntKind.wrap .i64 (g + 1)))))) (some (Sum.inr c))
def Nkc (a : List Int) (b c : Int) : Option (Int) :=
  nloop (fun (s : Int × Int) => ((N49 a b s.1 c s.2).map (Sum.elim (fun (t : Int × Int) => Sum.inl (t.1,t.2)) (fun (t : Int) => Sum.inr t)) : Option ((Int × Int) ⊕ (Int)))) LL (0,0)
def Nhj (a : List Int) (b c : Int) : Option (Int) :=
  (Nkc a b c).map (fun (t : Int) => t)
def Nk7 (a : List Int) (b : Int) : Option (Int) :=
  (N7e a).bind (fun (t : Int) => Nhj a b t)
def Ndf (a : Int) : Option (Int) :=
  some a
def Nkr (a : List Int) (b : Int) : Option (Int) :=
  (Nk7 a b).bind (fun (t : Int) => Ndf t)
def Nes (a : List Int) (b : Int) : Option (Int) :=
  (N6r).bind (fun (t : Unit) => Nkr a b)
@[irreducible] def N1x (a : List Int) (b : Int) : Option (Int) :=
  Nes a b
def Nc4 (a : Int) : Option (Int) :=
  (N27 a).bind fun (b : Int) => some (IntKind.wrap .u64 (b - 1))
@[irreducible] def N2f (a : Int) : Option (Int) :=
  Nc4 a
def N5u (a : List Int) (b : Int) : Option ((Int × Int)) :=
  (N1x a b).bind fun (c : Int) => (N2f b).bind fun (d : Int) => (N2f b).bind fun (g : Int) => some ((iand .u64 c d),(iandn .u64 c g))
@[irreducible] def N32 (a : List Int) (b : Int) : Option (Int × Int) :=
  N5u a b
def Nev (a : Int) : Option (Int) :=
  (shr .u64 a 1).bind fun (b : Int) => some (IntKind.wrap .u64 ((iand .u64 b 6148914691236517205) + (iand .u64 a 6148914691236517205)))
def Ndq (a : Int) : Option (Int) :=
  (shr .u64 a 2).bind fun (b : Int) => some (IntKind.wrap .u64 ((iand .u64 b 3689348814741910323) + (iand .u64 a 3689348814741910323)))
def Nef (a : Int) : Option (Int) :=
  (shr .u64 a 4).bind fun (b : Int) => some (iand .u64 (IntKind.wrap .u64 (b + a)) 1085102592571150095)
def Nd8 (a : Int) : Option (Int) :=
  (shr .u64 a 8).bind fun (b : Int) => some (IntKind.wrap .u64 (a + b))
def Nbd (a : Int) : Option (Int) :=
  (shr .u64 a 16).bind fun (b : Int) => some (IntKind.wrap .u64 (a + b))
def Nbo (a : Int) : Option (Int) :=
  (shr .u64 a 32).bind fun (b : Int) => some (IntKind.wrap .u64 (a + b))
def Nf3 (a : Int) : Option (Int) :=
  some (iand .i64 (IntKind.wrap .i64 a) 127)
def Nav (a : Int) : Option (Int) :=
  some a
def Noc (a : Int) : Option (Int) :=
  (Nf3 a).bind (fun (t : Int) => Nav t)
def Nyg (a : Int) : Option (Int) :=
  (Nbo a).bind (fun (t : Int) => Noc t)
def Nnt (a : Int) : Option (Int) :=
  (Nbd a).bind (fun (t : Int) => Nyg t)
def Ny8 (a : Int) : Option (Int) :=
  (Nd8 a).bind (fun (t : Int) => Nnt t)
def Nw3 (a : Int) : Option (Int) :=
  (Nef a).bind (fun (t : Int) => Ny8 t)
def Npo (a : Int) : Option (Int) :=
  (Ndq a).bind (fun (t : Int) => Nw3 t)
def Noj (a : Int) : Option (Int) :=
  (Nev a).bind (fun (t : Int) => Npo t)
@[irreducible] def N7b (a : Int) : Option (Int) :=
  Noj a
def Nfj (a : Int) : Option (Int) :=
  (N7b a).bind fun (b : Int) => some b
@[irreducible] def Na3 (a : Int) : Option (Int) :=
  Nfj a
def Nej (a : Int) : Option (Int) :=
  (Na3 a).bind fun (b : Int) => some b
@[irreducible] def N7c (a : Int) : Option (Int) :=
  Nej a
def Nc1 (a : Int) : Option (Int) :=
  cond (a == 0) (some 64) ((shr .u64 (IntKind.wrap .u64 ((iand .u64 a (IntKind.wrap .u64 (0 - a))) * 285870213051353865)) 58).bind fun (b : Int) => (same (List.length tab1) 64).bind fun (c : Unit) => (idx tab1 b).bind fun (d : Int) => some (IntKind.wrap .i64 d))
@[irreducible] def N9s (a : Int) : Option (Int) :=
  Nc1 a
def Nct (a : Int) : Option (Int) :=
  (N9s a).bind fun (b : Int) => some b
@[irreducible] def N85 (a : Int) : Option (Int) :=
  Nct a
def Ndb (a : Int) : Option (((List Int))) :=
  (N7c a).bind fun (b : Int) => (mk 0 b).bind fun (c : Nat) => some (List.replicate c (0 : Int))
def Nf6 : Option (Unit) :=
  some ()
def Nee (a : Int) (b : List Int) : Option ((Int × (List Int)) ⊕ ((List Int))) :=
  cond (a != 0) ((N85 a).bind fun (c : Int) => (room ((List.length b) + List.length ([(IntKind.wrap .i64 (c + 1))]))).bind fun (d : Unit) => some (Sum.inl ((iand .u64 a (IntKind.wrap .u64 (a - 1))),(b ++ ([(IntKind.wrap .i64 (c + 1))]))))) (some (Sum.inr b))
def Nn4 (a : Int) (b : List Int) : Option (((List Int))) :=
  nloop (fun (s : Int × (List Int)) => ((Nee s.1 s.2).map (Sum.elim (fun (t : Int × (List Int)) => Sum.inl (t.1,t.2)) (fun (t : (List Int)) => Sum.inr t)) : Option ((Int × (List Int)) ⊕ (((List Int)))))) LL (a,b)
def Nn5 (a : Int) (b : List Int) : Option (((List Int))) :=
  (Nn4 a b).map (fun (t : (List Int)) => t)
def Nls (a : Int) (b : List Int) : Option (((List Int))) :=
  (Nf6).bind (fun (t : Unit) => Nn5 a b)
def Ner (a : List Int) : Option (((List Int))) :=
  some a
def Nm6 (a : Int) (b : List Int) : Option (((List Int))) :=
  (Nls a b).bind (fun (t : (List Int)) => Ner t)
def Nu8 (a : Int) : Option (((List Int))) :=
  (Ndb a).bind (fun (t : (List Int)) => Nm6 a t)
@[irreducible] def N37 (a : Int) : Option ((List Int)) :=
  Nu8 a
def N59 (R0 R1 : (List Int) → Int → (List Int) → Option ((List Int))) (a : List Int) (b : Int) (c : List Int) : Option (((List Int))) :=
  (N32 a b).bind fun (d : Int × Int) => (R1 a (d.1) c).bind fun (g : List Int) => (room ((List.length g) + List.length ([b]))).bind fun (i : Unit) => (R1 a (d.2) (g ++ ([b]))).bind fun (j : List Int) => some j
def Nl4 (R0 R1 : (List Int) → Int → (List Int) → Option ((List Int))) (a : List Int) (b : Int) (c : List Int) : Option ((List Int)) :=
  N59 R0 R1 a b c
def N9w (R0 R1 : (List Int) → Int → (List Int) → Option ((List Int))) : Option (Unit) :=
  some ()
def N9h (R0 R1 : (List Int) → Int → (List Int) → Option ((List Int))) (a : Int) : Option ((Int × (List Int))) :=
  (N37 a).bind fun (b : List Int) => some ((((List.length b : Nat) : Int)),b)
def N4l (R0 R1 : (List Int) → Int → (List Int) → Option ((List Int))) (a : List Int) (b c : Int) (d g : List Int) : Option ((Int × (List Int)) ⊕ ((List Int))) :=
  cond (decide (c < b)) ((inb c (List.length g)).bind fun (i : Nat) => (g[i]?).bind fun (j : Int) => (R0 a j d).bind fun (k : List Int) => some (Sum.inl ((IntKind.wrap .i64 (c + 1)),k))) (some (Sum.inr d))
def Nil (R0 R1 : (List Int) → Int → (List Int) → Option ((List Int))) (a : List Int) (b : Int) (c d : List Int) : Option (((List Int))) :=
  nloop (fun (s : Int × (List Int)) => ((N4l R0 R1 a b s.1 s.2 d).map (Sum.elim (fun (t : Int × (List Int)) => Sum.inl (t.1,t.2)) (fun (t : (List Int)) => Sum.inr t)) : Option ((Int × (List Int)) ⊕ (((List Int)))))) LL (0,c)
def Nja (R0 R1 : (List Int) → Int → (List Int) → Option ((List Int))) (a : List Int) (b : Int) (c d : List Int) : Option (((List Int))) :=
  (Nil R0 R1 a b c d).map (fun (t : (List Int)) => t)
def Nk5 (R0 R1 : (List Int) → Int → (List Int) → Option ((List Int))) (a : List Int) (b : Int) (c : List Int) : Option (((List Int))) :=
  (N9h R0 R1 b).bind (fun (t : Int × (List Int)) => Nja R0 R1 a t.1 c t.2)
def N99 (R0 R1 : (List Int) → Int → (List Int) → Option ((List Int))) (a : List Int) : Option (((List Int))) :=
  some a
def Njt (R0 R1 : (List Int) → Int → (List Int) → Option ((List Int))) (a : List Int) (b : Int) (c : List Int) : Option (((List Int))) :=
  (Nk5 R0 R1 a b c).bind (fun (t : (List Int)) => N99 R0 R1 t)
def Nhg (R0 R1 : (List Int) → Int → (List Int) → Option ((List Int))) (a : List Int) (b : Int) (c : List Int) : Option (((List Int))) :=
  (N9w R0 R1).bind (fun (t : Unit) => Njt R0 R1 a b c)
def N6u (R0 R1 : (List Int) → Int → (List Int) → Option ((List Int))) (a : List Int) (b : Int) (c : List Int) : Option ((List Int)) :=
  Nhg R0 R1 a b c
def N4 : Nat → ((List Int) → Int → (List Int) → Option ((List Int))) × ((List Int) → Int → (List Int) → Option ((List Int)))
  | 0 => ((fun _ _ _ => none),(fun _ _ _ => none))
  | n + 1 => ((fun y0 y1 y2 => Nl4 (N4 n).1 (N4 n).2 y0 y1 y2),(fun y0 y1 y2 => N6u (N4 n).1 (N4 n).2 y0 y1 y2))
def Ni (n : Nat) : (List Int) → Int → (List Int) → Option ((List Int)) := (N4 n).1
@[irreducible] def N5i (a : List Int) (b : Int) (c : List Int) : Option ((List Int)) := Ni RR a b c
def N1i (n : Nat) : (List Int) → Int → (List Int) → Option ((List Int)) := (N4 n).2
@[irreducible] def Nhi (a : List Int) (b : Int) (c : List Int) : Option ((List Int)) := N1i RR a b c
def N5l (a : List Int) : Option (((List Int))) :=
  (N5 a).bind fun (b : Bool) => cond (!b) (some ([] : List Int)) ((N36 a).bind fun (c : Int) => (mk 0 (((List.length a : Nat) : Int))).bind fun (d : Nat) => (N5i a c (List.replicate d (0 : Int))).bind fun (g : List Int) => some g)
@[irreducible] def N33 (a : List Int) : Option ((List Int)) :=
  N5l a
def N5f (a : List Int) : Option (((List Int))) :=
  (N33 a).bind fun (b : List Int) => (N2q a b).bind fun (c : Bool × (List Int)) => some (c.2)
@[irreducible] def N2j (a : List Int) : Option ((List Int)) :=
  N5f a
def N55 (a : List Int) (b c d : Int) : Option (((List Int))) :=
  cond (b == 0) ((N35 a c).bind fun (g : Bool) => cond (!g) (some ([] : List Int)) ((N2y a).bind fun (i : List Int) => (inb (IntKind.wrap .i64 (c - 1)) (List.length i)).bind fun (j : Nat) => some (i.set j d))) (cond (b == 1) ((N2y a).bind fun (k : List Int) => (room ((List.length k) + List.length ([c]))).bind fun (l : Unit) => some (k ++ ([c]))) (cond (b == 2) ((inc (IntKind.wrap .i64 ((((List.length a : Nat) : Int)) - 1)) (List.length a)).bind fun (m : Nat) => (N2y ((a.take m).drop 0)).bind fun (o : List Int) => some o) (cond (b == 3) ((N3a a).bind fun (p : List Int) => some p) (cond (b == 4) ((N2j a).bind fun (q : List Int) => some q) (some ([] : List Int))))))
@[irreducible] def N2l (a : List Int) (b c d : Int) : Option ((List Int)) :=
  N55 a b c d
def N8a (a b : List Int) : Option (Unit ⊕ Bool) :=
  cond ((((List.length a : Nat) : Int)) != (((List.length b : Nat) : Int))) (some (Sum.inr false)) (some (Sum.inl ()))
def N8o (a : List Int) : Option (Int) :=
  some (((List.length a : Nat) : Int))
def N2g (a b : List Int) (c d : Int) : Option (Int ⊕ Bool ⊕ Unit) :=
  cond (decide (d < c)) ((idx a d).bind fun (g : Int) => (idx b d).bind fun (i : Int) => cond (g != i) (some (Sum.inr (Sum.inl false))) (some (Sum.inl (IntKind.wrap .i64 (d + 1))))) (some (Sum.inr (Sum.inr ())))
def Ngn (a b : List Int) (c : Int) : Option (Bool ⊕ Unit) :=
  nloop (fun (s : Int) => ((N2g a b c s).map (Sum.elim (fun (t : Int) => Sum.inl t) (Sum.elim (fun (t : Bool) => Sum.inr (Sum.inl t)) (fun (t : Unit) => Sum.inr (Sum.inr t)))) : Option ((Int) ⊕ (Bool ⊕ Unit)))) LL 0
def Njy (a b : List Int) (c : Int) : Option (Unit ⊕ Bool) :=
  (Ngn a b c).map (Sum.elim (fun (t : Bool) => (Sum.inr t)) (fun (t : Unit) => (Sum.inl ())))
def Nie (a b : List Int) : Option (Unit ⊕ Bool) :=
  (N8o a).bind (fun (t : Int) => Njy a b t)
def Neo : Option (Bool) :=
  some true
def Nhb (a b : List Int) : Option (Bool) :=
  (Nie a b).bind (Sum.elim (fun (t : Unit) => Neo) (fun e => some ((fun (t : Bool) => t) e)))
def Ncp (a b : List Int) : Option (Bool) :=
  (N8a a b).bind (Sum.elim (fun (t : Unit) => Nhb a b) (fun e => some ((fun (t : Bool) => t) e)))
@[irreducible] def N39 (a b : List Int) : Option (Bool) :=
  Ncp a b
def Nd5 (x1 : List (List Int)) : Option (List (List Int)) := cloneD x1
def N5n (a : List Int) (b : List (List Int)) (c d g : Int) : Option ((Bool × (List Int) × (List (List Int)))) :=
  (N2l a c d g).bind fun (i : List Int) => (N5 i).bind fun (j : Bool) => cond (!j) ((Nd a b).bind fun (k : (List Int) × (List (List Int))) => some (false,(k.1),(k.2))) ((N39 i a).bind fun (l : Bool) => cond l ((Nd a b).bind fun (m : (List Int) × (List (List Int))) => some (false,(m.1),(m.2))) ((Nd5 b).bind fun (o : List (List Int)) => (room ((List.length o) + List.length ([a]))).bind fun (p : Unit) => (inc (imax 0 (IntKind.wrap .i64 ((((List.length (o ++ ([a])) : Nat) : Int)) - 8))) (List.length (o ++ ([a])))).bind fun (q : Nat) => (Nd i (((o ++ ([a])).drop q).take ((List.length (o ++ ([a]))) - q))).bind fun (w : (List Int) × (List (List Int))) => some (true,(w.1),(w.2))))
@[irreducible] def N2t (a : List Int) (b : List (List Int)) (c d g : Int) : Option (Bool × (List Int) × (List (List Int))) :=
  N5n a b c d g
def N5o (a : List Int) (b : List (List Int)) (c d g : Int) : Option ((Bool × (List Int) × (List (List Int)))) :=
  (Nx a b).bind fun (i : Bool) => cond (!i) (some (false,([] : List Int),([] : List (List Int)))) ((N4k c d g).bind fun (j : Bool) => cond (!j) ((Nd a b).bind fun (k : (List Int) × (List (List Int))) => some (false,(k.1),(k.2))) (cond (c == 5) ((N34 a b).bind fun (l : Bool × (List Int) × (List (List Int))) => some ((l.1),(l.2.1),(l.2.2))) ((N2t a b c d g).bind fun (m : Bool × (List Int) × (List (List Int))) => some ((m.1),(m.2.1),(m.2.2)))))
@[irreducible] def N1v (a : List Int) (b : List (List Int)) (c d g : Int) : Option (Bool × (List Int) × (List (List Int))) :=
  N5o a b c d g
def N6h (a b : List Int) : Option (Unit ⊕ Bool) :=
  cond ((((List.length a : Nat) : Int)) != (((List.length b : Nat) : Int))) (some (Sum.inr false)) (some (Sum.inl ()))
def N74 : Option (Unit) :=
  some ()
def N47 (a b : List Int) (c : Int) : Option (Int ⊕ Bool ⊕ Unit) :=
  cond (decide (c < (((List.length a : Nat) : Int)))) ((idx a c).bind fun (d : Int) => (idx b c).bind fun (g : Int) => cond (d != g) (some (Sum.inr (Sum.inl false))) (some (Sum.inl (IntKind.wrap .i64 (c + 1))))) (some (Sum.inr (Sum.inr ())))
def Nkq (a b : List Int) : Option (Bool ⊕ Unit) :=
  nloop (fun (s : Int) => ((N47 a b s).map (Sum.elim (fun (t : Int) => Sum.inl t) (Sum.elim (fun (t : Bool) => Sum.inr (Sum.inl t)) (fun (t : Unit) => Sum.inr (Sum.inr t)))) : Option ((Int) ⊕ (Bool ⊕ Unit)))) LL 0
def Ngp (a b : List Int) : Option (Unit ⊕ Bool) :=
  (Nkq a b).map (Sum.elim (fun (t : Bool) => (Sum.inr t)) (fun (t : Unit) => (Sum.inl ())))
def Ngb (a b : List Int) : Option (Unit ⊕ Bool) :=
  (N74).bind (fun (t : Unit) => Ngp a b)
def N75 : Option (Bool) :=
  some true
def Nhx (a b : List Int) : Option (Bool) :=
  (Ngb a b).bind (Sum.elim (fun (t : Unit) => N75) (fun e => some ((fun (t : Bool) => t) e)))
def Nez (a b : List Int) : Option (Bool) :=
  (N6h a b).bind (Sum.elim (fun (t : Unit) => Nhx a b) (fun e => some ((fun (t : Bool) => t) e)))
@[irreducible] def N1d (a b : List Int) : Option (Bool) :=
  Nez a b
def N72 (a b : List (List Int)) : Option (Unit ⊕ Bool) :=
  cond ((((List.length a : Nat) : Int)) != (((List.length b : Nat) : Int))) (some (Sum.inr false)) (some (Sum.inl ()))
def N84 : Option (Unit) :=
  some ()
def N4b (a b : List (List Int)) (c : Int) : Option (Int ⊕ Bool ⊕ Unit) :=
  cond (decide (c < (((List.length a : Nat) : Int)))) ((idx a c).bind fun (d : List Int) => (idx b c).bind fun (g : List Int) => (N1d d g).bind fun (i : Bool) => cond (!i) (some (Sum.inr (Sum.inl false))) (some (Sum.inl (IntKind.wrap .i64 (c + 1))))) (some (Sum.inr (Sum.inr ())))
def Ng2 (a b : List (List Int)) : Option (Bool ⊕ Unit) :=
  nloop (fun (s : Int) => ((N4b a b s).map (Sum.elim (fun (t : Int) => Sum.inl t) (Sum.elim (fun (t : Bool) => Sum.inr (Sum.inl t)) (fun (t : Unit) => Sum.inr (Sum.inr t)))) : Option ((Int) ⊕ (Bool ⊕ Unit)))) LL 0
def Nhc (a b : List (List Int)) : Option (Unit ⊕ Bool) :=
  (Ng2 a b).map (Sum.elim (fun (t : Bool) => (Sum.inr t)) (fun (t : Unit) => (Sum.inl ())))
def Nib (a b : List (List Int)) : Option (Unit ⊕ Bool) :=
  (N84).bind (fun (t : Unit) => Nhc a b)
def N7j : Option (Bool) :=
  some true
def Ng6 (a b : List (List Int)) : Option (Bool) :=
  (Nib a b).bind (Sum.elim (fun (t : Unit) => N7j) (fun e => some ((fun (t : Bool) => t) e)))
def Nb2 (a b : List (List Int)) : Option (Bool) :=
  (N72 a b).bind (Sum.elim (fun (t : Unit) => Ng6 a b) (fun e => some ((fun (t : Bool) => t) e)))
@[irreducible] def N26 (a b : List (List Int)) : Option (Bool) :=
  Nb2 a b
def N91 (a : List Int) (b : List (List Int)) (c : List Int) (d : List (List Int)) : Option (Bool) :=
  (N1d a c).bind fun (g : Bool) => cond g ((N26 b d).bind fun (i : Bool) => some i) (some false)
@[irreducible] def N25 (a : List Int) (b : List (List Int)) (c : List Int) (d : List (List Int)) : Option (Bool) :=
  N91 a b c d
def New (a : List Int) (b : List (List Int)) : Option (Bool) :=
  (N1d a ([] : List Int)).bind fun (c : Bool) => cond c ((N26 b ([] : List (List Int))).bind fun (d : Bool) => some d) (some false)
@[irreducible] def Nci (a : List Int) (b : List (List Int)) : Option (Bool) :=
  New a b
def Na1 : Option (Bool) :=
  (N5 ([0])).bind fun (a : Bool) => cond a ((N5 ([1])).bind fun (b : Bool) => some (!b)) (some false)
@[irreducible] def N2e : Option (Bool) :=
  Na1
def N9i (a b : Int) : Option ((Bool × Int × Int)) :=
  cond (decide (a < 1)) (some (false,0,0)) (cond (decide (b < 1)) (some (false,0,0)) (cond (a == b) (some (false,0,0)) (some (true,(imin a b),(imax a b)))))
@[irreducible] def N3y (a b : Int) : Option (Bool × Int × Int) :=
  N9i a b
def N9n (a : List Int) : Option (((List (Int × Int × Unit)))) :=
  (mk 0 (((List.length a : Nat) : Int))).bind fun (b : Nat) => some (List.replicate b ((0 : Int),((0 : Int),())))
def N9q (a : List Int) : Option (Int) :=
  some (((List.length a : Nat) : Int))
def N4g (a : List Int) (b c : Int) (d : List (Int × Int × Unit)) : Option ((Int × (List (Int × Int × Unit))) ⊕ ((List (Int × Int × Unit)))) :=
  cond (decide (c < b)) ((idx a c).bind fun (g : Int) => (N3y (IntKind.wrap .i64 (c + 1)) g).bind fun (i : Bool × Int × Int) => cond (i.1) ((room ((List.length d) + List.length ([((i.2.1),((i.2.2),()))]))).bind fun (j : Unit) => some (Sum.inl ((IntKind.wrap .i64 (c + 1)),(d ++ ([((i.2.1),((i.2.2),()))]))))) (some (Sum.inl ((IntKind.wrap .i64 (c + 1)),d)))) (some (Sum.inr d))
def Niy (a : List Int) (b : Int) (c : List (Int × Int × Unit)) : Option (((List (Int × Int × Unit)))) :=
  nloop (fun (s : Int × (List (Int × Int × Unit))) => ((N4g a b s.1 s.2).map (Sum.elim (fun (t : Int × (List (Int × Int × Unit))) => Sum.inl (t.1,t.2)) (fun (t : (List (Int × Int × Unit))) => Sum.inr t)) : Option ((Int × (List (Int × Int × Unit))) ⊕ (((List (Int × Int × Unit))))))) LL (0,c)
def Nfx (a : List Int) (b : Int) (c : List (Int × Int × Unit)) : Option (((List (Int × Int × Unit)))) :=
  (Niy a b c).map (fun (t : (List (Int × Int × Unit))) => t)
def Nfv (a : List Int) (b : List (Int × Int × Unit)) : Option (((List (Int × Int × Unit)))) :=
  (N9q a).bind (fun (t : Int) => Nfx a t b)
def N8c (a : List (Int × Int × Unit)) : Option (((List (Int × Int × Unit)))) :=
  some a
def Njv (a : List Int) (b : List (Int × Int × Unit)) : Option (((List (Int × Int × Unit)))) :=
  (Nfv a b).bind (fun (t : (List (Int × Int × Unit))) => N8c t)
def Nbx (a : List Int) : Option (((List (Int × Int × Unit)))) :=
  (N9n a).bind (fun (t : (List (Int × Int × Unit))) => Njv a t)
@[irreducible] def N2r (a : List Int) : Option ((List (Int × Int × Unit))) :=
  Nbx a
def N67 (a b c : Int) : Option (Bool) :=
  cond (decide (a < c)) (some (decide (c < b))) (some false)
@[irreducible] def N28 (a b c : Int) : Option (Bool) :=
  N67 a b c
def N81 (a b c : Int) : Option (Bool) :=
  cond (decide (c < a)) (some true) (some (decide (b < c)))
@[irreducible] def N1z (a b c : Int) : Option (Bool) :=
  N81 a b c
def N6z (a b c d : Int) : Option (Bool) :=
  (N28 a b c).bind fun (g : Bool) => cond g ((N1z a b d).bind fun (i : Bool) => cond i (some true) ((N28 a b d).bind fun (j : Bool) => cond j ((N1z a b c).bind fun (k : Bool) => some k) (some false))) ((N28 a b d).bind fun (l : Bool) => cond l ((N1z a b c).bind fun (m : Bool) => some m) (some false))
@[irreducible] def N3i (a b c d : Int) : Option (Bool) :=
  N6z a b c d
def N6t : Option (Unit) :=
  some ()
def N9f (a : List (Int × Int × Unit)) : Option (Int) :=
  some (((List.length a : Nat) : Int))
def N8f (a b c : Int) : Option (Unit ⊕ Int) :=
  cond (decide (c < b)) (some (Sum.inl ())) (some (Sum.inr a))
def N7l (a : List (Int × Int × Unit)) (b : Int) : Option (((List (Int × Int × Unit)) × Int × Int × Int)) :=
  (idx a b).bind fun (c : Int × Int × Unit) => (inc (IntKind.wrap .i64 (b + 1)) (List.length a)).bind fun (d : Nat) => some (((a.take (List.length a)).drop d),(((List.length ((a.take (List.length a)).drop d) : Nat) : Int)),(c.1),((c.2).1))
def N3w (a : Int) (b : List (Int × Int × Unit)) (c d g i : Int) : Option ((Int × Int) ⊕ Int) :=
  cond (decide (d < c)) ((idx b d).bind fun (j : Int × Int × Unit) => (N3i g i (j.1) ((j.2).1)).bind fun (k : Bool) => cond k (some (Sum.inl ((IntKind.wrap .i64 (a + 1)),(IntKind.wrap .i64 (d + 1))))) (some (Sum.inl (a,(IntKind.wrap .i64 (d + 1)))))) (some (Sum.inr a))
def Ni5 (a : Int) (b : List (Int × Int × Unit)) (c d g : Int) : Option (Int) :=
  nloop (fun (s : Int × Int) => ((N3w s.1 b c s.2 d g).map (Sum.elim (fun (t : Int × Int) => Sum.inl (t.1,t.2)) (fun (t : Int) => Sum.inr t)) : Option ((Int × Int) ⊕ (Int)))) LL (a,0)
def Ne1 (a : Int) (b : List (Int × Int × Unit)) (c d g : Int) : Option (Int) :=
  (Ni5 a b c d g).map (fun (t : Int) => t)
def Ngr (a : List (Int × Int × Unit)) (b c : Int) : Option (Int) :=
  (N7l a c).bind (fun (t : (List (Int × Int × Unit)) × Int × Int × Int) => Ne1 b t.1 t.2.1 t.2.2.1 t.2.2.2)
def Nh2 (a : List (Int × Int × Unit)) (b c : Int) : Option (Int) :=
  (Ngr a b c).map (fun (t : Int) => t)
def N7z (a : Int) : Option (Int) :=
  some (IntKind.wrap .i64 (a + 1))
def Nk0 (a : List (Int × Int × Unit)) (b c : Int) : Option ((Int × Int)) :=
  (Nh2 a b c).bind (fun (t : Int) => (N7z c).map (fun (u : Int) => (t,u)))
def Ne7 (a : List (Int × Int × Unit)) (b c d : Int) : Option ((Int × Int) ⊕ Int) :=
  (N8f b c d).bind (Sum.elim (fun (t : Unit) => (Nk0 a b d).map (fun (t : Int × Int) => (Sum.inl (t.1,t.2)))) (fun e => some ((fun (t : Int) => (Sum.inr t)) e)))
def Nk8 (a : List (Int × Int × Unit)) (b : Int) : Option (Int) :=
  nloop (fun (s : Int × Int) => ((Ne7 a s.1 b s.2).map (Sum.elim (fun (t : Int × Int) => Sum.inl (t.1,t.2)) (fun (t : Int) => Sum.inr t)) : Option ((Int × Int) ⊕ (Int)))) LL (0,0)
def Nhq (a : List (Int × Int × Unit)) (b : Int) : Option (Int) :=
  (Nk8 a b).map (fun (t : Int) => t)
def Ng8 (a : List (Int × Int × Unit)) : Option (Int) :=
  (N9f a).bind (fun (t : Int) => Nhq a t)
def N70 (a : Int) : Option (Int) :=
  some a
def Nh5 (a : List (Int × Int × Unit)) : Option (Int) :=
  (Ng8 a).bind (fun (t : Int) => N70 t)
def Ne2 (a : List (Int × Int × Unit)) : Option (Int) :=
  (N6t).bind (fun (t : Unit) => Nh5 a)
@[irreducible] def N2m (a : List (Int × Int × Unit)) : Option (Int) :=
  Ne2 a
def N4y (a : List Int) : Option (Int) :=
  (N5 a).bind fun (b : Bool) => cond (!b) (some (-1)) ((N2r a).bind fun (c : List (Int × Int × Unit)) => (N2m c).bind fun (d : Int) => some d)
@[irreducible] def N17 (a : List Int) : Option (Int) :=
  N4y a
def N8h (R0 : (List Int) → Int → (List Int) → Option (Int × (List Int))) (a : Int) : Option (Int) :=
  (N27 a).bind fun (b : Int) => some b
def N7k (R0 : (List Int) → Int → (List Int) → Option (Int × (List Int))) (a : List Int) (b : Int) : Option ((Int × (List Int))) :=
  (N1x a b).bind fun (c : Int) => (N37 c).bind fun (d : List Int) => some ((((List.length d : Nat) : Int)),d)
def N2x (R0 : (List Int) → Int → (List Int) → Option (Int × (List Int))) (a : List Int) (b c d : Int) (g i : List Int) : Option ((Int × Int × (List Int)) ⊕ (Int × (List Int))) :=
  cond (decide (d < c)) ((inb d (List.length i)).bind fun (j : Nat) => (i[j]?).bind fun (k : Int) => (R0 a k g).bind fun (l : Int × (List Int)) => some (Sum.inl ((ior .u64 b (l.1)),(IntKind.wrap .i64 (d + 1)),(l.2)))) (some (Sum.inr (b,g)))
def Nkb (R0 : (List Int) → Int → (List Int) → Option (Int × (List Int))) (a : List Int) (b c : Int) (d g : List Int) : Option ((Int × (List Int))) :=
  nloop (fun (s : Int × Int × (List Int)) => ((N2x R0 a s.1 c s.2.1 s.2.2 g).map (Sum.elim (fun (t : Int × Int × (List Int)) => Sum.inl (t.1,t.2.1,t.2.2)) (fun (t : Int × (List Int)) => Sum.inr t)) : Option ((Int × Int × (List Int)) ⊕ ((Int × (List Int)))))) LL (b,0,d)
def Nhh (R0 : (List Int) → Int → (List Int) → Option (Int × (List Int))) (a : List Int) (b c : Int) (d g : List Int) : Option ((Int × (List Int))) :=
  (Nkb R0 a b c d g).map (fun (t : Int × (List Int)) => (t.1,t.2))
def Nhp (R0 : (List Int) → Int → (List Int) → Option (Int × (List Int))) (a : List Int) (b c : Int) (d : List Int) : Option ((Int × (List Int))) :=
  (N7k R0 a b).bind (fun (t : Int × (List Int)) => Nhh R0 a c t.1 d t.2)
def N93 (R0 : (List Int) → Int → (List Int) → Option (Int × (List Int))) (a b : Int) (c : List Int) : Option ((Int × (List Int))) :=
  (inb (IntKind.wrap .i64 (a - 1)) (List.length c)).bind fun (d : Nat) => some (b,(c.set d b))
def Ng1 (R0 : (List Int) → Int → (List Int) → Option (Int × (List Int))) (a : List Int) (b c : Int) (d : List Int) : Option ((Int × (List Int))) :=
  (Nhp R0 a b c d).bind (fun (t : Int × (List Int)) => N93 R0 b t.1 t.2)
def Nha (R0 : (List Int) → Int → (List Int) → Option (Int × (List Int))) (a : List Int) (b : Int) (c : List Int) : Option ((Int × (List Int))) :=
  (N8h R0 b).bind (fun (t : Int) => Ng1 R0 a b t c)
def Nid (R0 : (List Int) → Int → (List Int) → Option (Int × (List Int))) (a : List Int) (b : Int) (c : List Int) : Option (Int × (List Int)) :=
  Nha R0 a b c
def N21 : Nat → ((List Int) → Int → (List Int) → Option (Int × (List Int)))
  | 0 => (fun _ _ _ => none)
  | n + 1 => (fun y0 y1 y2 => Nid (N21 n) y0 y1 y2)
def N1e (n : Nat) : (List Int) → Int → (List Int) → Option (Int × (List Int)) := (N21 n)
@[irreducible] def N5y (a : List Int) (b : Int) (c : List Int) : Option (Int × (List Int)) := N1e RR a b c
def N62 (a : List Int) : Option (((List Int))) :=
  (mk (((List.length a : Nat) : Int)) (((List.length a : Nat) : Int))).bind fun (b : Nat) => (N36 a).bind fun (c : Int) => (N5y a c (List.replicate b (0 : Int))).bind fun (d : Int × (List Int)) => some (d.2)
@[irreducible] def N2i (a : List Int) : Option ((List Int)) :=
  N62 a
def Nd0 (a : Int) : Option (Bool) :=
  some ((iand .u64 a (IntKind.wrap .u64 (a + (iand .u64 a (IntKind.wrap .u64 (0 - a)))))) == 0)
@[irreducible] def N3e (a : Int) : Option (Bool) :=
  Nd0 a
def N6v (a : List Int) : Option (Unit ⊕ Bool) :=
  (N5 a).bind fun (b : Bool) => cond (!b) (some (Sum.inr false)) (some (Sum.inl ()))
def N6d (a : List Int) : Option ((Int × (List Int))) :=
  (N2i a).bind fun (b : List Int) => some ((((List.length b : Nat) : Int)),b)
def N2c (a b : Int) (c : List Int) : Option (Int ⊕ Bool ⊕ Unit) :=
  cond (decide (b < a)) ((inb b (List.length c)).bind fun (d : Nat) => (c[d]?).bind fun (g : Int) => (N3e g).bind fun (i : Bool) => cond (!i) (some (Sum.inr (Sum.inl false))) (some (Sum.inl (IntKind.wrap .i64 (b + 1))))) (some (Sum.inr (Sum.inr ())))
def Nk6 (a : Int) (b : List Int) : Option (Bool ⊕ Unit) :=
  nloop (fun (s : Int) => ((N2c a s b).map (Sum.elim (fun (t : Int) => Sum.inl t) (Sum.elim (fun (t : Bool) => Sum.inr (Sum.inl t)) (fun (t : Unit) => Sum.inr (Sum.inr t)))) : Option ((Int) ⊕ (Bool ⊕ Unit)))) LL 0
def Nik (a : Int) (b : List Int) : Option (Unit ⊕ Bool) :=
  (Nk6 a b).map (Sum.elim (fun (t : Bool) => (Sum.inr t)) (fun (t : Unit) => (Sum.inl ())))
def Ni9 (a : List Int) : Option (Unit ⊕ Bool) :=
  (N6d a).bind (fun (t : Int × (List Int)) => Nik t.1 t.2)
def N8j : Option (Bool) :=
  some true
def Nij (a : List Int) : Option (Bool) :=
  (Ni9 a).bind (Sum.elim (fun (t : Unit) => N8j) (fun e => some ((fun (t : Bool) => t) e)))
def Nbq (a : List Int) : Option (Bool) :=
  (N6v a).bind (Sum.elim (fun (t : Unit) => Nij a) (fun e => some ((fun (t : Bool) => t) e)))
@[irreducible] def Nq (a : List Int) : Option (Bool) :=
  Nbq a
def N98 (a : List Int) : Option ((Bool × Bool × (List Int) × Int × Int × Int × (List (List Int)) × (List Int) × (List (List Int)) × (List Int) × (List (List Int))) ⊕ Bool) :=
  cond (decide ((((List.length a : Nat) : Int)) > 1048576)) (some (Sum.inr true)) ((N4c a).bind fun (b : (List Int) × Int × Int × Int × (List (List Int))) => (N1v (b.1) (b.2.2.2.2) (b.2.1) (b.2.2.1) (b.2.2.2.1)).bind fun (c : Bool × (List Int) × (List (List Int))) => (N1y (b.1) (b.2.2.2.2) (b.2.1) (b.2.2.1) (b.2.2.2.1)).bind fun (d : Bool × (List Int) × (List (List Int))) => (N25 (c.2.1) (c.2.2) (d.2.1) (d.2.2)).bind fun (g : Bool) => cond (!g) (some (Sum.inr false)) (cond ((c.1) != (d.1)) (some (Sum.inr false)) (cond (!(c.1)) ((N25 (c.2.1) (c.2.2) (b.1) (b.2.2.2.2)).bind fun (i : Bool) => cond i ((N2e).bind fun (j : Bool) => some (Sum.inr j)) ((Nx (b.1) (b.2.2.2.2)).bind fun (k : Bool) => cond (!k) ((N2e).bind fun (l : Bool) => some (Sum.inr l)) (some (Sum.inr false)))) ((N1v (c.2.1) (c.2.2) 5 0 0).bind fun (m : Bool × (List Int) × (List (List Int))) => cond ((b.2.1) != 3) (some (Sum.inl ((m.1),true,(b.1),(b.2.1),(b.2.2.1),(b.2.2.2.1),(b.2.2.2.2),(c.2.1),(c.2.2),(m.2.1),(m.2.2)))) ((N17 (c.2.1)).bind fun (o : Int) => (N17 (b.1)).bind fun (p : Int) => some (Sum.inl ((m.1),(o == p),(b.1),(b.2.1),(b.2.2.1),(b.2.2.2.1),(b.2.2.2.2),(c.2.1),(c.2.2),(m.2.1),(m.2.2))))))))
def N5t (a b : Bool) (c : List Int) (d : Int) (g : List (List Int)) (i : List Int) (j : List (List Int)) (k : List Int) (l : List (List Int)) : Option (Bool) :=
  (Nx i j).bind fun (m : Bool) => cond m (cond (d == 5) (cond b (cond (d != 4) (some true) ((Nq i).bind fun (o : Bool) => some o)) (some false)) (cond (decide ((((List.length g : Nat) : Int)) ≥ 8)) (cond b (cond (d != 4) (some true) ((Nq i).bind fun (p : Bool) => some p)) (some false)) (cond a ((N25 k l c g).bind fun (q : Bool) => cond q (cond b (cond (d != 4) (some true) ((Nq i).bind fun (w : Bool) => some w)) (some false)) (some false)) (some false)))) (some false)
def Nga (a : List Int) : Option (Bool) :=
  (N98 a).bind (Sum.elim (fun (t : Bool × Bool × (List Int) × Int × Int × Int × (List (List Int)) × (List Int) × (List (List Int)) × (List Int) × (List (List Int))) => N5t t.1 t.2.1 t.2.2.1 t.2.2.2.1 t.2.2.2.2.2.2.1 t.2.2.2.2.2.2.2.1 t.2.2.2.2.2.2.2.2.1 t.2.2.2.2.2.2.2.2.2.1 t.2.2.2.2.2.2.2.2.2.2) (fun e => some ((fun (t : Bool) => t) e)))
@[irreducible] def N2w (a : List Int) : Option (Bool) :=
  Nga a
end Go.Rv
