/-
  Plain functions,written by program for functions of the checked code. Conditions: none.
-/
import Derived.Test.YtihgceegapfngadDoorFB
set_option linter.unusedVariables false
namespace Go.Rv
def N7w (a : List Int) : Option (((List Int))) :=
  cond (decide ((((List.length a : Nat) : Int)) > 2000)) ((inc 2000 (List.length a)).bind fun (b : Nat) => some ((a.take b).drop 0)) (some a)
@[irreducible] def N3l (a : List Int) : Option ((List Int)) :=
  N7w a
def N7f (a : Int) (b : List Int) (c : Int) : Option ((Int × Int)) :=
  cond (decide (a < 1)) (some (0,(IntKind.wrap .i64 (c + 1)))) (cond ((((List.length b : Nat) : Int)) == 0) (some (0,(IntKind.wrap .i64 (c + 1)))) (cond (decide ((IntKind.wrap .i64 ((IntKind.wrap .i64 (c + 1)) - 1)) < (((List.length b : Nat) : Int)))) ((idx b (IntKind.wrap .i64 ((IntKind.wrap .i64 (c + 1)) - 1))).bind fun (d : Int) => (rem (IntKind.wrap .i64 d) a).bind fun (g : Int) => some (g,(IntKind.wrap .i64 (c + 1)))) ((rem (IntKind.wrap .i64 ((IntKind.wrap .i64 (c + 1)) - 1)) (((List.length b : Nat) : Int))).bind fun (i : Int) => (idx b i).bind fun (j : Int) => (rem (IntKind.wrap .i64 ((IntKind.wrap .i64 ((IntKind.wrap .i64 ((IntKind.wrap .i64 (c + 1)) - 1)) * 7)) + 3)) (((List.length b : Nat) : Int))).bind fun (k : Int) => (idx b k).bind fun (l : Int) => (quo .i64 (IntKind.wrap .i64 ((IntKind.wrap .i64 (c + 1)) - 1)) (((List.length b : Nat) : Int))).bind fun (m : Int) => (quo .i64 (IntKind.wrap .i64 ((IntKind.wrap .i64 ((IntKind.wrap .i64 ((IntKind.wrap .i64 ((IntKind.wrap .i64 j) * 131)) + (IntKind.wrap .i64 ((IntKind.wrap .i64 l) * 1117)))) + (IntKind.wrap .i64 ((IntKind.wrap .i64 ((IntKind.wrap .i64 (c + 1)) - 1)) * 29)))) + (IntKind.wrap .i64 (m * 53)))) 64).bind fun (o : Int) => (rem (ixor .i64 (IntKind.wrap .i64 ((IntKind.wrap .i64 ((IntKind.wrap .i64 ((IntKind.wrap .i64 ((IntKind.wrap .i64 j) * 131)) + (IntKind.wrap .i64 ((IntKind.wrap .i64 l) * 1117)))) + (IntKind.wrap .i64 ((IntKind.wrap .i64 ((IntKind.wrap .i64 (c + 1)) - 1)) * 29)))) + (IntKind.wrap .i64 (m * 53)))) o) a).bind fun (p : Int) => some (p,(IntKind.wrap .i64 (c + 1))))))
@[irreducible] def N0 (a : Int) (b : List Int) (c : Int) : Option (Int × Int) :=
  N7f a b c
def N79 (a : List Int) (b : Int) : Option ((Int × Int)) :=
  (N0 2 a b).bind fun (c : Int × Int) => some ((c.1),(c.2))
def N7l : Option (Unit) :=
  some ()
def N4e (a b c : Int) (d : List Int) (g : Int) (i : List Int) : Option ((Int × Int × (List Int)) ⊕ (Int × (List Int))) :=
  cond (decide (c ≤ a)) (cond (b == 0) ((N0 c d g).bind fun (j : Int × Int) => (inc (j.1) (List.length i)).bind fun (k : Nat) => (room ((List.length ([] : List Int)) + List.length ((i.drop 0).take (k - 0)))).bind fun (l : Unit) => (room ((List.length (([] : List Int) ++ ((i.drop 0).take (k - 0)))) + List.length ([c]))).bind fun (m : Unit) => (inc (j.1) (List.length i)).bind fun (o : Nat) => (room ((List.length ((([] : List Int) ++ ((i.drop 0).take (k - 0))) ++ ([c]))) + List.length ((i.drop o).take ((List.length i) - o)))).bind fun (p : Unit) => some (Sum.inl ((IntKind.wrap .i64 (c + 1)),(j.2),(((([] : List Int) ++ ((i.drop 0).take (k - 0))) ++ ([c])) ++ ((i.drop o).take ((List.length i) - o)))))) ((N0 3 d g).bind fun (q : Int × Int) => cond ((q.1) == 0) ((N0 c d (q.2)).bind fun (w : Int × Int) => (inc (w.1) (List.length i)).bind fun (y : Nat) => (room ((List.length ([] : List Int)) + List.length ((i.drop 0).take (y - 0)))).bind fun (z : Unit) => (room ((List.length (([] : List Int) ++ ((i.drop 0).take (y - 0)))) + List.length ([c]))).bind fun (a0 : Unit) => (inc (w.1) (List.length i)).bind fun (a1 : Nat) => (room ((List.length ((([] : List Int) ++ ((i.drop 0).take (y - 0))) ++ ([c]))) + List.length ((i.drop a1).take ((List.length i) - a1)))).bind fun (a2 : Unit) => some (Sum.inl ((IntKind.wrap .i64 (c + 1)),(w.2),(((([] : List Int) ++ ((i.drop 0).take (y - 0))) ++ ([c])) ++ ((i.drop a1).take ((List.length i) - a1)))))) ((inc (((List.length i : Nat) : Int)) (List.length i)).bind fun (a3 : Nat) => (room ((List.length ([] : List Int)) + List.length ((i.drop 0).take (a3 - 0)))).bind fun (a4 : Unit) => (room ((List.length (([] : List Int) ++ ((i.drop 0).take (a3 - 0)))) + List.length ([c]))).bind fun (a5 : Unit) => (inc (((List.length i : Nat) : Int)) (List.length i)).bind fun (a6 : Nat) => (room ((List.length ((([] : List Int) ++ ((i.drop 0).take (a3 - 0))) ++ ([c]))) + List.length ((i.drop a6).take ((List.length i) - a6)))).bind fun (a7 : Unit) => some (Sum.inl ((IntKind.wrap .i64 (c + 1)),(q.2),(((([] : List Int) ++ ((i.drop 0).take (a3 - 0))) ++ ([c])) ++ ((i.drop a6).take ((List.length i) - a6)))))))) (some (Sum.inr (g,i)))
def Nfm (a b : Int) (c : List Int) (d : Int) : Option ((Int × (List Int))) :=
  nloop (fun (s : Int × Int × (List Int)) => ((N4e a b s.1 c s.2.1 s.2.2).map (Sum.elim (fun (t : Int × Int × (List Int)) => Sum.inl (t.1,t.2.1,t.2.2)) (fun (t : Int × (List Int)) => Sum.inr t)) : Option ((Int × Int × (List Int)) ⊕ ((Int × (List Int)))))) LL (1,d,([] : List Int))
def Ngo (a b : Int) (c : List Int) (d : Int) : Option ((Int × (List Int))) :=
  (Nfm a b c d).map (fun (t : Int × (List Int)) => (t.1,t.2))
def Neg (a b : Int) (c : List Int) (d : Int) : Option ((Int × (List Int))) :=
  (N7l).bind (fun (t : Unit) => Ngo a b c d)
def N8j (a : Int) (b : List Int) : Option ((Int × (List Int))) :=
  some (a,b)
def Nfz (a b : Int) (c : List Int) (d : Int) : Option ((Int × (List Int))) :=
  (Neg a b c d).bind (fun (t : Int × (List Int)) => N8j t.1 t.2)
def Nha (a : Int) (b : List Int) (c : Int) : Option ((Int × (List Int))) :=
  (N79 b c).bind (fun (t : Int × Int) => Nfz a t.1 b t.2)
@[irreducible] def N2e (a : Int) (b : List Int) (c : Int) : Option (Int × (List Int)) :=
  Nha a b c
def N6x (a : Int) (b : List Int) (c : Int) : Option ((Bool × Int)) :=
  cond (decide (a > 0)) ((N0 a b c).bind fun (d : Int × Int) => some (((d.1) == (IntKind.wrap .i64 (a - 1))),(d.2))) (some (false,c))
@[irreducible] def Nd (a : Int) (b : List Int) (c : Int) : Option (Bool × Int) :=
  N6x a b c
def N7t (a : List Int) (b : Int) : Option ((Int × Int × Int × (List Int) × (List Int))) :=
  (N0 7 a b).bind fun (c : Int × Int) => (N2e (IntKind.wrap .i64 (1 + (c.1))) a (c.2)).bind fun (d : Int × (List Int)) => (mk (IntKind.wrap .i64 (1 + (c.1))) (IntKind.wrap .i64 (1 + (c.1)))).bind fun (g : Nat) => (N0 2 a (d.1)).bind fun (i : Int × Int) => some ((IntKind.wrap .i64 (1 + (c.1))),(i.1),(i.2),(d.2),(List.replicate g (0 : Int)))
def N7c : Option (Unit) :=
  some ()
def N4f (a b c : Int) (d : List Int) (g : Int) (i j : List Int) : Option ((Int × Int × (List Int)) ⊕ (Int × (List Int))) :=
  cond (decide (c < a)) ((N0 c d g).bind fun (k : Int × Int) => cond (b == 1) ((N0 2 d (k.2)).bind fun (l : Int × Int) => cond ((l.1) == 0) ((inb c (List.length i)).bind fun (m : Nat) => (i[m]?).bind fun (o : Int) => (inb (IntKind.wrap .i64 (c - 1)) (List.length i)).bind fun (p : Nat) => (i[p]?).bind fun (q : Int) => (inb (IntKind.wrap .i64 (o - 1)) (List.length j)).bind fun (w : Nat) => some (Sum.inl ((IntKind.wrap .i64 (c + 1)),(l.2),(j.set w q)))) ((inb c (List.length i)).bind fun (y : Nat) => (i[y]?).bind fun (z : Int) => (inb (k.1) (List.length i)).bind fun (a0 : Nat) => (i[a0]?).bind fun (a1 : Int) => (inb (IntKind.wrap .i64 (z - 1)) (List.length j)).bind fun (a2 : Nat) => some (Sum.inl ((IntKind.wrap .i64 (c + 1)),(l.2),(j.set a2 a1))))) ((inb c (List.length i)).bind fun (a3 : Nat) => (i[a3]?).bind fun (a4 : Int) => (inb (k.1) (List.length i)).bind fun (a5 : Nat) => (i[a5]?).bind fun (a6 : Int) => (inb (IntKind.wrap .i64 (a4 - 1)) (List.length j)).bind fun (a7 : Nat) => some (Sum.inl ((IntKind.wrap .i64 (c + 1)),(k.2),(j.set a7 a6))))) (some (Sum.inr (g,j)))
def Nh8 (a b : Int) (c : List Int) (d : Int) (g i : List Int) : Option ((Int × (List Int))) :=
  nloop (fun (s : Int × Int × (List Int)) => ((N4f a b s.1 c s.2.1 g s.2.2).map (Sum.elim (fun (t : Int × Int × (List Int)) => Sum.inl (t.1,t.2.1,t.2.2)) (fun (t : Int × (List Int)) => Sum.inr t)) : Option ((Int × Int × (List Int)) ⊕ ((Int × (List Int)))))) LL (1,d,i)
def Nf7 (a b : Int) (c : List Int) (d : Int) (g i : List Int) : Option ((Int × (List Int))) :=
  (Nh8 a b c d g i).map (fun (t : Int × (List Int)) => (t.1,t.2))
def Nhk (a b : Int) (c : List Int) (d : Int) (g i : List Int) : Option ((Int × (List Int))) :=
  (N7c).bind (fun (t : Unit) => Nf7 a b c d g i)
def N72 (a b : Int) (c : List Int) (d : Int) (g : List Int) : Option ((Int × (List Int))) :=
  (Nd a c d).bind fun (i : Bool × Int) => cond (i.1) ((N0 4 c (i.2)).bind fun (j : Int × Int) => cond ((j.1) == 0) (some ((j.2),([] : List Int))) (cond ((j.1) == 1) (some ((j.2),([2,1,0]))) (cond ((j.1) == 2) ((N0 b c (j.2)).bind fun (k : Int × Int) => (inb (k.1) (List.length g)).bind fun (l : Nat) => (room ((List.length (g.set l 0)) + List.length ([0]))).bind fun (m : Unit) => some ((k.2),((g.set l 0) ++ ([0])))) ((N0 3 c (j.2)).bind fun (o : Int × Int) => (inb (o.1) (List.length ([1,(IntKind.wrap .i64 (b + 1)),(-1)]))).bind fun (p : Nat) => (([1,(IntKind.wrap .i64 (b + 1)),(-1)])[p]?).bind fun (q : Int) => (inb 0 (List.length g)).bind fun (w : Nat) => some ((o.2),(g.set w q)))))) (some ((i.2),g))
def Ngl (a b c : Int) (d : List Int) (g : Int) (i j : List Int) : Option ((Int × (List Int))) :=
  (Nhk b c d g i j).bind (fun (t : Int × (List Int)) => N72 a b d t.1 t.2)
def Nfv (a : Int) (b : List Int) (c : Int) : Option ((Int × (List Int))) :=
  (N7t b c).bind (fun (t : Int × Int × Int × (List Int) × (List Int)) => Ngl a t.1 t.2.1 b t.2.2.1 t.2.2.2.1 t.2.2.2.2)
@[irreducible] def N25 (a : Int) (b : List Int) (c : Int) : Option (Int × (List Int)) :=
  Nfv a b c
def N52 (a b c : Int) : Option (Bool) :=
  cond (decide (a ≥ b)) (some (decide (a ≤ c))) (some false)
@[irreducible] def Nh (a b c : Int) : Option (Bool) :=
  N52 a b c
def N53 (a : List Int) : Option (Int ⊕ Bool) :=
  (Nh (((List.length a : Nat) : Int)) 1 8).bind fun (b : Bool) => cond (!b) (some (Sum.inr false)) (some (Sum.inl (((List.length a : Nat) : Int))))
def N60 : Option (Unit) :=
  some ()
def N49 (a b c : Int) : Option (Unit ⊕ Int) :=
  cond (decide (c < a)) (some (Sum.inl ())) (some (Sum.inr b))
def N4z (a : List Int) (b c d : Int) : Option ((Int × Int) ⊕ Bool) :=
  (idx a d).bind fun (g : Int) => (Nh g 0 b).bind fun (i : Bool) => cond (!i) (some (Sum.inr false)) ((idx a d).bind fun (j : Int) => cond (j == (IntKind.wrap .i64 (d + 1))) (some (Sum.inr false)) ((idx a d).bind fun (k : Int) => cond (k == 0) (some (Sum.inl ((IntKind.wrap .i64 (c + 1)),(IntKind.wrap .i64 (d + 1))))) (some (Sum.inl (c,(IntKind.wrap .i64 (d + 1)))))))
def N7j : Option (Unit) :=
  some ()
def N3u (a : List Int) (b c d : Int) : Option ((Int × Int) ⊕ Bool ⊕ Int) :=
  cond (decide (c > 0)) (cond (decide (d < b)) ((idx a (IntKind.wrap .i64 (c - 1))).bind fun (g : Int) => (Nh g 0 b).bind fun (i : Bool) => cond (!i) (some (Sum.inr (Sum.inl false))) (some (Sum.inl (g,(IntKind.wrap .i64 (d + 1)))))) (some (Sum.inr (Sum.inr c)))) (some (Sum.inr (Sum.inr c)))
def Nc5 (a : List Int) (b c : Int) : Option (Bool ⊕ Int) :=
  nloop (fun (s : Int × Int) => ((N3u a b s.1 s.2).map (Sum.elim (fun (t : Int × Int) => Sum.inl (t.1,t.2)) (Sum.elim (fun (t : Bool) => Sum.inr (Sum.inl t)) (fun (t : Int) => Sum.inr (Sum.inr t)))) : Option ((Int × Int) ⊕ (Bool ⊕ Int)))) LL (c,0)
def Nhh (a : List Int) (b c : Int) : Option (Int ⊕ Bool) :=
  (Nc5 a b c).map (Sum.elim (fun (t : Bool) => (Sum.inr t)) (fun (t : Int) => (Sum.inl t)))
def Ne9 (a : List Int) (b c : Int) : Option (Int ⊕ Bool) :=
  (N7j).bind (fun (t : Unit) => Nhh a b c)
def N5o (a : Int) : Option (Unit ⊕ Bool) :=
  cond (decide (a > 0)) (some (Sum.inr false)) (some (Sum.inl ()))
def Nfn (a : List Int) (b c : Int) : Option (Unit ⊕ Bool) :=
  (Ne9 a b c).bind (Sum.elim (fun (t : Int) => N5o t) (fun e => some ((fun (t : Bool) => (Sum.inr t)) e)))
def Nhe (a : List Int) (b c d : Int) : Option (Int ⊕ Bool) :=
  (N4z a b c d).bind (Sum.elim (fun (t : Int × Int) => (Nfn a b t.2).map (Sum.elim (fun (u : Unit) => (Sum.inl t.1)) (fun (u : Bool) => (Sum.inr u)))) (fun e => some ((fun (t : Bool) => (Sum.inr t)) e)))
def Nez (a : List Int) (b c d : Int) : Option (Int ⊕ Bool) :=
  (Nhe a b c d).map (Sum.elim (fun (t : Int) => (Sum.inl t)) (fun (t : Bool) => (Sum.inr t)))
def N6n (a : Int) : Option (Int) :=
  some (IntKind.wrap .i64 (a + 1))
def Ngp (a : List Int) (b c d : Int) : Option ((Int × Int) ⊕ Bool) :=
  (Nez a b c d).bind (Sum.elim (fun (t : Int) => (N6n d).map (fun (u : Int) => (Sum.inl (t,u)))) (fun e => some ((fun (t : Bool) => (Sum.inr t)) e)))
def N7b (a : List Int) (b c d : Int) : Option ((Int × Int) ⊕ Bool ⊕ Int) :=
  (N49 b c d).bind (Sum.elim (fun (t : Unit) => (Ngp a b c d).map (Sum.elim (fun (t : Int × Int) => (Sum.inl (t.1,t.2))) (fun (t : Bool) => (Sum.inr (Sum.inl t))))) (fun e => some ((fun (t : Int) => (Sum.inr (Sum.inr t))) e)))
def Nh5 (a : List Int) (b : Int) : Option (Bool ⊕ Int) :=
  nloop (fun (s : Int × Int) => ((N7b a b s.1 s.2).map (Sum.elim (fun (t : Int × Int) => Sum.inl (t.1,t.2)) (Sum.elim (fun (t : Bool) => Sum.inr (Sum.inl t)) (fun (t : Int) => Sum.inr (Sum.inr t)))) : Option ((Int × Int) ⊕ (Bool ⊕ Int)))) LL (0,0)
def Nfc (a : List Int) (b : Int) : Option (Int ⊕ Bool) :=
  (Nh5 a b).map (Sum.elim (fun (t : Bool) => (Sum.inr t)) (fun (t : Int) => (Sum.inl t)))
def Ngr (a : List Int) (b : Int) : Option (Int ⊕ Bool) :=
  (N60).bind (fun (t : Unit) => Nfc a b)
def N6q (a : Int) : Option (Bool) :=
  some (a == 1)
def Ngx (a : List Int) (b : Int) : Option (Bool) :=
  (Ngr a b).bind (Sum.elim (fun (t : Int) => N6q t) (fun e => some ((fun (t : Bool) => t) e)))
def Nfx (a : List Int) : Option (Bool) :=
  (N53 a).bind (Sum.elim (fun (t : Int) => Ngx a t) (fun e => some ((fun (t : Bool) => t) e)))
@[irreducible] def N5 (a : List Int) : Option (Bool) :=
  Nfx a
def N75 : Option (Unit) :=
  some ()
def N5s : Option (Unit) :=
  some ()
def N7i (a : List Int) (b : Int) : Option (Unit ⊕ Unit) :=
  cond (decide (b < (((List.length a : Nat) : Int)))) (some (Sum.inl ())) (some (Sum.inr ()))
def N6g (a : List Int) (b c : Int) : Option (Unit ⊕ Bool) :=
  (idx a c).bind fun (d : Int) => (Nh d 1 b).bind fun (g : Bool) => cond (!g) (some (Sum.inr false)) (some (Sum.inl ()))
def N43 (a : List Int) (b c : Int) : Option (Int ⊕ Bool ⊕ Unit) :=
  cond (decide (c < b)) ((idx a c).bind fun (d : Int) => (idx a b).bind fun (g : Int) => cond (d == g) (some (Sum.inr (Sum.inl false))) (some (Sum.inl (IntKind.wrap .i64 (c + 1))))) (some (Sum.inr (Sum.inr ())))
def N8t (a : List Int) (b : Int) : Option (Bool ⊕ Unit) :=
  nloop (fun (s : Int) => ((N43 a b s).map (Sum.elim (fun (t : Int) => Sum.inl t) (Sum.elim (fun (t : Bool) => Sum.inr (Sum.inl t)) (fun (t : Unit) => Sum.inr (Sum.inr t)))) : Option ((Int) ⊕ (Bool ⊕ Unit)))) LL 0
def Ng6 (a : List Int) (b : Int) : Option (Unit ⊕ Bool) :=
  (N8t a b).map (Sum.elim (fun (t : Bool) => (Sum.inr t)) (fun (t : Unit) => (Sum.inl ())))
def Nh3 (a : List Int) (b c : Int) : Option (Unit ⊕ Bool) :=
  (N6g a b c).bind (Sum.elim (fun (t : Unit) => Ng6 a c) (fun e => some ((fun (t : Bool) => (Sum.inr t)) e)))
def Nfg (a : List Int) (b c : Int) : Option (Unit ⊕ Bool) :=
  (Nh3 a b c).map (Sum.elim (fun (t : Unit) => (Sum.inl ())) (fun (t : Bool) => (Sum.inr t)))
def N7m (a : Int) : Option (Int) :=
  some (IntKind.wrap .i64 (a + 1))
def Nfs (a : List Int) (b c : Int) : Option (Int ⊕ Bool) :=
  (Nfg a b c).bind (Sum.elim (fun (t : Unit) => (N7m c).map (fun (t : Int) => (Sum.inl t))) (fun e => some ((fun (t : Bool) => (Sum.inr t)) e)))
def Nd7 (a : List Int) (b c : Int) : Option (Int ⊕ Bool ⊕ Unit) :=
  (N7i a c).bind (Sum.elim (fun (t : Unit) => (Nfs a b c).map (Sum.elim (fun (t : Int) => (Sum.inl t)) (fun (t : Bool) => (Sum.inr (Sum.inl t))))) (fun e => some ((fun (t : Unit) => (Sum.inr (Sum.inr t))) e)))
def Nh2 (a : List Int) (b : Int) : Option (Bool ⊕ Unit) :=
  nloop (fun (s : Int) => ((Nd7 a b s).map (Sum.elim (fun (t : Int) => Sum.inl t) (Sum.elim (fun (t : Bool) => Sum.inr (Sum.inl t)) (fun (t : Unit) => Sum.inr (Sum.inr t)))) : Option ((Int) ⊕ (Bool ⊕ Unit)))) LL 0
def Ngs (a : List Int) (b : Int) : Option (Unit ⊕ Bool) :=
  (Nh2 a b).map (Sum.elim (fun (t : Bool) => (Sum.inr t)) (fun (t : Unit) => (Sum.inl ())))
def Ngk (a : List Int) (b : Int) : Option (Unit ⊕ Bool) :=
  (N5s).bind (fun (t : Unit) => Ngs a b)
def N5j (a : List Int) (b : Int) : Option (Bool) :=
  (Nh b 1 8).bind fun (c : Bool) => cond c (some ((((List.length a : Nat) : Int)) == b)) (some false)
def Ngv (a : List Int) (b : Int) : Option (Bool) :=
  (Ngk a b).bind (Sum.elim (fun (t : Unit) => N5j a b) (fun e => some ((fun (t : Bool) => t) e)))
def Nfu (a : List Int) (b : Int) : Option (Bool) :=
  (N75).bind (fun (t : Unit) => Ngv a b)
@[irreducible] def N2n (a : List Int) (b : Int) : Option (Bool) :=
  Nfu a b
def N6e (a b : List Int) : Option (((List Int)) ⊕ (Bool × (List Int))) :=
  (N5 a).bind fun (c : Bool) => cond (!c) (some (Sum.inr (false,([] : List Int)))) ((N2n b (((List.length a : Nat) : Int))).bind fun (d : Bool) => cond (!d) (some (Sum.inr (false,([] : List Int)))) ((mk (IntKind.wrap .i64 ((((List.length a : Nat) : Int)) + 1)) (IntKind.wrap .i64 ((((List.length a : Nat) : Int)) + 1))).bind fun (g : Nat) => some (Sum.inl (List.replicate g (0 : Int)))))
def N4p : Option (Unit) :=
  some ()
def N4n (a : List Int) (b : Int) (c : List Int) : Option ((Int × (List Int)) ⊕ ((List Int))) :=
  cond (decide (b < (((List.length a : Nat) : Int)))) ((idx a b).bind fun (d : Int) => (inb d (List.length c)).bind fun (g : Nat) => some (Sum.inl ((IntKind.wrap .i64 (b + 1)),(c.set g (IntKind.wrap .i64 (b + 1)))))) (some (Sum.inr c))
def Nfe (a b : List Int) : Option (((List Int))) :=
  nloop (fun (s : Int × (List Int)) => ((N4n a s.1 s.2).map (Sum.elim (fun (t : Int × (List Int)) => Sum.inl (t.1,t.2)) (fun (t : (List Int)) => Sum.inr t)) : Option ((Int × (List Int)) ⊕ (((List Int)))))) LL (0,b)
def Ng4 (a b : List Int) : Option (((List Int))) :=
  (Nfe a b).map (fun (t : (List Int)) => t)
def Nei (a b : List Int) : Option (((List Int))) :=
  (N4p).bind (fun (t : Unit) => Ng4 a b)
def N57 : Option (Unit) :=
  some ()
def N5i : Option (Unit) :=
  some ()
def N40 (a b : List Int) (c : Int) (d g : List Int) : Option ((Int × (List Int)) ⊕ ((List Int))) :=
  cond (decide (c < (((List.length b : Nat) : Int)))) ((idx b c).bind fun (i : Int) => (idx a (IntKind.wrap .i64 (i - 1))).bind fun (j : Int) => (inb j (List.length d)).bind fun (k : Nat) => (d[k]?).bind fun (l : Int) => (room ((List.length g) + List.length ([l]))).bind fun (m : Unit) => some (Sum.inl ((IntKind.wrap .i64 (c + 1)),(g ++ ([l]))))) (some (Sum.inr g))
def Nfa (a b c : List Int) : Option (((List Int))) :=
  nloop (fun (s : Int × (List Int)) => ((N40 a b s.1 c s.2).map (Sum.elim (fun (t : Int × (List Int)) => Sum.inl (t.1,t.2)) (fun (t : (List Int)) => Sum.inr t)) : Option ((Int × (List Int)) ⊕ (((List Int)))))) LL (0,([] : List Int))
def Nh6 (a b c : List Int) : Option (((List Int))) :=
  (Nfa a b c).map (fun (t : (List Int)) => t)
def Nf0 (a b c : List Int) : Option (((List Int))) :=
  (N5i).bind (fun (t : Unit) => Nh6 a b c)
def N7e (a : List Int) : Option ((Bool × (List Int))) :=
  some (true,a)
def Nhs (a b c : List Int) : Option ((Bool × (List Int))) :=
  (Nf0 a b c).bind (fun (t : (List Int)) => N7e t)
def Nfy (a b c : List Int) : Option ((Bool × (List Int))) :=
  (N57).bind (fun (t : Unit) => Nhs a b c)
def Nff (a b c : List Int) : Option ((Bool × (List Int))) :=
  (Nei b c).bind (fun (t : (List Int)) => Nfy a b t)
def Nec (a b : List Int) : Option ((Bool × (List Int))) :=
  (N6e a b).bind (Sum.elim (fun (t : (List Int)) => Nff a b t) (fun e => some ((fun (t : Bool × (List Int)) => t) e)))
@[irreducible] def N2f (a b : List Int) : Option (Bool × (List Int)) :=
  Nec a b
def N6h (R0 : Int → Int → Int → (List Int) → Int → (List Int) → Option (Int × (List Int))) (a b c : Int) (d : List Int) (g : Int) (i : List Int) : Option ((Int × Int × (List Int)) ⊕ (Int × (List Int))) :=
  cond (decide (a > b)) (some (Sum.inr (g,i))) ((N0 (IntKind.wrap .i64 ((IntKind.wrap .i64 (b - a)) + 1)) d g).bind fun (j : Int × Int) => (inb (IntKind.wrap .i64 ((IntKind.wrap .i64 (a + (j.1))) - 1)) (List.length i)).bind fun (k : Nat) => some (Sum.inl ((IntKind.wrap .i64 (a + (j.1))),(j.2),(i.set k c))))
def N4d (R0 : Int → Int → Int → (List Int) → Int → (List Int) → Option (Int × (List Int))) (a b : Int) (c : List Int) (d : Int) (g : List Int) : Option ((Int × Int × (List Int)) ⊕ (Int × (List Int))) :=
  cond (decide (b < a)) ((N0 (IntKind.wrap .i64 (a - b)) c d).bind fun (i : Int × Int) => (R0 b (IntKind.wrap .i64 (b + (i.1))) a c (i.2) g).bind fun (j : Int × (List Int)) => some (Sum.inl ((IntKind.wrap .i64 ((IntKind.wrap .i64 (b + (i.1))) + 1)),(j.1),(j.2)))) (some (Sum.inr (d,g)))
def Nhq (R0 : Int → Int → Int → (List Int) → Int → (List Int) → Option (Int × (List Int))) (a b : Int) (c : List Int) (d : Int) (g : List Int) : Option ((Int × (List Int))) :=
  nloop (fun (s : Int × Int × (List Int)) => ((N4d R0 a s.1 c s.2.1 s.2.2).map (Sum.elim (fun (t : Int × Int × (List Int)) => Sum.inl (t.1,t.2.1,t.2.2)) (fun (t : Int × (List Int)) => Sum.inr t)) : Option ((Int × Int × (List Int)) ⊕ ((Int × (List Int)))))) LL (b,d,g)
def Nem (R0 : Int → Int → Int → (List Int) → Int → (List Int) → Option (Int × (List Int))) (a b : Int) (c : List Int) (d : Int) (g : List Int) : Option ((Int × (List Int))) :=
  (Nhq R0 a b c d g).map (fun (t : Int × (List Int)) => (t.1,t.2))
def N7p (R0 : Int → Int → Int → (List Int) → Int → (List Int) → Option (Int × (List Int))) (a : Int) : Option (Int) :=
  some (IntKind.wrap .i64 (a + 1))
def N45 (R0 : Int → Int → Int → (List Int) → Int → (List Int) → Option (Int × (List Int))) (a b c : Int) (d : List Int) (g : Int) (i : List Int) : Option ((Int × Int × (List Int)) ⊕ (Int × (List Int))) :=
  cond (decide (c ≤ a)) ((N0 (IntKind.wrap .i64 ((IntKind.wrap .i64 (a - c)) + 1)) d g).bind fun (j : Int × Int) => (R0 c (IntKind.wrap .i64 (c + (j.1))) b d (j.2) i).bind fun (k : Int × (List Int)) => some (Sum.inl ((IntKind.wrap .i64 ((IntKind.wrap .i64 (c + (j.1))) + 1)),(k.1),(k.2)))) (some (Sum.inr (g,i)))
def Neh (R0 : Int → Int → Int → (List Int) → Int → (List Int) → Option (Int × (List Int))) (a b c : Int) (d : List Int) (g : Int) (i : List Int) : Option ((Int × (List Int))) :=
  nloop (fun (s : Int × Int × (List Int)) => ((N45 R0 a b s.1 d s.2.1 s.2.2).map (Sum.elim (fun (t : Int × Int × (List Int)) => Sum.inl (t.1,t.2.1,t.2.2)) (fun (t : Int × (List Int)) => Sum.inr t)) : Option ((Int × Int × (List Int)) ⊕ ((Int × (List Int)))))) LL (c,g,i)
def Nee (R0 : Int → Int → Int → (List Int) → Int → (List Int) → Option (Int × (List Int))) (a b c : Int) (d : List Int) (g : Int) (i : List Int) : Option ((Int × (List Int))) :=
  (Neh R0 a b c d g i).map (fun (t : Int × (List Int)) => (t.1,t.2))
def Nfb (R0 : Int → Int → Int → (List Int) → Int → (List Int) → Option (Int × (List Int))) (a b : Int) (c : List Int) (d : Int) (g : List Int) : Option ((Int × (List Int))) :=
  (N7p R0 b).bind (fun (t : Int) => Nee R0 a b t c d g)
def Nhd (R0 : Int → Int → Int → (List Int) → Int → (List Int) → Option (Int × (List Int))) (a b c : Int) (d : List Int) (g : Int) (i : List Int) : Option ((Int × (List Int))) :=
  (Nem R0 b c d g i).bind (fun (t : Int × (List Int)) => Nfb R0 a b d t.1 t.2)
def Nge (R0 : Int → Int → Int → (List Int) → Int → (List Int) → Option (Int × (List Int))) (a b c : Int) (d : List Int) (g : Int) (i : List Int) : Option ((Int × (List Int)) ⊕ (Int × (List Int))) :=
  (N6h R0 a b c d g i).bind (Sum.elim (fun (t : Int × Int × (List Int)) => (Nhd R0 b t.1 a d t.2.1 t.2.2).map (fun (u : Int × (List Int)) => (Sum.inl (u.1,u.2)))) (fun e => some ((fun (t : Int × (List Int)) => (Sum.inr t)) e)))
def Ned (R0 : Int → Int → Int → (List Int) → Int → (List Int) → Option (Int × (List Int))) (a b c : Int) (d : List Int) (g : Int) (i : List Int) : Option (Int × (List Int)) :=
  (Nge R0 a b c d g i).map (Sum.elim (fun (t : Int × (List Int)) => (t.1,t.2)) (fun (t : Int × (List Int)) => t))
def N2g : Nat → (Int → Int → Int → (List Int) → Int → (List Int) → Option (Int × (List Int)))
  | 0 => (fun _ _ _ _ _ _ => none)
  | n + 1 => (fun y0 y1 y2 y3 y4 y5 => Ned (N2g n) y0 y1 y2 y3 y4 y5)
def N1c (n : Nat) : Int → Int → Int → (List Int) → Int → (List Int) → Option (Int × (List Int)) := (N2g n)
@[irreducible] def N4h (a b c : Int) (d : List Int) (g : Int) (i : List Int) : Option (Int × (List Int)) := N1c RR a b c d g i
def N42 (a : Int) (b : List Int) (c : Int) : Option ((Int × (List Int))) :=
  (N0 3 b c).bind fun (d : Int × Int) => cond ((d.1) == 0) ((N25 a b (d.2)).bind fun (g : Int × (List Int)) => some ((g.1),(g.2))) ((N0 7 b (d.2)).bind fun (i : Int × Int) => (mk (IntKind.wrap .i64 (1 + (i.1))) (IntKind.wrap .i64 (1 + (i.1)))).bind fun (j : Nat) => (N4h 1 (IntKind.wrap .i64 (1 + (i.1))) 0 b (i.2) (List.replicate j (0 : Int))).bind fun (k : Int × (List Int)) => some ((k.1),(k.2)))
@[irreducible] def Ny (a : Int) (b : List Int) (c : Int) : Option (Int × (List Int)) :=
  N42 a b c
def N41 (a : Int) (b : List Int) (c : Int) : Option ((Int × (List Int))) :=
  (N25 a b c).bind fun (d : Int × (List Int)) => (N0 2 b (d.1)).bind fun (g : Int × Int) => cond ((g.1) == 0) ((N5 (d.2)).bind fun (i : Bool) => cond i ((N2e (((List.length (d.2) : Nat) : Int)) b (g.2)).bind fun (j : Int × (List Int)) => (N2f (d.2) (j.2)).bind fun (k : Bool × (List Int)) => some ((j.1),(k.2))) ((N0 3 b (g.2)).bind fun (l : Int × Int) => cond ((l.1) == 0) ((Ny a b (l.2)).bind fun (m : Int × (List Int)) => some ((m.1),(m.2))) (some ((l.2),(d.2))))) ((N0 3 b (g.2)).bind fun (o : Int × Int) => cond ((o.1) == 0) ((Ny a b (o.2)).bind fun (p : Int × (List Int)) => some ((p.1),(p.2))) (some ((o.2),(d.2))))
@[irreducible] def N28 (a : Int) (b : List Int) (c : Int) : Option (Int × (List Int)) :=
  N41 a b c
def N48 (a : List Int) : Option ((Bool × (List Int))) :=
  (N5 a).bind fun (b : Bool) => cond (!b) (some (false,([] : List Int))) ((room ((List.length ([] : List Int)) + List.length a)).bind fun (c : Unit) => some (true,(([] : List Int) ++ a)))
@[irreducible] def N21 (a : List Int) : Option (Bool × (List Int)) :=
  N48 a
def N44 (a b : List Int) (c : Int) : Option ((Int × Int × Int × Int)) :=
  (N0 8 b c).bind fun (d : Int × Int) => (idx ([0,0,1,1,2,3,4,5]) (d.1)).bind fun (g : Int) => (N0 60 b (d.2)).bind fun (i : Int × Int) => (quo .i64 (i.1) 59).bind fun (j : Int) => cond ((IntKind.wrap .i64 (g + (IntKind.wrap .i64 (j * 6)))) == 0) ((N0 (imax (((List.length a : Nat) : Int)) 1) b (i.2)).bind fun (k : Int × Int) => (N0 (IntKind.wrap .i64 ((((List.length a : Nat) : Int)) + 1)) b (k.2)).bind fun (l : Int × Int) => (Nd 40 b (l.2)).bind fun (m : Bool × Int) => cond (m.1) ((N0 3 b (m.2)).bind fun (o : Int × Int) => (inb (o.1) (List.length ([(-1),9,100]))).bind fun (p : Nat) => (([(-1),9,100])[p]?).bind fun (q : Int) => some ((o.2),(IntKind.wrap .i64 (g + (IntKind.wrap .i64 (j * 6)))),(IntKind.wrap .i64 (1 + (k.1))),q)) (some ((m.2),(IntKind.wrap .i64 (g + (IntKind.wrap .i64 (j * 6)))),(IntKind.wrap .i64 (1 + (k.1))),(l.1)))) (cond ((IntKind.wrap .i64 (g + (IntKind.wrap .i64 (j * 6)))) == 1) ((N0 (IntKind.wrap .i64 ((((List.length a : Nat) : Int)) + 1)) b (i.2)).bind fun (w : Int × Int) => (N0 9 b (w.2)).bind fun (y : Int × Int) => (quo .i64 (y.1) 8).bind fun (z : Int) => (Nd 40 b (y.2)).bind fun (a0 : Bool × Int) => cond (a0.1) ((N0 3 b (a0.2)).bind fun (a1 : Int × Int) => (inb (a1.1) (List.length ([(-1),9,100]))).bind fun (a2 : Nat) => (([(-1),9,100])[a2]?).bind fun (a3 : Int) => some ((a1.2),(IntKind.wrap .i64 (g + (IntKind.wrap .i64 (j * 6)))),(IntKind.wrap .i64 ((w.1) + z)),a3)) (some ((a0.2),(IntKind.wrap .i64 (g + (IntKind.wrap .i64 (j * 6)))),(IntKind.wrap .i64 ((w.1) + z)),0))) ((Nd 40 b (i.2)).bind fun (a4 : Bool × Int) => cond (a4.1) ((N0 3 b (a4.2)).bind fun (a5 : Int × Int) => (inb (a5.1) (List.length ([(-1),9,100]))).bind fun (a6 : Nat) => (([(-1),9,100])[a6]?).bind fun (a7 : Int) => some ((a5.2),(IntKind.wrap .i64 (g + (IntKind.wrap .i64 (j * 6)))),0,a7)) (some ((a4.2),(IntKind.wrap .i64 (g + (IntKind.wrap .i64 (j * 6)))),0,0))))
@[irreducible] def N16 (a b : List Int) (c : Int) : Option (Int × Int × Int × Int) :=
  N44 a b c
def N67 : Option (Unit) :=
  some ()
def N58 : Option (Unit) :=
  some ()
def N23 (a : Int) (b : List (List Int)) : Option (Int ⊕ Bool ⊕ Unit) :=
  cond (decide (a < (((List.length b : Nat) : Int)))) ((idx b a).bind fun (c : List Int) => (N5 c).bind fun (d : Bool) => cond (!d) (some (Sum.inr (Sum.inl false))) (some (Sum.inl (IntKind.wrap .i64 (a + 1))))) (some (Sum.inr (Sum.inr ())))
def Nev (a : List (List Int)) : Option (Bool ⊕ Unit) :=
  nloop (fun (s : Int) => ((N23 s a).map (Sum.elim (fun (t : Int) => Sum.inl t) (Sum.elim (fun (t : Bool) => Sum.inr (Sum.inl t)) (fun (t : Unit) => Sum.inr (Sum.inr t)))) : Option ((Int) ⊕ (Bool ⊕ Unit)))) LL 0
def Nf9 (a : List (List Int)) : Option (Unit ⊕ Bool) :=
  (Nev a).map (Sum.elim (fun (t : Bool) => (Sum.inr t)) (fun (t : Unit) => (Sum.inl ())))
def Nhi (a : List (List Int)) : Option (Unit ⊕ Bool) :=
  (N58).bind (fun (t : Unit) => Nf9 a)
def N5y (a : List Int) (b : List (List Int)) : Option (Bool) :=
  (N5 a).bind fun (c : Bool) => cond c (some (decide ((((List.length b : Nat) : Int)) ≤ 8))) (some false)
def Nex (a : List Int) (b : List (List Int)) : Option (Bool) :=
  (Nhi b).bind (Sum.elim (fun (t : Unit) => N5y a b) (fun e => some ((fun (t : Bool) => t) e)))
def N8w (a : List Int) (b : List (List Int)) : Option (Bool) :=
  (N67).bind (fun (t : Unit) => Nex a b)
@[irreducible] def Nn (a : List Int) (b : List (List Int)) : Option (Bool) :=
  N8w a b
def N5w (a : List Int) : Option (((List Int))) :=
  (room ((List.length ([] : List Int)) + List.length a)).bind fun (b : Unit) => some (([] : List Int) ++ a)
def N74 : Option (Unit) :=
  some ()
def N38 (a : Int) (b c : List (List Int)) : Option ((Int × (List (List Int))) ⊕ ((List (List Int)))) :=
  cond (decide (a < (((List.length b : Nat) : Int)))) ((idx b a).bind fun (d : List Int) => (room (List.length d)).bind fun (g : Unit) => (room (List.length c + 1)).bind fun (i : Unit) => some (Sum.inl ((IntKind.wrap .i64 (a + 1)),((c ++ [[]]).set (List.length c) d)))) (some (Sum.inr c))
def Nf8 (a : List (List Int)) : Option (((List (List Int)))) :=
  nloop (fun (s : Int × (List (List Int))) => ((N38 s.1 a s.2).map (Sum.elim (fun (t : Int × (List (List Int))) => Sum.inl (t.1,t.2)) (fun (t : (List (List Int))) => Sum.inr t)) : Option ((Int × (List (List Int))) ⊕ (((List (List Int))))))) LL (0,([] : List (List Int)))
def Ngb (a : List (List Int)) : Option (((List (List Int)))) :=
  (Nf8 a).map (fun (t : (List (List Int))) => t)
def Ngc (a : List (List Int)) : Option (((List (List Int)))) :=
  (N74).bind (fun (t : Unit) => Ngb a)
def N5u (a : List Int) (b : List (List Int)) : Option (((List Int) × (List (List Int)))) :=
  some (a,b)
def Ngq (a : List (List Int)) (b : List Int) : Option (((List Int) × (List (List Int)))) :=
  (Ngc a).bind (fun (t : (List (List Int))) => N5u b t)
def Ncc (a : List Int) (b : List (List Int)) : Option (((List Int) × (List (List Int)))) :=
  (N5w a).bind (fun (t : (List Int)) => Ngq b t)
@[irreducible] def N1u (a : List Int) (b : List (List Int)) : Option ((List Int) × (List (List Int))) :=
  Ncc a b
def N6p (a : List Int) : Option (Int) :=
  some (((List.length a : Nat) : Int))
def N4x (a : Int) : Option (Int) :=
  some (IntKind.wrap .i64 (a - 1))
def N1x (a : List Int) (b c : Int) (d : List Int) : Option ((Int × (List Int)) ⊕ ((List Int))) :=
  cond (decide (c ≥ 0)) ((N5 a).bind fun (g : Bool) => cond g ((idx a c).bind fun (i : Int) => cond (i == 0) ((room ((List.length d) + List.length ([0]))).bind fun (j : Unit) => some (Sum.inl ((IntKind.wrap .i64 (c - 1)),(d ++ ([0]))))) ((idx a c).bind fun (k : Int) => (room ((List.length d) + List.length ([(IntKind.wrap .i64 ((IntKind.wrap .i64 (b + 1)) - k))]))).bind fun (l : Unit) => some (Sum.inl ((IntKind.wrap .i64 (c - 1)),(d ++ ([(IntKind.wrap .i64 ((IntKind.wrap .i64 (b + 1)) - k))])))))) (some (Sum.inr d))) (some (Sum.inr d))
def Ng5 (a : List Int) (b c : Int) : Option (((List Int))) :=
  nloop (fun (s : Int × (List Int)) => ((N1x a b s.1 s.2).map (Sum.elim (fun (t : Int × (List Int)) => Sum.inl (t.1,t.2)) (fun (t : (List Int)) => Sum.inr t)) : Option ((Int × (List Int)) ⊕ (((List Int)))))) LL (c,([] : List Int))
def Nhr (a : List Int) (b c : Int) : Option (((List Int))) :=
  (Ng5 a b c).map (fun (t : (List Int)) => t)
def Ne8 (a : List Int) (b : Int) : Option (((List Int))) :=
  (N4x b).bind (fun (t : Int) => Nhr a b t)
def N6w (a : List Int) : Option (((List Int))) :=
  some a
def Neu (a : List Int) (b : Int) : Option (((List Int))) :=
  (Ne8 a b).bind (fun (t : (List Int)) => N6w t)
def Ne0 (a : List Int) : Option (((List Int))) :=
  (N6p a).bind (fun (t : Int) => Neu a t)
@[irreducible] def N1k (a : List Int) : Option ((List Int)) :=
  Ne0 a
def N50 : Option (Unit) :=
  some ()
def N4o : Option (Unit) :=
  some ()
def N2a (a : List Int) (b : Int) : Option (Int ⊕ Int ⊕ Unit) :=
  cond (decide (b < (((List.length a : Nat) : Int)))) ((N5 a).bind fun (c : Bool) => cond c ((idx a b).bind fun (d : Int) => cond (d == 0) (some (Sum.inr (Sum.inl (IntKind.wrap .i64 (b + 1))))) (some (Sum.inl (IntKind.wrap .i64 (b + 1))))) (some (Sum.inr (Sum.inr ())))) (some (Sum.inr (Sum.inr ())))
def Ng8 (a : List Int) : Option (Int ⊕ Unit) :=
  nloop (fun (s : Int) => ((N2a a s).map (Sum.elim (fun (t : Int) => Sum.inl t) (Sum.elim (fun (t : Int) => Sum.inr (Sum.inl t)) (fun (t : Unit) => Sum.inr (Sum.inr t)))) : Option ((Int) ⊕ (Int ⊕ Unit)))) LL 0
def Nf3 (a : List Int) : Option (Unit ⊕ Int) :=
  (Ng8 a).map (Sum.elim (fun (t : Int) => (Sum.inr t)) (fun (t : Unit) => (Sum.inl ())))
def Nfr (a : List Int) : Option (Unit ⊕ Int) :=
  (N4o).bind (fun (t : Unit) => Nf3 a)
def N59 : Option (Int) :=
  some (-1)
def Nhj (a : List Int) : Option (Int) :=
  (Nfr a).bind (Sum.elim (fun (t : Unit) => N59) (fun e => some ((fun (t : Int) => t) e)))
def Ngy (a : List Int) : Option (Int) :=
  (N50).bind (fun (t : Unit) => Nhj a)
@[irreducible] def N3o (a : List Int) : Option (Int) :=
  Ngy a
def N4m (R0 : (List Int) → Int → Option ((List Int))) : Option (Unit) :=
  some ()
def N5n (R0 : (List Int) → Int → Option ((List Int))) : Option (Unit) :=
  some ()
def N2o (R0 : (List Int) → Int → Option ((List Int))) (a : List Int) (b c : Int) (d : List Int) : Option ((Int × (List Int)) ⊕ ((List Int))) :=
  cond (decide (c < b)) ((idx a (IntKind.wrap .i64 (c - 1))).bind fun (g : Int) => cond (g == b) ((R0 a c).bind fun (i : List Int) => (room ((List.length d) + List.length i)).bind fun (j : Unit) => some (Sum.inl ((IntKind.wrap .i64 (c + 1)),(d ++ i)))) (some (Sum.inl ((IntKind.wrap .i64 (c + 1)),d)))) (some (Sum.inr d))
def Ngd (R0 : (List Int) → Int → Option ((List Int))) (a : List Int) (b : Int) : Option (((List Int))) :=
  nloop (fun (s : Int × (List Int)) => ((N2o R0 a b s.1 s.2).map (Sum.elim (fun (t : Int × (List Int)) => Sum.inl (t.1,t.2)) (fun (t : (List Int)) => Sum.inr t)) : Option ((Int × (List Int)) ⊕ (((List Int)))))) LL (1,([] : List Int))
def Nh0 (R0 : (List Int) → Int → Option ((List Int))) (a : List Int) (b : Int) : Option (((List Int))) :=
  (Ngd R0 a b).map (fun (t : (List Int)) => t)
def Ner (R0 : (List Int) → Int → Option ((List Int))) (a : List Int) (b : Int) : Option (((List Int))) :=
  (N5n R0).bind (fun (t : Unit) => Nh0 R0 a b)
def N5m (R0 : (List Int) → Int → Option ((List Int))) (a : Int) (b : List Int) : Option (((List Int))) :=
  (room ((List.length b) + List.length ([a]))).bind fun (c : Unit) => some (b ++ ([a]))
def N6d (R0 : (List Int) → Int → Option ((List Int))) (a : Int) : Option (Int) :=
  some (IntKind.wrap .i64 (a + 1))
def N39 (R0 : (List Int) → Int → Option ((List Int))) (a : List Int) (b c : Int) (d : List Int) : Option ((Int × (List Int)) ⊕ ((List Int))) :=
  cond (decide (c ≤ (((List.length a : Nat) : Int)))) ((idx a (IntKind.wrap .i64 (c - 1))).bind fun (g : Int) => cond (g == b) ((R0 a c).bind fun (i : List Int) => (room ((List.length d) + List.length i)).bind fun (j : Unit) => some (Sum.inl ((IntKind.wrap .i64 (c + 1)),(d ++ i)))) (some (Sum.inl ((IntKind.wrap .i64 (c + 1)),d)))) (some (Sum.inr d))
def Nf5 (R0 : (List Int) → Int → Option ((List Int))) (a : List Int) (b c : Int) (d : List Int) : Option (((List Int))) :=
  nloop (fun (s : Int × (List Int)) => ((N39 R0 a b s.1 s.2).map (Sum.elim (fun (t : Int × (List Int)) => Sum.inl (t.1,t.2)) (fun (t : (List Int)) => Sum.inr t)) : Option ((Int × (List Int)) ⊕ (((List Int)))))) LL (c,d)
def Nf4 (R0 : (List Int) → Int → Option ((List Int))) (a : List Int) (b c : Int) (d : List Int) : Option (((List Int))) :=
  (Nf5 R0 a b c d).map (fun (t : (List Int)) => t)
def Nf1 (R0 : (List Int) → Int → Option ((List Int))) (a : List Int) (b : Int) (c : List Int) : Option (((List Int))) :=
  (N6d R0 b).bind (fun (t : Int) => Nf4 R0 a b t c)
def N7v (R0 : (List Int) → Int → Option ((List Int))) (a : List Int) : Option (((List Int))) :=
  some a
def Nef (R0 : (List Int) → Int → Option ((List Int))) (a : List Int) (b : Int) (c : List Int) : Option (((List Int))) :=
  (Nf1 R0 a b c).bind (fun (t : (List Int)) => N7v R0 t)
def Nf6 (R0 : (List Int) → Int → Option ((List Int))) (a : List Int) (b : Int) (c : List Int) : Option (((List Int))) :=
  (N5m R0 b c).bind (fun (t : (List Int)) => Nef R0 a b t)
def Nga (R0 : (List Int) → Int → Option ((List Int))) (a : List Int) (b : Int) : Option (((List Int))) :=
  (Ner R0 a b).bind (fun (t : (List Int)) => Nf6 R0 a b t)
def Ngf (R0 : (List Int) → Int → Option ((List Int))) (a : List Int) (b : Int) : Option (((List Int))) :=
  (N4m R0).bind (fun (t : Unit) => Nga R0 a b)
def Nad (R0 : (List Int) → Int → Option ((List Int))) (a : List Int) (b : Int) : Option ((List Int)) :=
  Ngf R0 a b
def N26 : Nat → ((List Int) → Int → Option ((List Int)))
  | 0 => (fun _ _ => none)
  | n + 1 => (fun y0 y1 => Nad (N26 n) y0 y1)
def N6 (n : Nat) : (List Int) → Int → Option ((List Int)) := (N26 n)
@[irreducible] def N4j (a : List Int) (b : Int) : Option ((List Int)) := N6 RR a b
def N4w (a : List Int) : Option (((List Int))) :=
  (N5 a).bind fun (b : Bool) => cond (!b) (some ([] : List Int)) ((N3o a).bind fun (c : Int) => (N4j a c).bind fun (d : List Int) => some d)
@[irreducible] def N3h (a : List Int) : Option ((List Int)) :=
  N4w a
def N5t (a : List Int) : Option (((List Int))) :=
  (N3h a).bind fun (b : List Int) => (N2f a b).bind fun (c : Bool × (List Int)) => some (c.2)
@[irreducible] def N1v (a : List Int) : Option ((List Int)) :=
  N5t a
def N3w (a : List Int) (b c d : Int) : Option ((Nat × (List Int))) :=
  (room ((List.length ([] : List Int)) + List.length a)).bind fun (g : Unit) => cond (b == 0) ((Nh c 1 (((List.length a : Nat) : Int))).bind fun (i : Bool) => cond i ((inb (IntKind.wrap .i64 (c - 1)) (List.length (([] : List Int) ++ a))).bind fun (j : Nat) => some ((List.length ((([] : List Int) ++ a).set j d)),((([] : List Int) ++ a).set j d))) (cond ((b == 1) && ((c == c) && ((d == 0) && true))) ((room ((List.length (([] : List Int) ++ a)) + List.length ([c]))).bind fun (k : Unit) => some ((List.length ((([] : List Int) ++ a) ++ ([c]))),((([] : List Int) ++ a) ++ ([c])))) (cond ((b == 2) && ((c == 0) && ((d == 0) && true))) ((inc (IntKind.wrap .i64 ((((List.length (([] : List Int) ++ a) : Nat) : Int)) - 1)) (List.length (([] : List Int) ++ a))).bind fun (l : Nat) => some ((l - 0),(([] : List Int) ++ a))) (cond ((b == 3) && ((c == 0) && ((d == 0) && true))) ((N1k a).bind fun (m : List Int) => some ((List.length m),m)) (cond ((b == 4) && ((c == 0) && ((d == 0) && true))) ((N1v a).bind fun (o : List Int) => some ((List.length o),o)) (some ((List.length ([] : List Int)),([] : List Int)))))))) (cond ((b == 1) && ((c == c) && ((d == 0) && true))) ((room ((List.length (([] : List Int) ++ a)) + List.length ([c]))).bind fun (p : Unit) => some ((List.length ((([] : List Int) ++ a) ++ ([c]))),((([] : List Int) ++ a) ++ ([c])))) (cond ((b == 2) && ((c == 0) && ((d == 0) && true))) ((inc (IntKind.wrap .i64 ((((List.length (([] : List Int) ++ a) : Nat) : Int)) - 1)) (List.length (([] : List Int) ++ a))).bind fun (q : Nat) => some ((q - 0),(([] : List Int) ++ a))) (cond ((b == 3) && ((c == 0) && ((d == 0) && true))) ((N1k a).bind fun (w : List Int) => some ((List.length w),w)) (cond ((b == 4) && ((c == 0) && ((d == 0) && true))) ((N1v a).bind fun (y : List Int) => some ((List.length y),y)) (some ((List.length ([] : List Int)),([] : List Int)))))))
@[irreducible] def N1o (a : List Int) (b c d : Int) : Option (Nat × (List Int)) :=
  N3w a b c d
def N77 (a : List Int) (b : List (List Int)) (c d g : Int) : Option ((Nat × Bool × (List Int) × (List Int) × (List (List Int))) ⊕ (Bool × (List Int) × (List (List Int)))) :=
  (Nn a b).bind fun (i : Bool) => cond (!i) (some (Sum.inr (false,([] : List Int),([] : List (List Int))))) ((N1u a b).bind fun (j : (List Int) × (List (List Int))) => cond ((c == 5) && ((d == 0) && ((g == 0) && true))) (cond (decide ((((List.length b : Nat) : Int)) > 0)) ((inb (IntKind.wrap .i64 ((((List.length (j.2) : Nat) : Int)) - 1)) (List.length (j.2))).bind fun (k : Nat) => (((j.2))[k]?).bind fun (l : List Int) => (inc (IntKind.wrap .i64 ((((List.length (j.2) : Nat) : Int)) - 1)) (List.length (((j.2)).set k []))).bind fun (m : Nat) => (sure (Nat.blt k 0 || Nat.ble m k)).bind fun (o : Unit) => some (Sum.inr (true,l,(((((j.2)).set k []).take m).drop 0)))) ((N1o a c d g).bind fun (p : Nat × (List Int)) => some (Sum.inl ((p.1),(((((p.1) : Nat) : Int)) == (((List.length a : Nat) : Int))),(p.2),(j.1),(j.2))))) ((N1o a c d g).bind fun (q : Nat × (List Int)) => some (Sum.inl ((q.1),(((((q.1) : Nat) : Int)) == (((List.length a : Nat) : Int))),(q.2),(j.1),(j.2)))))
def N6r : Option (Unit) :=
  some ()
def N27 (a : Nat) (b : Bool) (c : Int) (d g : List Int) : Option ((Bool × Int) ⊕ Bool) :=
  cond (decide (c < (((a : Nat) : Int)))) (cond b ((inb c a).bind fun (i : Nat) => (g[(0 + i)]?).bind fun (j : Int) => (idx d c).bind fun (k : Int) => some (Sum.inl ((j == k),(IntKind.wrap .i64 (c + 1))))) (some (Sum.inr b))) (some (Sum.inr b))
def Nd0 (a : Nat) (b : Bool) (c d : List Int) : Option (Bool) :=
  nloop (fun (s : Bool × Int) => ((N27 a s.1 s.2 c d).map (Sum.elim (fun (t : Bool × Int) => Sum.inl (t.1,t.2)) (fun (t : Bool) => Sum.inr t)) : Option ((Bool × Int) ⊕ (Bool)))) LL (b,0)
def Nh9 (a : Nat) (b : Bool) (c d : List Int) : Option (Bool) :=
  (Nd0 a b c d).map (fun (t : Bool) => t)
def Nho (a : Nat) (b : Bool) (c d : List Int) : Option (Bool) :=
  (N6r).bind (fun (t : Unit) => Nh9 a b c d)
def N4r (a : Nat) (b : Bool) (c d : List Int) (g : List (List Int)) : Option ((Bool × (List Int) × (List (List Int)))) :=
  cond b (some (false,d,g)) ((N5 ((c.drop 0).take a)).bind fun (i : Bool) => cond (!i) (some (false,d,g)) ((room (List.length g + 1)).bind fun (j : Unit) => cond (decide ((((List.length ((g ++ [[]]).set (List.length g) d) : Nat) : Int)) > 8)) ((inc 1 (List.length ((g ++ [[]]).set (List.length g) d))).bind fun (k : Nat) => (room ((List.length ([] : List Int)) + List.length ((c.drop 0).take a))).bind fun (l : Unit) => some (true,(([] : List Int) ++ ((c.drop 0).take a)),((((g ++ [[]]).set (List.length g) d).take (List.length ((g ++ [[]]).set (List.length g) d))).drop k))) ((room ((List.length ([] : List Int)) + List.length ((c.drop 0).take a))).bind fun (m : Unit) => some (true,(([] : List Int) ++ ((c.drop 0).take a)),((g ++ [[]]).set (List.length g) d)))))
def N8u (a : Nat) (b : Bool) (c d g : List Int) (i : List (List Int)) : Option ((Bool × (List Int) × (List (List Int)))) :=
  (Nho a b c d).bind (fun (t : Bool) => N4r a t d g i)
def N89 (a : List Int) (b : List (List Int)) (c d g : Int) : Option ((Bool × (List Int) × (List (List Int)))) :=
  (N77 a b c d g).bind (Sum.elim (fun (t : Nat × Bool × (List Int) × (List Int) × (List (List Int))) => N8u t.1 t.2.1 a t.2.2.1 t.2.2.2.1 t.2.2.2.2) (fun e => some ((fun (t : Bool × (List Int) × (List (List Int))) => t) e)))
@[irreducible] def N1t (a : List Int) (b : List (List Int)) (c d g : Int) : Option (Bool × (List Int) × (List (List Int))) :=
  N89 a b c d g
def N7o (a : List Int) (b : Int) : Option ((Int × (List Int))) :=
  (N28 0 a b).bind fun (c : Int × (List Int)) => (N21 (c.2)).bind fun (d : Bool × (List Int)) => some ((c.1),(d.2))
def N7k (a : List Int) (b : Int) : Option ((Int × Int)) :=
  (N0 6 a b).bind fun (c : Int × Int) => some ((c.1),(c.2))
def N4c (a : Int) (b : List Int) (c : Int) (d : List Int) (g : List (List Int)) : Option ((Int × Int × (List Int) × (List (List Int))) ⊕ (Int × (List Int) × (List (List Int)))) :=
  cond (decide (a > 0)) ((N16 d b c).bind fun (i : Int × Int × Int × Int) => (N1t d g (i.2.1) (i.2.2.1) (i.2.2.2)).bind fun (j : Bool × (List Int) × (List (List Int))) => cond (j.1) (some (Sum.inl ((IntKind.wrap .i64 (a - 1)),(i.1),(j.2.1),(j.2.2)))) (some (Sum.inl ((IntKind.wrap .i64 (a - 1)),(i.1),d,g)))) (some (Sum.inr (c,d,g)))
def Nfj (a : Int) (b : List Int) (c : Int) (d : List Int) : Option ((Int × (List Int) × (List (List Int)))) :=
  nloop (fun (s : Int × Int × (List Int) × (List (List Int))) => ((N4c s.1 b s.2.1 s.2.2.1 s.2.2.2).map (Sum.elim (fun (t : Int × Int × (List Int) × (List (List Int))) => Sum.inl (t.1,t.2.1,t.2.2.1,t.2.2.2)) (fun (t : Int × (List Int) × (List (List Int))) => Sum.inr t)) : Option ((Int × Int × (List Int) × (List (List Int))) ⊕ ((Int × (List Int) × (List (List Int))))))) LL (a,c,d,([] : List (List Int)))
def Ngw (a : Int) (b : List Int) (c : Int) (d : List Int) : Option ((Int × (List Int) × (List (List Int)))) :=
  (Nfj a b c d).map (fun (t : Int × (List Int) × (List (List Int))) => (t.1,t.2.1,t.2.2))
def Ngg (a : List Int) (b : Int) (c : List Int) : Option ((Int × (List Int) × (List (List Int)))) :=
  (N7k a b).bind (fun (t : Int × Int) => Ngw t.1 a t.2 c)
def N5h (a : Int) (b : List Int) (c : Int) (d : List Int) (g : List (List Int)) : Option ((Int × (List Int) × (List (List Int)))) :=
  (Nd a b c).bind fun (i : Bool × Int) => cond (i.1) ((N0 3 b (i.2)).bind fun (j : Int × Int) => cond ((j.1) == 0) (some ((j.2),([1]),g)) (cond ((j.1) == 1) ((room (List.length g + 1)).bind fun (k : Unit) => some ((j.2),d,((g ++ [[]]).set (List.length g) ([] : List Int)))) (some ((j.2),([] : List Int),([] : List (List Int)))))) (some ((i.2),d,g))
def Nel (a : Int) (b : List Int) (c : Int) (d : List Int) : Option ((Int × (List Int) × (List (List Int)))) :=
  (Ngg b c d).bind (fun (t : Int × (List Int) × (List (List Int))) => N5h a b t.1 t.2.1 t.2.2)
def N8g (a : Int) (b : List Int) (c : Int) : Option ((Int × (List Int) × (List (List Int)))) :=
  (N7o b c).bind (fun (t : Int × (List Int)) => Nel a b t.1 t.2)
@[irreducible] def N22 (a : Int) (b : List Int) (c : Int) : Option (Int × (List Int) × (List (List Int))) :=
  N8g a b c
def N5b : Option (Unit) :=
  some ()
def N6y (a : List Int) : Option (Int) :=
  some (((List.length a : Nat) : Int))
def N31 (a : List Int) (b c d : Int) : Option ((Int × Int) ⊕ Bool ⊕ Int) :=
  cond (decide (d < c)) ((idx a d).bind fun (g : Int) => cond (decide (g < 0)) (some (Sum.inr (Sum.inl false))) (cond (decide (g > (((List.length a : Nat) : Int)))) (some (Sum.inr (Sum.inl false))) (cond (g == 0) (some (Sum.inl ((IntKind.wrap .i64 (b + 1)),(IntKind.wrap .i64 (d + 1))))) (some (Sum.inl (b,(IntKind.wrap .i64 (d + 1)))))))) (some (Sum.inr (Sum.inr b)))
def Nhn (a : List Int) (b : Int) : Option (Bool ⊕ Int) :=
  nloop (fun (s : Int × Int) => ((N31 a s.1 b s.2).map (Sum.elim (fun (t : Int × Int) => Sum.inl (t.1,t.2)) (Sum.elim (fun (t : Bool) => Sum.inr (Sum.inl t)) (fun (t : Int) => Sum.inr (Sum.inr t)))) : Option ((Int × Int) ⊕ (Bool ⊕ Int)))) LL (0,0)
def Ngz (a : List Int) (b : Int) : Option (Int ⊕ Bool) :=
  (Nhn a b).map (Sum.elim (fun (t : Bool) => (Sum.inr t)) (fun (t : Int) => (Sum.inl t)))
def Nfp (a : List Int) : Option (Int ⊕ Bool) :=
  (N6y a).bind (fun (t : Int) => Ngz a t)
def N6b (a : Int) : Option (Bool) :=
  some (a == 1)
def Nhl (a : List Int) : Option (Bool) :=
  (Nfp a).bind (Sum.elim (fun (t : Int) => N6b t) (fun e => some ((fun (t : Bool) => t) e)))
def Ng7 (a : List Int) : Option (Bool) :=
  (N5b).bind (fun (t : Unit) => Nhl a)
@[irreducible] def N2j (a : List Int) : Option (Bool) :=
  Ng7 a
def N6k (a : List Int) (b c : Int) : Option ((Bool × Int × Int)) :=
  (idx a (IntKind.wrap .i64 (b - 1))).bind fun (d : Int) => cond (d == 0) (some (false,b,c)) (some (true,d,(IntKind.wrap .i64 (c + 1))))
@[irreducible] def N2d (a : List Int) (b c : Int) : Option (Bool × Int × Int) :=
  N6k a b c
def N54 : Option (Unit) :=
  some ()
def N3t (a : List Int) (b c : Int) : Option ((Int × Int) ⊕ (Int × Bool) ⊕ (Int × Int)) :=
  (N2d a b c).bind fun (d : Bool × Int × Int) => cond (d.1) (cond (decide ((d.2.2) ≥ (((List.length a : Nat) : Int)))) (some (Sum.inr (Sum.inl (0,false)))) (some (Sum.inl ((d.2.1),(d.2.2))))) (some (Sum.inr (Sum.inr ((d.2.1),(d.2.2)))))
def Ng1 (a : List Int) (b : Int) : Option ((Int × Bool) ⊕ (Int × Int)) :=
  nloop (fun (s : Int × Int) => ((N3t a s.1 s.2).map (Sum.elim (fun (t : Int × Int) => Sum.inl (t.1,t.2)) (Sum.elim (fun (t : Int × Bool) => Sum.inr (Sum.inl t)) (fun (t : Int × Int) => Sum.inr (Sum.inr t)))) : Option ((Int × Int) ⊕ ((Int × Bool) ⊕ (Int × Int))))) LL (b,0)
def Nes (a : List Int) (b : Int) : Option ((Int × Int) ⊕ (Int × Bool)) :=
  (Ng1 a b).map (Sum.elim (fun (t : Int × Bool) => (Sum.inr t)) (fun (t : Int × Int) => (Sum.inl (t.1,t.2))))
def N7n (a : Int) : Option ((Int × Bool)) :=
  some (a,true)
def Nfi (a : List Int) (b : Int) : Option ((Int × Bool)) :=
  (Nes a b).bind (Sum.elim (fun (t : Int × Int) => N7n t.2) (fun e => some ((fun (t : Int × Bool) => t) e)))
def Ngm (a : List Int) (b : Int) : Option ((Int × Bool)) :=
  (N54).bind (fun (t : Unit) => Nfi a b)
@[irreducible] def N3g (a : List Int) (b : Int) : Option (Int × Bool) :=
  Ngm a b
def N6j (a : List Int) : Option (Unit ⊕ Bool) :=
  cond (decide ((((List.length a : Nat) : Int)) < 1)) (some (Sum.inr false)) (cond (decide ((((List.length a : Nat) : Int)) > 8)) (some (Sum.inr false)) ((N2j a).bind fun (b : Bool) => cond (!b) (some (Sum.inr false)) (some (Sum.inl ()))))
def N71 (a : List Int) : Option (Int) :=
  some (((List.length a : Nat) : Int))
def N2r (a : List Int) (b c : Int) : Option (Int ⊕ Bool ⊕ Unit) :=
  cond (decide (c < b)) ((N3g a (IntKind.wrap .i64 (c + 1))).bind fun (d : Int × Bool) => cond (!(d.2)) (some (Sum.inr (Sum.inl false))) (some (Sum.inl (IntKind.wrap .i64 (c + 1))))) (some (Sum.inr (Sum.inr ())))
def Nen (a : List Int) (b : Int) : Option (Bool ⊕ Unit) :=
  nloop (fun (s : Int) => ((N2r a b s).map (Sum.elim (fun (t : Int) => Sum.inl t) (Sum.elim (fun (t : Bool) => Sum.inr (Sum.inl t)) (fun (t : Unit) => Sum.inr (Sum.inr t)))) : Option ((Int) ⊕ (Bool ⊕ Unit)))) LL 0
def Ngj (a : List Int) (b : Int) : Option (Unit ⊕ Bool) :=
  (Nen a b).map (Sum.elim (fun (t : Bool) => (Sum.inr t)) (fun (t : Unit) => (Sum.inl ())))
def Ne7 (a : List Int) : Option (Unit ⊕ Bool) :=
  (N71 a).bind (fun (t : Int) => Ngj a t)
def N91 : Option (Bool) :=
  some true
def Nek (a : List Int) : Option (Bool) :=
  (Ne7 a).bind (Sum.elim (fun (t : Unit) => N91) (fun e => some ((fun (t : Bool) => t) e)))
def Nhp (a : List Int) : Option (Bool) :=
  (N6j a).bind (Sum.elim (fun (t : Unit) => Nek a) (fun e => some ((fun (t : Bool) => t) e)))
@[irreducible] def N4 (a : List Int) : Option (Bool) :=
  Nhp a
def N6a (a : List Int) (b : List (List Int)) : Option (Unit ⊕ Bool) :=
  (N4 a).bind fun (c : Bool) => cond (!c) (some (Sum.inr false)) (cond (decide ((((List.length b : Nat) : Int)) > 8)) (some (Sum.inr false)) (some (Sum.inl ())))
def N5p (a : List (List Int)) : Option (Int) :=
  some (((List.length a : Nat) : Int))
def N24 (a : List (List Int)) (b c : Int) : Option (Int ⊕ Bool ⊕ Unit) :=
  cond (decide (c < b)) ((idx a c).bind fun (d : List Int) => (N4 d).bind fun (g : Bool) => cond (!g) (some (Sum.inr (Sum.inl false))) (some (Sum.inl (IntKind.wrap .i64 (c + 1))))) (some (Sum.inr (Sum.inr ())))
def Nfh (a : List (List Int)) (b : Int) : Option (Bool ⊕ Unit) :=
  nloop (fun (s : Int) => ((N24 a b s).map (Sum.elim (fun (t : Int) => Sum.inl t) (Sum.elim (fun (t : Bool) => Sum.inr (Sum.inl t)) (fun (t : Unit) => Sum.inr (Sum.inr t)))) : Option ((Int) ⊕ (Bool ⊕ Unit)))) LL 0
def Nhb (a : List (List Int)) (b : Int) : Option (Unit ⊕ Bool) :=
  (Nfh a b).map (Sum.elim (fun (t : Bool) => (Sum.inr t)) (fun (t : Unit) => (Sum.inl ())))
def Ne6 (a : List (List Int)) : Option (Unit ⊕ Bool) :=
  (N5p a).bind (fun (t : Int) => Nhb a t)
def N86 : Option (Bool) :=
  some true
def Nfk (a : List (List Int)) : Option (Bool) :=
  (Ne6 a).bind (Sum.elim (fun (t : Unit) => N86) (fun e => some ((fun (t : Bool) => t) e)))
def Ndr (a : List Int) (b : List (List Int)) : Option (Bool) :=
  (N6a a b).bind (Sum.elim (fun (t : Unit) => Nfk b) (fun e => some ((fun (t : Bool) => t) e)))
@[irreducible] def Nj (a : List Int) (b : List (List Int)) : Option (Bool) :=
  Ndr a b
def Nch (a : Int) : Option (Int) :=
  cond (a == 0) (some 2) (cond (a == 1) (some 1) (some 0))
@[irreducible] def N6z (a : Int) : Option (Int) :=
  Nch a
def Nag (a b c : Int) : Option (Bool) :=
  (N6z a).bind fun (d : Int) => cond (decide (d > 0)) (cond (decide (d > 1)) (some true) (some (c == 0))) (cond (b == 0) (cond (decide (d > 1)) (some true) (some (c == 0))) (some false))
@[irreducible] def N5e (a b c : Int) : Option (Bool) :=
  Nag a b c
def N4b (x1 : List Int) : Option (List Int) := cloneD x1
def Ncl (a : List Int) : Option (((List Int))) :=
  (N4b a).bind fun (b : List Int) => some b
def Ndf (a : List (List Int)) : Option (Int) :=
  some (((List.length a : Nat) : Int))
def Nba (a : List (List Int)) (b c : Int) (d : List (List Int)) : Option ((Int × (List (List Int))) ⊕ ((List (List Int)))) :=
  cond (decide (c < b)) ((idx a c).bind fun (g : List Int) => (N4b g).bind fun (i : List Int) => (room (List.length d + 1)).bind fun (j : Unit) => some (Sum.inl ((IntKind.wrap .i64 (c + 1)),((d ++ [[]]).set (List.length d) i)))) (some (Sum.inr d))
def Nq8 (a : List (List Int)) (b : Int) : Option (((List (List Int)))) :=
  nloop (fun (s : Int × (List (List Int))) => ((Nba a b s.1 s.2).map (Sum.elim (fun (t : Int × (List (List Int))) => Sum.inl (t.1,t.2)) (fun (t : (List (List Int))) => Sum.inr t)) : Option ((Int × (List (List Int))) ⊕ (((List (List Int))))))) LL (0,([] : List (List Int)))
def Np6 (a : List (List Int)) (b : Int) : Option (((List (List Int)))) :=
  (Nq8 a b).map (fun (t : (List (List Int))) => t)
def Nni (a : List (List Int)) : Option (((List (List Int)))) :=
  (Ndf a).bind (fun (t : Int) => Np6 a t)
def Nb0 (a : List Int) (b : List (List Int)) : Option (((List Int) × (List (List Int)))) :=
  some (a,b)
def Nme (a : List (List Int)) (b : List Int) : Option (((List Int) × (List (List Int)))) :=
  (Nni a).bind (fun (t : (List (List Int))) => Nb0 b t)
def Nvl (a : List Int) (b : List (List Int)) : Option (((List Int) × (List (List Int)))) :=
  (Ncl a).bind (fun (t : (List Int)) => Nme b t)
@[irreducible] def Nq (a : List Int) (b : List (List Int)) : Option ((List Int) × (List (List Int))) :=
  Nvl a b
def Naw (a : List Int) (b : List (List Int)) : Option ((Bool × (List Int) × (List (List Int)))) :=
  cond (decide ((IntKind.wrap .i64 ((((List.length b : Nat) : Int)) - 1)) < 0)) ((Nq a ([] : List (List Int))).bind fun (c : (List Int) × (List (List Int))) => some (false,(c.1),(c.2))) ((idx b (IntKind.wrap .i64 ((((List.length b : Nat) : Int)) - 1))).bind fun (d : List Int) => (inc (IntKind.wrap .i64 ((((List.length b : Nat) : Int)) - 1)) (List.length b)).bind fun (g : Nat) => (Nq d ((b.take g).drop 0)).bind fun (i : (List Int) × (List (List Int))) => some (true,(i.1),(i.2)))
@[irreducible] def N7x (a : List Int) (b : List (List Int)) : Option (Bool × (List Int) × (List (List Int))) :=
  Naw a b
def Nbd (a : List Int) (b : Int) : Option (Bool) :=
  (N4 a).bind fun (c : Bool) => cond c (cond (decide (b ≥ 1)) (some (decide (b ≤ (((List.length a : Nat) : Int))))) (some false)) (some false)
@[irreducible] def N5r (a : List Int) (b : Int) : Option (Bool) :=
  Nbd a b
def Nbj (a : Int) : Option (((List Int))) :=
  (mk a a).bind fun (b : Nat) => some (List.replicate b (0 : Int))
def Ndy (a : List Int) : Option (Int) :=
  some (((List.length a : Nat) : Int))
def Nbp (a b c : Int) (d : List Int) : Option ((Int × (List Int)) ⊕ ((List Int))) :=
  cond (decide (c < b)) ((inb c (List.length d)).bind fun (g : Nat) => some (Sum.inl ((IntKind.wrap .i64 (c + 1)),(d.set g (IntKind.wrap .i64 (a - c)))))) (some (Sum.inr d))
def Niz (a b : Int) (c : List Int) : Option (((List Int))) :=
  nloop (fun (s : Int × (List Int)) => ((Nbp a b s.1 s.2).map (Sum.elim (fun (t : Int × (List Int)) => Sum.inl (t.1,t.2)) (fun (t : (List Int)) => Sum.inr t)) : Option ((Int × (List Int)) ⊕ (((List Int)))))) LL (0,c)
def Njx (a b : Int) (c : List Int) : Option (((List Int))) :=
  (Niz a b c).map (fun (t : (List Int)) => t)
def Npq (a : Int) (b : List Int) : Option (((List Int))) :=
  (Ndy b).bind (fun (t : Int) => Njx a t b)
def Nb8 (a : List Int) : Option (((List Int))) :=
  some a
def Nl3 (a : Int) (b : List Int) : Option (((List Int))) :=
  (Npq a b).bind (fun (t : (List Int)) => Nb8 t)
def Nug (a : Int) : Option (((List Int))) :=
  (Nbj a).bind (fun (t : (List Int)) => Nl3 a t)
@[irreducible] def N73 (a : Int) : Option ((List Int)) :=
  Nug a
def Nce (a : List Int) (b : Int) : Option (Unit ⊕ Bool) :=
  cond (decide (b < 1)) (some (Sum.inr false)) (cond (decide (b > 8)) (some (Sum.inr false)) (cond ((((List.length a : Nat) : Int)) != b) (some (Sum.inr false)) (some (Sum.inl ()))))
def Nak (a : List Int) : Option (Int) :=
  some (((List.length a : Nat) : Int))
def Nbe (a : Int) (b : List Int) (c d : Int) (g : List Bool) : Option ((Int × (List Bool)) ⊕ Bool ⊕ Unit) :=
  cond (decide (d < c)) ((idx b d).bind fun (i : Int) => cond (decide (i < 1)) (some (Sum.inr (Sum.inl false))) (cond (decide (i > a)) (some (Sum.inr (Sum.inl false))) ((same (List.length g) 9).bind fun (j : Unit) => (inb i 9).bind fun (k : Nat) => (g[k]?).bind fun (l : Bool) => cond l (some (Sum.inr (Sum.inl false))) ((same (List.length g) 9).bind fun (m : Unit) => (inb i 9).bind fun (o : Nat) => some (Sum.inl ((IntKind.wrap .i64 (d + 1)),(g.set o true))))))) (some (Sum.inr (Sum.inr ())))
def Nt7 (a : Int) (b : List Int) (c : Int) : Option (Bool ⊕ Unit) :=
  nloop (fun (s : Int × (List Bool)) => ((Nbe a b c s.1 s.2).map (Sum.elim (fun (t : Int × (List Bool)) => Sum.inl (t.1,t.2)) (Sum.elim (fun (t : Bool) => Sum.inr (Sum.inl t)) (fun (t : Unit) => Sum.inr (Sum.inr t)))) : Option ((Int × (List Bool)) ⊕ (Bool ⊕ Unit)))) LL (0,(List.replicate 9 false))
def Nu0 (a : Int) (b : List Int) (c : Int) : Option (Unit ⊕ Bool) :=
  (Nt7 a b c).map (Sum.elim (fun (t : Bool) => (Sum.inr t)) (fun (t : Unit) => (Sum.inl ())))
def Nxm (a : List Int) (b : Int) : Option (Unit ⊕ Bool) :=
  (Nak a).bind (fun (t : Int) => Nu0 b a t)
def N8b : Option (Bool) :=
  some true
def Nln (a : List Int) (b : Int) : Option (Bool) :=
  (Nxm a b).bind (Sum.elim (fun (t : Unit) => N8b) (fun e => some ((fun (t : Bool) => t) e)))
def Nhu (a : List Int) (b : Int) : Option (Bool) :=
  (Nce a b).bind (Sum.elim (fun (t : Unit) => Nln a b) (fun e => some ((fun (t : Bool) => t) e)))
@[irreducible] def N55 (a : List Int) (b : Int) : Option (Bool) :=
  Nhu a b
def Naf (a : List Int) : Option (((List Int))) :=
  (mk (IntKind.wrap .i64 ((((List.length a : Nat) : Int)) + 1)) (IntKind.wrap .i64 ((((List.length a : Nat) : Int)) + 1))).bind fun (b : Nat) => some (List.replicate b (0 : Int))
def Ndb (a : List Int) : Option (Int) :=
  some (((List.length a : Nat) : Int))
def N2m (a : List Int) (b c : Int) (d : List Int) : Option ((Int × (List Int)) ⊕ ((List Int))) :=
  cond (decide (c < b)) ((idx a c).bind fun (g : Int) => (inb g (List.length d)).bind fun (i : Nat) => some (Sum.inl ((IntKind.wrap .i64 (c + 1)),(d.set i (IntKind.wrap .i64 (c + 1)))))) (some (Sum.inr d))
def Nlt (a : List Int) (b : Int) (c : List Int) : Option (((List Int))) :=
  nloop (fun (s : Int × (List Int)) => ((N2m a b s.1 s.2).map (Sum.elim (fun (t : Int × (List Int)) => Sum.inl (t.1,t.2)) (fun (t : (List Int)) => Sum.inr t)) : Option ((Int × (List Int)) ⊕ (((List Int)))))) LL (0,c)
def Nnu (a : List Int) (b : Int) (c : List Int) : Option (((List Int))) :=
  (Nlt a b c).map (fun (t : (List Int)) => t)
def Nnq (a b : List Int) : Option (((List Int))) :=
  (Ndb a).bind (fun (t : Int) => Nnu a t b)
def Nbm (a : List Int) : Option (((List Int))) :=
  some a
def Nmw (a b : List Int) : Option (((List Int))) :=
  (Nnq a b).bind (fun (t : (List Int)) => Nbm t)
def Nwc (a : List Int) : Option (((List Int))) :=
  (Naf a).bind (fun (t : (List Int)) => Nmw a t)
@[irreducible] def N7s (a : List Int) : Option ((List Int)) :=
  Nwc a
def N9x (a : Int) (b : List Int) : Option (Int) :=
  (inb a (List.length b)).bind fun (c : Nat) => (b[c]?).bind fun (d : Int) => some d
@[irreducible] def N7z (a : Int) (b : List Int) : Option (Int) :=
  N9x a b
def Nbw (a : List Int) : Option (((List Int))) :=
  (mk (((List.length a : Nat) : Int)) (((List.length a : Nat) : Int))).bind fun (b : Nat) => some (List.replicate b (0 : Int))
def N9o (a : List Int) : Option (Int) :=
  some (((List.length a : Nat) : Int))
def Nct (a b : List Int) (c d : Int) (g i : List Int) : Option ((Int × (List Int)) ⊕ ((List Int))) :=
  cond (decide (d < c)) ((idx b d).bind fun (j : Int) => (idx a (IntKind.wrap .i64 (j - 1))).bind fun (k : Int) => (N7z k g).bind fun (l : Int) => (inb d (List.length i)).bind fun (m : Nat) => some (Sum.inl ((IntKind.wrap .i64 (d + 1)),(i.set m l)))) (some (Sum.inr i))
def Nr6 (a b : List Int) (c : Int) (d g : List Int) : Option (((List Int))) :=
  nloop (fun (s : Int × (List Int)) => ((Nct a b c s.1 d s.2).map (Sum.elim (fun (t : Int × (List Int)) => Sum.inl (t.1,t.2)) (fun (t : (List Int)) => Sum.inr t)) : Option ((Int × (List Int)) ⊕ (((List Int)))))) LL (0,g)
def Nkj (a b : List Int) (c : Int) (d g : List Int) : Option (((List Int))) :=
  (Nr6 a b c d g).map (fun (t : (List Int)) => t)
def Nnd (a b c d : List Int) : Option (((List Int))) :=
  (N9o b).bind (fun (t : Int) => Nkj a b t c d)
def Nar (a : List Int) : Option (((List Int))) :=
  some a
def Nj1 (a b c d : List Int) : Option (((List Int))) :=
  (Nnd a b c d).bind (fun (t : (List Int)) => Nar t)
def Np1 (a b c : List Int) : Option (((List Int))) :=
  (Nbw b).bind (fun (t : (List Int)) => Nj1 a b c t)
@[irreducible] def N7h (a b c : List Int) : Option ((List Int)) :=
  Np1 a b c
def Nd5 (a b : List Int) : Option ((Bool × (List Int))) :=
  (N4 a).bind fun (c : Bool) => cond (!c) (some (false,([] : List Int))) ((N55 b (((List.length a : Nat) : Int))).bind fun (d : Bool) => cond (!d) (some (false,([] : List Int))) ((N7s b).bind fun (g : List Int) => (N7h a b g).bind fun (i : List Int) => some (true,i)))
@[irreducible] def N47 (a b : List Int) : Option (Bool × (List Int)) :=
  Nd5 a b
def Nal (a : List Int) : Option (((List Int))) :=
  (N4 a).bind fun (b : Bool) => cond (!b) (some ([] : List Int)) ((N73 (((List.length a : Nat) : Int))).bind fun (c : List Int) => (N47 a c).bind fun (d : Bool × (List Int)) => some (d.2))
@[irreducible] def N6i (a : List Int) : Option ((List Int)) :=
  Nal a
def Na3 (a : List Int) : Option (Unit ⊕ Int) :=
  (N4 a).bind fun (b : Bool) => cond (!b) (some (Sum.inr (-1))) (some (Sum.inl ()))
def Nci (a : List Int) (b c : Int) : Option ((Int × Int) ⊕ (Int × Int)) :=
  (N2d a b c).bind fun (d : Bool × Int × Int) => cond (d.1) (some (Sum.inl ((d.2.1),(d.2.2)))) (some (Sum.inr ((d.2.1),(d.2.2))))
def Nix (a : List Int) : Option ((Int × Int)) :=
  nloop (fun (s : Int × Int) => ((Nci a s.1 s.2).map (Sum.elim (fun (t : Int × Int) => Sum.inl (t.1,t.2)) (fun (t : Int × Int) => Sum.inr t)) : Option ((Int × Int) ⊕ ((Int × Int))))) LL (1,0)
def Nr0 (a : List Int) : Option ((Int × Int)) :=
  (Nix a).map (fun (t : Int × Int) => (t.1,t.2))
def Nc1 (a : Int) : Option (Int) :=
  some a
def Nx6 (a : List Int) : Option (Int) :=
  (Nr0 a).bind (fun (t : Int × Int) => Nc1 t.1)
def Nok (a : List Int) : Option (Int) :=
  (Na3 a).bind (Sum.elim (fun (t : Unit) => Nx6 a) (fun e => some ((fun (t : Int) => t) e)))
@[irreducible] def N56 (a : List Int) : Option (Int) :=
  Nok a
def N9j (a : Int) : Option (Int) :=
  (shl .u64 1 (IntKind.wrap .i64 (a - 1))).bind fun (b : Int) => some b
@[irreducible] def N3x (a : Int) : Option (Int) :=
  N9j a
def Nc2 : Option (Unit) :=
  some ()
def N8r (a : List Int) : Option (Int) :=
  some (((List.length a : Nat) : Int))
def Nby (a : List Int) (b c d g : Int) : Option ((Int × Int) ⊕ Int) :=
  cond (decide (g < d)) ((idx a g).bind fun (i : Int) => cond (i == b) ((N3x (IntKind.wrap .i64 (g + 1))).bind fun (j : Int) => some (Sum.inl ((ior .u64 c j),(IntKind.wrap .i64 (g + 1))))) (some (Sum.inl (c,(IntKind.wrap .i64 (g + 1)))))) (some (Sum.inr c))
def Nig (a : List Int) (b c : Int) : Option (Int) :=
  nloop (fun (s : Int × Int) => ((Nby a b s.1 c s.2).map (Sum.elim (fun (t : Int × Int) => Sum.inl (t.1,t.2)) (fun (t : Int) => Sum.inr t)) : Option ((Int × Int) ⊕ (Int)))) LL (0,0)
def Nhy (a : List Int) (b c : Int) : Option (Int) :=
  (Nig a b c).map (fun (t : Int) => t)
def Nuo (a : List Int) (b : Int) : Option (Int) :=
  (N8r a).bind (fun (t : Int) => Nhy a b t)
def Ncf (a : Int) : Option (Int) :=
  some a
def Nss (a : List Int) (b : Int) : Option (Int) :=
  (Nuo a b).bind (fun (t : Int) => Ncf t)
def Nqv (a : List Int) (b : Int) : Option (Int) :=
  (Nc2).bind (fun (t : Unit) => Nss a b)
@[irreducible] def N69 (a : List Int) (b : Int) : Option (Int) :=
  Nqv a b
def Nbb (a : Int) : Option (Int) :=
  (N3x a).bind fun (b : Int) => some (IntKind.wrap .u64 (b - 1))
@[irreducible] def N3z (a : Int) : Option (Int) :=
  Nbb a
def N94 (a : List Int) (b : Int) : Option ((Int × Int)) :=
  (N69 a b).bind fun (c : Int) => (N3z b).bind fun (d : Int) => (N3z b).bind fun (g : Int) => some ((iand .u64 c d),(iandn .u64 c g))
@[irreducible] def N5d (a : List Int) (b : Int) : Option (Int × Int) :=
  N94 a b
def Na8 (a : Int) : Option (Int) :=
  (shr .u64 a 1).bind fun (b : Int) => some (IntKind.wrap .u64 ((iand .u64 b 6148914691236517205) + (iand .u64 a 6148914691236517205)))
def Nae (a : Int) : Option (Int) :=
  (shr .u64 a 2).bind fun (b : Int) => some (IntKind.wrap .u64 ((iand .u64 b 3689348814741910323) + (iand .u64 a 3689348814741910323)))
def Ndv (a : Int) : Option (Int) :=
  (shr .u64 a 4).bind fun (b : Int) => some (iand .u64 (IntKind.wrap .u64 (b + a)) 1085102592571150095)
def N8a (a : Int) : Option (Int) :=
  (shr .u64 a 8).bind fun (b : Int) => some (IntKind.wrap .u64 (a + b))
def Nb4 (a : Int) : Option (Int) :=
  (shr .u64 a 16).bind fun (b : Int) => some (IntKind.wrap .u64 (a + b))
def Ndi (a : Int) : Option (Int) :=
  (shr .u64 a 32).bind fun (b : Int) => some (IntKind.wrap .u64 (a + b))
def Nbl (a : Int) : Option (Int) :=
  some (iand .i64 (IntKind.wrap .i64 a) 127)
def Nca (a : Int) : Option (Int) :=
  some a
def Ntn (a : Int) : Option (Int) :=
  (Nbl a).bind (fun (t : Int) => Nca t)
def Nnm (a : Int) : Option (Int) :=
  (Ndi a).bind (fun (t : Int) => Ntn t)
def Nxg (a : Int) : Option (Int) :=
  (Nb4 a).bind (fun (t : Int) => Nnm t)
def Ni6 (a : Int) : Option (Int) :=
  (N8a a).bind (fun (t : Int) => Nxg t)
def Nxk (a : Int) : Option (Int) :=
  (Ndv a).bind (fun (t : Int) => Ni6 t)
def Now (a : Int) : Option (Int) :=
  (Nae a).bind (fun (t : Int) => Nxk t)
def Nwd (a : Int) : Option (Int) :=
  (Na8 a).bind (fun (t : Int) => Now t)
@[irreducible] def N5c (a : Int) : Option (Int) :=
  Nwd a
def Ncb (a : Int) : Option (Int) :=
  (N5c a).bind fun (b : Int) => some b
@[irreducible] def N5l (a : Int) : Option (Int) :=
  Ncb a
def Nbu (a : Int) : Option (Int) :=
  (N5l a).bind fun (b : Int) => some b
@[irreducible] def N51 (a : Int) : Option (Int) :=
  Nbu a
def Nds (a : Int) : Option (Int) :=
  cond (a == 0) (some 64) ((shr .u64 (IntKind.wrap .u64 ((iand .u64 a (IntKind.wrap .u64 (0 - a))) * 285870213051353865)) 58).bind fun (b : Int) => (same (List.length tab1) 64).bind fun (c : Unit) => (idx tab1 b).bind fun (d : Int) => some (IntKind.wrap .i64 d))
@[irreducible] def N5k (a : Int) : Option (Int) :=
  Nds a
def N9k (a : Int) : Option (Int) :=
  (N5k a).bind fun (b : Int) => some b
@[irreducible] def N78 (a : Int) : Option (Int) :=
  N9k a
def Nbh (a : Int) : Option (((List Int))) :=
  (N51 a).bind fun (b : Int) => (mk 0 b).bind fun (c : Nat) => some (List.replicate c (0 : Int))
def Ncm : Option (Unit) :=
  some ()
def Ne1 (a : Int) (b : List Int) : Option ((Int × (List Int)) ⊕ ((List Int))) :=
  cond (a != 0) ((N78 a).bind fun (c : Int) => (room ((List.length b) + List.length ([(IntKind.wrap .i64 (c + 1))]))).bind fun (d : Unit) => some (Sum.inl ((iand .u64 a (IntKind.wrap .u64 (a - 1))),(b ++ ([(IntKind.wrap .i64 (c + 1))]))))) (some (Sum.inr b))
def Njy (a : Int) (b : List Int) : Option (((List Int))) :=
  nloop (fun (s : Int × (List Int)) => ((Ne1 s.1 s.2).map (Sum.elim (fun (t : Int × (List Int)) => Sum.inl (t.1,t.2)) (fun (t : (List Int)) => Sum.inr t)) : Option ((Int × (List Int)) ⊕ (((List Int)))))) LL (a,b)
def Nrx (a : Int) (b : List Int) : Option (((List Int))) :=
  (Njy a b).map (fun (t : (List Int)) => t)
def Nsu (a : Int) (b : List Int) : Option (((List Int))) :=
  (Ncm).bind (fun (t : Unit) => Nrx a b)
def N9l (a : List Int) : Option (((List Int))) :=
  some a
def Nr5 (a : Int) (b : List Int) : Option (((List Int))) :=
  (Nsu a b).bind (fun (t : (List Int)) => N9l t)
def Nsf (a : Int) : Option (((List Int))) :=
  (Nbh a).bind (fun (t : (List Int)) => Nr5 a t)
@[irreducible] def N6v (a : Int) : Option ((List Int)) :=
  Nsf a
def Ndu (R0 R1 : (List Int) → Int → (List Int) → Option ((List Int))) (a : List Int) (b : Int) (c : List Int) : Option (((List Int))) :=
  (N5d a b).bind fun (d : Int × Int) => (R1 a (d.1) c).bind fun (g : List Int) => (room ((List.length g) + List.length ([b]))).bind fun (i : Unit) => (R1 a (d.2) (g ++ ([b]))).bind fun (j : List Int) => some j
def Nin (R0 R1 : (List Int) → Int → (List Int) → Option ((List Int))) (a : List Int) (b : Int) (c : List Int) : Option ((List Int)) :=
  Ndu R0 R1 a b c
def N95 (R0 R1 : (List Int) → Int → (List Int) → Option ((List Int))) : Option (Unit) :=
  some ()
def N8y (R0 R1 : (List Int) → Int → (List Int) → Option ((List Int))) (a : Int) : Option ((Int × (List Int))) :=
  (N6v a).bind fun (b : List Int) => some ((((List.length b : Nat) : Int)),b)
def Nd6 (R0 R1 : (List Int) → Int → (List Int) → Option ((List Int))) (a : List Int) (b c : Int) (d g : List Int) : Option ((Int × (List Int)) ⊕ ((List Int))) :=
  cond (decide (c < b)) ((inb c (List.length g)).bind fun (i : Nat) => (g[i]?).bind fun (j : Int) => (R0 a j d).bind fun (k : List Int) => some (Sum.inl ((IntKind.wrap .i64 (c + 1)),k))) (some (Sum.inr d))
def Nio (R0 R1 : (List Int) → Int → (List Int) → Option ((List Int))) (a : List Int) (b : Int) (c d : List Int) : Option (((List Int))) :=
  nloop (fun (s : Int × (List Int)) => ((Nd6 R0 R1 a b s.1 s.2 d).map (Sum.elim (fun (t : Int × (List Int)) => Sum.inl (t.1,t.2)) (fun (t : (List Int)) => Sum.inr t)) : Option ((Int × (List Int)) ⊕ (((List Int)))))) LL (0,c)
def Ntd (R0 R1 : (List Int) → Int → (List Int) → Option ((List Int))) (a : List Int) (b : Int) (c d : List Int) : Option (((List Int))) :=
  (Nio R0 R1 a b c d).map (fun (t : (List Int)) => t)
def Niv (R0 R1 : (List Int) → Int → (List Int) → Option ((List Int))) (a : List Int) (b : Int) (c : List Int) : Option (((List Int))) :=
  (N8y R0 R1 b).bind (fun (t : Int × (List Int)) => Ntd R0 R1 a t.1 c t.2)
def N87 (R0 R1 : (List Int) → Int → (List Int) → Option ((List Int))) (a : List Int) : Option (((List Int))) :=
  some a
def Nuw (R0 R1 : (List Int) → Int → (List Int) → Option ((List Int))) (a : List Int) (b : Int) (c : List Int) : Option (((List Int))) :=
  (Niv R0 R1 a b c).bind (fun (t : (List Int)) => N87 R0 R1 t)
def Nkl (R0 R1 : (List Int) → Int → (List Int) → Option ((List Int))) (a : List Int) (b : Int) (c : List Int) : Option (((List Int))) :=
  (N95 R0 R1).bind (fun (t : Unit) => Nuw R0 R1 a b c)
def Nkp (R0 R1 : (List Int) → Int → (List Int) → Option ((List Int))) (a : List Int) (b : Int) (c : List Int) : Option ((List Int)) :=
  Nkl R0 R1 a b c
def N1s : Nat → ((List Int) → Int → (List Int) → Option ((List Int))) × ((List Int) → Int → (List Int) → Option ((List Int)))
  | 0 => ((fun _ _ _ => none),(fun _ _ _ => none))
  | n + 1 => ((fun y0 y1 y2 => Nin (N1s n).1 (N1s n).2 y0 y1 y2),(fun y0 y1 y2 => Nkp (N1s n).1 (N1s n).2 y0 y1 y2))
def N11 (n : Nat) : (List Int) → Int → (List Int) → Option ((List Int)) := (N1s n).1
@[irreducible] def N9u (a : List Int) (b : Int) (c : List Int) : Option ((List Int)) := N11 RR a b c
def N19 (n : Nat) : (List Int) → Int → (List Int) → Option ((List Int)) := (N1s n).2
@[irreducible] def Ngn (a : List Int) (b : Int) (c : List Int) : Option ((List Int)) := N19 RR a b c
def Nc7 (a : List Int) : Option (((List Int))) :=
  (N4 a).bind fun (b : Bool) => cond (!b) (some ([] : List Int)) ((N56 a).bind fun (c : Int) => (mk 0 (((List.length a : Nat) : Int))).bind fun (d : Nat) => (N9u a c (List.replicate d (0 : Int))).bind fun (g : List Int) => some g)
@[irreducible] def N6o (a : List Int) : Option ((List Int)) :=
  Nc7 a
def Ndp (a : List Int) : Option (((List Int))) :=
  (N6o a).bind fun (b : List Int) => (N47 a b).bind fun (c : Bool × (List Int)) => some (c.2)
@[irreducible] def N5z (a : List Int) : Option ((List Int)) :=
  Ndp a
def N8d (a : List Int) (b c d : Int) : Option (((List Int))) :=
  cond (b == 0) ((N5r a c).bind fun (g : Bool) => cond (!g) (some ([] : List Int)) ((N4b a).bind fun (i : List Int) => (inb (IntKind.wrap .i64 (c - 1)) (List.length i)).bind fun (j : Nat) => some (i.set j d))) (cond (b == 1) ((N4b a).bind fun (k : List Int) => (room ((List.length k) + List.length ([c]))).bind fun (l : Unit) => some (k ++ ([c]))) (cond (b == 2) ((inc (IntKind.wrap .i64 ((((List.length a : Nat) : Int)) - 1)) (List.length a)).bind fun (m : Nat) => (N4b ((a.take m).drop 0)).bind fun (o : List Int) => some o) (cond (b == 3) ((N6i a).bind fun (p : List Int) => some p) (cond (b == 4) ((N5z a).bind fun (q : List Int) => some q) (some ([] : List Int))))))
@[irreducible] def N6u (a : List Int) (b c d : Int) : Option ((List Int)) :=
  N8d a b c d
def Nan (a b : List Int) : Option (Unit ⊕ Bool) :=
  cond ((((List.length a : Nat) : Int)) != (((List.length b : Nat) : Int))) (some (Sum.inr false)) (some (Sum.inl ()))
def Nbf (a : List Int) : Option (Int) :=
  some (((List.length a : Nat) : Int))
def N93 (a b : List Int) (c d : Int) : Option (Int ⊕ Bool ⊕ Unit) :=
  cond (decide (d < c)) ((idx a d).bind fun (g : Int) => (idx b d).bind fun (i : Int) => cond (g != i) (some (Sum.inr (Sum.inl false))) (some (Sum.inl (IntKind.wrap .i64 (d + 1))))) (some (Sum.inr (Sum.inr ())))
def Nra (a b : List Int) (c : Int) : Option (Bool ⊕ Unit) :=
  nloop (fun (s : Int) => ((N93 a b c s).map (Sum.elim (fun (t : Int) => Sum.inl t) (Sum.elim (fun (t : Bool) => Sum.inr (Sum.inl t)) (fun (t : Unit) => Sum.inr (Sum.inr t)))) : Option ((Int) ⊕ (Bool ⊕ Unit)))) LL 0
def Nry (a b : List Int) (c : Int) : Option (Unit ⊕ Bool) :=
  (Nra a b c).map (Sum.elim (fun (t : Bool) => (Sum.inr t)) (fun (t : Unit) => (Sum.inl ())))
def Nqh (a b : List Int) : Option (Unit ⊕ Bool) :=
  (Nbf a).bind (fun (t : Int) => Nry a b t)
def Na6 : Option (Bool) :=
  some true
def Nwg (a b : List Int) : Option (Bool) :=
  (Nqh a b).bind (Sum.elim (fun (t : Unit) => Na6) (fun e => some ((fun (t : Bool) => t) e)))
def Nvu (a b : List Int) : Option (Bool) :=
  (Nan a b).bind (Sum.elim (fun (t : Unit) => Nwg a b) (fun e => some ((fun (t : Bool) => t) e)))
@[irreducible] def N70 (a b : List Int) : Option (Bool) :=
  Nvu a b
def Nlv (x1 : List (List Int)) : Option (List (List Int)) := cloneD x1
def Ndw (a : List Int) (b : List (List Int)) (c d g : Int) : Option ((Bool × (List Int) × (List (List Int)))) :=
  (N6u a c d g).bind fun (i : List Int) => (N4 i).bind fun (j : Bool) => cond (!j) ((Nq a b).bind fun (k : (List Int) × (List (List Int))) => some (false,(k.1),(k.2))) ((N70 i a).bind fun (l : Bool) => cond l ((Nq a b).bind fun (m : (List Int) × (List (List Int))) => some (false,(m.1),(m.2))) ((Nlv b).bind fun (o : List (List Int)) => (room ((List.length o) + List.length ([a]))).bind fun (p : Unit) => (inc (imax 0 (IntKind.wrap .i64 ((((List.length (o ++ ([a])) : Nat) : Int)) - 8))) (List.length (o ++ ([a])))).bind fun (q : Nat) => (Nq i (((o ++ ([a])).drop q).take ((List.length (o ++ ([a]))) - q))).bind fun (w : (List Int) × (List (List Int))) => some (true,(w.1),(w.2))))
@[irreducible] def N65 (a : List Int) (b : List (List Int)) (c d g : Int) : Option (Bool × (List Int) × (List (List Int))) :=
  Ndw a b c d g
def Nac (a : List Int) (b : List (List Int)) (c d g : Int) : Option ((Bool × (List Int) × (List (List Int)))) :=
  (Nj a b).bind fun (i : Bool) => cond (!i) (some (false,([] : List Int),([] : List (List Int)))) ((N5e c d g).bind fun (j : Bool) => cond (!j) ((Nq a b).bind fun (k : (List Int) × (List (List Int))) => some (false,(k.1),(k.2))) (cond (c == 5) ((N7x a b).bind fun (l : Bool × (List Int) × (List (List Int))) => some ((l.1),(l.2.1),(l.2.2))) ((N65 a b c d g).bind fun (m : Bool × (List Int) × (List (List Int))) => some ((m.1),(m.2.1),(m.2.2)))))
@[irreducible] def N63 (a : List Int) (b : List (List Int)) (c d g : Int) : Option (Bool × (List Int) × (List (List Int))) :=
  Nac a b c d g
def N7d (a b : List Int) : Option (Unit ⊕ Bool) :=
  cond ((((List.length a : Nat) : Int)) != (((List.length b : Nat) : Int))) (some (Sum.inr false)) (some (Sum.inl ()))
def N7a : Option (Unit) :=
  some ()
def N2z (a b : List Int) (c : Int) : Option (Int ⊕ Bool ⊕ Unit) :=
  cond (decide (c < (((List.length a : Nat) : Int)))) ((idx a c).bind fun (d : Int) => (idx b c).bind fun (g : Int) => cond (d != g) (some (Sum.inr (Sum.inl false))) (some (Sum.inl (IntKind.wrap .i64 (c + 1))))) (some (Sum.inr (Sum.inr ())))
def Nfw (a b : List Int) : Option (Bool ⊕ Unit) :=
  nloop (fun (s : Int) => ((N2z a b s).map (Sum.elim (fun (t : Int) => Sum.inl t) (Sum.elim (fun (t : Bool) => Sum.inr (Sum.inl t)) (fun (t : Unit) => Sum.inr (Sum.inr t)))) : Option ((Int) ⊕ (Bool ⊕ Unit)))) LL 0
def Nfo (a b : List Int) : Option (Unit ⊕ Bool) :=
  (Nfw a b).map (Sum.elim (fun (t : Bool) => (Sum.inr t)) (fun (t : Unit) => (Sum.inl ())))
def Nfd (a b : List Int) : Option (Unit ⊕ Bool) :=
  (N7a).bind (fun (t : Unit) => Nfo a b)
def N5g : Option (Bool) :=
  some true
def Nhf (a b : List Int) : Option (Bool) :=
  (Nfd a b).bind (Sum.elim (fun (t : Unit) => N5g) (fun e => some ((fun (t : Bool) => t) e)))
def Nbc (a b : List Int) : Option (Bool) :=
  (N7d a b).bind (Sum.elim (fun (t : Unit) => Nhf a b) (fun e => some ((fun (t : Bool) => t) e)))
@[irreducible] def N1a (a b : List Int) : Option (Bool) :=
  Nbc a b
def N7u (a b : List (List Int)) : Option (Unit ⊕ Bool) :=
  cond ((((List.length a : Nat) : Int)) != (((List.length b : Nat) : Int))) (some (Sum.inr false)) (some (Sum.inl ()))
def N7y : Option (Unit) :=
  some ()
def N33 (a b : List (List Int)) (c : Int) : Option (Int ⊕ Bool ⊕ Unit) :=
  cond (decide (c < (((List.length a : Nat) : Int)))) ((idx a c).bind fun (d : List Int) => (idx b c).bind fun (g : List Int) => (N1a d g).bind fun (i : Bool) => cond (!i) (some (Sum.inr (Sum.inl false))) (some (Sum.inl (IntKind.wrap .i64 (c + 1))))) (some (Sum.inr (Sum.inr ())))
def Ne5 (a b : List (List Int)) : Option (Bool ⊕ Unit) :=
  nloop (fun (s : Int) => ((N33 a b s).map (Sum.elim (fun (t : Int) => Sum.inl t) (Sum.elim (fun (t : Bool) => Sum.inr (Sum.inl t)) (fun (t : Unit) => Sum.inr (Sum.inr t)))) : Option ((Int) ⊕ (Bool ⊕ Unit)))) LL 0
def Nep (a b : List (List Int)) : Option (Unit ⊕ Bool) :=
  (Ne5 a b).map (Sum.elim (fun (t : Bool) => (Sum.inr t)) (fun (t : Unit) => (Sum.inl ())))
def Nh7 (a b : List (List Int)) : Option (Unit ⊕ Bool) :=
  (N7y).bind (fun (t : Unit) => Nep a b)
def N4s : Option (Bool) :=
  some true
def Ng2 (a b : List (List Int)) : Option (Bool) :=
  (Nh7 a b).bind (Sum.elim (fun (t : Unit) => N4s) (fun e => some ((fun (t : Bool) => t) e)))
def N8h (a b : List (List Int)) : Option (Bool) :=
  (N7u a b).bind (Sum.elim (fun (t : Unit) => Ng2 a b) (fun e => some ((fun (t : Bool) => t) e)))
@[irreducible] def N1w (a b : List (List Int)) : Option (Bool) :=
  N8h a b
def N61 (a : List Int) (b : List (List Int)) (c : List Int) (d : List (List Int)) : Option (Bool) :=
  (N1a a c).bind fun (g : Bool) => cond g ((N1w b d).bind fun (i : Bool) => some i) (some false)
@[irreducible] def N2b (a : List Int) (b : List (List Int)) (c : List Int) (d : List (List Int)) : Option (Bool) :=
  N61 a b c d
def N5q (a : List Int) (b : List (List Int)) : Option (Bool) :=
  (N1a a ([] : List Int)).bind fun (c : Bool) => cond c ((N1w b ([] : List (List Int))).bind fun (d : Bool) => some d) (some false)
@[irreducible] def N4k (a : List Int) (b : List (List Int)) : Option (Bool) :=
  N5q a b
def N5v : Option (Bool) :=
  (N4 ([0])).bind fun (a : Bool) => cond a ((N4 ([1])).bind fun (b : Bool) => some (!b)) (some false)
@[irreducible] def N1z : Option (Bool) :=
  N5v
def N7q : Option (Unit) :=
  some ()
def N4v (a : List Int) (b : Int) : Option ((Int × Int)) :=
  (N0 6 a b).bind fun (c : Int × Int) => some ((c.1),(c.2))
def N46 (a : List Int) (b : Int) (c : List Int) (d : Int) (g : List (Int × Int × Int × Unit)) : Option ((Int × Int × (List (Int × Int × Int × Unit))) ⊕ (Int × (List (Int × Int × Int × Unit)))) :=
  cond (decide (b > 0)) ((N16 a c d).bind fun (i : Int × Int × Int × Int) => (room ((List.length g) + List.length ([((i.2.1),((i.2.2.1),((i.2.2.2),())))]))).bind fun (j : Unit) => some (Sum.inl ((IntKind.wrap .i64 (b - 1)),(i.1),(g ++ ([((i.2.1),((i.2.2.1),((i.2.2.2),())))]))))) (some (Sum.inr (d,g)))
def Ng0 (a : List Int) (b : Int) (c : List Int) (d : Int) : Option ((Int × (List (Int × Int × Int × Unit)))) :=
  nloop (fun (s : Int × Int × (List (Int × Int × Int × Unit))) => ((N46 a s.1 c s.2.1 s.2.2).map (Sum.elim (fun (t : Int × Int × (List (Int × Int × Int × Unit))) => Sum.inl (t.1,t.2.1,t.2.2)) (fun (t : Int × (List (Int × Int × Int × Unit))) => Sum.inr t)) : Option ((Int × Int × (List (Int × Int × Int × Unit))) ⊕ ((Int × (List (Int × Int × Int × Unit))))))) LL (b,d,([] : List (Int × Int × Int × Unit)))
def Ney (a : List Int) (b : Int) (c : List Int) (d : Int) : Option ((Int × (List (Int × Int × Int × Unit)))) :=
  (Ng0 a b c d).map (fun (t : Int × (List (Int × Int × Int × Unit))) => (t.1,t.2))
def Ne4 (a b : List Int) (c : Int) : Option ((Int × (List (Int × Int × Int × Unit)))) :=
  (N4v b c).bind (fun (t : Int × Int) => Ney a t.1 b t.2)
def Ndo (a : Int) (b : List (Int × Int × Int × Unit)) : Option ((Int × (List (Int × Int × Int × Unit)))) :=
  some (a,b)
def Nhg (a b : List Int) (c : Int) : Option ((Int × (List (Int × Int × Int × Unit)))) :=
  (Ne4 a b c).bind (fun (t : Int × (List (Int × Int × Int × Unit))) => Ndo t.1 t.2)
def Na1 (a b : List Int) (c : Int) : Option ((Int × (List (Int × Int × Int × Unit)))) :=
  (N7q).bind (fun (t : Unit) => Nhg a b c)
@[irreducible] def N2c (a b : List Int) (c : Int) : Option (Int × (List (Int × Int × Int × Unit))) :=
  Na1 a b c
def N6l (a : List Int) : Option (((List Int) × (List (Int × Int × Int × Unit)) × (List (List Int)))) :=
  (N3l a).bind fun (b : List Int) => (N22 12 b 0).bind fun (c : Int × (List Int) × (List (List Int))) => (Nd 30 b (c.1)).bind fun (d : Bool × Int) => cond (d.1) ((mk 41 41).bind fun (g : Nat) => some ((c.2.1),(List.replicate g ((0 : Int),((0 : Int),((0 : Int),())))),(c.2.2))) ((N2c (c.2.1) b (d.2)).bind fun (i : Int × (List (Int × Int × Int × Unit))) => some ((c.2.1),(i.2),(c.2.2)))
@[irreducible] def N3a (a : List Int) : Option ((List Int) × (List (Int × Int × Int × Unit)) × (List (List Int))) :=
  N6l a
def Nb5 (a : List Int) (b : List (List Int)) (c : List (Int × Int × Int × Unit)) : Option (((List Int) × (List (List Int))) ⊕ (Int × (List Int) × (List (List Int)))) :=
  (Nj a b).bind fun (d : Bool) => cond (!d) (some (Sum.inr (0,([] : List Int),([] : List (List Int))))) (cond (decide ((((List.length c : Nat) : Int)) > 40)) (some (Sum.inr (0,([] : List Int),([] : List (List Int))))) ((Nq a b).bind fun (g : (List Int) × (List (List Int))) => some (Sum.inl ((g.1),(g.2)))))
def N8q (a : List (Int × Int × Int × Unit)) : Option (Int) :=
  some (((List.length a : Nat) : Int))
def N83 (a : Int) (b : List (Int × Int × Int × Unit)) (c d : Int) (g : List Int) (i : List (List Int)) : Option ((Int × Int × (List Int) × (List (List Int))) ⊕ (Int × (List Int) × (List (List Int)))) :=
  cond (decide (d < c)) ((idx b d).bind fun (j : Int × Int × Int × Unit) => (N63 g i (j.1) ((j.2).1) (((j.2).2).1)).bind fun (k : Bool × (List Int) × (List (List Int))) => cond (k.1) (some (Sum.inl ((IntKind.wrap .i64 (a + 1)),(IntKind.wrap .i64 (d + 1)),(k.2.1),(k.2.2)))) (some (Sum.inl (a,(IntKind.wrap .i64 (d + 1)),g,i)))) (some (Sum.inr (a,g,i)))
def Njt (a : List (Int × Int × Int × Unit)) (b : Int) (c : List Int) (d : List (List Int)) : Option ((Int × (List Int) × (List (List Int)))) :=
  nloop (fun (s : Int × Int × (List Int) × (List (List Int))) => ((N83 s.1 a b s.2.1 s.2.2.1 s.2.2.2).map (Sum.elim (fun (t : Int × Int × (List Int) × (List (List Int))) => Sum.inl (t.1,t.2.1,t.2.2.1,t.2.2.2)) (fun (t : Int × (List Int) × (List (List Int))) => Sum.inr t)) : Option ((Int × Int × (List Int) × (List (List Int))) ⊕ ((Int × (List Int) × (List (List Int))))))) LL (0,0,c,d)
def Nl2 (a : List (Int × Int × Int × Unit)) (b : Int) (c : List Int) (d : List (List Int)) : Option ((Int × (List Int) × (List (List Int)))) :=
  (Njt a b c d).map (fun (t : Int × (List Int) × (List (List Int))) => (t.1,t.2.1,t.2.2))
def Nvw (a : List (Int × Int × Int × Unit)) (b : List Int) (c : List (List Int)) : Option ((Int × (List Int) × (List (List Int)))) :=
  (N8q a).bind (fun (t : Int) => Nl2 a t b c)
def Nbr (a : Int) (b : List Int) (c : List (List Int)) : Option ((Int × (List Int) × (List (List Int)))) :=
  some (a,b,c)
def Nsv (a : List (Int × Int × Int × Unit)) (b : List Int) (c : List (List Int)) : Option ((Int × (List Int) × (List (List Int)))) :=
  (Nvw a b c).bind (fun (t : Int × (List Int) × (List (List Int))) => Nbr t.1 t.2.1 t.2.2)
def Nu4 (a : List Int) (b : List (List Int)) (c : List (Int × Int × Int × Unit)) : Option ((Int × (List Int) × (List (List Int)))) :=
  (Nb5 a b c).bind (Sum.elim (fun (t : (List Int) × (List (List Int))) => Nsv c t.1 t.2) (fun e => some ((fun (t : Int × (List Int) × (List (List Int))) => t) e)))
@[irreducible] def Nr (a : List Int) (b : List (List Int)) (c : List (Int × Int × Int × Unit)) : Option (Int × (List Int) × (List (List Int))) :=
  Nu4 a b c
def N4q (a : List Int) (b : List (List Int)) (c : List (Int × Int × Int × Unit)) : Option (((List Int) × (List (List Int))) ⊕ (Int × (List Int) × (List (List Int)))) :=
  (Nn a b).bind fun (d : Bool) => cond (!d) (some (Sum.inr (0,([] : List Int),([] : List (List Int))))) (cond (decide ((((List.length c : Nat) : Int)) > 40)) (some (Sum.inr (0,([] : List Int),([] : List (List Int))))) ((N1u a b).bind fun (g : (List Int) × (List (List Int))) => some (Sum.inl ((g.1),(g.2)))))
def N6s : Option (Unit) :=
  some ()
def N37 (a : List (Int × Int × Int × Unit)) (b c : Int) (d : List Int) (g : List (List Int)) : Option ((Int × Int × (List Int) × (List (List Int))) ⊕ (Int × (List Int) × (List (List Int)))) :=
  cond (decide (c < (((List.length a : Nat) : Int)))) ((idx a c).bind fun (i : Int × Int × Int × Unit) => (N1t d g (i.1) ((i.2).1) (((i.2).2).1)).bind fun (j : Bool × (List Int) × (List (List Int))) => cond (j.1) (some (Sum.inl ((IntKind.wrap .i64 (b + 1)),(IntKind.wrap .i64 (c + 1)),(j.2.1),(j.2.2)))) (some (Sum.inl (b,(IntKind.wrap .i64 (c + 1)),d,g)))) (some (Sum.inr (b,d,g)))
def Ne3 (a : List (Int × Int × Int × Unit)) (b : List Int) (c : List (List Int)) : Option ((Int × (List Int) × (List (List Int)))) :=
  nloop (fun (s : Int × Int × (List Int) × (List (List Int))) => ((N37 a s.1 s.2.1 s.2.2.1 s.2.2.2).map (Sum.elim (fun (t : Int × Int × (List Int) × (List (List Int))) => Sum.inl (t.1,t.2.1,t.2.2.1,t.2.2.2)) (fun (t : Int × (List Int) × (List (List Int))) => Sum.inr t)) : Option ((Int × Int × (List Int) × (List (List Int))) ⊕ ((Int × (List Int) × (List (List Int))))))) LL (0,0,b,c)
def Ng9 (a : List (Int × Int × Int × Unit)) (b : List Int) (c : List (List Int)) : Option ((Int × (List Int) × (List (List Int)))) :=
  (Ne3 a b c).map (fun (t : Int × (List Int) × (List (List Int))) => (t.1,t.2.1,t.2.2))
def Nhm (a : List (Int × Int × Int × Unit)) (b : List Int) (c : List (List Int)) : Option ((Int × (List Int) × (List (List Int)))) :=
  (N6s).bind (fun (t : Unit) => Ng9 a b c)
def Ncp (a : Int) (b : List Int) (c : List (List Int)) : Option ((Int × (List Int) × (List (List Int)))) :=
  some (a,b,c)
def Nh1 (a : List (Int × Int × Int × Unit)) (b : List Int) (c : List (List Int)) : Option ((Int × (List Int) × (List (List Int)))) :=
  (Nhm a b c).bind (fun (t : Int × (List Int) × (List (List Int))) => Ncp t.1 t.2.1 t.2.2)
def N9b (a : List Int) (b : List (List Int)) (c : List (Int × Int × Int × Unit)) : Option ((Int × (List Int) × (List (List Int)))) :=
  (N4q a b c).bind (Sum.elim (fun (t : (List Int) × (List (List Int))) => Nh1 c t.1 t.2) (fun e => some ((fun (t : Int × (List Int) × (List (List Int))) => t) e)))
@[irreducible] def N2h (a : List Int) (b : List (List Int)) (c : List (Int × Int × Int × Unit)) : Option (Int × (List Int) × (List (List Int))) :=
  N9b a b c
def N7r (a : List Int) (b : List (List Int)) : Option (Bool) :=
  (N4k a b).bind fun (c : Bool) => some c
@[irreducible] def N29 (a : List Int) (b : List (List Int)) : Option (Bool) :=
  N7r a b
def N7g (a : List Int) : Option (Bool) :=
  cond (decide ((((List.length a : Nat) : Int)) > 1048576)) (some true) ((N3a a).bind fun (b : (List Int) × (List (Int × Int × Int × Unit)) × (List (List Int))) => (Nr (b.1) (b.2.2) (b.2.1)).bind fun (c : Int × (List Int) × (List (List Int))) => (N2h (b.1) (b.2.2) (b.2.1)).bind fun (d : Int × (List Int) × (List (List Int))) => (N2b (c.2.1) (c.2.2) (d.2.1) (d.2.2)).bind fun (g : Bool) => cond (!g) (some false) (cond ((c.1) != (d.1)) (some false) ((Nn (b.1) (b.2.2)).bind fun (i : Bool) => cond (!i) (cond ((c.1) == 0) ((N29 (c.2.1) (c.2.2)).bind fun (j : Bool) => cond j ((N1z).bind fun (k : Bool) => some k) (some false)) (some false)) (cond (decide ((((List.length (b.2.1) : Nat) : Int)) > 40)) (cond ((c.1) == 0) ((N29 (c.2.1) (c.2.2)).bind fun (l : Bool) => cond l ((N1z).bind fun (m : Bool) => some m) (some false)) (some false)) ((quo .i64 (((List.length (b.2.1) : Nat) : Int)) 2).bind fun (o : Int) => (inc o (List.length (b.2.1))).bind fun (p : Nat) => (Nr (b.1) (b.2.2) (((b.2.1).drop 0).take (p - 0))).bind fun (q : Int × (List Int) × (List (List Int))) => (inc o (List.length (b.2.1))).bind fun (w : Nat) => (Nr (q.2.1) (q.2.2) (((b.2.1).drop w).take ((List.length (b.2.1)) - w))).bind fun (y : Int × (List Int) × (List (List Int))) => (Nj (c.2.1) (c.2.2)).bind fun (z : Bool) => cond z ((N2b (y.2.1) (y.2.2) (c.2.1) (c.2.2)).bind fun (a0 : Bool) => cond a0 (some ((IntKind.wrap .i64 ((q.1) + (y.1))) == (c.1))) (some false)) (some false))))))
@[irreducible] def N20 (a : List Int) : Option (Bool) :=
  N7g a
end Go.Rv
