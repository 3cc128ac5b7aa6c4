/-
  Plain functions,written by program for functions of the checked code. Conditions: none.
-/
import Derived.Test.YtihgceegapfngacDoorFB
set_option linter.unusedVariables false
namespace Go.Rv
def N4u (a : List Int) (b : Int) : Option (Int) :=
  cond (decide ((IntKind.wrap .i64 (b - (((List.length a : Nat) : Int)))) < 0)) (some (-1)) (some (IntKind.wrap .i64 (b - (((List.length a : Nat) : Int)))))
@[irreducible] def N1y (a : List Int) (b : Int) : Option (Int) :=
  N4u a b
def N74 (a : List (List Int)) (b : Int) : Option (Int ⊕ Int) :=
  cond (decide ((IntKind.wrap .i64 (b - (((List.length a : Nat) : Int)))) < 0)) (some (Sum.inr (-1))) (some (Sum.inl (IntKind.wrap .i64 (b - (((List.length a : Nat) : Int))))))
def N5y : Option (Unit) :=
  some ()
def N4q (a : List (List Int)) (b c : Int) : Option ((Int × Int) ⊕ Int ⊕ Int) :=
  cond (decide (c < (((List.length a : Nat) : Int)))) ((idx a c).bind fun (d : List Int) => (N1y d b).bind fun (g : Int) => cond (decide (g < 0)) (some (Sum.inr (Sum.inl (-1)))) (some (Sum.inl (g,(IntKind.wrap .i64 (c + 1)))))) (some (Sum.inr (Sum.inr b)))
def Ngd (a : List (List Int)) (b : Int) : Option (Int ⊕ Int) :=
  nloop (fun (s : Int × Int) => ((N4q a s.1 s.2).map (Sum.elim (fun (t : Int × Int) => Sum.inl (t.1,t.2)) (Sum.elim (fun (t : Int) => Sum.inr (Sum.inl t)) (fun (t : Int) => Sum.inr (Sum.inr t)))) : Option ((Int × Int) ⊕ (Int ⊕ Int)))) LL (b,0)
def Ndl (a : List (List Int)) (b : Int) : Option (Int ⊕ Int) :=
  (Ngd a b).map (Sum.elim (fun (t : Int) => (Sum.inr t)) (fun (t : Int) => (Sum.inl t)))
def Nf0 (a : List (List Int)) (b : Int) : Option (Int ⊕ Int) :=
  (N5y).bind (fun (t : Unit) => Ndl a b)
def N99 (a : Int) : Option (Int) :=
  some a
def Nes (a : List (List Int)) (b : Int) : Option (Int) :=
  (Nf0 a b).bind (Sum.elim (fun (t : Int) => N99 t) (fun e => some ((fun (t : Int) => t) e)))
def Nad (a : List (List Int)) (b : Int) : Option (Int) :=
  (N74 a b).bind (Sum.elim (fun (t : Int) => Nes a t) (fun e => some ((fun (t : Int) => t) e)))
@[irreducible] def N2l (a : List (List Int)) (b : Int) : Option (Int) :=
  Nad a b
def N7a (a : List Int) (b : List (List Int)) (c : Int) : Option (Int) :=
  (N1y a c).bind fun (d : Int) => cond (decide (d < 0)) (some (-1)) ((N2l b d).bind fun (g : Int) => cond (decide (g < 0)) (some (-1)) (some g))
@[irreducible] def N39 (a : List Int) (b : List (List Int)) (c : Int) : Option (Int) :=
  N7a a b c
def N6w (a : List Int) : Option (((List Int))) :=
  (mk (((List.length a : Nat) : Int)) (((List.length a : Nat) : Int))).bind fun (b : Nat) => some (List.replicate b (0 : Int))
def N5a : Option (Unit) :=
  some ()
def N4a (a : List Int) (b : Int) (c : List Int) : Option ((Int × (List Int)) ⊕ ((List Int))) :=
  cond (decide (b < (((List.length a : Nat) : Int)))) ((idx a b).bind fun (d : Int) => (inb b (List.length c)).bind fun (g : Nat) => some (Sum.inl ((IntKind.wrap .i64 (b + 1)),(c.set g d)))) (some (Sum.inr c))
def Nff (a b : List Int) : Option (((List Int))) :=
  nloop (fun (s : Int × (List Int)) => ((N4a a s.1 s.2).map (Sum.elim (fun (t : Int × (List Int)) => Sum.inl (t.1,t.2)) (fun (t : (List Int)) => Sum.inr t)) : Option ((Int × (List Int)) ⊕ (((List Int)))))) LL (0,b)
def Neu (a b : List Int) : Option (((List Int))) :=
  (Nff a b).map (fun (t : (List Int)) => t)
def Nh2 (a b : List Int) : Option (((List Int))) :=
  (N5a).bind (fun (t : Unit) => Neu a b)
def N6u (a : List Int) : Option (((List Int))) :=
  some a
def Ngo (a b : List Int) : Option (((List Int))) :=
  (Nh2 a b).bind (fun (t : (List Int)) => N6u t)
def Nfh (a : List Int) : Option (((List Int))) :=
  (N6w a).bind (fun (t : (List Int)) => Ngo a t)
@[irreducible] def N26 (a : List Int) : Option ((List Int)) :=
  Nfh a
def N6z (a : List (List Int)) : Option (((List (List Int)))) :=
  (mk (((List.length a : Nat) : Int)) (((List.length a : Nat) : Int))).bind fun (b : Nat) => some (List.replicate b [])
def N68 : Option (Unit) :=
  some ()
def N2w (a : List (List Int)) (b : Int) (c : List (List Int)) : Option ((Int × (List (List Int))) ⊕ ((List (List Int)))) :=
  cond (decide (b < (((List.length a : Nat) : Int)))) ((idx a b).bind fun (d : List Int) => (N26 d).bind fun (g : List Int) => (inb b (List.length c)).bind fun (i : Nat) => (within i (List.length c)).bind fun (j : Unit) => some (Sum.inl ((IntKind.wrap .i64 (b + 1)),((c).set i g)))) (some (Sum.inr c))
def Ng3 (a b : List (List Int)) : Option (((List (List Int)))) :=
  nloop (fun (s : Int × (List (List Int))) => ((N2w a s.1 s.2).map (Sum.elim (fun (t : Int × (List (List Int))) => Sum.inl (t.1,t.2)) (fun (t : (List (List Int))) => Sum.inr t)) : Option ((Int × (List (List Int))) ⊕ (((List (List Int))))))) LL (0,b)
def Ney (a b : List (List Int)) : Option (((List (List Int)))) :=
  (Ng3 a b).map (fun (t : (List (List Int))) => t)
def Ndk (a b : List (List Int)) : Option (((List (List Int)))) :=
  (N68).bind (fun (t : Unit) => Ney a b)
def N84 (a : List (List Int)) : Option (((List (List Int)))) :=
  some a
def Nfu (a b : List (List Int)) : Option (((List (List Int)))) :=
  (Ndk a b).bind (fun (t : (List (List Int))) => N84 t)
def Ncp (a : List (List Int)) : Option (((List (List Int)))) :=
  (N6z a).bind (fun (t : (List (List Int))) => Nfu a t)
@[irreducible] def N1u (a : List (List Int)) : Option ((List (List Int))) :=
  Ncp a
def N6c (a : List Int) (b : List (List Int)) : Option (((List Int) × (List (List Int)))) :=
  (N26 a).bind fun (c : List Int) => (N1u b).bind fun (d : List (List Int)) => some (c,d)
@[irreducible] def N12 (a : List Int) (b : List (List Int)) : Option ((List Int) × (List (List Int))) :=
  N6c a b
def N7p : Option (Unit) :=
  some ()
@[irreducible] def N1d (a b c : Int) : Option (Unit) :=
  N7p
def N7j (a b c : Int) : Option (Bool) :=
  cond (decide (a ≥ b)) (some (decide (a ≤ c))) (some false)
@[irreducible] def Nd (a b c : Int) : Option (Bool) :=
  N7j a b c
def N6g (a : List Int) : Option (Int ⊕ Bool) :=
  (Nd (((List.length a : Nat) : Int)) 1 8).bind fun (b : Bool) => cond (!b) (some (Sum.inr false)) (some (Sum.inl (((List.length a : Nat) : Int))))
def N8n : Option (Unit) :=
  some ()
def N4w (a b c : Int) : Option (Unit ⊕ Int) :=
  cond (decide (c < a)) (some (Sum.inl ())) (some (Sum.inr b))
def N7z (a : List Int) (b c d : Int) : Option ((Int × Int) ⊕ Bool) :=
  (idx a d).bind fun (g : Int) => (Nd g 0 b).bind fun (i : Bool) => cond (!i) (some (Sum.inr false)) ((idx a d).bind fun (j : Int) => cond (j == (IntKind.wrap .i64 (d + 1))) (some (Sum.inr false)) ((idx a d).bind fun (k : Int) => cond (k == 0) (some (Sum.inl ((IntKind.wrap .i64 (c + 1)),(IntKind.wrap .i64 (d + 1))))) (some (Sum.inl (c,(IntKind.wrap .i64 (d + 1)))))))
def N80 : Option (Unit) :=
  some ()
def N4s (a : List Int) (b c d : Int) : Option ((Int × Int) ⊕ Bool ⊕ Int) :=
  cond (decide (c > 0)) (cond (decide (d < b)) ((idx a (IntKind.wrap .i64 (c - 1))).bind fun (g : Int) => (Nd g 0 b).bind fun (i : Bool) => cond (!i) (some (Sum.inr (Sum.inl false))) (some (Sum.inl (g,(IntKind.wrap .i64 (d + 1)))))) (some (Sum.inr (Sum.inr c)))) (some (Sum.inr (Sum.inr c)))
def N95 (a : List Int) (b c : Int) : Option (Bool ⊕ Int) :=
  nloop (fun (s : Int × Int) => ((N4s a b s.1 s.2).map (Sum.elim (fun (t : Int × Int) => Sum.inl (t.1,t.2)) (Sum.elim (fun (t : Bool) => Sum.inr (Sum.inl t)) (fun (t : Int) => Sum.inr (Sum.inr t)))) : Option ((Int × Int) ⊕ (Bool ⊕ Int)))) LL (c,0)
def Ngh (a : List Int) (b c : Int) : Option (Int ⊕ Bool) :=
  (N95 a b c).map (Sum.elim (fun (t : Bool) => (Sum.inr t)) (fun (t : Int) => (Sum.inl t)))
def Ni0 (a : List Int) (b c : Int) : Option (Int ⊕ Bool) :=
  (N80).bind (fun (t : Unit) => Ngh a b c)
def N59 (a : Int) : Option (Unit ⊕ Bool) :=
  cond (decide (a > 0)) (some (Sum.inr false)) (some (Sum.inl ()))
def Ned (a : List Int) (b c : Int) : Option (Unit ⊕ Bool) :=
  (Ni0 a b c).bind (Sum.elim (fun (t : Int) => N59 t) (fun e => some ((fun (t : Bool) => (Sum.inr t)) e)))
def Ng4 (a : List Int) (b c d : Int) : Option (Int ⊕ Bool) :=
  (N7z a b c d).bind (Sum.elim (fun (t : Int × Int) => (Ned a b t.2).map (Sum.elim (fun (u : Unit) => (Sum.inl t.1)) (fun (u : Bool) => (Sum.inr u)))) (fun e => some ((fun (t : Bool) => (Sum.inr t)) e)))
def Nfn (a : List Int) (b c d : Int) : Option (Int ⊕ Bool) :=
  (Ng4 a b c d).map (Sum.elim (fun (t : Int) => (Sum.inl t)) (fun (t : Bool) => (Sum.inr t)))
def N6o (a : Int) : Option (Int) :=
  some (IntKind.wrap .i64 (a + 1))
def Ne9 (a : List Int) (b c d : Int) : Option ((Int × Int) ⊕ Bool) :=
  (Nfn a b c d).bind (Sum.elim (fun (t : Int) => (N6o d).map (fun (u : Int) => (Sum.inl (t,u)))) (fun e => some ((fun (t : Bool) => (Sum.inr t)) e)))
def N5b (a : List Int) (b c d : Int) : Option ((Int × Int) ⊕ Bool ⊕ Int) :=
  (N4w b c d).bind (Sum.elim (fun (t : Unit) => (Ne9 a b c d).map (Sum.elim (fun (t : Int × Int) => (Sum.inl (t.1,t.2))) (fun (t : Bool) => (Sum.inr (Sum.inl t))))) (fun e => some ((fun (t : Int) => (Sum.inr (Sum.inr t))) e)))
def Ngy (a : List Int) (b : Int) : Option (Bool ⊕ Int) :=
  nloop (fun (s : Int × Int) => ((N5b a b s.1 s.2).map (Sum.elim (fun (t : Int × Int) => Sum.inl (t.1,t.2)) (Sum.elim (fun (t : Bool) => Sum.inr (Sum.inl t)) (fun (t : Int) => Sum.inr (Sum.inr t)))) : Option ((Int × Int) ⊕ (Bool ⊕ Int)))) LL (0,0)
def Ndn (a : List Int) (b : Int) : Option (Int ⊕ Bool) :=
  (Ngy a b).map (Sum.elim (fun (t : Bool) => (Sum.inr t)) (fun (t : Int) => (Sum.inl t)))
def Ngm (a : List Int) (b : Int) : Option (Int ⊕ Bool) :=
  (N8n).bind (fun (t : Unit) => Ndn a b)
def N8d (a : Int) : Option (Bool) :=
  some (a == 1)
def Nfm (a : List Int) (b : Int) : Option (Bool) :=
  (Ngm a b).bind (Sum.elim (fun (t : Int) => N8d t) (fun e => some ((fun (t : Bool) => t) e)))
def Nf6 (a : List Int) : Option (Bool) :=
  (N6g a).bind (Sum.elim (fun (t : Int) => Nfm a t) (fun e => some ((fun (t : Bool) => t) e)))
@[irreducible] def N6 (a : List Int) : Option (Bool) :=
  Nf6 a
def N5t : Option (Unit) :=
  some ()
def N5d : Option (Unit) :=
  some ()
def N1q (a : Int) (b : List (List Int)) : Option (Int ⊕ Bool ⊕ Unit) :=
  cond (decide (a < (((List.length b : Nat) : Int)))) ((idx b a).bind fun (c : List Int) => (N6 c).bind fun (d : Bool) => cond (!d) (some (Sum.inr (Sum.inl false))) (some (Sum.inl (IntKind.wrap .i64 (a + 1))))) (some (Sum.inr (Sum.inr ())))
def Nhg (a : List (List Int)) : Option (Bool ⊕ Unit) :=
  nloop (fun (s : Int) => ((N1q s a).map (Sum.elim (fun (t : Int) => Sum.inl t) (Sum.elim (fun (t : Bool) => Sum.inr (Sum.inl t)) (fun (t : Unit) => Sum.inr (Sum.inr t)))) : Option ((Int) ⊕ (Bool ⊕ Unit)))) LL 0
def Ngr (a : List (List Int)) : Option (Unit ⊕ Bool) :=
  (Nhg a).map (Sum.elim (fun (t : Bool) => (Sum.inr t)) (fun (t : Unit) => (Sum.inl ())))
def Nh7 (a : List (List Int)) : Option (Unit ⊕ Bool) :=
  (N5d).bind (fun (t : Unit) => Ngr a)
def N7n (a : List Int) (b : List (List Int)) : Option (Bool) :=
  (N6 a).bind fun (c : Bool) => cond c (some (decide ((((List.length b : Nat) : Int)) ≤ 8))) (some false)
def Ndi (a : List Int) (b : List (List Int)) : Option (Bool) :=
  (Nh7 b).bind (Sum.elim (fun (t : Unit) => N7n a b) (fun e => some ((fun (t : Bool) => t) e)))
def N94 (a : List Int) (b : List (List Int)) : Option (Bool) :=
  (N5t).bind (fun (t : Unit) => Ndi a b)
@[irreducible] def N20 (a : List Int) (b : List (List Int)) : Option (Bool) :=
  N94 a b
def N7b (a : List Int) : Option (((List Int))) :=
  (room ((List.length ([] : List Int)) + List.length a)).bind fun (b : Unit) => some (([] : List Int) ++ a)
def N62 : Option (Unit) :=
  some ()
def N4b (a : Int) (b c : List (List Int)) : Option ((Int × (List (List Int))) ⊕ ((List (List Int)))) :=
  cond (decide (a < (((List.length b : Nat) : Int)))) ((idx b a).bind fun (d : List Int) => (room (List.length d)).bind fun (g : Unit) => (room (List.length c + 1)).bind fun (i : Unit) => some (Sum.inl ((IntKind.wrap .i64 (a + 1)),((c ++ [[]]).set (List.length c) d)))) (some (Sum.inr c))
def Ngz (a : List (List Int)) : Option (((List (List Int)))) :=
  nloop (fun (s : Int × (List (List Int))) => ((N4b s.1 a s.2).map (Sum.elim (fun (t : Int × (List (List Int))) => Sum.inl (t.1,t.2)) (fun (t : (List (List Int))) => Sum.inr t)) : Option ((Int × (List (List Int))) ⊕ (((List (List Int))))))) LL (0,([] : List (List Int)))
def Nfq (a : List (List Int)) : Option (((List (List Int)))) :=
  (Ngz a).map (fun (t : (List (List Int))) => t)
def Nhr (a : List (List Int)) : Option (((List (List Int)))) :=
  (N62).bind (fun (t : Unit) => Nfq a)
def N7r (a : List Int) (b : List (List Int)) : Option (((List Int) × (List (List Int)))) :=
  some (a,b)
def Ngu (a : List (List Int)) (b : List Int) : Option (((List Int) × (List (List Int)))) :=
  (Nhr a).bind (fun (t : (List (List Int))) => N7r b t)
def Nav (a : List Int) (b : List (List Int)) : Option (((List Int) × (List (List Int)))) :=
  (N7b a).bind (fun (t : (List Int)) => Ngu b t)
@[irreducible] def N29 (a : List Int) (b : List (List Int)) : Option ((List Int) × (List (List Int))) :=
  Nav a b
def N72 (a : List Int) : Option (Int) :=
  some (((List.length a : Nat) : Int))
def N5i (a : Int) : Option (Int) :=
  some (IntKind.wrap .i64 (a - 1))
def N1f (a : List Int) (b c : Int) (d : List Int) : Option ((Int × (List Int)) ⊕ ((List Int))) :=
  cond (decide (c ≥ 0)) ((N6 a).bind fun (g : Bool) => cond g ((idx a c).bind fun (i : Int) => cond (i == 0) ((room ((List.length d) + List.length ([0]))).bind fun (j : Unit) => some (Sum.inl ((IntKind.wrap .i64 (c - 1)),(d ++ ([0]))))) ((idx a c).bind fun (k : Int) => (room ((List.length d) + List.length ([(IntKind.wrap .i64 ((IntKind.wrap .i64 (b + 1)) - k))]))).bind fun (l : Unit) => some (Sum.inl ((IntKind.wrap .i64 (c - 1)),(d ++ ([(IntKind.wrap .i64 ((IntKind.wrap .i64 (b + 1)) - k))])))))) (some (Sum.inr d))) (some (Sum.inr d))
def Nhl (a : List Int) (b c : Int) : Option (((List Int))) :=
  nloop (fun (s : Int × (List Int)) => ((N1f a b s.1 s.2).map (Sum.elim (fun (t : Int × (List Int)) => Sum.inl (t.1,t.2)) (fun (t : (List Int)) => Sum.inr t)) : Option ((Int × (List Int)) ⊕ (((List Int)))))) LL (c,([] : List Int))
def Nee (a : List Int) (b c : Int) : Option (((List Int))) :=
  (Nhl a b c).map (fun (t : (List Int)) => t)
def Ne0 (a : List Int) (b : Int) : Option (((List Int))) :=
  (N5i b).bind (fun (t : Int) => Nee a b t)
def N7w (a : List Int) : Option (((List Int))) :=
  some a
def Nh4 (a : List Int) (b : Int) : Option (((List Int))) :=
  (Ne0 a b).bind (fun (t : (List Int)) => N7w t)
def Ndb (a : List Int) : Option (((List Int))) :=
  (N72 a).bind (fun (t : Int) => Nh4 a t)
@[irreducible] def Ns (a : List Int) : Option ((List Int)) :=
  Ndb a
def N76 : Option (Unit) :=
  some ()
def N5h : Option (Unit) :=
  some ()
def N2i (a : List Int) (b : Int) : Option (Int ⊕ Int ⊕ Unit) :=
  cond (decide (b < (((List.length a : Nat) : Int)))) ((N6 a).bind fun (c : Bool) => cond c ((idx a b).bind fun (d : Int) => cond (d == 0) (some (Sum.inr (Sum.inl (IntKind.wrap .i64 (b + 1))))) (some (Sum.inl (IntKind.wrap .i64 (b + 1))))) (some (Sum.inr (Sum.inr ())))) (some (Sum.inr (Sum.inr ())))
def Ng5 (a : List Int) : Option (Int ⊕ Unit) :=
  nloop (fun (s : Int) => ((N2i a s).map (Sum.elim (fun (t : Int) => Sum.inl t) (Sum.elim (fun (t : Int) => Sum.inr (Sum.inl t)) (fun (t : Unit) => Sum.inr (Sum.inr t)))) : Option ((Int) ⊕ (Int ⊕ Unit)))) LL 0
def Ni4 (a : List Int) : Option (Unit ⊕ Int) :=
  (Ng5 a).map (Sum.elim (fun (t : Int) => (Sum.inr t)) (fun (t : Unit) => (Sum.inl ())))
def Ndj (a : List Int) : Option (Unit ⊕ Int) :=
  (N5h).bind (fun (t : Unit) => Ni4 a)
def N87 : Option (Int) :=
  some (-1)
def Ndz (a : List Int) : Option (Int) :=
  (Ndj a).bind (Sum.elim (fun (t : Unit) => N87) (fun e => some ((fun (t : Int) => t) e)))
def Nds (a : List Int) : Option (Int) :=
  (N76).bind (fun (t : Unit) => Ndz a)
@[irreducible] def N31 (a : List Int) : Option (Int) :=
  Nds a
def N8r (R0 : (List Int) → Int → Option ((List Int))) : Option (Unit) :=
  some ()
def N73 (R0 : (List Int) → Int → Option ((List Int))) : Option (Unit) :=
  some ()
def N3l (R0 : (List Int) → Int → Option ((List Int))) (a : List Int) (b c : Int) (d : List Int) : Option ((Int × (List Int)) ⊕ ((List Int))) :=
  cond (decide (c < b)) ((idx a (IntKind.wrap .i64 (c - 1))).bind fun (g : Int) => cond (g == b) ((R0 a c).bind fun (i : List Int) => (room ((List.length d) + List.length i)).bind fun (j : Unit) => some (Sum.inl ((IntKind.wrap .i64 (c + 1)),(d ++ i)))) (some (Sum.inl ((IntKind.wrap .i64 (c + 1)),d)))) (some (Sum.inr d))
def Nek (R0 : (List Int) → Int → Option ((List Int))) (a : List Int) (b : Int) : Option (((List Int))) :=
  nloop (fun (s : Int × (List Int)) => ((N3l R0 a b s.1 s.2).map (Sum.elim (fun (t : Int × (List Int)) => Sum.inl (t.1,t.2)) (fun (t : (List Int)) => Sum.inr t)) : Option ((Int × (List Int)) ⊕ (((List Int)))))) LL (1,([] : List Int))
def Nex (R0 : (List Int) → Int → Option ((List Int))) (a : List Int) (b : Int) : Option (((List Int))) :=
  (Nek R0 a b).map (fun (t : (List Int)) => t)
def Nfz (R0 : (List Int) → Int → Option ((List Int))) (a : List Int) (b : Int) : Option (((List Int))) :=
  (N73 R0).bind (fun (t : Unit) => Nex R0 a b)
def N6j (R0 : (List Int) → Int → Option ((List Int))) (a : Int) (b : List Int) : Option (((List Int))) :=
  (room ((List.length b) + List.length ([a]))).bind fun (c : Unit) => some (b ++ ([a]))
def N8b (R0 : (List Int) → Int → Option ((List Int))) (a : Int) : Option (Int) :=
  some (IntKind.wrap .i64 (a + 1))
def N3c (R0 : (List Int) → Int → Option ((List Int))) (a : List Int) (b c : Int) (d : List Int) : Option ((Int × (List Int)) ⊕ ((List Int))) :=
  cond (decide (c ≤ (((List.length a : Nat) : Int)))) ((idx a (IntKind.wrap .i64 (c - 1))).bind fun (g : Int) => cond (g == b) ((R0 a c).bind fun (i : List Int) => (room ((List.length d) + List.length i)).bind fun (j : Unit) => some (Sum.inl ((IntKind.wrap .i64 (c + 1)),(d ++ i)))) (some (Sum.inl ((IntKind.wrap .i64 (c + 1)),d)))) (some (Sum.inr d))
def Ngx (R0 : (List Int) → Int → Option ((List Int))) (a : List Int) (b c : Int) (d : List Int) : Option (((List Int))) :=
  nloop (fun (s : Int × (List Int)) => ((N3c R0 a b s.1 s.2).map (Sum.elim (fun (t : Int × (List Int)) => Sum.inl (t.1,t.2)) (fun (t : (List Int)) => Sum.inr t)) : Option ((Int × (List Int)) ⊕ (((List Int)))))) LL (c,d)
def Ni5 (R0 : (List Int) → Int → Option ((List Int))) (a : List Int) (b c : Int) (d : List Int) : Option (((List Int))) :=
  (Ngx R0 a b c d).map (fun (t : (List Int)) => t)
def Ndr (R0 : (List Int) → Int → Option ((List Int))) (a : List Int) (b : Int) (c : List Int) : Option (((List Int))) :=
  (N8b R0 b).bind (fun (t : Int) => Ni5 R0 a b t c)
def N64 (R0 : (List Int) → Int → Option ((List Int))) (a : List Int) : Option (((List Int))) :=
  some a
def Nfa (R0 : (List Int) → Int → Option ((List Int))) (a : List Int) (b : Int) (c : List Int) : Option (((List Int))) :=
  (Ndr R0 a b c).bind (fun (t : (List Int)) => N64 R0 t)
def New (R0 : (List Int) → Int → Option ((List Int))) (a : List Int) (b : Int) (c : List Int) : Option (((List Int))) :=
  (N6j R0 b c).bind (fun (t : (List Int)) => Nfa R0 a b t)
def Ndu (R0 : (List Int) → Int → Option ((List Int))) (a : List Int) (b : Int) : Option (((List Int))) :=
  (Nfz R0 a b).bind (fun (t : (List Int)) => New R0 a b t)
def Neg (R0 : (List Int) → Int → Option ((List Int))) (a : List Int) (b : Int) : Option (((List Int))) :=
  (N8r R0).bind (fun (t : Unit) => Ndu R0 a b)
def Nao (R0 : (List Int) → Int → Option ((List Int))) (a : List Int) (b : Int) : Option ((List Int)) :=
  Neg R0 a b
def N2k : Nat → ((List Int) → Int → Option ((List Int)))
  | 0 => (fun _ _ => none)
  | n + 1 => (fun y0 y1 => Nao (N2k n) y0 y1)
def N3 (n : Nat) : (List Int) → Int → Option ((List Int)) := (N2k n)
@[irreducible] def N53 (a : List Int) (b : Int) : Option ((List Int)) := N3 RR a b
def N5g (a : List Int) : Option (((List Int))) :=
  (N6 a).bind fun (b : Bool) => cond (!b) (some ([] : List Int)) ((N31 a).bind fun (c : Int) => (N53 a c).bind fun (d : List Int) => some d)
@[irreducible] def N3b (a : List Int) : Option ((List Int)) :=
  N5g a
def N5x : Option (Unit) :=
  some ()
def N5p : Option (Unit) :=
  some ()
def N6p (a : List Int) (b : Int) : Option (Unit ⊕ Unit) :=
  cond (decide (b < (((List.length a : Nat) : Int)))) (some (Sum.inl ())) (some (Sum.inr ()))
def N67 (a : List Int) (b c : Int) : Option (Unit ⊕ Bool) :=
  (idx a c).bind fun (d : Int) => (Nd d 1 b).bind fun (g : Bool) => cond (!g) (some (Sum.inr false)) (some (Sum.inl ()))
def N4r (a : List Int) (b c : Int) : Option (Int ⊕ Bool ⊕ Unit) :=
  cond (decide (c < b)) ((idx a c).bind fun (d : Int) => (idx a b).bind fun (g : Int) => cond (d == g) (some (Sum.inr (Sum.inl false))) (some (Sum.inl (IntKind.wrap .i64 (c + 1))))) (some (Sum.inr (Sum.inr ())))
def N96 (a : List Int) (b : Int) : Option (Bool ⊕ Unit) :=
  nloop (fun (s : Int) => ((N4r a b s).map (Sum.elim (fun (t : Int) => Sum.inl t) (Sum.elim (fun (t : Bool) => Sum.inr (Sum.inl t)) (fun (t : Unit) => Sum.inr (Sum.inr t)))) : Option ((Int) ⊕ (Bool ⊕ Unit)))) LL 0
def Ng1 (a : List Int) (b : Int) : Option (Unit ⊕ Bool) :=
  (N96 a b).map (Sum.elim (fun (t : Bool) => (Sum.inr t)) (fun (t : Unit) => (Sum.inl ())))
def Nhe (a : List Int) (b c : Int) : Option (Unit ⊕ Bool) :=
  (N67 a b c).bind (Sum.elim (fun (t : Unit) => Ng1 a c) (fun e => some ((fun (t : Bool) => (Sum.inr t)) e)))
def Nfg (a : List Int) (b c : Int) : Option (Unit ⊕ Bool) :=
  (Nhe a b c).map (Sum.elim (fun (t : Unit) => (Sum.inl ())) (fun (t : Bool) => (Sum.inr t)))
def N5r (a : Int) : Option (Int) :=
  some (IntKind.wrap .i64 (a + 1))
def Nea (a : List Int) (b c : Int) : Option (Int ⊕ Bool) :=
  (Nfg a b c).bind (Sum.elim (fun (t : Unit) => (N5r c).map (fun (t : Int) => (Sum.inl t))) (fun e => some ((fun (t : Bool) => (Sum.inr t)) e)))
def Nbn (a : List Int) (b c : Int) : Option (Int ⊕ Bool ⊕ Unit) :=
  (N6p a c).bind (Sum.elim (fun (t : Unit) => (Nea a b c).map (Sum.elim (fun (t : Int) => (Sum.inl t)) (fun (t : Bool) => (Sum.inr (Sum.inl t))))) (fun e => some ((fun (t : Unit) => (Sum.inr (Sum.inr t))) e)))
def Nf2 (a : List Int) (b : Int) : Option (Bool ⊕ Unit) :=
  nloop (fun (s : Int) => ((Nbn a b s).map (Sum.elim (fun (t : Int) => Sum.inl t) (Sum.elim (fun (t : Bool) => Sum.inr (Sum.inl t)) (fun (t : Unit) => Sum.inr (Sum.inr t)))) : Option ((Int) ⊕ (Bool ⊕ Unit)))) LL 0
def Nfl (a : List Int) (b : Int) : Option (Unit ⊕ Bool) :=
  (Nf2 a b).map (Sum.elim (fun (t : Bool) => (Sum.inr t)) (fun (t : Unit) => (Sum.inl ())))
def Nhw (a : List Int) (b : Int) : Option (Unit ⊕ Bool) :=
  (N5p).bind (fun (t : Unit) => Nfl a b)
def N7h (a : List Int) (b : Int) : Option (Bool) :=
  (Nd b 1 8).bind fun (c : Bool) => cond c (some ((((List.length a : Nat) : Int)) == b)) (some false)
def Nfo (a : List Int) (b : Int) : Option (Bool) :=
  (Nhw a b).bind (Sum.elim (fun (t : Unit) => N7h a b) (fun e => some ((fun (t : Bool) => t) e)))
def Nfw (a : List Int) (b : Int) : Option (Bool) :=
  (N5x).bind (fun (t : Unit) => Nfo a b)
@[irreducible] def N2m (a : List Int) (b : Int) : Option (Bool) :=
  Nfw a b
def N8m (a b : List Int) : Option (((List Int)) ⊕ (Bool × (List Int))) :=
  (N6 a).bind fun (c : Bool) => cond (!c) (some (Sum.inr (false,([] : List Int)))) ((N2m b (((List.length a : Nat) : Int))).bind fun (d : Bool) => cond (!d) (some (Sum.inr (false,([] : List Int)))) ((mk (IntKind.wrap .i64 ((((List.length a : Nat) : Int)) + 1)) (IntKind.wrap .i64 ((((List.length a : Nat) : Int)) + 1))).bind fun (g : Nat) => some (Sum.inl (List.replicate g (0 : Int)))))
def N60 : Option (Unit) :=
  some ()
def N8o (a : List Int) (b : Int) (c : List Int) : Option ((Int × (List Int)) ⊕ ((List Int))) :=
  cond (decide (b < (((List.length a : Nat) : Int)))) ((idx a b).bind fun (d : Int) => (inb d (List.length c)).bind fun (g : Nat) => some (Sum.inl ((IntKind.wrap .i64 (b + 1)),(c.set g (IntKind.wrap .i64 (b + 1)))))) (some (Sum.inr c))
def Ndx (a b : List Int) : Option (((List Int))) :=
  nloop (fun (s : Int × (List Int)) => ((N8o a s.1 s.2).map (Sum.elim (fun (t : Int × (List Int)) => Sum.inl (t.1,t.2)) (fun (t : (List Int)) => Sum.inr t)) : Option ((Int × (List Int)) ⊕ (((List Int)))))) LL (0,b)
def Ndp (a b : List Int) : Option (((List Int))) :=
  (Ndx a b).map (fun (t : (List Int)) => t)
def Ne7 (a b : List Int) : Option (((List Int))) :=
  (N60).bind (fun (t : Unit) => Ndp a b)
def N6v : Option (Unit) :=
  some ()
def N8s : Option (Unit) :=
  some ()
def N4n (a b : List Int) (c : Int) (d g : List Int) : Option ((Int × (List Int)) ⊕ ((List Int))) :=
  cond (decide (c < (((List.length b : Nat) : Int)))) ((idx b c).bind fun (i : Int) => (idx a (IntKind.wrap .i64 (i - 1))).bind fun (j : Int) => (inb j (List.length d)).bind fun (k : Nat) => (d[k]?).bind fun (l : Int) => (room ((List.length g) + List.length ([l]))).bind fun (m : Unit) => some (Sum.inl ((IntKind.wrap .i64 (c + 1)),(g ++ ([l]))))) (some (Sum.inr g))
def Ndh (a b c : List Int) : Option (((List Int))) :=
  nloop (fun (s : Int × (List Int)) => ((N4n a b s.1 c s.2).map (Sum.elim (fun (t : Int × (List Int)) => Sum.inl (t.1,t.2)) (fun (t : (List Int)) => Sum.inr t)) : Option ((Int × (List Int)) ⊕ (((List Int)))))) LL (0,([] : List Int))
def Ng2 (a b c : List Int) : Option (((List Int))) :=
  (Ndh a b c).map (fun (t : (List Int)) => t)
def Nfx (a b c : List Int) : Option (((List Int))) :=
  (N8s).bind (fun (t : Unit) => Ng2 a b c)
def N7q (a : List Int) : Option ((Bool × (List Int))) :=
  some (true,a)
def Nhz (a b c : List Int) : Option ((Bool × (List Int))) :=
  (Nfx a b c).bind (fun (t : (List Int)) => N7q t)
def Nfi (a b c : List Int) : Option ((Bool × (List Int))) :=
  (N6v).bind (fun (t : Unit) => Nhz a b c)
def Nhi (a b c : List Int) : Option ((Bool × (List Int))) :=
  (Ne7 b c).bind (fun (t : (List Int)) => Nfi a b t)
def Nfr (a b : List Int) : Option ((Bool × (List Int))) :=
  (N8m a b).bind (Sum.elim (fun (t : (List Int)) => Nhi a b t) (fun e => some ((fun (t : Bool × (List Int)) => t) e)))
@[irreducible] def N38 (a b : List Int) : Option (Bool × (List Int)) :=
  Nfr a b
def N61 (a : List Int) : Option (((List Int))) :=
  (N3b a).bind fun (b : List Int) => (N38 a b).bind fun (c : Bool × (List Int)) => some (c.2)
@[irreducible] def N1g (a : List Int) : Option ((List Int)) :=
  N61 a
def N4e (a : List Int) (b c d : Int) : Option ((Nat × (List Int))) :=
  (room ((List.length ([] : List Int)) + List.length a)).bind fun (g : Unit) => cond (b == 0) ((Nd c 1 (((List.length a : Nat) : Int))).bind fun (i : Bool) => cond i ((inb (IntKind.wrap .i64 (c - 1)) (List.length (([] : List Int) ++ a))).bind fun (j : Nat) => some ((List.length ((([] : List Int) ++ a).set j d)),((([] : List Int) ++ a).set j d))) (cond ((b == 1) && ((c == c) && ((d == 0) && true))) ((room ((List.length (([] : List Int) ++ a)) + List.length ([c]))).bind fun (k : Unit) => some ((List.length ((([] : List Int) ++ a) ++ ([c]))),((([] : List Int) ++ a) ++ ([c])))) (cond ((b == 2) && ((c == 0) && ((d == 0) && true))) ((inc (IntKind.wrap .i64 ((((List.length (([] : List Int) ++ a) : Nat) : Int)) - 1)) (List.length (([] : List Int) ++ a))).bind fun (l : Nat) => some ((l - 0),(([] : List Int) ++ a))) (cond ((b == 3) && ((c == 0) && ((d == 0) && true))) ((Ns a).bind fun (m : List Int) => some ((List.length m),m)) (cond ((b == 4) && ((c == 0) && ((d == 0) && true))) ((N1g a).bind fun (o : List Int) => some ((List.length o),o)) (some ((List.length ([] : List Int)),([] : List Int)))))))) (cond ((b == 1) && ((c == c) && ((d == 0) && true))) ((room ((List.length (([] : List Int) ++ a)) + List.length ([c]))).bind fun (p : Unit) => some ((List.length ((([] : List Int) ++ a) ++ ([c]))),((([] : List Int) ++ a) ++ ([c])))) (cond ((b == 2) && ((c == 0) && ((d == 0) && true))) ((inc (IntKind.wrap .i64 ((((List.length (([] : List Int) ++ a) : Nat) : Int)) - 1)) (List.length (([] : List Int) ++ a))).bind fun (q : Nat) => some ((q - 0),(([] : List Int) ++ a))) (cond ((b == 3) && ((c == 0) && ((d == 0) && true))) ((Ns a).bind fun (w : List Int) => some ((List.length w),w)) (cond ((b == 4) && ((c == 0) && ((d == 0) && true))) ((N1g a).bind fun (y : List Int) => some ((List.length y),y)) (some ((List.length ([] : List Int)),([] : List Int)))))))
@[irreducible] def Nn (a : List Int) (b c d : Int) : Option (Nat × (List Int)) :=
  N4e a b c d
def N66 (a : List Int) (b : List (List Int)) (c d g : Int) : Option ((Nat × Bool × (List Int) × (List Int) × (List (List Int))) ⊕ (Bool × (List Int) × (List (List Int)))) :=
  (N20 a b).bind fun (i : Bool) => cond (!i) (some (Sum.inr (false,([] : List Int),([] : List (List Int))))) ((N29 a b).bind fun (j : (List Int) × (List (List Int))) => cond ((c == 5) && ((d == 0) && ((g == 0) && true))) (cond (decide ((((List.length b : Nat) : Int)) > 0)) ((inb (IntKind.wrap .i64 ((((List.length (j.2) : Nat) : Int)) - 1)) (List.length (j.2))).bind fun (k : Nat) => (((j.2))[k]?).bind fun (l : List Int) => (inc (IntKind.wrap .i64 ((((List.length (j.2) : Nat) : Int)) - 1)) (List.length (((j.2)).set k []))).bind fun (m : Nat) => (sure (Nat.blt k 0 || Nat.ble m k)).bind fun (o : Unit) => some (Sum.inr (true,l,(((((j.2)).set k []).take m).drop 0)))) ((Nn a c d g).bind fun (p : Nat × (List Int)) => some (Sum.inl ((p.1),(((((p.1) : Nat) : Int)) == (((List.length a : Nat) : Int))),(p.2),(j.1),(j.2))))) ((Nn a c d g).bind fun (q : Nat × (List Int)) => some (Sum.inl ((q.1),(((((q.1) : Nat) : Int)) == (((List.length a : Nat) : Int))),(q.2),(j.1),(j.2)))))
def N7k : Option (Unit) :=
  some ()
def N22 (a : Nat) (b : Bool) (c : Int) (d g : List Int) : Option ((Bool × Int) ⊕ Bool) :=
  cond (decide (c < (((a : Nat) : Int)))) (cond b ((inb c a).bind fun (i : Nat) => (g[(0 + i)]?).bind fun (j : Int) => (idx d c).bind fun (k : Int) => some (Sum.inl ((j == k),(IntKind.wrap .i64 (c + 1))))) (some (Sum.inr b))) (some (Sum.inr b))
def Nd8 (a : Nat) (b : Bool) (c d : List Int) : Option (Bool) :=
  nloop (fun (s : Bool × Int) => ((N22 a s.1 s.2 c d).map (Sum.elim (fun (t : Bool × Int) => Sum.inl (t.1,t.2)) (fun (t : Bool) => Sum.inr t)) : Option ((Bool × Int) ⊕ (Bool)))) LL (b,0)
def Nht (a : Nat) (b : Bool) (c d : List Int) : Option (Bool) :=
  (Nd8 a b c d).map (fun (t : Bool) => t)
def Ngb (a : Nat) (b : Bool) (c d : List Int) : Option (Bool) :=
  (N7k).bind (fun (t : Unit) => Nht a b c d)
def N6h (a : Nat) (b : Bool) (c d : List Int) (g : List (List Int)) : Option ((Bool × (List Int) × (List (List Int)))) :=
  cond b (some (false,d,g)) ((N6 ((c.drop 0).take a)).bind fun (i : Bool) => cond (!i) (some (false,d,g)) ((room (List.length g + 1)).bind fun (j : Unit) => cond (decide ((((List.length ((g ++ [[]]).set (List.length g) d) : Nat) : Int)) > 8)) ((inc 1 (List.length ((g ++ [[]]).set (List.length g) d))).bind fun (k : Nat) => (room ((List.length ([] : List Int)) + List.length ((c.drop 0).take a))).bind fun (l : Unit) => some (true,(([] : List Int) ++ ((c.drop 0).take a)),((((g ++ [[]]).set (List.length g) d).take (List.length ((g ++ [[]]).set (List.length g) d))).drop k))) ((room ((List.length ([] : List Int)) + List.length ((c.drop 0).take a))).bind fun (m : Unit) => some (true,(([] : List Int) ++ ((c.drop 0).take a)),((g ++ [[]]).set (List.length g) d)))))
def Nbr (a : Nat) (b : Bool) (c d g : List Int) (i : List (List Int)) : Option ((Bool × (List Int) × (List (List Int)))) :=
  (Ngb a b c d).bind (fun (t : Bool) => N6h a t d g i)
def Ncw (a : List Int) (b : List (List Int)) (c d g : Int) : Option ((Bool × (List Int) × (List (List Int)))) :=
  (N66 a b c d g).bind (Sum.elim (fun (t : Nat × Bool × (List Int) × (List Int) × (List (List Int))) => Nbr t.1 t.2.1 a t.2.2.1 t.2.2.2.1 t.2.2.2.2) (fun e => some ((fun (t : Bool × (List Int) × (List (List Int))) => t) e)))
@[irreducible] def N1t (a : List Int) (b : List (List Int)) (c d g : Int) : Option (Bool × (List Int) × (List (List Int))) :=
  Ncw a b c d g
def N8g : Option (Unit) :=
  some ()
def N5o (a : List Int) : Option (Int) :=
  some (((List.length a : Nat) : Int))
def N3s (a : List Int) (b c d : Int) : Option ((Int × Int) ⊕ Bool ⊕ Int) :=
  cond (decide (d < c)) ((idx a d).bind fun (g : Int) => cond (decide (g < 0)) (some (Sum.inr (Sum.inl false))) (cond (decide (g > (((List.length a : Nat) : Int)))) (some (Sum.inr (Sum.inl false))) (cond (g == 0) (some (Sum.inl ((IntKind.wrap .i64 (b + 1)),(IntKind.wrap .i64 (d + 1))))) (some (Sum.inl (b,(IntKind.wrap .i64 (d + 1)))))))) (some (Sum.inr (Sum.inr b)))
def Nfk (a : List Int) (b : Int) : Option (Bool ⊕ Int) :=
  nloop (fun (s : Int × Int) => ((N3s a s.1 b s.2).map (Sum.elim (fun (t : Int × Int) => Sum.inl (t.1,t.2)) (Sum.elim (fun (t : Bool) => Sum.inr (Sum.inl t)) (fun (t : Int) => Sum.inr (Sum.inr t)))) : Option ((Int × Int) ⊕ (Bool ⊕ Int)))) LL (0,0)
def Ne4 (a : List Int) (b : Int) : Option (Int ⊕ Bool) :=
  (Nfk a b).map (Sum.elim (fun (t : Bool) => (Sum.inr t)) (fun (t : Int) => (Sum.inl t)))
def Ngj (a : List Int) : Option (Int ⊕ Bool) :=
  (N5o a).bind (fun (t : Int) => Ne4 a t)
def N5s (a : Int) : Option (Bool) :=
  some (a == 1)
def Nhf (a : List Int) : Option (Bool) :=
  (Ngj a).bind (Sum.elim (fun (t : Int) => N5s t) (fun e => some ((fun (t : Bool) => t) e)))
def Ng8 (a : List Int) : Option (Bool) :=
  (N8g).bind (fun (t : Unit) => Nhf a)
@[irreducible] def N3y (a : List Int) : Option (Bool) :=
  Ng8 a
def N6f (a : List Int) (b c : Int) : Option ((Bool × Int × Int)) :=
  (idx a (IntKind.wrap .i64 (b - 1))).bind fun (d : Int) => cond (d == 0) (some (false,b,c)) (some (true,d,(IntKind.wrap .i64 (c + 1))))
@[irreducible] def N1o (a : List Int) (b c : Int) : Option (Bool × Int × Int) :=
  N6f a b c
def N7x : Option (Unit) :=
  some ()
def N4m (a : List Int) (b c : Int) : Option ((Int × Int) ⊕ (Int × Bool) ⊕ (Int × Int)) :=
  (N1o a b c).bind fun (d : Bool × Int × Int) => cond (d.1) (cond (decide ((d.2.2) ≥ (((List.length a : Nat) : Int)))) (some (Sum.inr (Sum.inl (0,false)))) (some (Sum.inl ((d.2.1),(d.2.2))))) (some (Sum.inr (Sum.inr ((d.2.1),(d.2.2)))))
def Nge (a : List Int) (b : Int) : Option ((Int × Bool) ⊕ (Int × Int)) :=
  nloop (fun (s : Int × Int) => ((N4m a s.1 s.2).map (Sum.elim (fun (t : Int × Int) => Sum.inl (t.1,t.2)) (Sum.elim (fun (t : Int × Bool) => Sum.inr (Sum.inl t)) (fun (t : Int × Int) => Sum.inr (Sum.inr t)))) : Option ((Int × Int) ⊕ ((Int × Bool) ⊕ (Int × Int))))) LL (b,0)
def Ndm (a : List Int) (b : Int) : Option ((Int × Int) ⊕ (Int × Bool)) :=
  (Nge a b).map (Sum.elim (fun (t : Int × Bool) => (Sum.inr t)) (fun (t : Int × Int) => (Sum.inl (t.1,t.2))))
def N8i (a : Int) : Option ((Int × Bool)) :=
  some (a,true)
def Ne3 (a : List Int) (b : Int) : Option ((Int × Bool)) :=
  (Ndm a b).bind (Sum.elim (fun (t : Int × Int) => N8i t.2) (fun e => some ((fun (t : Int × Bool) => t) e)))
def Ner (a : List Int) (b : Int) : Option ((Int × Bool)) :=
  (N7x).bind (fun (t : Unit) => Ne3 a b)
@[irreducible] def N2t (a : List Int) (b : Int) : Option (Int × Bool) :=
  Ner a b
def N7l (a : List Int) : Option (Unit ⊕ Bool) :=
  cond (decide ((((List.length a : Nat) : Int)) < 1)) (some (Sum.inr false)) (cond (decide ((((List.length a : Nat) : Int)) > 8)) (some (Sum.inr false)) ((N3y a).bind fun (b : Bool) => cond (!b) (some (Sum.inr false)) (some (Sum.inl ()))))
def N7m (a : List Int) : Option (Int) :=
  some (((List.length a : Nat) : Int))
def N2v (a : List Int) (b c : Int) : Option (Int ⊕ Bool ⊕ Unit) :=
  cond (decide (c < b)) ((N2t a (IntKind.wrap .i64 (c + 1))).bind fun (d : Int × Bool) => cond (!(d.2)) (some (Sum.inr (Sum.inl false))) (some (Sum.inl (IntKind.wrap .i64 (c + 1))))) (some (Sum.inr (Sum.inr ())))
def Ne8 (a : List Int) (b : Int) : Option (Bool ⊕ Unit) :=
  nloop (fun (s : Int) => ((N2v a b s).map (Sum.elim (fun (t : Int) => Sum.inl t) (Sum.elim (fun (t : Bool) => Sum.inr (Sum.inl t)) (fun (t : Unit) => Sum.inr (Sum.inr t)))) : Option ((Int) ⊕ (Bool ⊕ Unit)))) LL 0
def Nep (a : List Int) (b : Int) : Option (Unit ⊕ Bool) :=
  (Ne8 a b).map (Sum.elim (fun (t : Bool) => (Sum.inr t)) (fun (t : Unit) => (Sum.inl ())))
def Nel (a : List Int) : Option (Unit ⊕ Bool) :=
  (N7m a).bind (fun (t : Int) => Nep a t)
def Naz : Option (Bool) :=
  some true
def Nhc (a : List Int) : Option (Bool) :=
  (Nel a).bind (Sum.elim (fun (t : Unit) => Naz) (fun e => some ((fun (t : Bool) => t) e)))
def Nhk (a : List Int) : Option (Bool) :=
  (N7l a).bind (Sum.elim (fun (t : Unit) => Nhc a) (fun e => some ((fun (t : Bool) => t) e)))
@[irreducible] def N5 (a : List Int) : Option (Bool) :=
  Nhk a
def N5n (a : List Int) (b : List (List Int)) : Option (Unit ⊕ Bool) :=
  (N5 a).bind fun (c : Bool) => cond (!c) (some (Sum.inr false)) (cond (decide ((((List.length b : Nat) : Int)) > 8)) (some (Sum.inr false)) (some (Sum.inl ())))
def N7e (a : List (List Int)) : Option (Int) :=
  some (((List.length a : Nat) : Int))
def N2g (a : List (List Int)) (b c : Int) : Option (Int ⊕ Bool ⊕ Unit) :=
  cond (decide (c < b)) ((idx a c).bind fun (d : List Int) => (N5 d).bind fun (g : Bool) => cond (!g) (some (Sum.inr (Sum.inl false))) (some (Sum.inl (IntKind.wrap .i64 (c + 1))))) (some (Sum.inr (Sum.inr ())))
def Nfb (a : List (List Int)) (b : Int) : Option (Bool ⊕ Unit) :=
  nloop (fun (s : Int) => ((N2g a b s).map (Sum.elim (fun (t : Int) => Sum.inl t) (Sum.elim (fun (t : Bool) => Sum.inr (Sum.inl t)) (fun (t : Unit) => Sum.inr (Sum.inr t)))) : Option ((Int) ⊕ (Bool ⊕ Unit)))) LL 0
def Nh5 (a : List (List Int)) (b : Int) : Option (Unit ⊕ Bool) :=
  (Nfb a b).map (Sum.elim (fun (t : Bool) => (Sum.inr t)) (fun (t : Unit) => (Sum.inl ())))
def Nf1 (a : List (List Int)) : Option (Unit ⊕ Bool) :=
  (N7e a).bind (fun (t : Int) => Nh5 a t)
def Nco : Option (Bool) :=
  some true
def Nfp (a : List (List Int)) : Option (Bool) :=
  (Nf1 a).bind (Sum.elim (fun (t : Unit) => Nco) (fun e => some ((fun (t : Bool) => t) e)))
def Ndf (a : List Int) (b : List (List Int)) : Option (Bool) :=
  (N5n a b).bind (Sum.elim (fun (t : Unit) => Nfp b) (fun e => some ((fun (t : Bool) => t) e)))
@[irreducible] def N2f (a : List Int) (b : List (List Int)) : Option (Bool) :=
  Ndf a b
def N6m (a : Int) : Option (Int) :=
  cond (a == 0) (some 2) (cond (a == 1) (some 1) (some 0))
@[irreducible] def N4y (a : Int) : Option (Int) :=
  N6m a
def N8j (a b c : Int) : Option (Bool) :=
  (N4y a).bind fun (d : Int) => cond (decide (d > 0)) (cond (decide (d > 1)) (some true) (some (c == 0))) (cond (b == 0) (cond (decide (d > 1)) (some true) (some (c == 0))) (some false))
@[irreducible] def N2u (a b c : Int) : Option (Bool) :=
  N8j a b c
def N1l (x1 : List Int) : Option (List Int) := cloneD x1
def N6s (a : List Int) : Option (((List Int))) :=
  (N1l a).bind fun (b : List Int) => some b
def N6y (a : List (List Int)) : Option (Int) :=
  some (((List.length a : Nat) : Int))
def N45 (a : List (List Int)) (b c : Int) (d : List (List Int)) : Option ((Int × (List (List Int))) ⊕ ((List (List Int)))) :=
  cond (decide (c < b)) ((idx a c).bind fun (g : List Int) => (N1l g).bind fun (i : List Int) => (room (List.length d + 1)).bind fun (j : Unit) => some (Sum.inl ((IntKind.wrap .i64 (c + 1)),((d ++ [[]]).set (List.length d) i)))) (some (Sum.inr d))
def Nhs (a : List (List Int)) (b : Int) : Option (((List (List Int)))) :=
  nloop (fun (s : Int × (List (List Int))) => ((N45 a b s.1 s.2).map (Sum.elim (fun (t : Int × (List (List Int))) => Sum.inl (t.1,t.2)) (fun (t : (List (List Int))) => Sum.inr t)) : Option ((Int × (List (List Int))) ⊕ (((List (List Int))))))) LL (0,([] : List (List Int)))
def Nhh (a : List (List Int)) (b : Int) : Option (((List (List Int)))) :=
  (Nhs a b).map (fun (t : (List (List Int))) => t)
def Ne2 (a : List (List Int)) : Option (((List (List Int)))) :=
  (N6y a).bind (fun (t : Int) => Nhh a t)
def N8l (a : List Int) (b : List (List Int)) : Option (((List Int) × (List (List Int)))) :=
  some (a,b)
def Ngi (a : List (List Int)) (b : List Int) : Option (((List Int) × (List (List Int)))) :=
  (Ne2 a).bind (fun (t : (List (List Int))) => N8l b t)
def Nbm (a : List Int) (b : List (List Int)) : Option (((List Int) × (List (List Int)))) :=
  (N6s a).bind (fun (t : (List Int)) => Ngi b t)
@[irreducible] def N8 (a : List Int) (b : List (List Int)) : Option ((List Int) × (List (List Int))) :=
  Nbm a b
def N4f (a : List Int) (b : List (List Int)) : Option ((Bool × (List Int) × (List (List Int)))) :=
  cond (decide ((IntKind.wrap .i64 ((((List.length b : Nat) : Int)) - 1)) < 0)) ((N8 a ([] : List (List Int))).bind fun (c : (List Int) × (List (List Int))) => some (false,(c.1),(c.2))) ((idx b (IntKind.wrap .i64 ((((List.length b : Nat) : Int)) - 1))).bind fun (d : List Int) => (inc (IntKind.wrap .i64 ((((List.length b : Nat) : Int)) - 1)) (List.length b)).bind fun (g : Nat) => (N8 d ((b.take g).drop 0)).bind fun (i : (List Int) × (List (List Int))) => some (true,(i.1),(i.2)))
@[irreducible] def N1r (a : List Int) (b : List (List Int)) : Option (Bool × (List Int) × (List (List Int))) :=
  N4f a b
def N4k (a : List Int) (b : Int) : Option (Bool) :=
  (N5 a).bind fun (c : Bool) => cond c (cond (decide (b ≥ 1)) (some (decide (b ≤ (((List.length a : Nat) : Int))))) (some false)) (some false)
@[irreducible] def N1v (a : List Int) (b : Int) : Option (Bool) :=
  N4k a b
def N5e (a : Int) : Option (((List Int))) :=
  (mk a a).bind fun (b : Nat) => some (List.replicate b (0 : Int))
def N6e (a : List Int) : Option (Int) :=
  some (((List.length a : Nat) : Int))
def N2o (a b c : Int) (d : List Int) : Option ((Int × (List Int)) ⊕ ((List Int))) :=
  cond (decide (c < b)) ((inb c (List.length d)).bind fun (g : Nat) => some (Sum.inl ((IntKind.wrap .i64 (c + 1)),(d.set g (IntKind.wrap .i64 (a - c)))))) (some (Sum.inr d))
def Ne5 (a b : Int) (c : List Int) : Option (((List Int))) :=
  nloop (fun (s : Int × (List Int)) => ((N2o a b s.1 s.2).map (Sum.elim (fun (t : Int × (List Int)) => Sum.inl (t.1,t.2)) (fun (t : (List Int)) => Sum.inr t)) : Option ((Int × (List Int)) ⊕ (((List Int)))))) LL (0,c)
def Ngt (a b : Int) (c : List Int) : Option (((List Int))) :=
  (Ne5 a b c).map (fun (t : (List Int)) => t)
def Net (a : Int) (b : List Int) : Option (((List Int))) :=
  (N6e b).bind (fun (t : Int) => Ngt a t b)
def N8c (a : List Int) : Option (((List Int))) :=
  some a
def Ndv (a : Int) (b : List Int) : Option (((List Int))) :=
  (Net a b).bind (fun (t : (List Int)) => N8c t)
def Nbs (a : Int) : Option (((List Int))) :=
  (N5e a).bind (fun (t : (List Int)) => Ndv a t)
@[irreducible] def N2h (a : Int) : Option ((List Int)) :=
  Nbs a
def N71 (a : List Int) (b : Int) : Option (Unit ⊕ Bool) :=
  cond (decide (b < 1)) (some (Sum.inr false)) (cond (decide (b > 8)) (some (Sum.inr false)) (cond ((((List.length a : Nat) : Int)) != b) (some (Sum.inr false)) (some (Sum.inl ()))))
def N6l (a : List Int) : Option (Int) :=
  some (((List.length a : Nat) : Int))
def N4i (a : Int) (b : List Int) (c d : Int) (g : List Bool) : Option ((Int × (List Bool)) ⊕ Bool ⊕ Unit) :=
  cond (decide (d < c)) ((idx b d).bind fun (i : Int) => cond (decide (i < 1)) (some (Sum.inr (Sum.inl false))) (cond (decide (i > a)) (some (Sum.inr (Sum.inl false))) ((same (List.length g) 9).bind fun (j : Unit) => (inb i 9).bind fun (k : Nat) => (g[k]?).bind fun (l : Bool) => cond l (some (Sum.inr (Sum.inl false))) ((same (List.length g) 9).bind fun (m : Unit) => (inb i 9).bind fun (o : Nat) => some (Sum.inl ((IntKind.wrap .i64 (d + 1)),(g.set o true))))))) (some (Sum.inr (Sum.inr ())))
def Nez (a : Int) (b : List Int) (c : Int) : Option (Bool ⊕ Unit) :=
  nloop (fun (s : Int × (List Bool)) => ((N4i a b c s.1 s.2).map (Sum.elim (fun (t : Int × (List Bool)) => Sum.inl (t.1,t.2)) (Sum.elim (fun (t : Bool) => Sum.inr (Sum.inl t)) (fun (t : Unit) => Sum.inr (Sum.inr t)))) : Option ((Int × (List Bool)) ⊕ (Bool ⊕ Unit)))) LL (0,(List.replicate 9 false))
def Nhu (a : Int) (b : List Int) (c : Int) : Option (Unit ⊕ Bool) :=
  (Nez a b c).map (Sum.elim (fun (t : Bool) => (Sum.inr t)) (fun (t : Unit) => (Sum.inl ())))
def Ngw (a : List Int) (b : Int) : Option (Unit ⊕ Bool) :=
  (N6l a).bind (fun (t : Int) => Nhu b a t)
def N6x : Option (Bool) :=
  some true
def Nh3 (a : List Int) (b : Int) : Option (Bool) :=
  (Ngw a b).bind (Sum.elim (fun (t : Unit) => N6x) (fun e => some ((fun (t : Bool) => t) e)))
def Nhd (a : List Int) (b : Int) : Option (Bool) :=
  (N71 a b).bind (Sum.elim (fun (t : Unit) => Nh3 a b) (fun e => some ((fun (t : Bool) => t) e)))
@[irreducible] def N3e (a : List Int) (b : Int) : Option (Bool) :=
  Nhd a b
def N5l (a : List Int) : Option (((List Int))) :=
  (mk (IntKind.wrap .i64 ((((List.length a : Nat) : Int)) + 1)) (IntKind.wrap .i64 ((((List.length a : Nat) : Int)) + 1))).bind fun (b : Nat) => some (List.replicate b (0 : Int))
def N7f (a : List Int) : Option (Int) :=
  some (((List.length a : Nat) : Int))
def N3t (a : List Int) (b c : Int) (d : List Int) : Option ((Int × (List Int)) ⊕ ((List Int))) :=
  cond (decide (c < b)) ((idx a c).bind fun (g : Int) => (inb g (List.length d)).bind fun (i : Nat) => some (Sum.inl ((IntKind.wrap .i64 (c + 1)),(d.set i (IntKind.wrap .i64 (c + 1)))))) (some (Sum.inr d))
def Nhm (a : List Int) (b : Int) (c : List Int) : Option (((List Int))) :=
  nloop (fun (s : Int × (List Int)) => ((N3t a b s.1 s.2).map (Sum.elim (fun (t : Int × (List Int)) => Sum.inl (t.1,t.2)) (fun (t : (List Int)) => Sum.inr t)) : Option ((Int × (List Int)) ⊕ (((List Int)))))) LL (0,c)
def Ng7 (a : List Int) (b : Int) (c : List Int) : Option (((List Int))) :=
  (Nhm a b c).map (fun (t : (List Int)) => t)
def Nh8 (a b : List Int) : Option (((List Int))) :=
  (N7f a).bind (fun (t : Int) => Ng7 a t b)
def N8f (a : List Int) : Option (((List Int))) :=
  some a
def Ngf (a b : List Int) : Option (((List Int))) :=
  (Nh8 a b).bind (fun (t : (List Int)) => N8f t)
def Ndo (a : List Int) : Option (((List Int))) :=
  (N5l a).bind (fun (t : (List Int)) => Ngf a t)
@[irreducible] def N2y (a : List Int) : Option ((List Int)) :=
  Ndo a
def N6n (a : Int) (b : List Int) : Option (Int) :=
  (inb a (List.length b)).bind fun (c : Nat) => (b[c]?).bind fun (d : Int) => some d
@[irreducible] def N3d (a : Int) (b : List Int) : Option (Int) :=
  N6n a b
def N79 (a : List Int) : Option (((List Int))) :=
  (mk (((List.length a : Nat) : Int)) (((List.length a : Nat) : Int))).bind fun (b : Nat) => some (List.replicate b (0 : Int))
def N5v (a : List Int) : Option (Int) :=
  some (((List.length a : Nat) : Int))
def N56 (a b : List Int) (c d : Int) (g i : List Int) : Option ((Int × (List Int)) ⊕ ((List Int))) :=
  cond (decide (d < c)) ((idx b d).bind fun (j : Int) => (idx a (IntKind.wrap .i64 (j - 1))).bind fun (k : Int) => (N3d k g).bind fun (l : Int) => (inb d (List.length i)).bind fun (m : Nat) => some (Sum.inl ((IntKind.wrap .i64 (d + 1)),(i.set m l)))) (some (Sum.inr i))
def Ngp (a b : List Int) (c : Int) (d g : List Int) : Option (((List Int))) :=
  nloop (fun (s : Int × (List Int)) => ((N56 a b c s.1 d s.2).map (Sum.elim (fun (t : Int × (List Int)) => Sum.inl (t.1,t.2)) (fun (t : (List Int)) => Sum.inr t)) : Option ((Int × (List Int)) ⊕ (((List Int)))))) LL (0,g)
def Nh1 (a b : List Int) (c : Int) (d g : List Int) : Option (((List Int))) :=
  (Ngp a b c d g).map (fun (t : (List Int)) => t)
def Nfv (a b c d : List Int) : Option (((List Int))) :=
  (N5v b).bind (fun (t : Int) => Nh1 a b t c d)
def N6b (a : List Int) : Option (((List Int))) :=
  some a
def Nhj (a b c d : List Int) : Option (((List Int))) :=
  (Nfv a b c d).bind (fun (t : (List Int)) => N6b t)
def Nem (a b c : List Int) : Option (((List Int))) :=
  (N79 b).bind (fun (t : (List Int)) => Nhj a b c t)
@[irreducible] def N4v (a b c : List Int) : Option ((List Int)) :=
  Nem a b c
def N7v (a b : List Int) : Option ((Bool × (List Int))) :=
  (N5 a).bind fun (c : Bool) => cond (!c) (some (false,([] : List Int))) ((N3e b (((List.length a : Nat) : Int))).bind fun (d : Bool) => cond (!d) (some (false,([] : List Int))) ((N2y b).bind fun (g : List Int) => (N4v a b g).bind fun (i : List Int) => some (true,i)))
@[irreducible] def N1s (a b : List Int) : Option (Bool × (List Int)) :=
  N7v a b
def N4t (a : List Int) : Option (((List Int))) :=
  (N5 a).bind fun (b : Bool) => cond (!b) (some ([] : List Int)) ((N2h (((List.length a : Nat) : Int))).bind fun (c : List Int) => (N1s a c).bind fun (d : Bool × (List Int)) => some (d.2))
@[irreducible] def N1z (a : List Int) : Option ((List Int)) :=
  N4t a
def N5z (a : List Int) : Option (Unit ⊕ Int) :=
  (N5 a).bind fun (b : Bool) => cond (!b) (some (Sum.inr (-1))) (some (Sum.inl ()))
def N4z (a : List Int) (b c : Int) : Option ((Int × Int) ⊕ (Int × Int)) :=
  (N1o a b c).bind fun (d : Bool × Int × Int) => cond (d.1) (some (Sum.inl ((d.2.1),(d.2.2)))) (some (Sum.inr ((d.2.1),(d.2.2))))
def Ni1 (a : List Int) : Option ((Int × Int)) :=
  nloop (fun (s : Int × Int) => ((N4z a s.1 s.2).map (Sum.elim (fun (t : Int × Int) => Sum.inl (t.1,t.2)) (fun (t : Int × Int) => Sum.inr t)) : Option ((Int × Int) ⊕ ((Int × Int))))) LL (1,0)
def Ng0 (a : List Int) : Option ((Int × Int)) :=
  (Ni1 a).map (fun (t : Int × Int) => (t.1,t.2))
def N81 (a : Int) : Option (Int) :=
  some a
def Nej (a : List Int) : Option (Int) :=
  (Ng0 a).bind (fun (t : Int × Int) => N81 t.1)
def Ne6 (a : List Int) : Option (Int) :=
  (N5z a).bind (Sum.elim (fun (t : Unit) => Nej a) (fun e => some ((fun (t : Int) => t) e)))
@[irreducible] def N3z (a : List Int) : Option (Int) :=
  Ne6 a
def Nc9 (a : Int) : Option (Int) :=
  (shl .u64 1 (IntKind.wrap .i64 (a - 1))).bind fun (b : Int) => some b
@[irreducible] def N1p (a : Int) : Option (Int) :=
  Nc9 a
def N89 : Option (Unit) :=
  some ()
def N77 (a : List Int) : Option (Int) :=
  some (((List.length a : Nat) : Int))
def N2z (a : List Int) (b c d g : Int) : Option ((Int × Int) ⊕ Int) :=
  cond (decide (g < d)) ((idx a g).bind fun (i : Int) => cond (i == b) ((N1p (IntKind.wrap .i64 (g + 1))).bind fun (j : Int) => some (Sum.inl ((ior .u64 c j),(IntKind.wrap .i64 (g + 1))))) (some (Sum.inl (c,(IntKind.wrap .i64 (g + 1)))))) (some (Sum.inr c))
def Nf4 (a : List Int) (b c : Int) : Option (Int) :=
  nloop (fun (s : Int × Int) => ((N2z a b s.1 c s.2).map (Sum.elim (fun (t : Int × Int) => Sum.inl (t.1,t.2)) (fun (t : Int) => Sum.inr t)) : Option ((Int × Int) ⊕ (Int)))) LL (0,0)
def Ndy (a : List Int) (b c : Int) : Option (Int) :=
  (Nf4 a b c).map (fun (t : Int) => t)
def Nhq (a : List Int) (b : Int) : Option (Int) :=
  (N77 a).bind (fun (t : Int) => Ndy a b t)
def N9c (a : Int) : Option (Int) :=
  some a
def Nhn (a : List Int) (b : Int) : Option (Int) :=
  (Nhq a b).bind (fun (t : Int) => N9c t)
def N90 (a : List Int) (b : Int) : Option (Int) :=
  (N89).bind (fun (t : Unit) => Nhn a b)
@[irreducible] def N2j (a : List Int) (b : Int) : Option (Int) :=
  N90 a b
def N9d (a : Int) : Option (Int) :=
  (N1p a).bind fun (b : Int) => some (IntKind.wrap .u64 (b - 1))
@[irreducible] def N25 (a : Int) : Option (Int) :=
  N9d a
def N4p (a : List Int) (b : Int) : Option ((Int × Int)) :=
  (N2j a b).bind fun (c : Int) => (N25 b).bind fun (d : Int) => (N25 b).bind fun (g : Int) => some ((iand .u64 c d),(iandn .u64 c g))
@[irreducible] def N1k (a : List Int) (b : Int) : Option (Int × Int) :=
  N4p a b
def Nc5 (a : Int) : Option (Int) :=
  (shr .u64 a 1).bind fun (b : Int) => some (IntKind.wrap .u64 ((iand .u64 b 6148914691236517205) + (iand .u64 a 6148914691236517205)))
def Nbz (a : Int) : Option (Int) :=
  (shr .u64 a 2).bind fun (b : Int) => some (IntKind.wrap .u64 ((iand .u64 b 3689348814741910323) + (iand .u64 a 3689348814741910323)))
def Na2 (a : Int) : Option (Int) :=
  (shr .u64 a 4).bind fun (b : Int) => some (iand .u64 (IntKind.wrap .u64 (b + a)) 1085102592571150095)
def Ndd (a : Int) : Option (Int) :=
  (shr .u64 a 8).bind fun (b : Int) => some (IntKind.wrap .u64 (a + b))
def N97 (a : Int) : Option (Int) :=
  (shr .u64 a 16).bind fun (b : Int) => some (IntKind.wrap .u64 (a + b))
def Nch (a : Int) : Option (Int) :=
  (shr .u64 a 32).bind fun (b : Int) => some (IntKind.wrap .u64 (a + b))
def N8x (a : Int) : Option (Int) :=
  some (iand .i64 (IntKind.wrap .i64 a) 127)
def N9t (a : Int) : Option (Int) :=
  some a
def Njo (a : Int) : Option (Int) :=
  (N8x a).bind (fun (t : Int) => N9t t)
def Nql (a : Int) : Option (Int) :=
  (Nch a).bind (fun (t : Int) => Njo t)
def Nkm (a : Int) : Option (Int) :=
  (N97 a).bind (fun (t : Int) => Nql t)
def Np0 (a : Int) : Option (Int) :=
  (Ndd a).bind (fun (t : Int) => Nkm t)
def Nli (a : Int) : Option (Int) :=
  (Na2 a).bind (fun (t : Int) => Np0 t)
def Nic (a : Int) : Option (Int) :=
  (Nbz a).bind (fun (t : Int) => Nli t)
def Nt2 (a : Int) : Option (Int) :=
  (Nc5 a).bind (fun (t : Int) => Nic t)
@[irreducible] def N6d (a : Int) : Option (Int) :=
  Nt2 a
def N9e (a : Int) : Option (Int) :=
  (N6d a).bind fun (b : Int) => some b
@[irreducible] def N8e (a : Int) : Option (Int) :=
  N9e a
def Nam (a : Int) : Option (Int) :=
  (N8e a).bind fun (b : Int) => some b
@[irreducible] def N7g (a : Int) : Option (Int) :=
  Nam a
def N8u (a : Int) : Option (Int) :=
  cond (a == 0) (some 64) ((shr .u64 (IntKind.wrap .u64 ((iand .u64 a (IntKind.wrap .u64 (0 - a))) * 285870213051353865)) 58).bind fun (b : Int) => (same (List.length tab1) 64).bind fun (c : Unit) => (idx tab1 b).bind fun (d : Int) => some (IntKind.wrap .i64 d))
@[irreducible] def N8q (a : Int) : Option (Int) :=
  N8u a
def Nas (a : Int) : Option (Int) :=
  (N8q a).bind fun (b : Int) => some b
@[irreducible] def N7t (a : Int) : Option (Int) :=
  Nas a
def N8y (a : Int) : Option (((List Int))) :=
  (N7g a).bind fun (b : Int) => (mk 0 b).bind fun (c : Nat) => some (List.replicate c (0 : Int))
def N9n : Option (Unit) :=
  some ()
def Nd6 (a : Int) (b : List Int) : Option ((Int × (List Int)) ⊕ ((List Int))) :=
  cond (a != 0) ((N7t a).bind fun (c : Int) => (room ((List.length b) + List.length ([(IntKind.wrap .i64 (c + 1))]))).bind fun (d : Unit) => some (Sum.inl ((iand .u64 a (IntKind.wrap .u64 (a - 1))),(b ++ ([(IntKind.wrap .i64 (c + 1))]))))) (some (Sum.inr b))
def Nlh (a : Int) (b : List Int) : Option (((List Int))) :=
  nloop (fun (s : Int × (List Int)) => ((Nd6 s.1 s.2).map (Sum.elim (fun (t : Int × (List Int)) => Sum.inl (t.1,t.2)) (fun (t : (List Int)) => Sum.inr t)) : Option ((Int × (List Int)) ⊕ (((List Int)))))) LL (a,b)
def Ns1 (a : Int) (b : List Int) : Option (((List Int))) :=
  (Nlh a b).map (fun (t : (List Int)) => t)
def Nst (a : Int) (b : List Int) : Option (((List Int))) :=
  (N9n).bind (fun (t : Unit) => Ns1 a b)
def Na4 (a : List Int) : Option (((List Int))) :=
  some a
def Nlq (a : Int) (b : List Int) : Option (((List Int))) :=
  (Nst a b).bind (fun (t : (List Int)) => Na4 t)
def Nrp (a : Int) : Option (((List Int))) :=
  (N8y a).bind (fun (t : (List Int)) => Nlq a t)
@[irreducible] def N32 (a : Int) : Option ((List Int)) :=
  Nrp a
def N4x (R0 R1 : (List Int) → Int → (List Int) → Option ((List Int))) (a : List Int) (b : Int) (c : List Int) : Option (((List Int))) :=
  (N1k a b).bind fun (d : Int × Int) => (R1 a (d.1) c).bind fun (g : List Int) => (room ((List.length g) + List.length ([b]))).bind fun (i : Unit) => (R1 a (d.2) (g ++ ([b]))).bind fun (j : List Int) => some j
def Nlm (R0 R1 : (List Int) → Int → (List Int) → Option ((List Int))) (a : List Int) (b : Int) (c : List Int) : Option ((List Int)) :=
  N4x R0 R1 a b c
def N7i (R0 R1 : (List Int) → Int → (List Int) → Option ((List Int))) : Option (Unit) :=
  some ()
def N5f (R0 R1 : (List Int) → Int → (List Int) → Option ((List Int))) (a : Int) : Option ((Int × (List Int))) :=
  (N32 a).bind fun (b : List Int) => some ((((List.length b : Nat) : Int)),b)
def N40 (R0 R1 : (List Int) → Int → (List Int) → Option ((List Int))) (a : List Int) (b c : Int) (d g : List Int) : Option ((Int × (List Int)) ⊕ ((List Int))) :=
  cond (decide (c < b)) ((inb c (List.length g)).bind fun (i : Nat) => (g[i]?).bind fun (j : Int) => (R0 a j d).bind fun (k : List Int) => some (Sum.inl ((IntKind.wrap .i64 (c + 1)),k))) (some (Sum.inr d))
def Nf3 (R0 R1 : (List Int) → Int → (List Int) → Option ((List Int))) (a : List Int) (b : Int) (c d : List Int) : Option (((List Int))) :=
  nloop (fun (s : Int × (List Int)) => ((N40 R0 R1 a b s.1 s.2 d).map (Sum.elim (fun (t : Int × (List Int)) => Sum.inl (t.1,t.2)) (fun (t : (List Int)) => Sum.inr t)) : Option ((Int × (List Int)) ⊕ (((List Int)))))) LL (0,c)
def Nfj (R0 R1 : (List Int) → Int → (List Int) → Option ((List Int))) (a : List Int) (b : Int) (c d : List Int) : Option (((List Int))) :=
  (Nf3 R0 R1 a b c d).map (fun (t : (List Int)) => t)
def Nfe (R0 R1 : (List Int) → Int → (List Int) → Option ((List Int))) (a : List Int) (b : Int) (c : List Int) : Option (((List Int))) :=
  (N5f R0 R1 b).bind (fun (t : Int × (List Int)) => Nfj R0 R1 a t.1 c t.2)
def N69 (R0 R1 : (List Int) → Int → (List Int) → Option ((List Int))) (a : List Int) : Option (((List Int))) :=
  some a
def Nef (R0 R1 : (List Int) → Int → (List Int) → Option ((List Int))) (a : List Int) (b : Int) (c : List Int) : Option (((List Int))) :=
  (Nfe R0 R1 a b c).bind (fun (t : (List Int)) => N69 R0 R1 t)
def Ni2 (R0 R1 : (List Int) → Int → (List Int) → Option ((List Int))) (a : List Int) (b : Int) (c : List Int) : Option (((List Int))) :=
  (N7i R0 R1).bind (fun (t : Unit) => Nef R0 R1 a b c)
def N7y (R0 R1 : (List Int) → Int → (List Int) → Option ((List Int))) (a : List Int) (b : Int) (c : List Int) : Option ((List Int)) :=
  Ni2 R0 R1 a b c
def N1 : Nat → ((List Int) → Int → (List Int) → Option ((List Int))) × ((List Int) → Int → (List Int) → Option ((List Int)))
  | 0 => ((fun _ _ _ => none),(fun _ _ _ => none))
  | n + 1 => ((fun y0 y1 y2 => Nlm (N1 n).1 (N1 n).2 y0 y1 y2),(fun y0 y1 y2 => N7y (N1 n).1 (N1 n).2 y0 y1 y2))
def Nb (n : Nat) : (List Int) → Int → (List Int) → Option ((List Int)) := (N1 n).1
@[irreducible] def N4l (a : List Int) (b : Int) (c : List Int) : Option ((List Int)) := Nb RR a b c
def Np (n : Nat) : (List Int) → Int → (List Int) → Option ((List Int)) := (N1 n).2
@[irreducible] def Ne1 (a : List Int) (b : Int) (c : List Int) : Option ((List Int)) := Np RR a b c
def N4h (a : List Int) : Option (((List Int))) :=
  (N5 a).bind fun (b : Bool) => cond (!b) (some ([] : List Int)) ((N3z a).bind fun (c : Int) => (mk 0 (((List.length a : Nat) : Int))).bind fun (d : Nat) => (N4l a c (List.replicate d (0 : Int))).bind fun (g : List Int) => some g)
@[irreducible] def N1x (a : List Int) : Option ((List Int)) :=
  N4h a
def N4d (a : List Int) : Option (((List Int))) :=
  (N1x a).bind fun (b : List Int) => (N1s a b).bind fun (c : Bool × (List Int)) => some (c.2)
@[irreducible] def N24 (a : List Int) : Option ((List Int)) :=
  N4d a
def N57 (a : List Int) (b c d : Int) : Option (((List Int))) :=
  cond (b == 0) ((N1v a c).bind fun (g : Bool) => cond (!g) (some ([] : List Int)) ((N1l a).bind fun (i : List Int) => (inb (IntKind.wrap .i64 (c - 1)) (List.length i)).bind fun (j : Nat) => some (i.set j d))) (cond (b == 1) ((N1l a).bind fun (k : List Int) => (room ((List.length k) + List.length ([c]))).bind fun (l : Unit) => some (k ++ ([c]))) (cond (b == 2) ((inc (IntKind.wrap .i64 ((((List.length a : Nat) : Int)) - 1)) (List.length a)).bind fun (m : Nat) => (N1l ((a.take m).drop 0)).bind fun (o : List Int) => some o) (cond (b == 3) ((N1z a).bind fun (p : List Int) => some p) (cond (b == 4) ((N24 a).bind fun (q : List Int) => some q) (some ([] : List Int))))))
@[irreducible] def N2d (a : List Int) (b c d : Int) : Option ((List Int)) :=
  N57 a b c d
def N65 (a b : List Int) : Option (Unit ⊕ Bool) :=
  cond ((((List.length a : Nat) : Int)) != (((List.length b : Nat) : Int))) (some (Sum.inr false)) (some (Sum.inl ()))
def N88 (a : List Int) : Option (Int) :=
  some (((List.length a : Nat) : Int))
def N23 (a b : List Int) (c d : Int) : Option (Int ⊕ Bool ⊕ Unit) :=
  cond (decide (d < c)) ((idx a d).bind fun (g : Int) => (idx b d).bind fun (i : Int) => cond (g != i) (some (Sum.inr (Sum.inl false))) (some (Sum.inl (IntKind.wrap .i64 (d + 1))))) (some (Sum.inr (Sum.inr ())))
def Ni3 (a b : List Int) (c : Int) : Option (Bool ⊕ Unit) :=
  nloop (fun (s : Int) => ((N23 a b c s).map (Sum.elim (fun (t : Int) => Sum.inl t) (Sum.elim (fun (t : Bool) => Sum.inr (Sum.inl t)) (fun (t : Unit) => Sum.inr (Sum.inr t)))) : Option ((Int) ⊕ (Bool ⊕ Unit)))) LL 0
def Ngk (a b : List Int) (c : Int) : Option (Unit ⊕ Bool) :=
  (Ni3 a b c).map (Sum.elim (fun (t : Bool) => (Sum.inr t)) (fun (t : Unit) => (Sum.inl ())))
def Nft (a b : List Int) : Option (Unit ⊕ Bool) :=
  (N88 a).bind (fun (t : Int) => Ngk a b t)
def Nbd : Option (Bool) :=
  some true
def Nfd (a b : List Int) : Option (Bool) :=
  (Nft a b).bind (Sum.elim (fun (t : Unit) => Nbd) (fun e => some ((fun (t : Bool) => t) e)))
def Nbc (a b : List Int) : Option (Bool) :=
  (N65 a b).bind (Sum.elim (fun (t : Unit) => Nfd a b) (fun e => some ((fun (t : Bool) => t) e)))
@[irreducible] def N28 (a b : List Int) : Option (Bool) :=
  Nbc a b
def Nal (x1 : List (List Int)) : Option (List (List Int)) := cloneD x1
def N52 (a : List Int) (b : List (List Int)) (c d g : Int) : Option ((Bool × (List Int) × (List (List Int)))) :=
  (N2d a c d g).bind fun (i : List Int) => (N5 i).bind fun (j : Bool) => cond (!j) ((N8 a b).bind fun (k : (List Int) × (List (List Int))) => some (false,(k.1),(k.2))) ((N28 i a).bind fun (l : Bool) => cond l ((N8 a b).bind fun (m : (List Int) × (List (List Int))) => some (false,(m.1),(m.2))) ((Nal b).bind fun (o : List (List Int)) => (room ((List.length o) + List.length ([a]))).bind fun (p : Unit) => (inc (imax 0 (IntKind.wrap .i64 ((((List.length (o ++ ([a])) : Nat) : Int)) - 8))) (List.length (o ++ ([a])))).bind fun (q : Nat) => (N8 i (((o ++ ([a])).drop q).take ((List.length (o ++ ([a]))) - q))).bind fun (w : (List Int) × (List (List Int))) => some (true,(w.1),(w.2))))
@[irreducible] def N27 (a : List Int) (b : List (List Int)) (c d g : Int) : Option (Bool × (List Int) × (List (List Int))) :=
  N52 a b c d g
def N54 (a : List Int) (b : List (List Int)) (c d g : Int) : Option ((Bool × (List Int) × (List (List Int)))) :=
  (N2f a b).bind fun (i : Bool) => cond (!i) (some (false,([] : List Int),([] : List (List Int)))) ((N2u c d g).bind fun (j : Bool) => cond (!j) ((N8 a b).bind fun (k : (List Int) × (List (List Int))) => some (false,(k.1),(k.2))) (cond (c == 5) ((N1r a b).bind fun (l : Bool × (List Int) × (List (List Int))) => some ((l.1),(l.2.1),(l.2.2))) ((N27 a b c d g).bind fun (m : Bool × (List Int) × (List (List Int))) => some ((m.1),(m.2.1),(m.2.2)))))
@[irreducible] def N19 (a : List Int) (b : List (List Int)) (c d g : Int) : Option (Bool × (List Int) × (List (List Int))) :=
  N54 a b c d g
def N5j (a b : List Int) : Option (Unit ⊕ Bool) :=
  cond ((((List.length a : Nat) : Int)) != (((List.length b : Nat) : Int))) (some (Sum.inr false)) (some (Sum.inl ()))
def N8t : Option (Unit) :=
  some ()
def N41 (a b : List Int) (c : Int) : Option (Int ⊕ Bool ⊕ Unit) :=
  cond (decide (c < (((List.length a : Nat) : Int)))) ((idx a c).bind fun (d : Int) => (idx b c).bind fun (g : Int) => cond (d != g) (some (Sum.inr (Sum.inl false))) (some (Sum.inl (IntKind.wrap .i64 (c + 1))))) (some (Sum.inr (Sum.inr ())))
def Nei (a b : List Int) : Option (Bool ⊕ Unit) :=
  nloop (fun (s : Int) => ((N41 a b s).map (Sum.elim (fun (t : Int) => Sum.inl t) (Sum.elim (fun (t : Bool) => Sum.inr (Sum.inl t)) (fun (t : Unit) => Sum.inr (Sum.inr t)))) : Option ((Int) ⊕ (Bool ⊕ Unit)))) LL 0
def Ngg (a b : List Int) : Option (Unit ⊕ Bool) :=
  (Nei a b).map (Sum.elim (fun (t : Bool) => (Sum.inr t)) (fun (t : Unit) => (Sum.inl ())))
def Ng9 (a b : List Int) : Option (Unit ⊕ Bool) :=
  (N8t).bind (fun (t : Unit) => Ngg a b)
def N6k : Option (Bool) :=
  some true
def Ndt (a b : List Int) : Option (Bool) :=
  (Ng9 a b).bind (Sum.elim (fun (t : Unit) => N6k) (fun e => some ((fun (t : Bool) => t) e)))
def Neb (a b : List Int) : Option (Bool) :=
  (N5j a b).bind (Sum.elim (fun (t : Unit) => Ndt a b) (fun e => some ((fun (t : Bool) => t) e)))
@[irreducible] def N2c (a b : List Int) : Option (Bool) :=
  Neb a b
def N5k (a b : List (List Int)) : Option (Unit ⊕ Bool) :=
  cond ((((List.length a : Nat) : Int)) != (((List.length b : Nat) : Int))) (some (Sum.inr false)) (some (Sum.inl ()))
def N58 : Option (Unit) :=
  some ()
def N46 (a b : List (List Int)) (c : Int) : Option (Int ⊕ Bool ⊕ Unit) :=
  cond (decide (c < (((List.length a : Nat) : Int)))) ((idx a c).bind fun (d : List Int) => (idx b c).bind fun (g : List Int) => (N2c d g).bind fun (i : Bool) => cond (!i) (some (Sum.inr (Sum.inl false))) (some (Sum.inl (IntKind.wrap .i64 (c + 1))))) (some (Sum.inr (Sum.inr ())))
def Nho (a b : List (List Int)) : Option (Bool ⊕ Unit) :=
  nloop (fun (s : Int) => ((N46 a b s).map (Sum.elim (fun (t : Int) => Sum.inl t) (Sum.elim (fun (t : Bool) => Sum.inr (Sum.inl t)) (fun (t : Unit) => Sum.inr (Sum.inr t)))) : Option ((Int) ⊕ (Bool ⊕ Unit)))) LL 0
def Nf7 (a b : List (List Int)) : Option (Unit ⊕ Bool) :=
  (Nho a b).map (Sum.elim (fun (t : Bool) => (Sum.inr t)) (fun (t : Unit) => (Sum.inl ())))
def Nhb (a b : List (List Int)) : Option (Unit ⊕ Bool) :=
  (N58).bind (fun (t : Unit) => Nf7 a b)
def N5q : Option (Bool) :=
  some true
def Neq (a b : List (List Int)) : Option (Bool) :=
  (Nhb a b).bind (Sum.elim (fun (t : Unit) => N5q) (fun e => some ((fun (t : Bool) => t) e)))
def Nba (a b : List (List Int)) : Option (Bool) :=
  (N5k a b).bind (Sum.elim (fun (t : Unit) => Neq a b) (fun e => some ((fun (t : Bool) => t) e)))
@[irreducible] def N21 (a b : List (List Int)) : Option (Bool) :=
  Nba a b
def N78 (a : List Int) (b : List (List Int)) (c : List Int) (d : List (List Int)) : Option (Bool) :=
  (N2c a c).bind fun (g : Bool) => cond (!g) (some false) ((N21 b d).bind fun (i : Bool) => cond (!i) (some false) (some true))
@[irreducible] def Nq (a : List Int) (b : List (List Int)) (c : List Int) (d : List (List Int)) : Option (Bool) :=
  N78 a b c d
def N83 : Option (Unit) :=
  some ()
def N6i : Option (Unit) :=
  some ()
def N4j (a b : Int) (c : List Int) : Option ((Int × Int × (List Int)) ⊕ (Int × (List Int))) :=
  cond (decide (b < (((List.length c : Nat) : Int)))) ((inb b (List.length c)).bind fun (d : Nat) => some (Sum.inl ((IntKind.wrap .i64 (a + 1)),(IntKind.wrap .i64 (b + 1)),(c.set d a)))) (some (Sum.inr (a,c)))
def Ngv (a : Int) (b : List Int) : Option ((Int × (List Int))) :=
  nloop (fun (s : Int × Int × (List Int)) => ((N4j s.1 s.2.1 s.2.2).map (Sum.elim (fun (t : Int × Int × (List Int)) => Sum.inl (t.1,t.2.1,t.2.2)) (fun (t : Int × (List Int)) => Sum.inr t)) : Option ((Int × Int × (List Int)) ⊕ ((Int × (List Int)))))) LL (a,0,b)
def Ngc (a : Int) (b : List Int) : Option ((Int × (List Int))) :=
  (Ngv a b).map (fun (t : Int × (List Int)) => (t.1,t.2))
def Nh6 (a : Int) (b : List Int) : Option ((Int × (List Int))) :=
  (N6i).bind (fun (t : Unit) => Ngc a b)
def N8p (a : Int) (b : List Int) : Option ((Int × (List Int))) :=
  some (a,b)
def Nev (a : Int) (b : List Int) : Option ((Int × (List Int))) :=
  (Nh6 a b).bind (fun (t : Int × (List Int)) => N8p t.1 t.2)
def Nga (a : Int) (b : List Int) : Option ((Int × (List Int))) :=
  (N83).bind (fun (t : Unit) => Nev a b)
@[irreducible] def N1e (a : Int) (b : List Int) : Option (Int × (List Int)) :=
  Nga a b
def N63 : Option (Unit) :=
  some ()
def N5m : Option (Unit) :=
  some ()
def N2x (a b : Int) (c : List (List Int)) : Option ((Int × Int × (List (List Int))) ⊕ (Int × (List (List Int)))) :=
  cond (decide (b < (((List.length c : Nat) : Int)))) ((inb b (List.length c)).bind fun (d : Nat) => ((c)[d]?).bind fun (g : List Int) => (N1e a g).bind fun (i : Int × (List Int)) => some (Sum.inl ((i.1),(IntKind.wrap .i64 (b + 1)),((((c).set d [])).set d (i.2))))) (some (Sum.inr (a,c)))
def Nfc (a : Int) (b : List (List Int)) : Option ((Int × (List (List Int)))) :=
  nloop (fun (s : Int × Int × (List (List Int))) => ((N2x s.1 s.2.1 s.2.2).map (Sum.elim (fun (t : Int × Int × (List (List Int))) => Sum.inl (t.1,t.2.1,t.2.2)) (fun (t : Int × (List (List Int))) => Sum.inr t)) : Option ((Int × Int × (List (List Int))) ⊕ ((Int × (List (List Int))))))) LL (a,0,b)
def Nf5 (a : Int) (b : List (List Int)) : Option ((Int × (List (List Int)))) :=
  (Nfc a b).map (fun (t : Int × (List (List Int))) => (t.1,t.2))
def Ngq (a : Int) (b : List (List Int)) : Option ((Int × (List (List Int)))) :=
  (N5m).bind (fun (t : Unit) => Nf5 a b)
def N7c (a : Int) (b : List (List Int)) : Option ((Int × (List (List Int)))) :=
  some (a,b)
def Ng6 (a : Int) (b : List (List Int)) : Option ((Int × (List (List Int)))) :=
  (Ngq a b).bind (fun (t : Int × (List (List Int))) => N7c t.1 t.2)
def Nb1 (a : Int) (b : List (List Int)) : Option ((Int × (List (List Int)))) :=
  (N63).bind (fun (t : Unit) => Ng6 a b)
@[irreducible] def N2a (a : Int) (b : List (List Int)) : Option (Int × (List (List Int))) :=
  Nb1 a b
def N8a (a : Int) (b : List Int) (c : List (List Int)) : Option ((Int × (List Int) × (List (List Int)))) :=
  (N1e a b).bind fun (d : Int × (List Int)) => (N2a (d.1) c).bind fun (g : Int × (List (List Int))) => some ((g.1),(d.2),(g.2))
@[irreducible] def N1m (a : Int) (b : List Int) (c : List (List Int)) : Option (Int × (List Int) × (List (List Int))) :=
  N8a a b c
def N7o : Option (Unit) :=
  some ()
def N5w : Option (Unit) :=
  some ()
def N4o (a : List Int) (b c : Int) : Option ((Int × Int) ⊕ Int ⊕ Int) :=
  cond (decide (c < (((List.length a : Nat) : Int)))) ((idx a c).bind fun (d : Int) => cond (d != b) (some (Sum.inr (Sum.inl (-1)))) (some (Sum.inl ((IntKind.wrap .i64 (b + 1)),(IntKind.wrap .i64 (c + 1)))))) (some (Sum.inr (Sum.inr b)))
def Nha (a : List Int) (b : Int) : Option (Int ⊕ Int) :=
  nloop (fun (s : Int × Int) => ((N4o a s.1 s.2).map (Sum.elim (fun (t : Int × Int) => Sum.inl (t.1,t.2)) (Sum.elim (fun (t : Int) => Sum.inr (Sum.inl t)) (fun (t : Int) => Sum.inr (Sum.inr t)))) : Option ((Int × Int) ⊕ (Int ⊕ Int)))) LL (b,0)
def Nhy (a : List Int) (b : Int) : Option (Int ⊕ Int) :=
  (Nha a b).map (Sum.elim (fun (t : Int) => (Sum.inr t)) (fun (t : Int) => (Sum.inl t)))
def Nfy (a : List Int) (b : Int) : Option (Int ⊕ Int) :=
  (N5w).bind (fun (t : Unit) => Nhy a b)
def N7u (a : Int) : Option (Int) :=
  some a
def Ndq (a : List Int) (b : Int) : Option (Int) :=
  (Nfy a b).bind (Sum.elim (fun (t : Int) => N7u t) (fun e => some ((fun (t : Int) => t) e)))
def Neh (a : List Int) (b : Int) : Option (Int) :=
  (N7o).bind (fun (t : Unit) => Ndq a b)
@[irreducible] def N1h (a : List Int) (b : Int) : Option (Int) :=
  Neh a b
def N8h : Option (Unit) :=
  some ()
def N7s : Option (Unit) :=
  some ()
def N3h (a : List (List Int)) (b c : Int) : Option ((Int × Int) ⊕ Int ⊕ Int) :=
  cond (decide (c < (((List.length a : Nat) : Int)))) ((idx a c).bind fun (d : List Int) => (N1h d b).bind fun (g : Int) => cond (decide (g < 0)) (some (Sum.inr (Sum.inl (-1)))) (some (Sum.inl (g,(IntKind.wrap .i64 (c + 1)))))) (some (Sum.inr (Sum.inr b)))
def Nh0 (a : List (List Int)) (b : Int) : Option (Int ⊕ Int) :=
  nloop (fun (s : Int × Int) => ((N3h a s.1 s.2).map (Sum.elim (fun (t : Int × Int) => Sum.inl (t.1,t.2)) (Sum.elim (fun (t : Int) => Sum.inr (Sum.inl t)) (fun (t : Int) => Sum.inr (Sum.inr t)))) : Option ((Int × Int) ⊕ (Int ⊕ Int)))) LL (b,0)
def Ngl (a : List (List Int)) (b : Int) : Option (Int ⊕ Int) :=
  (Nh0 a b).map (Sum.elim (fun (t : Int) => (Sum.inr t)) (fun (t : Int) => (Sum.inl t)))
def Nfs (a : List (List Int)) (b : Int) : Option (Int ⊕ Int) :=
  (N7s).bind (fun (t : Unit) => Ngl a b)
def N8k (a : Int) : Option (Int) :=
  some a
def Nen (a : List (List Int)) (b : Int) : Option (Int) :=
  (Nfs a b).bind (Sum.elim (fun (t : Int) => N8k t) (fun e => some ((fun (t : Int) => t) e)))
def Nb0 (a : List (List Int)) (b : Int) : Option (Int) :=
  (N8h).bind (fun (t : Unit) => Nen a b)
@[irreducible] def N2b (a : List (List Int)) (b : Int) : Option (Int) :=
  Nb0 a b
def N7d (a : List Int) (b : List (List Int)) (c : Int) : Option (Int) :=
  (N1h a c).bind fun (d : Int) => cond (decide (d < 0)) (some (-1)) ((N2b b d).bind fun (g : Int) => cond (decide (g < 0)) (some (-1)) (some g))
@[irreducible] def N1n (a : List Int) (b : List (List Int)) (c : Int) : Option (Int) :=
  N7d a b c
def N6r (a : List Int) (b : List (List Int)) (c d g : Int) : Option (Bool) :=
  (N39 a b 1048576).bind fun (i : Int) => cond (decide (i < 0)) (some true) ((N12 a b).bind fun (j : (List Int) × (List (List Int))) => (N1d c d g).bind fun (k : Unit) => (N1t (j.1) (j.2) c d g).bind fun (l : Bool × (List Int) × (List (List Int))) => (N12 a b).bind fun (m : (List Int) × (List (List Int))) => (N1d c d g).bind fun (o : Unit) => (N19 (m.1) (m.2) c d g).bind fun (p : Bool × (List Int) × (List (List Int))) => (Nq (p.2.1) (p.2.2) (l.2.1) (l.2.2)).bind fun (q : Bool) => cond (!q) (some false) (cond ((p.1) != (l.1)) (some false) ((N12 a b).bind fun (w : (List Int) × (List (List Int))) => (Nq (m.1) (m.2) (w.1) (w.2)).bind fun (y : Bool) => cond (!y) (some false) ((N1m 1 (m.1) (m.2)).bind fun (z : Int × (List Int) × (List (List Int))) => cond (decide ((z.1) < 0)) (some false) ((Nq (p.2.1) (p.2.2) (l.2.1) (l.2.2)).bind fun (a0 : Bool) => cond (!a0) (some false) (cond ((p.1) != (l.1)) (some false) ((N1m 1 (p.2.1) (p.2.2)).bind fun (a1 : Int × (List Int) × (List (List Int))) => (N1n (a1.2.1) (a1.2.2) 1).bind fun (a2 : Int) => cond (decide (a2 < 0)) (some false) (cond (a2 != (a1.1)) (some false) ((N12 a b).bind fun (a3 : (List Int) × (List (List Int))) => (N1d c d g).bind fun (a4 : Unit) => (N19 (a3.1) (a3.2) c d g).bind fun (a5 : Bool × (List Int) × (List (List Int))) => (Nq (a5.2.1) (a5.2.2) (l.2.1) (l.2.2)).bind fun (a6 : Bool) => cond (!a6) (some false) (cond ((a5.1) != (l.1)) (some false) ((N1n (a1.2.1) (a1.2.2) 1).bind fun (a7 : Int) => cond (decide (a7 < 0)) (some false) (cond (a7 != (a1.1)) (some false) (some true)))))))))))))
@[irreducible] def N1w (a : List Int) (b : List (List Int)) (c d g : Int) : Option (Bool) :=
  N6r a b c d g
end Go.Rv
