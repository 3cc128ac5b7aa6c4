/-
  Plain functions,written by program for functions of the checked code. Conditions: none.
-/
import Derived.Test.YtihgceegapfngacDoorFB
set_option linter.unusedVariables false
namespace Go.Rv
def N5c (a : List Int) (b : Int) : Option (Int) :=
  cond (decide ((IntKind.wrap .i64 (b - (((List.length a : Nat) : Int)))) < 0)) (some (-1)) (some (IntKind.wrap .i64 (b - (((List.length a : Nat) : Int)))))
@[irreducible] def N1x (a : List Int) (b : Int) : Option (Int) :=
  N5c a b
def N61 (a : List (List Int)) (b : Int) : Option (Int ⊕ Int) :=
  cond (decide ((IntKind.wrap .i64 (b - (((List.length a : Nat) : Int)))) < 0)) (some (Sum.inr (-1))) (some (Sum.inl (IntKind.wrap .i64 (b - (((List.length a : Nat) : Int))))))
def N64 : Option (Unit) :=
  some ()
def N5f (a : List (List Int)) (b c : Int) : Option ((Int × Int) ⊕ Int ⊕ Int) :=
  cond (decide (c < (((List.length a : Nat) : Int)))) ((idx a c).bind fun (d : List Int) => (N1x d b).bind fun (g : Int) => cond (decide (g < 0)) (some (Sum.inr (Sum.inl (-1)))) (some (Sum.inl (g,(IntKind.wrap .i64 (c + 1)))))) (some (Sum.inr (Sum.inr b)))
def Njs (a : List (List Int)) (b : Int) : Option (Int ⊕ Int) :=
  nloop (fun (s : Int × Int) => ((N5f a s.1 s.2).map (Sum.elim (fun (t : Int × Int) => Sum.inl (t.1,t.2)) (Sum.elim (fun (t : Int) => Sum.inr (Sum.inl t)) (fun (t : Int) => Sum.inr (Sum.inr t)))) : Option ((Int × Int) ⊕ (Int ⊕ Int)))) LL (b,0)
def Nj6 (a : List (List Int)) (b : Int) : Option (Int ⊕ Int) :=
  (Njs a b).map (Sum.elim (fun (t : Int) => (Sum.inr t)) (fun (t : Int) => (Sum.inl t)))
def Nfy (a : List (List Int)) (b : Int) : Option (Int ⊕ Int) :=
  (N64).bind (fun (t : Unit) => Nj6 a b)
def Ndf (a : Int) : Option (Int) :=
  some a
def Nkg (a : List (List Int)) (b : Int) : Option (Int) :=
  (Nfy a b).bind (Sum.elim (fun (t : Int) => Ndf t) (fun e => some ((fun (t : Int) => t) e)))
def Ndk (a : List (List Int)) (b : Int) : Option (Int) :=
  (N61 a b).bind (Sum.elim (fun (t : Int) => Nkg a t) (fun e => some ((fun (t : Int) => t) e)))
@[irreducible] def N23 (a : List (List Int)) (b : Int) : Option (Int) :=
  Ndk a b
def N9g (a : List Int) (b : List (List Int)) (c : Int) : Option (Int) :=
  (N1x a c).bind fun (d : Int) => cond (decide (d < 0)) (some (-1)) ((N23 b d).bind fun (g : Int) => cond (decide (g < 0)) (some (-1)) (some g))
@[irreducible] def N47 (a : List Int) (b : List (List Int)) (c : Int) : Option (Int) :=
  N9g a b c
def N60 (a : List Int) : Option (((List Int))) :=
  (mk (((List.length a : Nat) : Int)) (((List.length a : Nat) : Int))).bind fun (b : Nat) => some (List.replicate b (0 : Int))
def N7b : Option (Unit) :=
  some ()
def N4l (a : List Int) (b : Int) (c : List Int) : Option ((Int × (List Int)) ⊕ ((List Int))) :=
  cond (decide (b < (((List.length a : Nat) : Int)))) ((idx a b).bind fun (d : Int) => (inb b (List.length c)).bind fun (g : Nat) => some (Sum.inl ((IntKind.wrap .i64 (b + 1)),(c.set g d)))) (some (Sum.inr c))
def Ni9 (a b : List Int) : Option (((List Int))) :=
  nloop (fun (s : Int × (List Int)) => ((N4l a s.1 s.2).map (Sum.elim (fun (t : Int × (List Int)) => Sum.inl (t.1,t.2)) (fun (t : (List Int)) => Sum.inr t)) : Option ((Int × (List Int)) ⊕ (((List Int)))))) LL (0,b)
def Njw (a b : List Int) : Option (((List Int))) :=
  (Ni9 a b).map (fun (t : (List Int)) => t)
def Nir (a b : List Int) : Option (((List Int))) :=
  (N7b).bind (fun (t : Unit) => Njw a b)
def N8f (a : List Int) : Option (((List Int))) :=
  some a
def Nip (a b : List Int) : Option (((List Int))) :=
  (Nir a b).bind (fun (t : (List Int)) => N8f t)
def Nfe (a : List Int) : Option (((List Int))) :=
  (N60 a).bind (fun (t : (List Int)) => Nip a t)
@[irreducible] def N21 (a : List Int) : Option ((List Int)) :=
  Nfe a
def N6k (a : List (List Int)) : Option (((List (List Int)))) :=
  (mk (((List.length a : Nat) : Int)) (((List.length a : Nat) : Int))).bind fun (b : Nat) => some (List.replicate b [])
def Na4 : Option (Unit) :=
  some ()
def N3i (a : List (List Int)) (b : Int) (c : List (List Int)) : Option ((Int × (List (List Int))) ⊕ ((List (List Int)))) :=
  cond (decide (b < (((List.length a : Nat) : Int)))) ((idx a b).bind fun (d : List Int) => (N21 d).bind fun (g : List Int) => (inb b (List.length c)).bind fun (i : Nat) => (within i (List.length c)).bind fun (j : Unit) => some (Sum.inl ((IntKind.wrap .i64 (b + 1)),((c).set i g)))) (some (Sum.inr c))
def Ngz (a b : List (List Int)) : Option (((List (List Int)))) :=
  nloop (fun (s : Int × (List (List Int))) => ((N3i a s.1 s.2).map (Sum.elim (fun (t : Int × (List (List Int))) => Sum.inl (t.1,t.2)) (fun (t : (List (List Int))) => Sum.inr t)) : Option ((Int × (List (List Int))) ⊕ (((List (List Int))))))) LL (0,b)
def Nhu (a b : List (List Int)) : Option (((List (List Int)))) :=
  (Ngz a b).map (fun (t : (List (List Int))) => t)
def Nja (a b : List (List Int)) : Option (((List (List Int)))) :=
  (Na4).bind (fun (t : Unit) => Nhu a b)
def N65 (a : List (List Int)) : Option (((List (List Int)))) :=
  some a
def Nin (a b : List (List Int)) : Option (((List (List Int)))) :=
  (Nja a b).bind (fun (t : (List (List Int))) => N65 t)
def Ne4 (a : List (List Int)) : Option (((List (List Int)))) :=
  (N6k a).bind (fun (t : (List (List Int))) => Nin a t)
@[irreducible] def N2w (a : List (List Int)) : Option ((List (List Int))) :=
  Ne4 a
def N9x (a : List Int) (b : List (List Int)) : Option (((List Int) × (List (List Int)))) :=
  (N21 a).bind fun (c : List Int) => (N2w b).bind fun (d : List (List Int)) => some (c,d)
@[irreducible] def N16 (a : List Int) (b : List (List Int)) : Option ((List Int) × (List (List Int))) :=
  N9x a b
def Na3 : Option (Unit) :=
  some ()
@[irreducible] def N31 (a b c : Int) : Option (Unit) :=
  Na3
def N7t (a b c : Int) : Option (Bool) :=
  cond (decide (a ≥ b)) (some (decide (a ≤ c))) (some false)
@[irreducible] def Ni (a b c : Int) : Option (Bool) :=
  N7t a b c
def N9o (a : List Int) : Option (Int ⊕ Bool) :=
  (Ni (((List.length a : Nat) : Int)) 1 8).bind fun (b : Bool) => cond (!b) (some (Sum.inr false)) (some (Sum.inl (((List.length a : Nat) : Int))))
def N73 : Option (Unit) :=
  some ()
def N5v (a b c : Int) : Option (Unit ⊕ Int) :=
  cond (decide (c < a)) (some (Sum.inl ())) (some (Sum.inr b))
def N78 (a : List Int) (b c d : Int) : Option ((Int × Int) ⊕ Bool) :=
  (idx a d).bind fun (g : Int) => (Ni g 0 b).bind fun (i : Bool) => cond (!i) (some (Sum.inr false)) ((idx a d).bind fun (j : Int) => cond (j == (IntKind.wrap .i64 (d + 1))) (some (Sum.inr false)) ((idx a d).bind fun (k : Int) => cond (k == 0) (some (Sum.inl ((IntKind.wrap .i64 (c + 1)),(IntKind.wrap .i64 (d + 1))))) (some (Sum.inl (c,(IntKind.wrap .i64 (d + 1)))))))
def N99 : Option (Unit) :=
  some ()
def N5o (a : List Int) (b c d : Int) : Option ((Int × Int) ⊕ Bool ⊕ Int) :=
  cond (decide (c > 0)) (cond (decide (d < b)) ((idx a (IntKind.wrap .i64 (c - 1))).bind fun (g : Int) => (Ni g 0 b).bind fun (i : Bool) => cond (!i) (some (Sum.inr (Sum.inl false))) (some (Sum.inl (g,(IntKind.wrap .i64 (d + 1)))))) (some (Sum.inr (Sum.inr c)))) (some (Sum.inr (Sum.inr c)))
def Nbk (a : List Int) (b c : Int) : Option (Bool ⊕ Int) :=
  nloop (fun (s : Int × Int) => ((N5o a b s.1 s.2).map (Sum.elim (fun (t : Int × Int) => Sum.inl (t.1,t.2)) (Sum.elim (fun (t : Bool) => Sum.inr (Sum.inl t)) (fun (t : Int) => Sum.inr (Sum.inr t)))) : Option ((Int × Int) ⊕ (Bool ⊕ Int)))) LL (c,0)
def Nj2 (a : List Int) (b c : Int) : Option (Int ⊕ Bool) :=
  (Nbk a b c).map (Sum.elim (fun (t : Bool) => (Sum.inr t)) (fun (t : Int) => (Sum.inl t)))
def Nje (a : List Int) (b c : Int) : Option (Int ⊕ Bool) :=
  (N99).bind (fun (t : Unit) => Nj2 a b c)
def N9p (a : Int) : Option (Unit ⊕ Bool) :=
  cond (decide (a > 0)) (some (Sum.inr false)) (some (Sum.inl ()))
def Niq (a : List Int) (b c : Int) : Option (Unit ⊕ Bool) :=
  (Nje a b c).bind (Sum.elim (fun (t : Int) => N9p t) (fun e => some ((fun (t : Bool) => (Sum.inr t)) e)))
def Njf (a : List Int) (b c d : Int) : Option (Int ⊕ Bool) :=
  (N78 a b c d).bind (Sum.elim (fun (t : Int × Int) => (Niq a b t.2).map (Sum.elim (fun (u : Unit) => (Sum.inl t.1)) (fun (u : Bool) => (Sum.inr u)))) (fun e => some ((fun (t : Bool) => (Sum.inr t)) e)))
def Nfx (a : List Int) (b c d : Int) : Option (Int ⊕ Bool) :=
  (Njf a b c d).map (Sum.elim (fun (t : Int) => (Sum.inl t)) (fun (t : Bool) => (Sum.inr t)))
def N7d (a : Int) : Option (Int) :=
  some (IntKind.wrap .i64 (a + 1))
def Nij (a : List Int) (b c d : Int) : Option ((Int × Int) ⊕ Bool) :=
  (Nfx a b c d).bind (Sum.elim (fun (t : Int) => (N7d d).map (fun (u : Int) => (Sum.inl (t,u)))) (fun e => some ((fun (t : Bool) => (Sum.inr t)) e)))
def N74 (a : List Int) (b c d : Int) : Option ((Int × Int) ⊕ Bool ⊕ Int) :=
  (N5v b c d).bind (Sum.elim (fun (t : Unit) => (Nij a b c d).map (Sum.elim (fun (t : Int × Int) => (Sum.inl (t.1,t.2))) (fun (t : Bool) => (Sum.inr (Sum.inl t))))) (fun e => some ((fun (t : Int) => (Sum.inr (Sum.inr t))) e)))
def Nk7 (a : List Int) (b : Int) : Option (Bool ⊕ Int) :=
  nloop (fun (s : Int × Int) => ((N74 a b s.1 s.2).map (Sum.elim (fun (t : Int × Int) => Sum.inl (t.1,t.2)) (Sum.elim (fun (t : Bool) => Sum.inr (Sum.inl t)) (fun (t : Int) => Sum.inr (Sum.inr t)))) : Option ((Int × Int) ⊕ (Bool ⊕ Int)))) LL (0,0)
def Nke (a : List Int) (b : Int) : Option (Int ⊕ Bool) :=
  (Nk7 a b).map (Sum.elim (fun (t : Bool) => (Sum.inr t)) (fun (t : Int) => (Sum.inl t)))
def Nfi (a : List Int) (b : Int) : Option (Int ⊕ Bool) :=
  (N73).bind (fun (t : Unit) => Nke a b)
def N9z (a : Int) : Option (Bool) :=
  some (a == 1)
def Ngr (a : List Int) (b : Int) : Option (Bool) :=
  (Nfi a b).bind (Sum.elim (fun (t : Int) => N9z t) (fun e => some ((fun (t : Bool) => t) e)))
def Nk9 (a : List Int) : Option (Bool) :=
  (N9o a).bind (Sum.elim (fun (t : Int) => Ngr a t) (fun e => some ((fun (t : Bool) => t) e)))
@[irreducible] def N8 (a : List Int) : Option (Bool) :=
  Nk9 a
def N7a : Option (Unit) :=
  some ()
def N84 : Option (Unit) :=
  some ()
def N20 (a : Int) (b : List (List Int)) : Option (Int ⊕ Bool ⊕ Unit) :=
  cond (decide (a < (((List.length b : Nat) : Int)))) ((idx b a).bind fun (c : List Int) => (N8 c).bind fun (d : Bool) => cond (!d) (some (Sum.inr (Sum.inl false))) (some (Sum.inl (IntKind.wrap .i64 (a + 1))))) (some (Sum.inr (Sum.inr ())))
def Nhw (a : List (List Int)) : Option (Bool ⊕ Unit) :=
  nloop (fun (s : Int) => ((N20 s a).map (Sum.elim (fun (t : Int) => Sum.inl t) (Sum.elim (fun (t : Bool) => Sum.inr (Sum.inl t)) (fun (t : Unit) => Sum.inr (Sum.inr t)))) : Option ((Int) ⊕ (Bool ⊕ Unit)))) LL 0
def Ni1 (a : List (List Int)) : Option (Unit ⊕ Bool) :=
  (Nhw a).map (Sum.elim (fun (t : Bool) => (Sum.inr t)) (fun (t : Unit) => (Sum.inl ())))
def Nhk (a : List (List Int)) : Option (Unit ⊕ Bool) :=
  (N84).bind (fun (t : Unit) => Ni1 a)
def N5z (a : List Int) (b : List (List Int)) : Option (Bool) :=
  (N8 a).bind fun (c : Bool) => cond c (some (decide ((((List.length b : Nat) : Int)) ≤ 8))) (some false)
def Ngq (a : List Int) (b : List (List Int)) : Option (Bool) :=
  (Nhk b).bind (Sum.elim (fun (t : Unit) => N5z a b) (fun e => some ((fun (t : Bool) => t) e)))
def Neb (a : List Int) (b : List (List Int)) : Option (Bool) :=
  (N7a).bind (fun (t : Unit) => Ngq a b)
@[irreducible] def N1s (a : List Int) (b : List (List Int)) : Option (Bool) :=
  Neb a b
def N7r (a : List Int) : Option (((List Int))) :=
  (room ((List.length ([] : List Int)) + List.length a)).bind fun (b : Unit) => some (([] : List Int) ++ a)
def N7o : Option (Unit) :=
  some ()
def N33 (a : Int) (b c : List (List Int)) : Option ((Int × (List (List Int))) ⊕ ((List (List Int)))) :=
  cond (decide (a < (((List.length b : Nat) : Int)))) ((idx b a).bind fun (d : List Int) => (room (List.length d)).bind fun (g : Unit) => (room (List.length c + 1)).bind fun (i : Unit) => some (Sum.inl ((IntKind.wrap .i64 (a + 1)),((c ++ [[]]).set (List.length c) d)))) (some (Sum.inr c))
def Njh (a : List (List Int)) : Option (((List (List Int)))) :=
  nloop (fun (s : Int × (List (List Int))) => ((N33 s.1 a s.2).map (Sum.elim (fun (t : Int × (List (List Int))) => Sum.inl (t.1,t.2)) (fun (t : (List (List Int))) => Sum.inr t)) : Option ((Int × (List (List Int))) ⊕ (((List (List Int))))))) LL (0,([] : List (List Int)))
def Njn (a : List (List Int)) : Option (((List (List Int)))) :=
  (Njh a).map (fun (t : (List (List Int))) => t)
def Nfu (a : List (List Int)) : Option (((List (List Int)))) :=
  (N7o).bind (fun (t : Unit) => Njn a)
def N6i (a : List Int) (b : List (List Int)) : Option (((List Int) × (List (List Int)))) :=
  some (a,b)
def Nk3 (a : List (List Int)) (b : List Int) : Option (((List Int) × (List (List Int)))) :=
  (Nfu a).bind (fun (t : (List (List Int))) => N6i b t)
def Nb3 (a : List Int) (b : List (List Int)) : Option (((List Int) × (List (List Int)))) :=
  (N7r a).bind (fun (t : (List Int)) => Nk3 b t)
@[irreducible] def N1l (a : List Int) (b : List (List Int)) : Option ((List Int) × (List (List Int))) :=
  Nb3 a b
def N9u (a : List Int) : Option (Int) :=
  some (((List.length a : Nat) : Int))
def N70 (a : Int) : Option (Int) :=
  some (IntKind.wrap .i64 (a - 1))
def N1p (a : List Int) (b c : Int) (d : List Int) : Option ((Int × (List Int)) ⊕ ((List Int))) :=
  cond (decide (c ≥ 0)) ((N8 a).bind fun (g : Bool) => cond g ((idx a c).bind fun (i : Int) => cond (i == 0) ((room ((List.length d) + List.length ([0]))).bind fun (j : Unit) => some (Sum.inl ((IntKind.wrap .i64 (c - 1)),(d ++ ([0]))))) ((idx a c).bind fun (k : Int) => (room ((List.length d) + List.length ([(IntKind.wrap .i64 ((IntKind.wrap .i64 (b + 1)) - k))]))).bind fun (l : Unit) => some (Sum.inl ((IntKind.wrap .i64 (c - 1)),(d ++ ([(IntKind.wrap .i64 ((IntKind.wrap .i64 (b + 1)) - k))])))))) (some (Sum.inr d))) (some (Sum.inr d))
def Ngy (a : List Int) (b c : Int) : Option (((List Int))) :=
  nloop (fun (s : Int × (List Int)) => ((N1p a b s.1 s.2).map (Sum.elim (fun (t : Int × (List Int)) => Sum.inl (t.1,t.2)) (fun (t : (List Int)) => Sum.inr t)) : Option ((Int × (List Int)) ⊕ (((List Int)))))) LL (c,([] : List Int))
def Nj3 (a : List Int) (b c : Int) : Option (((List Int))) :=
  (Ngy a b c).map (fun (t : (List Int)) => t)
def Ng9 (a : List Int) (b : Int) : Option (((List Int))) :=
  (N70 b).bind (fun (t : Int) => Nj3 a b t)
def N9w (a : List Int) : Option (((List Int))) :=
  some a
def Nj7 (a : List Int) (b : Int) : Option (((List Int))) :=
  (Ng9 a b).bind (fun (t : (List Int)) => N9w t)
def Nb4 (a : List Int) : Option (((List Int))) :=
  (N9u a).bind (fun (t : Int) => Nj7 a t)
@[irreducible] def N1h (a : List Int) : Option ((List Int)) :=
  Nb4 a
def N6a : Option (Unit) :=
  some ()
def N6t : Option (Unit) :=
  some ()
def N2k (a : List Int) (b : Int) : Option (Int ⊕ Int ⊕ Unit) :=
  cond (decide (b < (((List.length a : Nat) : Int)))) ((N8 a).bind fun (c : Bool) => cond c ((idx a b).bind fun (d : Int) => cond (d == 0) (some (Sum.inr (Sum.inl (IntKind.wrap .i64 (b + 1))))) (some (Sum.inl (IntKind.wrap .i64 (b + 1))))) (some (Sum.inr (Sum.inr ())))) (some (Sum.inr (Sum.inr ())))
def Ni3 (a : List Int) : Option (Int ⊕ Unit) :=
  nloop (fun (s : Int) => ((N2k a s).map (Sum.elim (fun (t : Int) => Sum.inl t) (Sum.elim (fun (t : Int) => Sum.inr (Sum.inl t)) (fun (t : Unit) => Sum.inr (Sum.inr t)))) : Option ((Int) ⊕ (Int ⊕ Unit)))) LL 0
def Ng0 (a : List Int) : Option (Unit ⊕ Int) :=
  (Ni3 a).map (Sum.elim (fun (t : Int) => (Sum.inr t)) (fun (t : Unit) => (Sum.inl ())))
def Nii (a : List Int) : Option (Unit ⊕ Int) :=
  (N6t).bind (fun (t : Unit) => Ng0 a)
def N7w : Option (Int) :=
  some (-1)
def Nia (a : List Int) : Option (Int) :=
  (Nii a).bind (Sum.elim (fun (t : Unit) => N7w) (fun e => some ((fun (t : Int) => t) e)))
def Nk2 (a : List Int) : Option (Int) :=
  (N6a).bind (fun (t : Unit) => Nia a)
@[irreducible] def N4w (a : List Int) : Option (Int) :=
  Nk2 a
def N6j (R0 : (List Int) → Int → Option ((List Int))) : Option (Unit) :=
  some ()
def N8t (R0 : (List Int) → Int → Option ((List Int))) : Option (Unit) :=
  some ()
def N3w (R0 : (List Int) → Int → Option ((List Int))) (a : List Int) (b c : Int) (d : List Int) : Option ((Int × (List Int)) ⊕ ((List Int))) :=
  cond (decide (c < b)) ((idx a (IntKind.wrap .i64 (c - 1))).bind fun (g : Int) => cond (g == b) ((R0 a c).bind fun (i : List Int) => (room ((List.length d) + List.length i)).bind fun (j : Unit) => some (Sum.inl ((IntKind.wrap .i64 (c + 1)),(d ++ i)))) (some (Sum.inl ((IntKind.wrap .i64 (c + 1)),d)))) (some (Sum.inr d))
def Nh6 (R0 : (List Int) → Int → Option ((List Int))) (a : List Int) (b : Int) : Option (((List Int))) :=
  nloop (fun (s : Int × (List Int)) => ((N3w R0 a b s.1 s.2).map (Sum.elim (fun (t : Int × (List Int)) => Sum.inl (t.1,t.2)) (fun (t : (List Int)) => Sum.inr t)) : Option ((Int × (List Int)) ⊕ (((List Int)))))) LL (1,([] : List Int))
def Nhx (R0 : (List Int) → Int → Option ((List Int))) (a : List Int) (b : Int) : Option (((List Int))) :=
  (Nh6 R0 a b).map (fun (t : (List Int)) => t)
def Ng1 (R0 : (List Int) → Int → Option ((List Int))) (a : List Int) (b : Int) : Option (((List Int))) :=
  (N8t R0).bind (fun (t : Unit) => Nhx R0 a b)
def N98 (R0 : (List Int) → Int → Option ((List Int))) (a : Int) (b : List Int) : Option (((List Int))) :=
  (room ((List.length b) + List.length ([a]))).bind fun (c : Unit) => some (b ++ ([a]))
def N8g (R0 : (List Int) → Int → Option ((List Int))) (a : Int) : Option (Int) :=
  some (IntKind.wrap .i64 (a + 1))
def N4x (R0 : (List Int) → Int → Option ((List Int))) (a : List Int) (b c : Int) (d : List Int) : Option ((Int × (List Int)) ⊕ ((List Int))) :=
  cond (decide (c ≤ (((List.length a : Nat) : Int)))) ((idx a (IntKind.wrap .i64 (c - 1))).bind fun (g : Int) => cond (g == b) ((R0 a c).bind fun (i : List Int) => (room ((List.length d) + List.length i)).bind fun (j : Unit) => some (Sum.inl ((IntKind.wrap .i64 (c + 1)),(d ++ i)))) (some (Sum.inl ((IntKind.wrap .i64 (c + 1)),d)))) (some (Sum.inr d))
def Njr (R0 : (List Int) → Int → Option ((List Int))) (a : List Int) (b c : Int) (d : List Int) : Option (((List Int))) :=
  nloop (fun (s : Int × (List Int)) => ((N4x R0 a b s.1 s.2).map (Sum.elim (fun (t : Int × (List Int)) => Sum.inl (t.1,t.2)) (fun (t : (List Int)) => Sum.inr t)) : Option ((Int × (List Int)) ⊕ (((List Int)))))) LL (c,d)
def Ni2 (R0 : (List Int) → Int → Option ((List Int))) (a : List Int) (b c : Int) (d : List Int) : Option (((List Int))) :=
  (Njr R0 a b c d).map (fun (t : (List Int)) => t)
def Nhq (R0 : (List Int) → Int → Option ((List Int))) (a : List Int) (b : Int) (c : List Int) : Option (((List Int))) :=
  (N8g R0 b).bind (fun (t : Int) => Ni2 R0 a b t c)
def N5x (R0 : (List Int) → Int → Option ((List Int))) (a : List Int) : Option (((List Int))) :=
  some a
def Nj9 (R0 : (List Int) → Int → Option ((List Int))) (a : List Int) (b : Int) (c : List Int) : Option (((List Int))) :=
  (Nhq R0 a b c).bind (fun (t : (List Int)) => N5x R0 t)
def Nfk (R0 : (List Int) → Int → Option ((List Int))) (a : List Int) (b : Int) (c : List Int) : Option (((List Int))) :=
  (N98 R0 b c).bind (fun (t : (List Int)) => Nj9 R0 a b t)
def Nhp (R0 : (List Int) → Int → Option ((List Int))) (a : List Int) (b : Int) : Option (((List Int))) :=
  (Ng1 R0 a b).bind (fun (t : (List Int)) => Nfk R0 a b t)
def Njm (R0 : (List Int) → Int → Option ((List Int))) (a : List Int) (b : Int) : Option (((List Int))) :=
  (N6j R0).bind (fun (t : Unit) => Nhp R0 a b)
def Nck (R0 : (List Int) → Int → Option ((List Int))) (a : List Int) (b : Int) : Option ((List Int)) :=
  Njm R0 a b
def N2r : Nat → ((List Int) → Int → Option ((List Int)))
  | 0 => (fun _ _ => none)
  | n + 1 => (fun y0 y1 => Nck (N2r n) y0 y1)
def N6 (n : Nat) : (List Int) → Int → Option ((List Int)) := (N2r n)
@[irreducible] def N5m (a : List Int) (b : Int) : Option ((List Int)) := N6 RR a b
def N9s (a : List Int) : Option (((List Int))) :=
  (N8 a).bind fun (b : Bool) => cond (!b) (some ([] : List Int)) ((N4w a).bind fun (c : Int) => (N5m a c).bind fun (d : List Int) => some d)
@[irreducible] def N4e (a : List Int) : Option ((List Int)) :=
  N9s a
def N9i : Option (Unit) :=
  some ()
def N6v : Option (Unit) :=
  some ()
def N7c (a : List Int) (b : Int) : Option (Unit ⊕ Unit) :=
  cond (decide (b < (((List.length a : Nat) : Int)))) (some (Sum.inl ())) (some (Sum.inr ()))
def N67 (a : List Int) (b c : Int) : Option (Unit ⊕ Bool) :=
  (idx a c).bind fun (d : Int) => (Ni d 1 b).bind fun (g : Bool) => cond (!g) (some (Sum.inr false)) (some (Sum.inl ()))
def N57 (a : List Int) (b c : Int) : Option (Int ⊕ Bool ⊕ Unit) :=
  cond (decide (c < b)) ((idx a c).bind fun (d : Int) => (idx a b).bind fun (g : Int) => cond (d == g) (some (Sum.inr (Sum.inl false))) (some (Sum.inl (IntKind.wrap .i64 (c + 1))))) (some (Sum.inr (Sum.inr ())))
def Nf0 (a : List Int) (b : Int) : Option (Bool ⊕ Unit) :=
  nloop (fun (s : Int) => ((N57 a b s).map (Sum.elim (fun (t : Int) => Sum.inl t) (Sum.elim (fun (t : Bool) => Sum.inr (Sum.inl t)) (fun (t : Unit) => Sum.inr (Sum.inr t)))) : Option ((Int) ⊕ (Bool ⊕ Unit)))) LL 0
def Nfp (a : List Int) (b : Int) : Option (Unit ⊕ Bool) :=
  (Nf0 a b).map (Sum.elim (fun (t : Bool) => (Sum.inr t)) (fun (t : Unit) => (Sum.inl ())))
def Nhi (a : List Int) (b c : Int) : Option (Unit ⊕ Bool) :=
  (N67 a b c).bind (Sum.elim (fun (t : Unit) => Nfp a c) (fun e => some ((fun (t : Bool) => (Sum.inr t)) e)))
def Nih (a : List Int) (b c : Int) : Option (Unit ⊕ Bool) :=
  (Nhi a b c).map (Sum.elim (fun (t : Unit) => (Sum.inl ())) (fun (t : Bool) => (Sum.inr t)))
def Na6 (a : Int) : Option (Int) :=
  some (IntKind.wrap .i64 (a + 1))
def Nkc (a : List Int) (b c : Int) : Option (Int ⊕ Bool) :=
  (Nih a b c).bind (Sum.elim (fun (t : Unit) => (Na6 c).map (fun (t : Int) => (Sum.inl t))) (fun e => some ((fun (t : Bool) => (Sum.inr t)) e)))
def Ne3 (a : List Int) (b c : Int) : Option (Int ⊕ Bool ⊕ Unit) :=
  (N7c a c).bind (Sum.elim (fun (t : Unit) => (Nkc a b c).map (Sum.elim (fun (t : Int) => (Sum.inl t)) (fun (t : Bool) => (Sum.inr (Sum.inl t))))) (fun e => some ((fun (t : Unit) => (Sum.inr (Sum.inr t))) e)))
def Nj4 (a : List Int) (b : Int) : Option (Bool ⊕ Unit) :=
  nloop (fun (s : Int) => ((Ne3 a b s).map (Sum.elim (fun (t : Int) => Sum.inl t) (Sum.elim (fun (t : Bool) => Sum.inr (Sum.inl t)) (fun (t : Unit) => Sum.inr (Sum.inr t)))) : Option ((Int) ⊕ (Bool ⊕ Unit)))) LL 0
def Nfo (a : List Int) (b : Int) : Option (Unit ⊕ Bool) :=
  (Nj4 a b).map (Sum.elim (fun (t : Bool) => (Sum.inr t)) (fun (t : Unit) => (Sum.inl ())))
def Njv (a : List Int) (b : Int) : Option (Unit ⊕ Bool) :=
  (N6v).bind (fun (t : Unit) => Nfo a b)
def N6u (a : List Int) (b : Int) : Option (Bool) :=
  (Ni b 1 8).bind fun (c : Bool) => cond c (some ((((List.length a : Nat) : Int)) == b)) (some false)
def Nhv (a : List Int) (b : Int) : Option (Bool) :=
  (Njv a b).bind (Sum.elim (fun (t : Unit) => N6u a b) (fun e => some ((fun (t : Bool) => t) e)))
def Nfv (a : List Int) (b : Int) : Option (Bool) :=
  (N9i).bind (fun (t : Unit) => Nhv a b)
@[irreducible] def N38 (a : List Int) (b : Int) : Option (Bool) :=
  Nfv a b
def N88 (a b : List Int) : Option (((List Int)) ⊕ (Bool × (List Int))) :=
  (N8 a).bind fun (c : Bool) => cond (!c) (some (Sum.inr (false,([] : List Int)))) ((N38 b (((List.length a : Nat) : Int))).bind fun (d : Bool) => cond (!d) (some (Sum.inr (false,([] : List Int)))) ((mk (IntKind.wrap .i64 ((((List.length a : Nat) : Int)) + 1)) (IntKind.wrap .i64 ((((List.length a : Nat) : Int)) + 1))).bind fun (g : Nat) => some (Sum.inl (List.replicate g (0 : Int)))))
def N75 : Option (Unit) :=
  some ()
def N4v (a : List Int) (b : Int) (c : List Int) : Option ((Int × (List Int)) ⊕ ((List Int))) :=
  cond (decide (b < (((List.length a : Nat) : Int)))) ((idx a b).bind fun (d : Int) => (inb d (List.length c)).bind fun (g : Nat) => some (Sum.inl ((IntKind.wrap .i64 (b + 1)),(c.set g (IntKind.wrap .i64 (b + 1)))))) (some (Sum.inr c))
def Nkm (a b : List Int) : Option (((List Int))) :=
  nloop (fun (s : Int × (List Int)) => ((N4v a s.1 s.2).map (Sum.elim (fun (t : Int × (List Int)) => Sum.inl (t.1,t.2)) (fun (t : (List Int)) => Sum.inr t)) : Option ((Int × (List Int)) ⊕ (((List Int)))))) LL (0,b)
def Nk6 (a b : List Int) : Option (((List Int))) :=
  (Nkm a b).map (fun (t : (List Int)) => t)
def Ni0 (a b : List Int) : Option (((List Int))) :=
  (N75).bind (fun (t : Unit) => Nk6 a b)
def N9d : Option (Unit) :=
  some ()
def N9e : Option (Unit) :=
  some ()
def N5b (a b : List Int) (c : Int) (d g : List Int) : Option ((Int × (List Int)) ⊕ ((List Int))) :=
  cond (decide (c < (((List.length b : Nat) : Int)))) ((idx b c).bind fun (i : Int) => (idx a (IntKind.wrap .i64 (i - 1))).bind fun (j : Int) => (inb j (List.length d)).bind fun (k : Nat) => (d[k]?).bind fun (l : Int) => (room ((List.length g) + List.length ([l]))).bind fun (m : Unit) => some (Sum.inl ((IntKind.wrap .i64 (c + 1)),(g ++ ([l]))))) (some (Sum.inr g))
def Ng7 (a b c : List Int) : Option (((List Int))) :=
  nloop (fun (s : Int × (List Int)) => ((N5b a b s.1 c s.2).map (Sum.elim (fun (t : Int × (List Int)) => Sum.inl (t.1,t.2)) (fun (t : (List Int)) => Sum.inr t)) : Option ((Int × (List Int)) ⊕ (((List Int)))))) LL (0,([] : List Int))
def Njq (a b c : List Int) : Option (((List Int))) :=
  (Ng7 a b c).map (fun (t : (List Int)) => t)
def Nho (a b c : List Int) : Option (((List Int))) :=
  (N9e).bind (fun (t : Unit) => Njq a b c)
def N9q (a : List Int) : Option ((Bool × (List Int))) :=
  some (true,a)
def Nhr (a b c : List Int) : Option ((Bool × (List Int))) :=
  (Nho a b c).bind (fun (t : (List Int)) => N9q t)
def Ngm (a b c : List Int) : Option ((Bool × (List Int))) :=
  (N9d).bind (fun (t : Unit) => Nhr a b c)
def Ngv (a b c : List Int) : Option ((Bool × (List Int))) :=
  (Ni0 b c).bind (fun (t : (List Int)) => Ngm a b t)
def Nf6 (a b : List Int) : Option ((Bool × (List Int))) :=
  (N88 a b).bind (Sum.elim (fun (t : (List Int)) => Ngv a b t) (fun e => some ((fun (t : Bool × (List Int)) => t) e)))
@[irreducible] def N4m (a b : List Int) : Option (Bool × (List Int)) :=
  Nf6 a b
def N6p (a : List Int) : Option (((List Int))) :=
  (N4e a).bind fun (b : List Int) => (N4m a b).bind fun (c : Bool × (List Int)) => some (c.2)
@[irreducible] def N1q (a : List Int) : Option ((List Int)) :=
  N6p a
def N5s (a : List Int) (b c d : Int) : Option ((Nat × (List Int))) :=
  (room ((List.length ([] : List Int)) + List.length a)).bind fun (g : Unit) => cond (b == 0) ((Ni c 1 (((List.length a : Nat) : Int))).bind fun (i : Bool) => cond i ((inb (IntKind.wrap .i64 (c - 1)) (List.length (([] : List Int) ++ a))).bind fun (j : Nat) => some ((List.length ((([] : List Int) ++ a).set j d)),((([] : List Int) ++ a).set j d))) (cond ((b == 1) && ((c == c) && ((d == 0) && true))) ((room ((List.length (([] : List Int) ++ a)) + List.length ([c]))).bind fun (k : Unit) => some ((List.length ((([] : List Int) ++ a) ++ ([c]))),((([] : List Int) ++ a) ++ ([c])))) (cond ((b == 2) && ((c == 0) && ((d == 0) && true))) ((inc (IntKind.wrap .i64 ((((List.length (([] : List Int) ++ a) : Nat) : Int)) - 1)) (List.length (([] : List Int) ++ a))).bind fun (l : Nat) => some ((l - 0),(([] : List Int) ++ a))) (cond ((b == 3) && ((c == 0) && ((d == 0) && true))) ((N1h a).bind fun (m : List Int) => some ((List.length m),m)) (cond ((b == 4) && ((c == 0) && ((d == 0) && true))) ((N1q a).bind fun (o : List Int) => some ((List.length o),o)) (some ((List.length ([] : List Int)),([] : List Int)))))))) (cond ((b == 1) && ((c == c) && ((d == 0) && true))) ((room ((List.length (([] : List Int) ++ a)) + List.length ([c]))).bind fun (p : Unit) => some ((List.length ((([] : List Int) ++ a) ++ ([c]))),((([] : List Int) ++ a) ++ ([c])))) (cond ((b == 2) && ((c == 0) && ((d == 0) && true))) ((inc (IntKind.wrap .i64 ((((List.length (([] : List Int) ++ a) : Nat) : Int)) - 1)) (List.length (([] : List Int) ++ a))).bind fun (q : Nat) => some ((q - 0),(([] : List Int) ++ a))) (cond ((b == 3) && ((c == 0) && ((d == 0) && true))) ((N1h a).bind fun (w : List Int) => some ((List.length w),w)) (cond ((b == 4) && ((c == 0) && ((d == 0) && true))) ((N1q a).bind fun (y : List Int) => some ((List.length y),y)) (some ((List.length ([] : List Int)),([] : List Int)))))))
@[irreducible] def N1d (a : List Int) (b c d : Int) : Option (Nat × (List Int)) :=
  N5s a b c d
def N8o (a : List Int) (b : List (List Int)) (c d g : Int) : Option ((Nat × Bool × (List Int) × (List Int) × (List (List Int))) ⊕ (Bool × (List Int) × (List (List Int)))) :=
  (N1s a b).bind fun (i : Bool) => cond (!i) (some (Sum.inr (false,([] : List Int),([] : List (List Int))))) ((N1l a b).bind fun (j : (List Int) × (List (List Int))) => cond ((c == 5) && ((d == 0) && ((g == 0) && true))) (cond (decide ((((List.length b : Nat) : Int)) > 0)) ((inb (IntKind.wrap .i64 ((((List.length (j.2) : Nat) : Int)) - 1)) (List.length (j.2))).bind fun (k : Nat) => (((j.2))[k]?).bind fun (l : List Int) => (inc (IntKind.wrap .i64 ((((List.length (j.2) : Nat) : Int)) - 1)) (List.length (((j.2)).set k []))).bind fun (m : Nat) => (sure (Nat.blt k 0 || Nat.ble m k)).bind fun (o : Unit) => some (Sum.inr (true,l,(((((j.2)).set k []).take m).drop 0)))) ((N1d a c d g).bind fun (p : Nat × (List Int)) => some (Sum.inl ((p.1),(((((p.1) : Nat) : Int)) == (((List.length a : Nat) : Int))),(p.2),(j.1),(j.2))))) ((N1d a c d g).bind fun (q : Nat × (List Int)) => some (Sum.inl ((q.1),(((((q.1) : Nat) : Int)) == (((List.length a : Nat) : Int))),(q.2),(j.1),(j.2)))))
def N7h : Option (Unit) :=
  some ()
def N22 (a : Nat) (b : Bool) (c : Int) (d g : List Int) : Option ((Bool × Int) ⊕ Bool) :=
  cond (decide (c < (((a : Nat) : Int)))) (cond b ((inb c a).bind fun (i : Nat) => (g[(0 + i)]?).bind fun (j : Int) => (idx d c).bind fun (k : Int) => some (Sum.inl ((j == k),(IntKind.wrap .i64 (c + 1))))) (some (Sum.inr b))) (some (Sum.inr b))
def Nd1 (a : Nat) (b : Bool) (c d : List Int) : Option (Bool) :=
  nloop (fun (s : Bool × Int) => ((N22 a s.1 s.2 c d).map (Sum.elim (fun (t : Bool × Int) => Sum.inl (t.1,t.2)) (fun (t : Bool) => Sum.inr t)) : Option ((Bool × Int) ⊕ (Bool)))) LL (b,0)
def Nkf (a : Nat) (b : Bool) (c d : List Int) : Option (Bool) :=
  (Nd1 a b c d).map (fun (t : Bool) => t)
def Nhf (a : Nat) (b : Bool) (c d : List Int) : Option (Bool) :=
  (N7h).bind (fun (t : Unit) => Nkf a b c d)
def N7l (a : Nat) (b : Bool) (c d : List Int) (g : List (List Int)) : Option ((Bool × (List Int) × (List (List Int)))) :=
  cond b (some (false,d,g)) ((N8 ((c.drop 0).take a)).bind fun (i : Bool) => cond (!i) (some (false,d,g)) ((room (List.length g + 1)).bind fun (j : Unit) => cond (decide ((((List.length ((g ++ [[]]).set (List.length g) d) : Nat) : Int)) > 8)) ((inc 1 (List.length ((g ++ [[]]).set (List.length g) d))).bind fun (k : Nat) => (room ((List.length ([] : List Int)) + List.length ((c.drop 0).take a))).bind fun (l : Unit) => some (true,(([] : List Int) ++ ((c.drop 0).take a)),((((g ++ [[]]).set (List.length g) d).take (List.length ((g ++ [[]]).set (List.length g) d))).drop k))) ((room ((List.length ([] : List Int)) + List.length ((c.drop 0).take a))).bind fun (m : Unit) => some (true,(([] : List Int) ++ ((c.drop 0).take a)),((g ++ [[]]).set (List.length g) d)))))
def Nf4 (a : Nat) (b : Bool) (c d g : List Int) (i : List (List Int)) : Option ((Bool × (List Int) × (List (List Int)))) :=
  (Nhf a b c d).bind (fun (t : Bool) => N7l a t d g i)
def Nc0 (a : List Int) (b : List (List Int)) (c d g : Int) : Option ((Bool × (List Int) × (List (List Int)))) :=
  (N8o a b c d g).bind (Sum.elim (fun (t : Nat × Bool × (List Int) × (List Int) × (List (List Int))) => Nf4 t.1 t.2.1 a t.2.2.1 t.2.2.2.1 t.2.2.2.2) (fun e => some ((fun (t : Bool × (List Int) × (List (List Int))) => t) e)))
@[irreducible] def N2n (a : List Int) (b : List (List Int)) (c d g : Int) : Option (Bool × (List Int) × (List (List Int))) :=
  Nc0 a b c d g
def N76 : Option (Unit) :=
  some ()
def N8w (a : List Int) : Option (Int) :=
  some (((List.length a : Nat) : Int))
def N3s (a : List Int) (b c d : Int) : Option ((Int × Int) ⊕ Bool ⊕ Int) :=
  cond (decide (d < c)) ((idx a d).bind fun (g : Int) => cond (decide (g < 0)) (some (Sum.inr (Sum.inl false))) (cond (decide (g > (((List.length a : Nat) : Int)))) (some (Sum.inr (Sum.inl false))) (cond (g == 0) (some (Sum.inl ((IntKind.wrap .i64 (b + 1)),(IntKind.wrap .i64 (d + 1))))) (some (Sum.inl (b,(IntKind.wrap .i64 (d + 1)))))))) (some (Sum.inr (Sum.inr b)))
def Nic (a : List Int) (b : Int) : Option (Bool ⊕ Int) :=
  nloop (fun (s : Int × Int) => ((N3s a s.1 b s.2).map (Sum.elim (fun (t : Int × Int) => Sum.inl (t.1,t.2)) (Sum.elim (fun (t : Bool) => Sum.inr (Sum.inl t)) (fun (t : Int) => Sum.inr (Sum.inr t)))) : Option ((Int × Int) ⊕ (Bool ⊕ Int)))) LL (0,0)
def Nig (a : List Int) (b : Int) : Option (Int ⊕ Bool) :=
  (Nic a b).map (Sum.elim (fun (t : Bool) => (Sum.inr t)) (fun (t : Int) => (Sum.inl t)))
def Nki (a : List Int) : Option (Int ⊕ Bool) :=
  (N8w a).bind (fun (t : Int) => Nig a t)
def N8z (a : Int) : Option (Bool) :=
  some (a == 1)
def Nfg (a : List Int) : Option (Bool) :=
  (Nki a).bind (Sum.elim (fun (t : Int) => N8z t) (fun e => some ((fun (t : Bool) => t) e)))
def Nio (a : List Int) : Option (Bool) :=
  (N76).bind (fun (t : Unit) => Nfg a)
@[irreducible] def N43 (a : List Int) : Option (Bool) :=
  Nio a
def N9b (a : List Int) (b c : Int) : Option ((Bool × Int × Int)) :=
  (idx a (IntKind.wrap .i64 (b - 1))).bind fun (d : Int) => cond (d == 0) (some (false,b,c)) (some (true,d,(IntKind.wrap .i64 (c + 1))))
@[irreducible] def N25 (a : List Int) (b c : Int) : Option (Bool × Int × Int) :=
  N9b a b c
def N7s : Option (Unit) :=
  some ()
def N5h (a : List Int) (b c : Int) : Option ((Int × Int) ⊕ (Int × Bool) ⊕ (Int × Int)) :=
  (N25 a b c).bind fun (d : Bool × Int × Int) => cond (d.1) (cond (decide ((d.2.2) ≥ (((List.length a : Nat) : Int)))) (some (Sum.inr (Sum.inl (0,false)))) (some (Sum.inl ((d.2.1),(d.2.2))))) (some (Sum.inr (Sum.inr ((d.2.1),(d.2.2)))))
def Nit (a : List Int) (b : Int) : Option ((Int × Bool) ⊕ (Int × Int)) :=
  nloop (fun (s : Int × Int) => ((N5h a s.1 s.2).map (Sum.elim (fun (t : Int × Int) => Sum.inl (t.1,t.2)) (Sum.elim (fun (t : Int × Bool) => Sum.inr (Sum.inl t)) (fun (t : Int × Int) => Sum.inr (Sum.inr t)))) : Option ((Int × Int) ⊕ ((Int × Bool) ⊕ (Int × Int))))) LL (b,0)
def Ni4 (a : List Int) (b : Int) : Option ((Int × Int) ⊕ (Int × Bool)) :=
  (Nit a b).map (Sum.elim (fun (t : Int × Bool) => (Sum.inr t)) (fun (t : Int × Int) => (Sum.inl (t.1,t.2))))
def N8x (a : Int) : Option ((Int × Bool)) :=
  some (a,true)
def Njp (a : List Int) (b : Int) : Option ((Int × Bool)) :=
  (Ni4 a b).bind (Sum.elim (fun (t : Int × Int) => N8x t.2) (fun e => some ((fun (t : Int × Bool) => t) e)))
def Nid (a : List Int) (b : Int) : Option ((Int × Bool)) :=
  (N7s).bind (fun (t : Unit) => Njp a b)
@[irreducible] def N4b (a : List Int) (b : Int) : Option (Int × Bool) :=
  Nid a b
def N6r (a : List Int) : Option (Unit ⊕ Bool) :=
  cond (decide ((((List.length a : Nat) : Int)) < 1)) (some (Sum.inr false)) (cond (decide ((((List.length a : Nat) : Int)) > 8)) (some (Sum.inr false)) ((N43 a).bind fun (b : Bool) => cond (!b) (some (Sum.inr false)) (some (Sum.inl ()))))
def N7m (a : List Int) : Option (Int) :=
  some (((List.length a : Nat) : Int))
def N45 (a : List Int) (b c : Int) : Option (Int ⊕ Bool ⊕ Unit) :=
  cond (decide (c < b)) ((N4b a (IntKind.wrap .i64 (c + 1))).bind fun (d : Int × Bool) => cond (!(d.2)) (some (Sum.inr (Sum.inl false))) (some (Sum.inl (IntKind.wrap .i64 (c + 1))))) (some (Sum.inr (Sum.inr ())))
def Ngo (a : List Int) (b : Int) : Option (Bool ⊕ Unit) :=
  nloop (fun (s : Int) => ((N45 a b s).map (Sum.elim (fun (t : Int) => Sum.inl t) (Sum.elim (fun (t : Bool) => Sum.inr (Sum.inl t)) (fun (t : Unit) => Sum.inr (Sum.inr t)))) : Option ((Int) ⊕ (Bool ⊕ Unit)))) LL 0
def Nht (a : List Int) (b : Int) : Option (Unit ⊕ Bool) :=
  (Ngo a b).map (Sum.elim (fun (t : Bool) => (Sum.inr t)) (fun (t : Unit) => (Sum.inl ())))
def Nfz (a : List Int) : Option (Unit ⊕ Bool) :=
  (N7m a).bind (fun (t : Int) => Nht a t)
def Nb2 : Option (Bool) :=
  some true
def Ngl (a : List Int) : Option (Bool) :=
  (Nfz a).bind (Sum.elim (fun (t : Unit) => Nb2) (fun e => some ((fun (t : Bool) => t) e)))
def Nfd (a : List Int) : Option (Bool) :=
  (N6r a).bind (Sum.elim (fun (t : Unit) => Ngl a) (fun e => some ((fun (t : Bool) => t) e)))
@[irreducible] def Nb (a : List Int) : Option (Bool) :=
  Nfd a
def N6m (a : List Int) (b : List (List Int)) : Option (Unit ⊕ Bool) :=
  (Nb a).bind fun (c : Bool) => cond (!c) (some (Sum.inr false)) (cond (decide ((((List.length b : Nat) : Int)) > 8)) (some (Sum.inr false)) (some (Sum.inl ())))
def N6s (a : List (List Int)) : Option (Int) :=
  some (((List.length a : Nat) : Int))
def N2d (a : List (List Int)) (b c : Int) : Option (Int ⊕ Bool ⊕ Unit) :=
  cond (decide (c < b)) ((idx a c).bind fun (d : List Int) => (Nb d).bind fun (g : Bool) => cond (!g) (some (Sum.inr (Sum.inl false))) (some (Sum.inl (IntKind.wrap .i64 (c + 1))))) (some (Sum.inr (Sum.inr ())))
def Ngt (a : List (List Int)) (b : Int) : Option (Bool ⊕ Unit) :=
  nloop (fun (s : Int) => ((N2d a b s).map (Sum.elim (fun (t : Int) => Sum.inl t) (Sum.elim (fun (t : Bool) => Sum.inr (Sum.inl t)) (fun (t : Unit) => Sum.inr (Sum.inr t)))) : Option ((Int) ⊕ (Bool ⊕ Unit)))) LL 0
def Nhd (a : List (List Int)) (b : Int) : Option (Unit ⊕ Bool) :=
  (Ngt a b).map (Sum.elim (fun (t : Bool) => (Sum.inr t)) (fun (t : Unit) => (Sum.inl ())))
def Nk5 (a : List (List Int)) : Option (Unit ⊕ Bool) :=
  (N6s a).bind (fun (t : Int) => Nhd a t)
def Nez : Option (Bool) :=
  some true
def Ni7 (a : List (List Int)) : Option (Bool) :=
  (Nk5 a).bind (Sum.elim (fun (t : Unit) => Nez) (fun e => some ((fun (t : Bool) => t) e)))
def Nbt (a : List Int) (b : List (List Int)) : Option (Bool) :=
  (N6m a b).bind (Sum.elim (fun (t : Unit) => Ni7 b) (fun e => some ((fun (t : Bool) => t) e)))
@[irreducible] def N1t (a : List Int) (b : List (List Int)) : Option (Bool) :=
  Nbt a b
def N8b (a : Int) : Option (Int) :=
  cond (a == 0) (some 2) (cond (a == 1) (some 1) (some 0))
@[irreducible] def N55 (a : Int) : Option (Int) :=
  N8b a
def N7g (a b c : Int) : Option (Bool) :=
  (N55 a).bind fun (d : Int) => cond (decide (d > 0)) (cond (decide (d > 1)) (some true) (some (c == 0))) (cond (b == 0) (cond (decide (d > 1)) (some true) (some (c == 0))) (some false))
@[irreducible] def N4c (a b c : Int) : Option (Bool) :=
  N7g a b c
def N2t (x1 : List Int) : Option (List Int) := cloneD x1
def N9r (a : List Int) : Option (((List Int))) :=
  (N2t a).bind fun (b : List Int) => some b
def N9n (a : List (List Int)) : Option (Int) :=
  some (((List.length a : Nat) : Int))
def N3d (a : List (List Int)) (b c : Int) (d : List (List Int)) : Option ((Int × (List (List Int))) ⊕ ((List (List Int)))) :=
  cond (decide (c < b)) ((idx a c).bind fun (g : List Int) => (N2t g).bind fun (i : List Int) => (room (List.length d + 1)).bind fun (j : Unit) => some (Sum.inl ((IntKind.wrap .i64 (c + 1)),((d ++ [[]]).set (List.length d) i)))) (some (Sum.inr d))
def Nix (a : List (List Int)) (b : Int) : Option (((List (List Int)))) :=
  nloop (fun (s : Int × (List (List Int))) => ((N3d a b s.1 s.2).map (Sum.elim (fun (t : Int × (List (List Int))) => Sum.inl (t.1,t.2)) (fun (t : (List (List Int))) => Sum.inr t)) : Option ((Int × (List (List Int))) ⊕ (((List (List Int))))))) LL (0,([] : List (List Int)))
def Nh0 (a : List (List Int)) (b : Int) : Option (((List (List Int)))) :=
  (Nix a b).map (fun (t : (List (List Int))) => t)
def Nju (a : List (List Int)) : Option (((List (List Int)))) :=
  (N9n a).bind (fun (t : Int) => Nh0 a t)
def N6g (a : List Int) (b : List (List Int)) : Option (((List Int) × (List (List Int)))) :=
  some (a,b)
def Nkl (a : List (List Int)) (b : List Int) : Option (((List Int) × (List (List Int)))) :=
  (Nju a).bind (fun (t : (List (List Int))) => N6g b t)
def Nal (a : List Int) (b : List (List Int)) : Option (((List Int) × (List (List Int)))) :=
  (N9r a).bind (fun (t : (List Int)) => Nkl b t)
@[irreducible] def N9 (a : List Int) (b : List (List Int)) : Option ((List Int) × (List (List Int))) :=
  Nal a b
def N59 (a : List Int) (b : List (List Int)) : Option ((Bool × (List Int) × (List (List Int)))) :=
  cond (decide ((IntKind.wrap .i64 ((((List.length b : Nat) : Int)) - 1)) < 0)) ((N9 a ([] : List (List Int))).bind fun (c : (List Int) × (List (List Int))) => some (false,(c.1),(c.2))) ((idx b (IntKind.wrap .i64 ((((List.length b : Nat) : Int)) - 1))).bind fun (d : List Int) => (inc (IntKind.wrap .i64 ((((List.length b : Nat) : Int)) - 1)) (List.length b)).bind fun (g : Nat) => (N9 d ((b.take g).drop 0)).bind fun (i : (List Int) × (List (List Int))) => some (true,(i.1),(i.2)))
@[irreducible] def N2v (a : List Int) (b : List (List Int)) : Option (Bool × (List Int) × (List (List Int))) :=
  N59 a b
def N51 (a : List Int) (b : Int) : Option (Bool) :=
  (Nb a).bind fun (c : Bool) => cond c (cond (decide (b ≥ 1)) (some (decide (b ≤ (((List.length a : Nat) : Int))))) (some false)) (some false)
@[irreducible] def N24 (a : List Int) (b : Int) : Option (Bool) :=
  N51 a b
def N9m (a : Int) : Option (((List Int))) :=
  (mk a a).bind fun (b : Nat) => some (List.replicate b (0 : Int))
def N79 (a : List Int) : Option (Int) :=
  some (((List.length a : Nat) : Int))
def N3q (a b c : Int) (d : List Int) : Option ((Int × (List Int)) ⊕ ((List Int))) :=
  cond (decide (c < b)) ((inb c (List.length d)).bind fun (g : Nat) => some (Sum.inl ((IntKind.wrap .i64 (c + 1)),(d.set g (IntKind.wrap .i64 (a - c)))))) (some (Sum.inr d))
def Nie (a b : Int) (c : List Int) : Option (((List Int))) :=
  nloop (fun (s : Int × (List Int)) => ((N3q a b s.1 s.2).map (Sum.elim (fun (t : Int × (List Int)) => Sum.inl (t.1,t.2)) (fun (t : (List Int)) => Sum.inr t)) : Option ((Int × (List Int)) ⊕ (((List Int)))))) LL (0,c)
def Nk8 (a b : Int) (c : List Int) : Option (((List Int))) :=
  (Nie a b c).map (fun (t : (List Int)) => t)
def Nj1 (a : Int) (b : List Int) : Option (((List Int))) :=
  (N79 b).bind (fun (t : Int) => Nk8 a t b)
def N8l (a : List Int) : Option (((List Int))) :=
  some a
def Nh9 (a : Int) (b : List Int) : Option (((List Int))) :=
  (Nj1 a b).bind (fun (t : (List Int)) => N8l t)
def Ncd (a : Int) : Option (((List Int))) :=
  (N9m a).bind (fun (t : (List Int)) => Nh9 a t)
@[irreducible] def N1w (a : Int) : Option ((List Int)) :=
  Ncd a
def N9t (a : List Int) (b : Int) : Option (Unit ⊕ Bool) :=
  cond (decide (b < 1)) (some (Sum.inr false)) (cond (decide (b > 8)) (some (Sum.inr false)) (cond ((((List.length a : Nat) : Int)) != b) (some (Sum.inr false)) (some (Sum.inl ()))))
def N86 (a : List Int) : Option (Int) :=
  some (((List.length a : Nat) : Int))
def N4z (a : Int) (b : List Int) (c d : Int) (g : List Bool) : Option ((Int × (List Bool)) ⊕ Bool ⊕ Unit) :=
  cond (decide (d < c)) ((idx b d).bind fun (i : Int) => cond (decide (i < 1)) (some (Sum.inr (Sum.inl false))) (cond (decide (i > a)) (some (Sum.inr (Sum.inl false))) ((same (List.length g) 9).bind fun (j : Unit) => (inb i 9).bind fun (k : Nat) => (g[k]?).bind fun (l : Bool) => cond l (some (Sum.inr (Sum.inl false))) ((same (List.length g) 9).bind fun (m : Unit) => (inb i 9).bind fun (o : Nat) => some (Sum.inl ((IntKind.wrap .i64 (d + 1)),(g.set o true))))))) (some (Sum.inr (Sum.inr ())))
def Niy (a : Int) (b : List Int) (c : Int) : Option (Bool ⊕ Unit) :=
  nloop (fun (s : Int × (List Bool)) => ((N4z a b c s.1 s.2).map (Sum.elim (fun (t : Int × (List Bool)) => Sum.inl (t.1,t.2)) (Sum.elim (fun (t : Bool) => Sum.inr (Sum.inl t)) (fun (t : Unit) => Sum.inr (Sum.inr t)))) : Option ((Int × (List Bool)) ⊕ (Bool ⊕ Unit)))) LL (0,(List.replicate 9 false))
def Ngw (a : Int) (b : List Int) (c : Int) : Option (Unit ⊕ Bool) :=
  (Niy a b c).map (Sum.elim (fun (t : Bool) => (Sum.inr t)) (fun (t : Unit) => (Sum.inl ())))
def Nfb (a : List Int) (b : Int) : Option (Unit ⊕ Bool) :=
  (N86 a).bind (fun (t : Int) => Ngw b a t)
def N6f : Option (Bool) :=
  some true
def Nh2 (a : List Int) (b : Int) : Option (Bool) :=
  (Nfb a b).bind (Sum.elim (fun (t : Unit) => N6f) (fun e => some ((fun (t : Bool) => t) e)))
def Ng2 (a : List Int) (b : Int) : Option (Bool) :=
  (N9t a b).bind (Sum.elim (fun (t : Unit) => Nh2 a b) (fun e => some ((fun (t : Bool) => t) e)))
@[irreducible] def N49 (a : List Int) (b : Int) : Option (Bool) :=
  Ng2 a b
def N6x (a : List Int) : Option (((List Int))) :=
  (mk (IntKind.wrap .i64 ((((List.length a : Nat) : Int)) + 1)) (IntKind.wrap .i64 ((((List.length a : Nat) : Int)) + 1))).bind fun (b : Nat) => some (List.replicate b (0 : Int))
def N8y (a : List Int) : Option (Int) :=
  some (((List.length a : Nat) : Int))
def N4q (a : List Int) (b c : Int) (d : List Int) : Option ((Int × (List Int)) ⊕ ((List Int))) :=
  cond (decide (c < b)) ((idx a c).bind fun (g : Int) => (inb g (List.length d)).bind fun (i : Nat) => some (Sum.inl ((IntKind.wrap .i64 (c + 1)),(d.set i (IntKind.wrap .i64 (c + 1)))))) (some (Sum.inr d))
def Niw (a : List Int) (b : Int) (c : List Int) : Option (((List Int))) :=
  nloop (fun (s : Int × (List Int)) => ((N4q a b s.1 s.2).map (Sum.elim (fun (t : Int × (List Int)) => Sum.inl (t.1,t.2)) (fun (t : (List Int)) => Sum.inr t)) : Option ((Int × (List Int)) ⊕ (((List Int)))))) LL (0,c)
def Nfq (a : List Int) (b : Int) (c : List Int) : Option (((List Int))) :=
  (Niw a b c).map (fun (t : (List Int)) => t)
def Nhb (a b : List Int) : Option (((List Int))) :=
  (N8y a).bind (fun (t : Int) => Nfq a t b)
def N7f (a : List Int) : Option (((List Int))) :=
  some a
def Nk1 (a b : List Int) : Option (((List Int))) :=
  (Nhb a b).bind (fun (t : (List Int)) => N7f t)
def Ngn (a : List Int) : Option (((List Int))) :=
  (N6x a).bind (fun (t : (List Int)) => Nk1 a t)
@[irreducible] def N35 (a : List Int) : Option ((List Int)) :=
  Ngn a
def N7v (a : Int) (b : List Int) : Option (Int) :=
  (inb a (List.length b)).bind fun (c : Nat) => (b[c]?).bind fun (d : Int) => some d
@[irreducible] def N3b (a : Int) (b : List Int) : Option (Int) :=
  N7v a b
def N63 (a : List Int) : Option (((List Int))) :=
  (mk (((List.length a : Nat) : Int)) (((List.length a : Nat) : Int))).bind fun (b : Nat) => some (List.replicate b (0 : Int))
def N8s (a : List Int) : Option (Int) :=
  some (((List.length a : Nat) : Int))
def N5q (a b : List Int) (c d : Int) (g i : List Int) : Option ((Int × (List Int)) ⊕ ((List Int))) :=
  cond (decide (d < c)) ((idx b d).bind fun (j : Int) => (idx a (IntKind.wrap .i64 (j - 1))).bind fun (k : Int) => (N3b k g).bind fun (l : Int) => (inb d (List.length i)).bind fun (m : Nat) => some (Sum.inl ((IntKind.wrap .i64 (d + 1)),(i.set m l)))) (some (Sum.inr i))
def Nfl (a b : List Int) (c : Int) (d g : List Int) : Option (((List Int))) :=
  nloop (fun (s : Int × (List Int)) => ((N5q a b c s.1 d s.2).map (Sum.elim (fun (t : Int × (List Int)) => Sum.inl (t.1,t.2)) (fun (t : (List Int)) => Sum.inr t)) : Option ((Int × (List Int)) ⊕ (((List Int)))))) LL (0,g)
def Nha (a b : List Int) (c : Int) (d g : List Int) : Option (((List Int))) :=
  (Nfl a b c d g).map (fun (t : (List Int)) => t)
def Nj8 (a b c d : List Int) : Option (((List Int))) :=
  (N8s b).bind (fun (t : Int) => Nha a b t c d)
def N82 (a : List Int) : Option (((List Int))) :=
  some a
def Njx (a b c d : List Int) : Option (((List Int))) :=
  (Nj8 a b c d).bind (fun (t : (List Int)) => N82 t)
def Njb (a b c : List Int) : Option (((List Int))) :=
  (N63 b).bind (fun (t : (List Int)) => Njx a b c t)
@[irreducible] def N5e (a b c : List Int) : Option ((List Int)) :=
  Njb a b c
def N6q (a b : List Int) : Option ((Bool × (List Int))) :=
  (Nb a).bind fun (c : Bool) => cond (!c) (some (false,([] : List Int))) ((N49 b (((List.length a : Nat) : Int))).bind fun (d : Bool) => cond (!d) (some (false,([] : List Int))) ((N35 b).bind fun (g : List Int) => (N5e a b g).bind fun (i : List Int) => some (true,i)))
@[irreducible] def N26 (a b : List Int) : Option (Bool × (List Int)) :=
  N6q a b
def N50 (a : List Int) : Option (((List Int))) :=
  (Nb a).bind fun (b : Bool) => cond (!b) (some ([] : List Int)) ((N1w (((List.length a : Nat) : Int))).bind fun (c : List Int) => (N26 a c).bind fun (d : Bool × (List Int)) => some (d.2))
@[irreducible] def N2q (a : List Int) : Option ((List Int)) :=
  N50 a
def N83 (a : List Int) : Option (Unit ⊕ Int) :=
  (Nb a).bind fun (b : Bool) => cond (!b) (some (Sum.inr (-1))) (some (Sum.inl ()))
def N5k (a : List Int) (b c : Int) : Option ((Int × Int) ⊕ (Int × Int)) :=
  (N25 a b c).bind fun (d : Bool × Int × Int) => cond (d.1) (some (Sum.inl ((d.2.1),(d.2.2)))) (some (Sum.inr ((d.2.1),(d.2.2))))
def Ng6 (a : List Int) : Option ((Int × Int)) :=
  nloop (fun (s : Int × Int) => ((N5k a s.1 s.2).map (Sum.elim (fun (t : Int × Int) => Sum.inl (t.1,t.2)) (fun (t : Int × Int) => Sum.inr t)) : Option ((Int × Int) ⊕ ((Int × Int))))) LL (1,0)
def Njg (a : List Int) : Option ((Int × Int)) :=
  (Ng6 a).map (fun (t : Int × Int) => (t.1,t.2))
def N6l (a : Int) : Option (Int) :=
  some a
def Nik (a : List Int) : Option (Int) :=
  (Njg a).bind (fun (t : Int × Int) => N6l t.1)
def Nfa (a : List Int) : Option (Int) :=
  (N83 a).bind (Sum.elim (fun (t : Unit) => Nik a) (fun e => some ((fun (t : Int) => t) e)))
@[irreducible] def N2y (a : List Int) : Option (Int) :=
  Nfa a
def Neo (a : Int) : Option (Int) :=
  (shl .u64 1 (IntKind.wrap .i64 (a - 1))).bind fun (b : Int) => some b
@[irreducible] def N29 (a : Int) : Option (Int) :=
  Neo a
def N8q : Option (Unit) :=
  some ()
def N6o (a : List Int) : Option (Int) :=
  some (((List.length a : Nat) : Int))
def N3h (a : List Int) (b c d g : Int) : Option ((Int × Int) ⊕ Int) :=
  cond (decide (g < d)) ((idx a g).bind fun (i : Int) => cond (i == b) ((N29 (IntKind.wrap .i64 (g + 1))).bind fun (j : Int) => some (Sum.inl ((ior .u64 c j),(IntKind.wrap .i64 (g + 1))))) (some (Sum.inl (c,(IntKind.wrap .i64 (g + 1)))))) (some (Sum.inr c))
def Nib (a : List Int) (b c : Int) : Option (Int) :=
  nloop (fun (s : Int × Int) => ((N3h a b s.1 c s.2).map (Sum.elim (fun (t : Int × Int) => Sum.inl (t.1,t.2)) (fun (t : Int) => Sum.inr t)) : Option ((Int × Int) ⊕ (Int)))) LL (0,0)
def Ng3 (a : List Int) (b c : Int) : Option (Int) :=
  (Nib a b c).map (fun (t : Int) => t)
def Nhs (a : List Int) (b : Int) : Option (Int) :=
  (N6o a).bind (fun (t : Int) => Ng3 a b t)
def Ndm (a : Int) : Option (Int) :=
  some a
def Nfh (a : List Int) (b : Int) : Option (Int) :=
  (Nhs a b).bind (fun (t : Int) => Ndm t)
def Nae (a : List Int) (b : Int) : Option (Int) :=
  (N8q).bind (fun (t : Unit) => Nfh a b)
@[irreducible] def N2h (a : List Int) (b : Int) : Option (Int) :=
  Nae a b
def Nag (a : Int) : Option (Int) :=
  (N29 a).bind fun (b : Int) => some (IntKind.wrap .u64 (b - 1))
@[irreducible] def N2j (a : Int) : Option (Int) :=
  Nag a
def N5u (a : List Int) (b : Int) : Option ((Int × Int)) :=
  (N2h a b).bind fun (c : Int) => (N2j b).bind fun (d : Int) => (N2j b).bind fun (g : Int) => some ((iand .u64 c d),(iandn .u64 c g))
@[irreducible] def N1v (a : List Int) (b : Int) : Option (Int × Int) :=
  N5u a b
def Nes (a : Int) : Option (Int) :=
  (shr .u64 a 1).bind fun (b : Int) => some (IntKind.wrap .u64 ((iand .u64 b 6148914691236517205) + (iand .u64 a 6148914691236517205)))
def Nf3 (a : Int) : Option (Int) :=
  (shr .u64 a 2).bind fun (b : Int) => some (IntKind.wrap .u64 ((iand .u64 b 3689348814741910323) + (iand .u64 a 3689348814741910323)))
def Ndo (a : Int) : Option (Int) :=
  (shr .u64 a 4).bind fun (b : Int) => some (iand .u64 (IntKind.wrap .u64 (b + a)) 1085102592571150095)
def Neh (a : Int) : Option (Int) :=
  (shr .u64 a 8).bind fun (b : Int) => some (IntKind.wrap .u64 (a + b))
def Ncg (a : Int) : Option (Int) :=
  (shr .u64 a 16).bind fun (b : Int) => some (IntKind.wrap .u64 (a + b))
def Ncw (a : Int) : Option (Int) :=
  (shr .u64 a 32).bind fun (b : Int) => some (IntKind.wrap .u64 (a + b))
def Ne7 (a : Int) : Option (Int) :=
  some (iand .i64 (IntKind.wrap .i64 a) 127)
def Nbu (a : Int) : Option (Int) :=
  some a
def Ns8 (a : Int) : Option (Int) :=
  (Ne7 a).bind (fun (t : Int) => Nbu t)
def Nvn (a : Int) : Option (Int) :=
  (Ncw a).bind (fun (t : Int) => Ns8 t)
def Nwd (a : Int) : Option (Int) :=
  (Ncg a).bind (fun (t : Int) => Nvn t)
def Nt9 (a : Int) : Option (Int) :=
  (Neh a).bind (fun (t : Int) => Nwd t)
def Nzz (a : Int) : Option (Int) :=
  (Ndo a).bind (fun (t : Int) => Nt9 t)
def Npa (a : Int) : Option (Int) :=
  (Nf3 a).bind (fun (t : Int) => Nzz t)
def Nq4 (a : Int) : Option (Int) :=
  (Nes a).bind (fun (t : Int) => Npa t)
@[irreducible] def N8k (a : Int) : Option (Int) :=
  Nq4 a
def Ney (a : Int) : Option (Int) :=
  (N8k a).bind fun (b : Int) => some b
@[irreducible] def N8c (a : Int) : Option (Int) :=
  Ney a
def Nan (a : Int) : Option (Int) :=
  (N8c a).bind fun (b : Int) => some b
@[irreducible] def N93 (a : Int) : Option (Int) :=
  Nan a
def Nbw (a : Int) : Option (Int) :=
  cond (a == 0) (some 64) ((shr .u64 (IntKind.wrap .u64 ((iand .u64 a (IntKind.wrap .u64 (0 - a))) * 285870213051353865)) 58).bind fun (b : Int) => (same (List.length tab1) 64).bind fun (c : Unit) => (idx tab1 b).bind fun (d : Int) => some (IntKind.wrap .i64 d))
@[irreducible] def N7k (a : Int) : Option (Int) :=
  Nbw a
def Nbg (a : Int) : Option (Int) :=
  (N7k a).bind fun (b : Int) => some b
@[irreducible] def N91 (a : Int) : Option (Int) :=
  Nbg a
def Nb6 (a : Int) : Option (((List Int))) :=
  (N93 a).bind fun (b : Int) => (mk 0 b).bind fun (c : Nat) => some (List.replicate c (0 : Int))
def Ncj : Option (Unit) :=
  some ()
def Ned (a : Int) (b : List Int) : Option ((Int × (List Int)) ⊕ ((List Int))) :=
  cond (a != 0) ((N91 a).bind fun (c : Int) => (room ((List.length b) + List.length ([(IntKind.wrap .i64 (c + 1))]))).bind fun (d : Unit) => some (Sum.inl ((iand .u64 a (IntKind.wrap .u64 (a - 1))),(b ++ ([(IntKind.wrap .i64 (c + 1))]))))) (some (Sum.inr b))
def Nxe (a : Int) (b : List Int) : Option (((List Int))) :=
  nloop (fun (s : Int × (List Int)) => ((Ned s.1 s.2).map (Sum.elim (fun (t : Int × (List Int)) => Sum.inl (t.1,t.2)) (fun (t : (List Int)) => Sum.inr t)) : Option ((Int × (List Int)) ⊕ (((List Int)))))) LL (a,b)
def Nmu (a : Int) (b : List Int) : Option (((List Int))) :=
  (Nxe a b).map (fun (t : (List Int)) => t)
def Nvl (a : Int) (b : List Int) : Option (((List Int))) :=
  (Ncj).bind (fun (t : Unit) => Nmu a b)
def Nao (a : List Int) : Option (((List Int))) :=
  some a
def Nr2 (a : Int) (b : List Int) : Option (((List Int))) :=
  (Nvl a b).bind (fun (t : (List Int)) => Nao t)
def Nu3 (a : Int) : Option (((List Int))) :=
  (Nb6 a).bind (fun (t : (List Int)) => Nr2 a t)
@[irreducible] def N4t (a : Int) : Option ((List Int)) :=
  Nu3 a
def N5j (R0 R1 : (List Int) → Int → (List Int) → Option ((List Int))) (a : List Int) (b : Int) (c : List Int) : Option (((List Int))) :=
  (N1v a b).bind fun (d : Int × Int) => (R1 a (d.1) c).bind fun (g : List Int) => (room ((List.length g) + List.length ([b]))).bind fun (i : Unit) => (R1 a (d.2) (g ++ ([b]))).bind fun (j : List Int) => some j
def Nw3 (R0 R1 : (List Int) → Int → (List Int) → Option ((List Int))) (a : List Int) (b : Int) (c : List Int) : Option ((List Int)) :=
  N5j R0 R1 a b c
def N7u (R0 R1 : (List Int) → Int → (List Int) → Option ((List Int))) : Option (Unit) :=
  some ()
def N6n (R0 R1 : (List Int) → Int → (List Int) → Option ((List Int))) (a : Int) : Option ((Int × (List Int))) :=
  (N4t a).bind fun (b : List Int) => some ((((List.length b : Nat) : Int)),b)
def N3a (R0 R1 : (List Int) → Int → (List Int) → Option ((List Int))) (a : List Int) (b c : Int) (d g : List Int) : Option ((Int × (List Int)) ⊕ ((List Int))) :=
  cond (decide (c < b)) ((inb c (List.length g)).bind fun (i : Nat) => (g[i]?).bind fun (j : Int) => (R0 a j d).bind fun (k : List Int) => some (Sum.inl ((IntKind.wrap .i64 (c + 1)),k))) (some (Sum.inr d))
def Ng4 (R0 R1 : (List Int) → Int → (List Int) → Option ((List Int))) (a : List Int) (b : Int) (c d : List Int) : Option (((List Int))) :=
  nloop (fun (s : Int × (List Int)) => ((N3a R0 R1 a b s.1 s.2 d).map (Sum.elim (fun (t : Int × (List Int)) => Sum.inl (t.1,t.2)) (fun (t : (List Int)) => Sum.inr t)) : Option ((Int × (List Int)) ⊕ (((List Int)))))) LL (0,c)
def Niu (R0 R1 : (List Int) → Int → (List Int) → Option ((List Int))) (a : List Int) (b : Int) (c d : List Int) : Option (((List Int))) :=
  (Ng4 R0 R1 a b c d).map (fun (t : (List Int)) => t)
def Nh1 (R0 R1 : (List Int) → Int → (List Int) → Option ((List Int))) (a : List Int) (b : Int) (c : List Int) : Option (((List Int))) :=
  (N6n R0 R1 b).bind (fun (t : Int × (List Int)) => Niu R0 R1 a t.1 c t.2)
def N7z (R0 R1 : (List Int) → Int → (List Int) → Option ((List Int))) (a : List Int) : Option (((List Int))) :=
  some a
def Ngp (R0 R1 : (List Int) → Int → (List Int) → Option ((List Int))) (a : List Int) (b : Int) (c : List Int) : Option (((List Int))) :=
  (Nh1 R0 R1 a b c).bind (fun (t : (List Int)) => N7z R0 R1 t)
def Ngg (R0 R1 : (List Int) → Int → (List Int) → Option ((List Int))) (a : List Int) (b : Int) (c : List Int) : Option (((List Int))) :=
  (N7u R0 R1).bind (fun (t : Unit) => Ngp R0 R1 a b c)
def N7p (R0 R1 : (List Int) → Int → (List Int) → Option ((List Int))) (a : List Int) (b : Int) (c : List Int) : Option ((List Int)) :=
  Ngg R0 R1 a b c
def N2 : Nat → ((List Int) → Int → (List Int) → Option ((List Int))) × ((List Int) → Int → (List Int) → Option ((List Int)))
  | 0 => ((fun _ _ _ => none),(fun _ _ _ => none))
  | n + 1 => ((fun y0 y1 y2 => Nw3 (N2 n).1 (N2 n).2 y0 y1 y2),(fun y0 y1 y2 => N7p (N2 n).1 (N2 n).2 y0 y1 y2))
def Nd (n : Nat) : (List Int) → Int → (List Int) → Option ((List Int)) := (N2 n).1
@[irreducible] def N5p (a : List Int) (b : Int) (c : List Int) : Option ((List Int)) := Nd RR a b c
def N13 (n : Nat) : (List Int) → Int → (List Int) → Option ((List Int)) := (N2 n).2
@[irreducible] def Nil (a : List Int) (b : Int) (c : List Int) : Option ((List Int)) := N13 RR a b c
def N56 (a : List Int) : Option (((List Int))) :=
  (Nb a).bind fun (b : Bool) => cond (!b) (some ([] : List Int)) ((N2y a).bind fun (c : Int) => (mk 0 (((List.length a : Nat) : Int))).bind fun (d : Nat) => (N5p a c (List.replicate d (0 : Int))).bind fun (g : List Int) => some g)
@[irreducible] def N1y (a : List Int) : Option ((List Int)) :=
  N56 a
def N52 (a : List Int) : Option (((List Int))) :=
  (N1y a).bind fun (b : List Int) => (N26 a b).bind fun (c : Bool × (List Int)) => some (c.2)
@[irreducible] def N2m (a : List Int) : Option ((List Int)) :=
  N52 a
def N5n (a : List Int) (b c d : Int) : Option (((List Int))) :=
  cond (b == 0) ((N24 a c).bind fun (g : Bool) => cond (!g) (some ([] : List Int)) ((N2t a).bind fun (i : List Int) => (inb (IntKind.wrap .i64 (c - 1)) (List.length i)).bind fun (j : Nat) => some (i.set j d))) (cond (b == 1) ((N2t a).bind fun (k : List Int) => (room ((List.length k) + List.length ([c]))).bind fun (l : Unit) => some (k ++ ([c]))) (cond (b == 2) ((inc (IntKind.wrap .i64 ((((List.length a : Nat) : Int)) - 1)) (List.length a)).bind fun (m : Nat) => (N2t ((a.take m).drop 0)).bind fun (o : List Int) => some o) (cond (b == 3) ((N2q a).bind fun (p : List Int) => some p) (cond (b == 4) ((N2m a).bind fun (q : List Int) => some q) (some ([] : List Int))))))
@[irreducible] def N2e (a : List Int) (b c d : Int) : Option ((List Int)) :=
  N5n a b c d
def N8d (a b : List Int) : Option (Unit ⊕ Bool) :=
  cond ((((List.length a : Nat) : Int)) != (((List.length b : Nat) : Int))) (some (Sum.inr false)) (some (Sum.inl ()))
def N7x (a : List Int) : Option (Int) :=
  some (((List.length a : Nat) : Int))
def N2u (a b : List Int) (c d : Int) : Option (Int ⊕ Bool ⊕ Unit) :=
  cond (decide (d < c)) ((idx a d).bind fun (g : Int) => (idx b d).bind fun (i : Int) => cond (g != i) (some (Sum.inr (Sum.inl false))) (some (Sum.inl (IntKind.wrap .i64 (d + 1))))) (some (Sum.inr (Sum.inr ())))
def Nh8 (a b : List Int) (c : Int) : Option (Bool ⊕ Unit) :=
  nloop (fun (s : Int) => ((N2u a b c s).map (Sum.elim (fun (t : Int) => Sum.inl t) (Sum.elim (fun (t : Bool) => Sum.inr (Sum.inl t)) (fun (t : Unit) => Sum.inr (Sum.inr t)))) : Option ((Int) ⊕ (Bool ⊕ Unit)))) LL 0
def Nhn (a b : List Int) (c : Int) : Option (Unit ⊕ Bool) :=
  (Nh8 a b c).map (Sum.elim (fun (t : Bool) => (Sum.inr t)) (fun (t : Unit) => (Sum.inl ())))
def Nhh (a b : List Int) : Option (Unit ⊕ Bool) :=
  (N7x a).bind (fun (t : Int) => Nhn a b t)
def Nbv : Option (Bool) :=
  some true
def Ngs (a b : List Int) : Option (Bool) :=
  (Nhh a b).bind (Sum.elim (fun (t : Unit) => Nbv) (fun e => some ((fun (t : Bool) => t) e)))
def Na9 (a b : List Int) : Option (Bool) :=
  (N8d a b).bind (Sum.elim (fun (t : Unit) => Ngs a b) (fun e => some ((fun (t : Bool) => t) e)))
@[irreducible] def N27 (a b : List Int) : Option (Bool) :=
  Na9 a b
def Ndr (x1 : List (List Int)) : Option (List (List Int)) := cloneD x1
def N54 (a : List Int) (b : List (List Int)) (c d g : Int) : Option ((Bool × (List Int) × (List (List Int)))) :=
  (N2e a c d g).bind fun (i : List Int) => (Nb i).bind fun (j : Bool) => cond (!j) ((N9 a b).bind fun (k : (List Int) × (List (List Int))) => some (false,(k.1),(k.2))) ((N27 i a).bind fun (l : Bool) => cond l ((N9 a b).bind fun (m : (List Int) × (List (List Int))) => some (false,(m.1),(m.2))) ((Ndr b).bind fun (o : List (List Int)) => (room ((List.length o) + List.length ([a]))).bind fun (p : Unit) => (inc (imax 0 (IntKind.wrap .i64 ((((List.length (o ++ ([a])) : Nat) : Int)) - 8))) (List.length (o ++ ([a])))).bind fun (q : Nat) => (N9 i (((o ++ ([a])).drop q).take ((List.length (o ++ ([a]))) - q))).bind fun (w : (List Int) × (List (List Int))) => some (true,(w.1),(w.2))))
@[irreducible] def N2i (a : List Int) (b : List (List Int)) (c d g : Int) : Option (Bool × (List Int) × (List (List Int))) :=
  N54 a b c d g
def N5t (a : List Int) (b : List (List Int)) (c d g : Int) : Option ((Bool × (List Int) × (List (List Int)))) :=
  (N1t a b).bind fun (i : Bool) => cond (!i) (some (false,([] : List Int),([] : List (List Int)))) ((N4c c d g).bind fun (j : Bool) => cond (!j) ((N9 a b).bind fun (k : (List Int) × (List (List Int))) => some (false,(k.1),(k.2))) (cond (c == 5) ((N2v a b).bind fun (l : Bool × (List Int) × (List (List Int))) => some ((l.1),(l.2.1),(l.2.2))) ((N2i a b c d g).bind fun (m : Bool × (List Int) × (List (List Int))) => some ((m.1),(m.2.1),(m.2.2)))))
@[irreducible] def N2c (a : List Int) (b : List (List Int)) (c d g : Int) : Option (Bool × (List Int) × (List (List Int))) :=
  N5t a b c d g
def N9v (a b : List Int) : Option (Unit ⊕ Bool) :=
  cond ((((List.length a : Nat) : Int)) != (((List.length b : Nat) : Int))) (some (Sum.inr false)) (some (Sum.inl ()))
def N6y : Option (Unit) :=
  some ()
def N3n (a b : List Int) (c : Int) : Option (Int ⊕ Bool ⊕ Unit) :=
  cond (decide (c < (((List.length a : Nat) : Int)))) ((idx a c).bind fun (d : Int) => (idx b c).bind fun (g : Int) => cond (d != g) (some (Sum.inr (Sum.inl false))) (some (Sum.inl (IntKind.wrap .i64 (c + 1))))) (some (Sum.inr (Sum.inr ())))
def Nfn (a b : List Int) : Option (Bool ⊕ Unit) :=
  nloop (fun (s : Int) => ((N3n a b s).map (Sum.elim (fun (t : Int) => Sum.inl t) (Sum.elim (fun (t : Bool) => Sum.inr (Sum.inl t)) (fun (t : Unit) => Sum.inr (Sum.inr t)))) : Option ((Int) ⊕ (Bool ⊕ Unit)))) LL 0
def Ni8 (a b : List Int) : Option (Unit ⊕ Bool) :=
  (Nfn a b).map (Sum.elim (fun (t : Bool) => (Sum.inr t)) (fun (t : Unit) => (Sum.inl ())))
def Ngu (a b : List Int) : Option (Unit ⊕ Bool) :=
  (N6y).bind (fun (t : Unit) => Ni8 a b)
def N7n : Option (Bool) :=
  some true
def Njt (a b : List Int) : Option (Bool) :=
  (Ngu a b).bind (Sum.elim (fun (t : Unit) => N7n) (fun e => some ((fun (t : Bool) => t) e)))
def Ng5 (a b : List Int) : Option (Bool) :=
  (N9v a b).bind (Sum.elim (fun (t : Unit) => Njt a b) (fun e => some ((fun (t : Bool) => t) e)))
@[irreducible] def N2b (a b : List Int) : Option (Bool) :=
  Ng5 a b
def N8e (a b : List (List Int)) : Option (Unit ⊕ Bool) :=
  cond ((((List.length a : Nat) : Int)) != (((List.length b : Nat) : Int))) (some (Sum.inr false)) (some (Sum.inl ()))
def N80 : Option (Unit) :=
  some ()
def N41 (a b : List (List Int)) (c : Int) : Option (Int ⊕ Bool ⊕ Unit) :=
  cond (decide (c < (((List.length a : Nat) : Int)))) ((idx a c).bind fun (d : List Int) => (idx b c).bind fun (g : List Int) => (N2b d g).bind fun (i : Bool) => cond (!i) (some (Sum.inr (Sum.inl false))) (some (Sum.inl (IntKind.wrap .i64 (c + 1))))) (some (Sum.inr (Sum.inr ())))
def Nfr (a b : List (List Int)) : Option (Bool ⊕ Unit) :=
  nloop (fun (s : Int) => ((N41 a b s).map (Sum.elim (fun (t : Int) => Sum.inl t) (Sum.elim (fun (t : Bool) => Sum.inr (Sum.inl t)) (fun (t : Unit) => Sum.inr (Sum.inr t)))) : Option ((Int) ⊕ (Bool ⊕ Unit)))) LL 0
def Nh3 (a b : List (List Int)) : Option (Unit ⊕ Bool) :=
  (Nfr a b).map (Sum.elim (fun (t : Bool) => (Sum.inr t)) (fun (t : Unit) => (Sum.inl ())))
def Ngk (a b : List (List Int)) : Option (Unit ⊕ Bool) :=
  (N80).bind (fun (t : Unit) => Nh3 a b)
def N71 : Option (Bool) :=
  some true
def Nf9 (a b : List (List Int)) : Option (Bool) :=
  (Ngk a b).bind (Sum.elim (fun (t : Unit) => N71) (fun e => some ((fun (t : Bool) => t) e)))
def Nce (a b : List (List Int)) : Option (Bool) :=
  (N8e a b).bind (Sum.elim (fun (t : Unit) => Nf9 a b) (fun e => some ((fun (t : Bool) => t) e)))
@[irreducible] def N2p (a b : List (List Int)) : Option (Bool) :=
  Nce a b
def N7i (a : List Int) (b : List (List Int)) (c : List Int) (d : List (List Int)) : Option (Bool) :=
  (N2b a c).bind fun (g : Bool) => cond (!g) (some false) ((N2p b d).bind fun (i : Bool) => cond (!i) (some false) (some true))
@[irreducible] def Nx (a : List Int) (b : List (List Int)) (c : List Int) (d : List (List Int)) : Option (Bool) :=
  N7i a b c d
def Na2 : Option (Unit) :=
  some ()
def Na0 : Option (Unit) :=
  some ()
def N5d (a b : Int) (c : List Int) : Option ((Int × Int × (List Int)) ⊕ (Int × (List Int))) :=
  cond (decide (b < (((List.length c : Nat) : Int)))) ((inb b (List.length c)).bind fun (d : Nat) => some (Sum.inl ((IntKind.wrap .i64 (a + 1)),(IntKind.wrap .i64 (b + 1)),(c.set d a)))) (some (Sum.inr (a,c)))
def Ni5 (a : Int) (b : List Int) : Option ((Int × (List Int))) :=
  nloop (fun (s : Int × Int × (List Int)) => ((N5d s.1 s.2.1 s.2.2).map (Sum.elim (fun (t : Int × Int × (List Int)) => Sum.inl (t.1,t.2.1,t.2.2)) (fun (t : Int × (List Int)) => Sum.inr t)) : Option ((Int × Int × (List Int)) ⊕ ((Int × (List Int)))))) LL (a,0,b)
def Njz (a : Int) (b : List Int) : Option ((Int × (List Int))) :=
  (Ni5 a b).map (fun (t : Int × (List Int)) => (t.1,t.2))
def Nkk (a : Int) (b : List Int) : Option ((Int × (List Int))) :=
  (Na0).bind (fun (t : Unit) => Njz a b)
def N89 (a : Int) (b : List Int) : Option ((Int × (List Int))) :=
  some (a,b)
def Nj5 (a : Int) (b : List Int) : Option ((Int × (List Int))) :=
  (Nkk a b).bind (fun (t : Int × (List Int)) => N89 t.1 t.2)
def Njl (a : Int) (b : List Int) : Option ((Int × (List Int))) :=
  (Na2).bind (fun (t : Unit) => Nj5 a b)
@[irreducible] def N1m (a : Int) (b : List Int) : Option (Int × (List Int)) :=
  Njl a b
def N6h : Option (Unit) :=
  some ()
def N5w : Option (Unit) :=
  some ()
def N39 (a b : Int) (c : List (List Int)) : Option ((Int × Int × (List (List Int))) ⊕ (Int × (List (List Int)))) :=
  cond (decide (b < (((List.length c : Nat) : Int)))) ((inb b (List.length c)).bind fun (d : Nat) => ((c)[d]?).bind fun (g : List Int) => (N1m a g).bind fun (i : Int × (List Int)) => some (Sum.inl ((i.1),(IntKind.wrap .i64 (b + 1)),((((c).set d [])).set d (i.2))))) (some (Sum.inr (a,c)))
def Nga (a : Int) (b : List (List Int)) : Option ((Int × (List (List Int)))) :=
  nloop (fun (s : Int × Int × (List (List Int))) => ((N39 s.1 s.2.1 s.2.2).map (Sum.elim (fun (t : Int × Int × (List (List Int))) => Sum.inl (t.1,t.2.1,t.2.2)) (fun (t : Int × (List (List Int))) => Sum.inr t)) : Option ((Int × Int × (List (List Int))) ⊕ ((Int × (List (List Int))))))) LL (a,0,b)
def Nkj (a : Int) (b : List (List Int)) : Option ((Int × (List (List Int)))) :=
  (Nga a b).map (fun (t : Int × (List (List Int))) => (t.1,t.2))
def Nhy (a : Int) (b : List (List Int)) : Option ((Int × (List (List Int)))) :=
  (N5w).bind (fun (t : Unit) => Nkj a b)
def Na1 (a : Int) (b : List (List Int)) : Option ((Int × (List (List Int)))) :=
  some (a,b)
def Nji (a : Int) (b : List (List Int)) : Option ((Int × (List (List Int)))) :=
  (Nhy a b).bind (fun (t : Int × (List (List Int))) => Na1 t.1 t.2)
def Ndv (a : Int) (b : List (List Int)) : Option ((Int × (List (List Int)))) :=
  (N6h).bind (fun (t : Unit) => Nji a b)
@[irreducible] def N28 (a : Int) (b : List (List Int)) : Option (Int × (List (List Int))) :=
  Ndv a b
def N8r (a : Int) (b : List Int) (c : List (List Int)) : Option ((Int × (List Int) × (List (List Int)))) :=
  (N1m a b).bind fun (d : Int × (List Int)) => (N28 (d.1) c).bind fun (g : Int × (List (List Int))) => some ((g.1),(d.2),(g.2))
@[irreducible] def N2s (a : Int) (b : List Int) (c : List (List Int)) : Option (Int × (List Int) × (List (List Int))) :=
  N8r a b c
def N97 : Option (Unit) :=
  some ()
def N6z : Option (Unit) :=
  some ()
def N5l (a : List Int) (b c : Int) : Option ((Int × Int) ⊕ Int ⊕ Int) :=
  cond (decide (c < (((List.length a : Nat) : Int)))) ((idx a c).bind fun (d : Int) => cond (d != b) (some (Sum.inr (Sum.inl (-1)))) (some (Sum.inl ((IntKind.wrap .i64 (b + 1)),(IntKind.wrap .i64 (c + 1)))))) (some (Sum.inr (Sum.inr b)))
def Ng8 (a : List Int) (b : Int) : Option (Int ⊕ Int) :=
  nloop (fun (s : Int × Int) => ((N5l a s.1 s.2).map (Sum.elim (fun (t : Int × Int) => Sum.inl (t.1,t.2)) (Sum.elim (fun (t : Int) => Sum.inr (Sum.inl t)) (fun (t : Int) => Sum.inr (Sum.inr t)))) : Option ((Int × Int) ⊕ (Int ⊕ Int)))) LL (b,0)
def Ngj (a : List Int) (b : Int) : Option (Int ⊕ Int) :=
  (Ng8 a b).map (Sum.elim (fun (t : Int) => (Sum.inr t)) (fun (t : Int) => (Sum.inl t)))
def Nf5 (a : List Int) (b : Int) : Option (Int ⊕ Int) :=
  (N6z).bind (fun (t : Unit) => Ngj a b)
def N9h (a : Int) : Option (Int) :=
  some a
def Njo (a : List Int) (b : Int) : Option (Int) :=
  (Nf5 a b).bind (Sum.elim (fun (t : Int) => N9h t) (fun e => some ((fun (t : Int) => t) e)))
def Nk0 (a : List Int) (b : Int) : Option (Int) :=
  (N97).bind (fun (t : Unit) => Njo a b)
@[irreducible] def N1r (a : List Int) (b : Int) : Option (Int) :=
  Nk0 a b
def N9c : Option (Unit) :=
  some ()
def N6b : Option (Unit) :=
  some ()
def N3v (a : List (List Int)) (b c : Int) : Option ((Int × Int) ⊕ Int ⊕ Int) :=
  cond (decide (c < (((List.length a : Nat) : Int)))) ((idx a c).bind fun (d : List Int) => (N1r d b).bind fun (g : Int) => cond (decide (g < 0)) (some (Sum.inr (Sum.inl (-1)))) (some (Sum.inl (g,(IntKind.wrap .i64 (c + 1)))))) (some (Sum.inr (Sum.inr b)))
def Njc (a : List (List Int)) (b : Int) : Option (Int ⊕ Int) :=
  nloop (fun (s : Int × Int) => ((N3v a s.1 s.2).map (Sum.elim (fun (t : Int × Int) => Sum.inl (t.1,t.2)) (Sum.elim (fun (t : Int) => Sum.inr (Sum.inl t)) (fun (t : Int) => Sum.inr (Sum.inr t)))) : Option ((Int × Int) ⊕ (Int ⊕ Int)))) LL (b,0)
def Nhz (a : List (List Int)) (b : Int) : Option (Int ⊕ Int) :=
  (Njc a b).map (Sum.elim (fun (t : Int) => (Sum.inr t)) (fun (t : Int) => (Sum.inl t)))
def Nf7 (a : List (List Int)) (b : Int) : Option (Int ⊕ Int) :=
  (N6b).bind (fun (t : Unit) => Nhz a b)
def N7q (a : Int) : Option (Int) :=
  some a
def Nfs (a : List (List Int)) (b : Int) : Option (Int) :=
  (Nf7 a b).bind (Sum.elim (fun (t : Int) => N7q t) (fun e => some ((fun (t : Int) => t) e)))
def Nab (a : List (List Int)) (b : Int) : Option (Int) :=
  (N9c).bind (fun (t : Unit) => Nfs a b)
@[irreducible] def N2a (a : List (List Int)) (b : Int) : Option (Int) :=
  Nab a b
def N8n (a : List Int) (b : List (List Int)) (c : Int) : Option (Int) :=
  (N1r a c).bind fun (d : Int) => cond (decide (d < 0)) (some (-1)) ((N2a b d).bind fun (g : Int) => cond (decide (g < 0)) (some (-1)) (some g))
@[irreducible] def N2g (a : List Int) (b : List (List Int)) (c : Int) : Option (Int) :=
  N8n a b c
def N9f (a : List (Int × Int × Int × Unit)) (b : Int) : Option (Int) :=
  cond (decide ((IntKind.wrap .i64 (b - (((List.length a : Nat) : Int)))) < 0)) (some (-1)) (some (IntKind.wrap .i64 (b - (((List.length a : Nat) : Int)))))
@[irreducible] def N58 (a : List (Int × Int × Int × Unit)) (b : Int) : Option (Int) :=
  N9f a b
def N5y (a : List (Int × Int × Int × Unit)) : Option (((List (Int × Int × Int × Unit)))) :=
  (mk (((List.length a : Nat) : Int)) (((List.length a : Nat) : Int))).bind fun (b : Nat) => some (List.replicate b ((0 : Int),((0 : Int),((0 : Int),()))))
def N6d : Option (Unit) :=
  some ()
def N4y (a : List (Int × Int × Int × Unit)) (b : Int) (c : List (Int × Int × Int × Unit)) : Option ((Int × (List (Int × Int × Int × Unit))) ⊕ ((List (Int × Int × Int × Unit)))) :=
  cond (decide (b < (((List.length a : Nat) : Int)))) ((idx a b).bind fun (d : Int × Int × Int × Unit) => (N31 (d.1) ((d.2).1) (((d.2).2).1)).bind fun (g : Unit) => (inb b (List.length c)).bind fun (i : Nat) => ((c)[i]?).bind fun (j : Int × Int × Int × Unit) => some (Sum.inl ((IntKind.wrap .i64 (b + 1)),((c).set i ((d.1),(((d.2).1),((((d.2).2).1),()))))))) (some (Sum.inr c))
def Nka (a b : List (Int × Int × Int × Unit)) : Option (((List (Int × Int × Int × Unit)))) :=
  nloop (fun (s : Int × (List (Int × Int × Int × Unit))) => ((N4y a s.1 s.2).map (Sum.elim (fun (t : Int × (List (Int × Int × Int × Unit))) => Sum.inl (t.1,t.2)) (fun (t : (List (Int × Int × Int × Unit))) => Sum.inr t)) : Option ((Int × (List (Int × Int × Int × Unit))) ⊕ (((List (Int × Int × Int × Unit))))))) LL (0,b)
def Nis (a b : List (Int × Int × Int × Unit)) : Option (((List (Int × Int × Int × Unit)))) :=
  (Nka a b).map (fun (t : (List (Int × Int × Int × Unit))) => t)
def Nff (a b : List (Int × Int × Int × Unit)) : Option (((List (Int × Int × Int × Unit)))) :=
  (N6d).bind (fun (t : Unit) => Nis a b)
def N77 (a : List (Int × Int × Int × Unit)) : Option (((List (Int × Int × Int × Unit)))) :=
  some a
def Nkh (a b : List (Int × Int × Int × Unit)) : Option (((List (Int × Int × Int × Unit)))) :=
  (Nff a b).bind (fun (t : (List (Int × Int × Int × Unit))) => N77 t)
def Ncl (a : List (Int × Int × Int × Unit)) : Option (((List (Int × Int × Int × Unit)))) :=
  (N5y a).bind (fun (t : (List (Int × Int × Int × Unit))) => Nkh a t)
@[irreducible] def Np (a : List (Int × Int × Int × Unit)) : Option ((List (Int × Int × Int × Unit))) :=
  Ncl a
def N8h (a : List Int) (b : List (List Int)) (c : List (Int × Int × Int × Unit)) : Option (((List Int) × (List (List Int))) ⊕ (Int × (List Int) × (List (List Int)))) :=
  (N1s a b).bind fun (d : Bool) => cond (!d) (some (Sum.inr (0,([] : List Int),([] : List (List Int))))) (cond (decide ((((List.length c : Nat) : Int)) > 40)) (some (Sum.inr (0,([] : List Int),([] : List (List Int))))) ((N1l a b).bind fun (g : (List Int) × (List (List Int))) => some (Sum.inl ((g.1),(g.2)))))
def N85 : Option (Unit) :=
  some ()
def N3g (a : List (Int × Int × Int × Unit)) (b c : Int) (d : List Int) (g : List (List Int)) : Option ((Int × Int × (List Int) × (List (List Int))) ⊕ (Int × (List Int) × (List (List Int)))) :=
  cond (decide (c < (((List.length a : Nat) : Int)))) ((idx a c).bind fun (i : Int × Int × Int × Unit) => (N2n d g (i.1) ((i.2).1) (((i.2).2).1)).bind fun (j : Bool × (List Int) × (List (List Int))) => cond (j.1) (some (Sum.inl ((IntKind.wrap .i64 (b + 1)),(IntKind.wrap .i64 (c + 1)),(j.2.1),(j.2.2)))) (some (Sum.inl (b,(IntKind.wrap .i64 (c + 1)),d,g)))) (some (Sum.inr (b,d,g)))
def Nh4 (a : List (Int × Int × Int × Unit)) (b : List Int) (c : List (List Int)) : Option ((Int × (List Int) × (List (List Int)))) :=
  nloop (fun (s : Int × Int × (List Int) × (List (List Int))) => ((N3g a s.1 s.2.1 s.2.2.1 s.2.2.2).map (Sum.elim (fun (t : Int × Int × (List Int) × (List (List Int))) => Sum.inl (t.1,t.2.1,t.2.2.1,t.2.2.2)) (fun (t : Int × (List Int) × (List (List Int))) => Sum.inr t)) : Option ((Int × Int × (List Int) × (List (List Int))) ⊕ ((Int × (List Int) × (List (List Int))))))) LL (0,0,b,c)
def Nge (a : List (Int × Int × Int × Unit)) (b : List Int) (c : List (List Int)) : Option ((Int × (List Int) × (List (List Int)))) :=
  (Nh4 a b c).map (fun (t : Int × (List Int) × (List (List Int))) => (t.1,t.2.1,t.2.2))
def Nh5 (a : List (Int × Int × Int × Unit)) (b : List Int) (c : List (List Int)) : Option ((Int × (List Int) × (List (List Int)))) :=
  (N85).bind (fun (t : Unit) => Nge a b c)
def Nbo (a : Int) (b : List Int) (c : List (List Int)) : Option ((Int × (List Int) × (List (List Int)))) :=
  some (a,b,c)
def Nf8 (a : List (Int × Int × Int × Unit)) (b : List Int) (c : List (List Int)) : Option ((Int × (List Int) × (List (List Int)))) :=
  (Nh5 a b c).bind (fun (t : Int × (List Int) × (List (List Int))) => Nbo t.1 t.2.1 t.2.2)
def Net (a : List Int) (b : List (List Int)) (c : List (Int × Int × Int × Unit)) : Option ((Int × (List Int) × (List (List Int)))) :=
  (N8h a b c).bind (Sum.elim (fun (t : (List Int) × (List (List Int))) => Nf8 c t.1 t.2) (fun e => some ((fun (t : Int × (List Int) × (List (List Int))) => t) e)))
@[irreducible] def N2o (a : List Int) (b : List (List Int)) (c : List (Int × Int × Int × Unit)) : Option (Int × (List Int) × (List (List Int))) :=
  Net a b c
def N7e (a : List Int) (b : List (List Int)) (c : List (Int × Int × Int × Unit)) : Option (((List Int) × (List (List Int))) ⊕ (Int × (List Int) × (List (List Int)))) :=
  (N1t a b).bind fun (d : Bool) => cond (!d) (some (Sum.inr (0,([] : List Int),([] : List (List Int))))) (cond (decide ((((List.length c : Nat) : Int)) > 40)) (some (Sum.inr (0,([] : List Int),([] : List (List Int))))) ((N9 a b).bind fun (g : (List Int) × (List (List Int))) => some (Sum.inl ((g.1),(g.2)))))
def N62 (a : List (Int × Int × Int × Unit)) : Option (Int) :=
  some (((List.length a : Nat) : Int))
def N3c (a : Int) (b : List (Int × Int × Int × Unit)) (c d : Int) (g : List Int) (i : List (List Int)) : Option ((Int × Int × (List Int) × (List (List Int))) ⊕ (Int × (List Int) × (List (List Int)))) :=
  cond (decide (d < c)) ((idx b d).bind fun (j : Int × Int × Int × Unit) => (N2c g i (j.1) ((j.2).1) (((j.2).2).1)).bind fun (k : Bool × (List Int) × (List (List Int))) => cond (k.1) (some (Sum.inl ((IntKind.wrap .i64 (a + 1)),(IntKind.wrap .i64 (d + 1)),(k.2.1),(k.2.2)))) (some (Sum.inl (a,(IntKind.wrap .i64 (d + 1)),g,i)))) (some (Sum.inr (a,g,i)))
def Nhl (a : List (Int × Int × Int × Unit)) (b : Int) (c : List Int) (d : List (List Int)) : Option ((Int × (List Int) × (List (List Int)))) :=
  nloop (fun (s : Int × Int × (List Int) × (List (List Int))) => ((N3c s.1 a b s.2.1 s.2.2.1 s.2.2.2).map (Sum.elim (fun (t : Int × Int × (List Int) × (List (List Int))) => Sum.inl (t.1,t.2.1,t.2.2.1,t.2.2.2)) (fun (t : Int × (List Int) × (List (List Int))) => Sum.inr t)) : Option ((Int × Int × (List Int) × (List (List Int))) ⊕ ((Int × (List Int) × (List (List Int))))))) LL (0,0,c,d)
def Nkb (a : List (Int × Int × Int × Unit)) (b : Int) (c : List Int) (d : List (List Int)) : Option ((Int × (List Int) × (List (List Int)))) :=
  (Nhl a b c d).map (fun (t : Int × (List Int) × (List (List Int))) => (t.1,t.2.1,t.2.2))
def Nif (a : List (Int × Int × Int × Unit)) (b : List Int) (c : List (List Int)) : Option ((Int × (List Int) × (List (List Int)))) :=
  (N62 a).bind (fun (t : Int) => Nkb a t b c)
def N87 (a : Int) (b : List Int) (c : List (List Int)) : Option ((Int × (List Int) × (List (List Int)))) :=
  some (a,b,c)
def Nhe (a : List (Int × Int × Int × Unit)) (b : List Int) (c : List (List Int)) : Option ((Int × (List Int) × (List (List Int)))) :=
  (Nif a b c).bind (fun (t : Int × (List Int) × (List (List Int))) => N87 t.1 t.2.1 t.2.2)
def Ncp (a : List Int) (b : List (List Int)) (c : List (Int × Int × Int × Unit)) : Option ((Int × (List Int) × (List (List Int)))) :=
  (N7e a b c).bind (Sum.elim (fun (t : (List Int) × (List (List Int))) => Nhe c t.1 t.2) (fun e => some ((fun (t : Int × (List Int) × (List (List Int))) => t) e)))
@[irreducible] def Nv (a : List Int) (b : List (List Int)) (c : List (Int × Int × Int × Unit)) : Option (Int × (List Int) × (List (List Int))) :=
  Ncp a b c
def N8u (a b c d g i : Int) : Option (Bool) :=
  cond (a != d) (some false) (cond (b != g) (some false) (cond (c != i) (some false) (some true)))
@[irreducible] def N5a (a b c d g i : Int) : Option (Bool) :=
  N8u a b c d g i
def N68 (a b : List (Int × Int × Int × Unit)) : Option (Unit ⊕ Bool) :=
  cond ((((List.length a : Nat) : Int)) != (((List.length b : Nat) : Int))) (some (Sum.inr false)) (some (Sum.inl ()))
def Na5 : Option (Unit) :=
  some ()
def N3t (a b : List (Int × Int × Int × Unit)) (c : Int) : Option (Int ⊕ Bool ⊕ Unit) :=
  cond (decide (c < (((List.length a : Nat) : Int)))) ((idx a c).bind fun (d : Int × Int × Int × Unit) => (idx b c).bind fun (g : Int × Int × Int × Unit) => (N5a (d.1) ((d.2).1) (((d.2).2).1) (g.1) ((g.2).1) (((g.2).2).1)).bind fun (i : Bool) => cond (!i) (some (Sum.inr (Sum.inl false))) (some (Sum.inl (IntKind.wrap .i64 (c + 1))))) (some (Sum.inr (Sum.inr ())))
def Nh7 (a b : List (Int × Int × Int × Unit)) : Option (Bool ⊕ Unit) :=
  nloop (fun (s : Int) => ((N3t a b s).map (Sum.elim (fun (t : Int) => Sum.inl t) (Sum.elim (fun (t : Bool) => Sum.inr (Sum.inl t)) (fun (t : Unit) => Sum.inr (Sum.inr t)))) : Option ((Int) ⊕ (Bool ⊕ Unit)))) LL 0
def Ngb (a b : List (Int × Int × Int × Unit)) : Option (Unit ⊕ Bool) :=
  (Nh7 a b).map (Sum.elim (fun (t : Bool) => (Sum.inr t)) (fun (t : Unit) => (Sum.inl ())))
def Nhj (a b : List (Int × Int × Int × Unit)) : Option (Unit ⊕ Bool) :=
  (Na5).bind (fun (t : Unit) => Ngb a b)
def N8j : Option (Bool) :=
  some true
def Nfm (a b : List (Int × Int × Int × Unit)) : Option (Bool) :=
  (Nhj a b).bind (Sum.elim (fun (t : Unit) => N8j) (fun e => some ((fun (t : Bool) => t) e)))
def Nee (a b : List (Int × Int × Int × Unit)) : Option (Bool) :=
  (N68 a b).bind (Sum.elim (fun (t : Unit) => Nfm a b) (fun e => some ((fun (t : Bool) => t) e)))
@[irreducible] def N2f (a b : List (Int × Int × Int × Unit)) : Option (Bool) :=
  Nee a b
def N8m : Option (Unit) :=
  some ()
def N96 : Option (Unit) :=
  some ()
def N5g (a b : Int) (c : List (Int × Int × Int × Unit)) : Option (Unit ⊕ (Int × (List (Int × Int × Int × Unit)))) :=
  cond (decide (b < (((List.length c : Nat) : Int)))) (some (Sum.inl ())) (some (Sum.inr (a,c)))
def N69 (a b : Int) (c : List (Int × Int × Int × Unit)) : Option ((Int × (List (Int × Int × Int × Unit)))) :=
  (inb b (List.length c)).bind fun (d : Nat) => ((c)[d]?).bind fun (g : Int × Int × Int × Unit) => (inb b (List.length ((c).set d (a,(((g.2).1),((((g.2).2).1),())))))).bind fun (i : Nat) => ((((c).set d (a,(((g.2).1),((((g.2).2).1),())))))[i]?).bind fun (j : Int × Int × Int × Unit) => some ((IntKind.wrap .i64 ((IntKind.wrap .i64 (a + 1)) + 1)),((((c).set d (a,(((g.2).1),((((g.2).2).1),()))))).set i ((j.1),((IntKind.wrap .i64 (a + 1)),((((j.2).2).1),())))))
def N94 (a b : Int) (c : List (Int × Int × Int × Unit)) : Option (((List (Int × Int × Int × Unit)))) :=
  (inb b (List.length c)).bind fun (d : Nat) => ((c)[d]?).bind fun (g : Int × Int × Int × Unit) => some ((c).set d ((g.1),(((g.2).1),(a,()))))
def N9l (a : Int) : Option (Int) :=
  some (IntKind.wrap .i64 (a + 1))
def Nj0 (a b : Int) (c : List (Int × Int × Int × Unit)) : Option ((Int × (List (Int × Int × Int × Unit)))) :=
  (N94 a b c).bind (fun (t : (List (Int × Int × Int × Unit))) => (N9l a).map (fun (u : Int) => (u,t)))
def Nft (a b : Int) (c : List (Int × Int × Int × Unit)) : Option ((Int × (List (Int × Int × Int × Unit)))) :=
  (N69 a b c).bind (fun (t : Int × (List (Int × Int × Int × Unit))) => Nj0 t.1 b t.2)
def Nim (a b : Int) (c : List (Int × Int × Int × Unit)) : Option ((Int × (List (Int × Int × Int × Unit)))) :=
  (Nft a b c).map (fun (t : Int × (List (Int × Int × Int × Unit))) => (t.1,t.2))
def N90 (a : Int) : Option (Int) :=
  some (IntKind.wrap .i64 (a + 1))
def Nfw (a b : Int) (c : List (Int × Int × Int × Unit)) : Option ((Int × Int × (List (Int × Int × Int × Unit)))) :=
  (Nim a b c).bind (fun (t : Int × (List (Int × Int × Int × Unit))) => (N90 b).map (fun (u : Int) => (t.1,u,t.2)))
def N8v (a b : Int) (c : List (Int × Int × Int × Unit)) : Option ((Int × Int × (List (Int × Int × Int × Unit))) ⊕ (Int × (List (Int × Int × Int × Unit)))) :=
  (N5g a b c).bind (Sum.elim (fun (t : Unit) => (Nfw a b c).map (fun (t : Int × Int × (List (Int × Int × Int × Unit))) => (Sum.inl (t.1,t.2.1,t.2.2)))) (fun e => some ((fun (t : Int × (List (Int × Int × Int × Unit))) => (Sum.inr t)) e)))
def Nfj (a : Int) (b : List (Int × Int × Int × Unit)) : Option ((Int × (List (Int × Int × Int × Unit)))) :=
  nloop (fun (s : Int × Int × (List (Int × Int × Int × Unit))) => ((N8v s.1 s.2.1 s.2.2).map (Sum.elim (fun (t : Int × Int × (List (Int × Int × Int × Unit))) => Sum.inl (t.1,t.2.1,t.2.2)) (fun (t : Int × (List (Int × Int × Int × Unit))) => Sum.inr t)) : Option ((Int × Int × (List (Int × Int × Int × Unit))) ⊕ ((Int × (List (Int × Int × Int × Unit))))))) LL (a,0,b)
def Nkd (a : Int) (b : List (Int × Int × Int × Unit)) : Option ((Int × (List (Int × Int × Int × Unit)))) :=
  (Nfj a b).map (fun (t : Int × (List (Int × Int × Int × Unit))) => (t.1,t.2))
def Njy (a : Int) (b : List (Int × Int × Int × Unit)) : Option ((Int × (List (Int × Int × Int × Unit)))) :=
  (N96).bind (fun (t : Unit) => Nkd a b)
def N9k (a : Int) (b : List (Int × Int × Int × Unit)) : Option ((Int × (List (Int × Int × Int × Unit)))) :=
  some (a,b)
def Nfc (a : Int) (b : List (Int × Int × Int × Unit)) : Option ((Int × (List (Int × Int × Int × Unit)))) :=
  (Njy a b).bind (fun (t : Int × (List (Int × Int × Int × Unit))) => N9k t.1 t.2)
def Nei (a : Int) (b : List (Int × Int × Int × Unit)) : Option ((Int × (List (Int × Int × Int × Unit)))) :=
  (N8m).bind (fun (t : Unit) => Nfc a b)
@[irreducible] def N2l (a : Int) (b : List (Int × Int × Int × Unit)) : Option (Int × (List (Int × Int × Int × Unit))) :=
  Nei a b
def N8a (a : List Int) (b : List (List Int)) (c : List (Int × Int × Int × Unit)) : Option ((Int × Int) ⊕ Bool) :=
  (N47 a b 1048576).bind fun (d : Int) => cond (decide (d < 0)) (some (Sum.inr true)) ((N58 c d).bind fun (g : Int) => cond (decide (g < 0)) (some (Sum.inr true)) ((N16 a b).bind fun (i : (List Int) × (List (List Int))) => (Np c).bind fun (j : List (Int × Int × Int × Unit)) => (N2o (i.1) (i.2) j).bind fun (k : Int × (List Int) × (List (List Int))) => (N16 a b).bind fun (l : (List Int) × (List (List Int))) => (Np c).bind fun (m : List (Int × Int × Int × Unit)) => (Nv (l.1) (l.2) m).bind fun (o : Int × (List Int) × (List (List Int))) => (Nx (o.2.1) (o.2.2) (k.2.1) (k.2.2)).bind fun (p : Bool) => cond (!p) (some (Sum.inr false)) (cond ((o.1) != (k.1)) (some (Sum.inr false)) ((N16 a b).bind fun (q : (List Int) × (List (List Int))) => (Nx (l.1) (l.2) (q.1) (q.2)).bind fun (w : Bool) => cond (!w) (some (Sum.inr false)) ((Np c).bind fun (y : List (Int × Int × Int × Unit)) => (N2f m y).bind fun (z : Bool) => cond (!z) (some (Sum.inr false)) ((N2s 1 (l.1) (l.2)).bind fun (a0 : Int × (List Int) × (List (List Int))) => (N2l (a0.1) m).bind fun (a1 : Int × (List (Int × Int × Int × Unit))) => cond (decide ((a1.1) < 0)) (some (Sum.inr false)) ((Nx (o.2.1) (o.2.2) (k.2.1) (k.2.2)).bind fun (a2 : Bool) => cond (!a2) (some (Sum.inr false)) (cond ((o.1) != (k.1)) (some (Sum.inr false)) ((N2s 1 (o.2.1) (o.2.2)).bind fun (a3 : Int × (List Int) × (List (List Int))) => (N2g (a3.2.1) (a3.2.2) 1).bind fun (a4 : Int) => cond (decide (a4 < 0)) (some (Sum.inr false)) (cond (a4 != (a3.1)) (some (Sum.inr false)) ((N16 a b).bind fun (a5 : (List Int) × (List (List Int))) => (Np c).bind fun (a6 : List (Int × Int × Int × Unit)) => (Nv (a5.1) (a5.2) a6).bind fun (a7 : Int × (List Int) × (List (List Int))) => (Nx (a7.2.1) (a7.2.2) (k.2.1) (k.2.2)).bind fun (a8 : Bool) => cond (!a8) (some (Sum.inr false)) (cond ((a7.1) != (k.1)) (some (Sum.inr false)) ((N2g (a3.2.1) (a3.2.2) 1).bind fun (a9 : Int) => some (Sum.inl ((a3.1),a9)))))))))))))))
def N7y (a b : Int) : Option (Bool) :=
  cond (decide (b < 0)) (some false) (cond (b != a) (some false) (some true))
def Nhm (a : List Int) (b : List (List Int)) (c : List (Int × Int × Int × Unit)) : Option (Bool) :=
  (N8a a b c).bind (Sum.elim (fun (t : Int × Int) => N7y t.1 t.2) (fun e => some ((fun (t : Bool) => t) e)))
@[irreducible] def N1z (a : List Int) (b : List (List Int)) (c : List (Int × Int × Int × Unit)) : Option (Bool) :=
  Nhm a b c
end Go.Rv
