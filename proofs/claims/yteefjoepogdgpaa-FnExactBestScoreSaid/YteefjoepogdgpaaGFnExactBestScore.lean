/-
  Plain functions, written by program for functions of the checked code. Conditions: none.
-/
import Derived.Test.YteefjoepogdgpaaFB
set_option linter.unusedVariables false
namespace Go.Rv
def slices_Min_int_int_n1 (x17091 : List Int) : Option (Int) :=
  cond (decide ((((List.length x17091 : Nat) : Int)) < 1)) (none) ((idx x17091 0).bind fun (v17096 : Int) => some v17096)

def slices_Min_int_int_n2 : Option (Unit) :=
  some ()

def slices_Min_int_int_n3 (x17091 : List Int) (x17108 : Int) (x17109 : Int) : Option ((Int × Int) ⊕ Int) :=
  cond (decide (x17109 < (((List.length x17091 : Nat) : Int)))) ((idx x17091 x17109).bind fun (v17118 : Int) => some (Sum.inl ((imin x17108 v17118), (IntKind.wrap .i64 (x17109 + 1))))) (some (Sum.inr x17108))

def slices_Min_int_int_n4 (x17091 : List Int) (x17096 : Int) : Option (Int) :=
  nloop (fun (s : Int × Int) => ((slices_Min_int_int_n3 x17091 s.1 s.2).map (Sum.elim (fun (t : Int × Int) => Sum.inl (t.1, t.2)) (fun (t : Int) => Sum.inr t)) : Option ((Int × Int) ⊕ (Int)))) LL (x17096, 1)

def slices_Min_int_int_n5 (x17091 : List Int) (x17096 : Int) : Option (Int) :=
  (slices_Min_int_int_n4 x17091 x17096).map (fun (t : Int) => t)

def slices_Min_int_int_n6 (x17091 : List Int) (x17096 : Int) : Option (Int) :=
  (slices_Min_int_int_n2).bind (fun (t : Unit) => slices_Min_int_int_n5 x17091 x17096)

def slices_Min_int_int_n7 (x17108 : Int) : Option (Int) :=
  some x17108

def slices_Min_int_int_n8 (x17091 : List Int) (x17096 : Int) : Option (Int) :=
  (slices_Min_int_int_n6 x17091 x17096).bind (fun (t : Int) => slices_Min_int_int_n7 t)

def slices_Min_int_int_n9 (x17091 : List Int) : Option (Int) :=
  (slices_Min_int_int_n1 x17091).bind (fun (t : Int) => slices_Min_int_int_n8 x17091 t)

@[irreducible] def slices_Min_int_int (x17091 : List Int) : Option (Int) :=
  slices_Min_int_int_n9 x17091

def slices_Max_int_int_n1 (x17123 : List Int) : Option (Int) :=
  cond (decide ((((List.length x17123 : Nat) : Int)) < 1)) (none) ((idx x17123 0).bind fun (v17128 : Int) => some v17128)

def slices_Max_int_int_n2 : Option (Unit) :=
  some ()

def slices_Max_int_int_n3 (x17123 : List Int) (x17140 : Int) (x17141 : Int) : Option ((Int × Int) ⊕ Int) :=
  cond (decide (x17141 < (((List.length x17123 : Nat) : Int)))) ((idx x17123 x17141).bind fun (v17150 : Int) => some (Sum.inl ((imax x17140 v17150), (IntKind.wrap .i64 (x17141 + 1))))) (some (Sum.inr x17140))

def slices_Max_int_int_n4 (x17123 : List Int) (x17128 : Int) : Option (Int) :=
  nloop (fun (s : Int × Int) => ((slices_Max_int_int_n3 x17123 s.1 s.2).map (Sum.elim (fun (t : Int × Int) => Sum.inl (t.1, t.2)) (fun (t : Int) => Sum.inr t)) : Option ((Int × Int) ⊕ (Int)))) LL (x17128, 1)

def slices_Max_int_int_n5 (x17123 : List Int) (x17128 : Int) : Option (Int) :=
  (slices_Max_int_int_n4 x17123 x17128).map (fun (t : Int) => t)

def slices_Max_int_int_n6 (x17123 : List Int) (x17128 : Int) : Option (Int) :=
  (slices_Max_int_int_n2).bind (fun (t : Unit) => slices_Max_int_int_n5 x17123 x17128)

def slices_Max_int_int_n7 (x17140 : Int) : Option (Int) :=
  some x17140

def slices_Max_int_int_n8 (x17123 : List Int) (x17128 : Int) : Option (Int) :=
  (slices_Max_int_int_n6 x17123 x17128).bind (fun (t : Int) => slices_Max_int_int_n7 t)

def slices_Max_int_int_n9 (x17123 : List Int) : Option (Int) :=
  (slices_Max_int_int_n1 x17123).bind (fun (t : Int) => slices_Max_int_int_n8 x17123 t)

@[irreducible] def slices_Max_int_int (x17123 : List Int) : Option (Int) :=
  slices_Max_int_int_n9 x17123

def impl_scoreRowOk_n1 (x17086 : List Int) (x17087 : Int) : Option (Bool) :=
  cond ((((List.length x17086 : Nat) : Int)) == (IntKind.wrap .i64 (x17087 + 1))) ((slices_Min_int_int x17086).bind fun (v17158 : Int) => cond (decide (v17158 ≥ 0)) ((slices_Max_int_int x17086).bind fun (v17160 : Int) => some (decide (v17160 ≤ 20))) (some false)) (some false)

@[irreducible] def impl_scoreRowOk (x17086 : List Int) (x17087 : Int) : Option (Bool) :=
  impl_scoreRowOk_n1 x17086 x17087

def impl_ScoresOk_n1 (x17075 : List (List Int)) : Option (Unit ⊕ Bool) :=
  cond (decide ((((List.length x17075 : Nat) : Int)) < 1)) (some (Sum.inr false)) (cond (decide ((((List.length x17075 : Nat) : Int)) > 5)) (some (Sum.inr false)) (some (Sum.inl ())))

def impl_ScoresOk_n2 (x17075 : List (List Int)) : Option (Int) :=
  some (((List.length x17075 : Nat) : Int))

def impl_ScoresOk_n3 (x17075 : List (List Int)) (x17080 : Int) (x17171 : Int) : Option (Int ⊕ Bool ⊕ Unit) :=
  cond (decide (x17171 < x17080)) ((idx x17075 x17171).bind fun (v17180 : List Int) => (impl_scoreRowOk v17180 (((List.length x17075 : Nat) : Int))).bind fun (v17182 : Bool) => cond (!v17182) (some (Sum.inr (Sum.inl false))) (some (Sum.inl (IntKind.wrap .i64 (x17171 + 1))))) (some (Sum.inr (Sum.inr ())))

def impl_ScoresOk_n4 (x17075 : List (List Int)) (x17080 : Int) : Option (Bool ⊕ Unit) :=
  nloop (fun (s : Int) => ((impl_ScoresOk_n3 x17075 x17080 s).map (Sum.elim (fun (t : Int) => Sum.inl t) (Sum.elim (fun (t : Bool) => Sum.inr (Sum.inl t)) (fun (t : Unit) => Sum.inr (Sum.inr t)))) : Option ((Int) ⊕ (Bool ⊕ Unit)))) LL 0

def impl_ScoresOk_n5 (x17075 : List (List Int)) (x17080 : Int) : Option (Unit ⊕ Bool) :=
  (impl_ScoresOk_n4 x17075 x17080).map (Sum.elim (fun (t : Bool) => (Sum.inr t)) (fun (t : Unit) => (Sum.inl ())))

def impl_ScoresOk_n6 (x17075 : List (List Int)) : Option (Unit ⊕ Bool) :=
  (impl_ScoresOk_n2 x17075).bind (fun (t : Int) => impl_ScoresOk_n5 x17075 t)

def impl_ScoresOk_n7 : Option (Bool) :=
  some true

def impl_ScoresOk_n8 (x17075 : List (List Int)) : Option (Bool) :=
  (impl_ScoresOk_n6 x17075).bind (Sum.elim (fun (t : Unit) => impl_ScoresOk_n7) (fun e => some ((fun (t : Bool) => t) e)))

def impl_ScoresOk_n9 (x17075 : List (List Int)) : Option (Bool) :=
  (impl_ScoresOk_n1 x17075).bind (Sum.elim (fun (t : Unit) => impl_ScoresOk_n8 x17075) (fun e => some ((fun (t : Bool) => t) e)))

@[irreducible] def impl_ScoresOk (x17075 : List (List Int)) : Option (Bool) :=
  impl_ScoresOk_n9 x17075

def spec_l1In_n1 (x17212 : Int) (x17213 : Int) (x17214 : Int) : Option (Bool) :=
  cond (decide (x17212 ≥ x17213)) (some (decide (x17212 ≤ x17214))) (some false)

@[irreducible] def spec_l1In (x17212 : Int) (x17213 : Int) (x17214 : Int) : Option (Bool) :=
  spec_l1In_n1 x17212 x17213 x17214

def spec_ScoresOk_n1 : Option (Unit) :=
  some ()

def spec_ScoresOk_n2 : Option (Unit) :=
  some ()

def spec_ScoresOk_n3 (x17191 : List (List Int)) (x17250 : Int) : Option (Unit ⊕ Unit) :=
  cond (decide (x17250 < (((List.length x17191 : Nat) : Int)))) (some (Sum.inl ())) (some (Sum.inr ()))

def spec_ScoresOk_n4 (x17191 : List (List Int)) (x17250 : Int) : Option (Unit ⊕ Bool) :=
  (idx x17191 x17250).bind fun (v17258 : List Int) => cond ((((List.length v17258 : Nat) : Int)) != (IntKind.wrap .i64 ((((List.length x17191 : Nat) : Int)) + 1))) (some (Sum.inr false)) (some (Sum.inl ()))

def spec_ScoresOk_n5 (x17191 : List (List Int)) (x17250 : Int) (x17281 : Int) : Option (Int ⊕ Bool ⊕ Unit) :=
  (idx x17191 x17250).bind fun (v17292 : List Int) => cond (decide (x17281 < (((List.length v17292 : Nat) : Int)))) ((idx x17191 x17250).bind fun (v17295 : List Int) => (idx v17295 x17281).bind fun (v17296 : Int) => (spec_l1In v17296 0 20).bind fun (v17297 : Bool) => cond (!v17297) (some (Sum.inr (Sum.inl false))) (some (Sum.inl (IntKind.wrap .i64 (x17281 + 1))))) (some (Sum.inr (Sum.inr ())))

def spec_ScoresOk_n6 (x17191 : List (List Int)) (x17250 : Int) : Option (Bool ⊕ Unit) :=
  nloop (fun (s : Int) => ((spec_ScoresOk_n5 x17191 x17250 s).map (Sum.elim (fun (t : Int) => Sum.inl t) (Sum.elim (fun (t : Bool) => Sum.inr (Sum.inl t)) (fun (t : Unit) => Sum.inr (Sum.inr t)))) : Option ((Int) ⊕ (Bool ⊕ Unit)))) LL 0

def spec_ScoresOk_n7 (x17191 : List (List Int)) (x17250 : Int) : Option (Unit ⊕ Bool) :=
  (spec_ScoresOk_n6 x17191 x17250).map (Sum.elim (fun (t : Bool) => (Sum.inr t)) (fun (t : Unit) => (Sum.inl ())))

def spec_ScoresOk_n8 (x17191 : List (List Int)) (x17250 : Int) : Option (Unit ⊕ Bool) :=
  (spec_ScoresOk_n4 x17191 x17250).bind (Sum.elim (fun (t : Unit) => spec_ScoresOk_n7 x17191 x17250) (fun e => some ((fun (t : Bool) => (Sum.inr t)) e)))

def spec_ScoresOk_n9 (x17191 : List (List Int)) (x17250 : Int) : Option (Unit ⊕ Bool) :=
  (spec_ScoresOk_n8 x17191 x17250).map (Sum.elim (fun (t : Unit) => (Sum.inl ())) (fun (t : Bool) => (Sum.inr t)))

def spec_ScoresOk_n10 (x17250 : Int) : Option (Int) :=
  some (IntKind.wrap .i64 (x17250 + 1))

def spec_ScoresOk_n11 (x17191 : List (List Int)) (x17250 : Int) : Option (Int ⊕ Bool) :=
  (spec_ScoresOk_n9 x17191 x17250).bind (Sum.elim (fun (t : Unit) => (spec_ScoresOk_n10 x17250).map (fun (t : Int) => (Sum.inl t))) (fun e => some ((fun (t : Bool) => (Sum.inr t)) e)))

def spec_ScoresOk_n12 (x17191 : List (List Int)) (x17250 : Int) : Option (Int ⊕ Bool ⊕ Unit) :=
  (spec_ScoresOk_n3 x17191 x17250).bind (Sum.elim (fun (t : Unit) => (spec_ScoresOk_n11 x17191 x17250).map (Sum.elim (fun (t : Int) => (Sum.inl t)) (fun (t : Bool) => (Sum.inr (Sum.inl t))))) (fun e => some ((fun (t : Unit) => (Sum.inr (Sum.inr t))) e)))

def spec_ScoresOk_n13 (x17191 : List (List Int)) : Option (Bool ⊕ Unit) :=
  nloop (fun (s : Int) => ((spec_ScoresOk_n12 x17191 s).map (Sum.elim (fun (t : Int) => Sum.inl t) (Sum.elim (fun (t : Bool) => Sum.inr (Sum.inl t)) (fun (t : Unit) => Sum.inr (Sum.inr t)))) : Option ((Int) ⊕ (Bool ⊕ Unit)))) LL 0

def spec_ScoresOk_n14 (x17191 : List (List Int)) : Option (Unit ⊕ Bool) :=
  (spec_ScoresOk_n13 x17191).map (Sum.elim (fun (t : Bool) => (Sum.inr t)) (fun (t : Unit) => (Sum.inl ())))

def spec_ScoresOk_n15 (x17191 : List (List Int)) : Option (Unit ⊕ Bool) :=
  (spec_ScoresOk_n2).bind (fun (t : Unit) => spec_ScoresOk_n14 x17191)

def spec_ScoresOk_n16 (x17191 : List (List Int)) : Option (Bool) :=
  (spec_l1In (((List.length x17191 : Nat) : Int)) 1 5).bind fun (v17304 : Bool) => some v17304

def spec_ScoresOk_n17 (x17191 : List (List Int)) : Option (Bool) :=
  (spec_ScoresOk_n15 x17191).bind (Sum.elim (fun (t : Unit) => spec_ScoresOk_n16 x17191) (fun e => some ((fun (t : Bool) => t) e)))

def spec_ScoresOk_n18 (x17191 : List (List Int)) : Option (Bool) :=
  (spec_ScoresOk_n1).bind (fun (t : Unit) => spec_ScoresOk_n17 x17191)

@[irreducible] def spec_ScoresOk (x17191 : List (List Int)) : Option (Bool) :=
  spec_ScoresOk_n18 x17191

def impl_oneRoot_n1 : Option (Unit) :=
  some ()

def impl_oneRoot_n2 (x17431 : List Int) : Option (Int) :=
  some (((List.length x17431 : Nat) : Int))

def impl_oneRoot_n3 (x17431 : List Int) (x17453 : Int) (x17432 : Int) (x17454 : Int) : Option ((Int × Int) ⊕ Bool ⊕ Int) :=
  cond (decide (x17454 < x17432)) ((idx x17431 x17454).bind fun (v17465 : Int) => cond (decide (v17465 < 0)) (some (Sum.inr (Sum.inl false))) (cond (decide (v17465 > (((List.length x17431 : Nat) : Int)))) (some (Sum.inr (Sum.inl false))) (cond (v17465 == 0) (some (Sum.inl ((IntKind.wrap .i64 (x17453 + 1)), (IntKind.wrap .i64 (x17454 + 1))))) (some (Sum.inl (x17453, (IntKind.wrap .i64 (x17454 + 1)))))))) (some (Sum.inr (Sum.inr x17453)))

def impl_oneRoot_n4 (x17431 : List Int) (x17432 : Int) : Option (Bool ⊕ Int) :=
  nloop (fun (s : Int × Int) => ((impl_oneRoot_n3 x17431 s.1 x17432 s.2).map (Sum.elim (fun (t : Int × Int) => Sum.inl (t.1, t.2)) (Sum.elim (fun (t : Bool) => Sum.inr (Sum.inl t)) (fun (t : Int) => Sum.inr (Sum.inr t)))) : Option ((Int × Int) ⊕ (Bool ⊕ Int)))) LL (0, 0)

def impl_oneRoot_n5 (x17431 : List Int) (x17432 : Int) : Option (Int ⊕ Bool) :=
  (impl_oneRoot_n4 x17431 x17432).map (Sum.elim (fun (t : Bool) => (Sum.inr t)) (fun (t : Int) => (Sum.inl t)))

def impl_oneRoot_n6 (x17431 : List Int) : Option (Int ⊕ Bool) :=
  (impl_oneRoot_n2 x17431).bind (fun (t : Int) => impl_oneRoot_n5 x17431 t)

def impl_oneRoot_n7 (x17453 : Int) : Option (Bool) :=
  some (x17453 == 1)

def impl_oneRoot_n8 (x17431 : List Int) : Option (Bool) :=
  (impl_oneRoot_n6 x17431).bind (Sum.elim (fun (t : Int) => impl_oneRoot_n7 t) (fun e => some ((fun (t : Bool) => t) e)))

def impl_oneRoot_n9 (x17431 : List Int) : Option (Bool) :=
  (impl_oneRoot_n1).bind (fun (t : Unit) => impl_oneRoot_n8 x17431)

@[irreducible] def impl_oneRoot (x17431 : List Int) : Option (Bool) :=
  impl_oneRoot_n9 x17431

def impl_walker_up_n1 (x17487 : List Int) (x17488 : Int) (x17489 : Int) : Option ((Bool × Int × Int)) :=
  (idx x17487 (IntKind.wrap .i64 (x17488 - 1))).bind fun (v17507 : Int) => cond (v17507 == 0) (some (false, x17488, x17489)) (some (true, v17507, (IntKind.wrap .i64 (x17489 + 1))))

@[irreducible] def impl_walker_up (x17487 : List Int) (x17488 : Int) (x17489 : Int) : Option (Bool × Int × Int) :=
  impl_walker_up_n1 x17487 x17488 x17489

def impl_stepsToRoot_n1 : Option (Unit) :=
  some ()

def impl_stepsToRoot_n2 (x17485 : List Int) (x17523 : Int) (x17524 : Int) : Option ((Int × Int) ⊕ (Int × Bool) ⊕ (Int × Int)) :=
  (impl_walker_up x17485 x17523 x17524).bind fun (v17529 : Bool × Int × Int) => cond (v17529.1) (cond (decide ((v17529.2.2) ≥ (((List.length x17485 : Nat) : Int)))) (some (Sum.inr (Sum.inl (0, false)))) (some (Sum.inl ((v17529.2.1), (v17529.2.2))))) (some (Sum.inr (Sum.inr ((v17529.2.1), (v17529.2.2)))))

def impl_stepsToRoot_n3 (x17485 : List Int) (x17486 : Int) : Option ((Int × Bool) ⊕ (Int × Int)) :=
  nloop (fun (s : Int × Int) => ((impl_stepsToRoot_n2 x17485 s.1 s.2).map (Sum.elim (fun (t : Int × Int) => Sum.inl (t.1, t.2)) (Sum.elim (fun (t : Int × Bool) => Sum.inr (Sum.inl t)) (fun (t : Int × Int) => Sum.inr (Sum.inr t)))) : Option ((Int × Int) ⊕ ((Int × Bool) ⊕ (Int × Int))))) LL (x17486, 0)

def impl_stepsToRoot_n4 (x17485 : List Int) (x17486 : Int) : Option ((Int × Int) ⊕ (Int × Bool)) :=
  (impl_stepsToRoot_n3 x17485 x17486).map (Sum.elim (fun (t : Int × Bool) => (Sum.inr t)) (fun (t : Int × Int) => (Sum.inl (t.1, t.2))))

def impl_stepsToRoot_n5 (x17532 : Int) : Option ((Int × Bool)) :=
  some (x17532, true)

def impl_stepsToRoot_n6 (x17485 : List Int) (x17486 : Int) : Option ((Int × Bool)) :=
  (impl_stepsToRoot_n4 x17485 x17486).bind (Sum.elim (fun (t : Int × Int) => impl_stepsToRoot_n5 t.2) (fun e => some ((fun (t : Int × Bool) => t) e)))

def impl_stepsToRoot_n7 (x17485 : List Int) (x17486 : Int) : Option ((Int × Bool)) :=
  (impl_stepsToRoot_n1).bind (fun (t : Unit) => impl_stepsToRoot_n6 x17485 x17486)

@[irreducible] def impl_stepsToRoot (x17485 : List Int) (x17486 : Int) : Option (Int × Bool) :=
  impl_stepsToRoot_n7 x17485 x17486

def impl_TreeOk_n1 (x17426 : List Int) : Option (Unit ⊕ Bool) :=
  cond (decide ((((List.length x17426 : Nat) : Int)) < 1)) (some (Sum.inr false)) (cond (decide ((((List.length x17426 : Nat) : Int)) > 8)) (some (Sum.inr false)) ((impl_oneRoot x17426).bind fun (v17478 : Bool) => cond (!v17478) (some (Sum.inr false)) (some (Sum.inl ()))))

def impl_TreeOk_n2 (x17426 : List Int) : Option (Int) :=
  some (((List.length x17426 : Nat) : Int))

def impl_TreeOk_n3 (x17426 : List Int) (x17480 : Int) (x17548 : Int) : Option (Int ⊕ Bool ⊕ Unit) :=
  cond (decide (x17548 < x17480)) ((impl_stepsToRoot x17426 (IntKind.wrap .i64 (x17548 + 1))).bind fun (v17559 : Int × Bool) => cond (!(v17559.2)) (some (Sum.inr (Sum.inl false))) (some (Sum.inl (IntKind.wrap .i64 (x17548 + 1))))) (some (Sum.inr (Sum.inr ())))

def impl_TreeOk_n4 (x17426 : List Int) (x17480 : Int) : Option (Bool ⊕ Unit) :=
  nloop (fun (s : Int) => ((impl_TreeOk_n3 x17426 x17480 s).map (Sum.elim (fun (t : Int) => Sum.inl t) (Sum.elim (fun (t : Bool) => Sum.inr (Sum.inl t)) (fun (t : Unit) => Sum.inr (Sum.inr t)))) : Option ((Int) ⊕ (Bool ⊕ Unit)))) LL 0

def impl_TreeOk_n5 (x17426 : List Int) (x17480 : Int) : Option (Unit ⊕ Bool) :=
  (impl_TreeOk_n4 x17426 x17480).map (Sum.elim (fun (t : Bool) => (Sum.inr t)) (fun (t : Unit) => (Sum.inl ())))

def impl_TreeOk_n6 (x17426 : List Int) : Option (Unit ⊕ Bool) :=
  (impl_TreeOk_n2 x17426).bind (fun (t : Int) => impl_TreeOk_n5 x17426 t)

def impl_TreeOk_n7 : Option (Bool) :=
  some true

def impl_TreeOk_n8 (x17426 : List Int) : Option (Bool) :=
  (impl_TreeOk_n6 x17426).bind (Sum.elim (fun (t : Unit) => impl_TreeOk_n7) (fun e => some ((fun (t : Bool) => t) e)))

def impl_TreeOk_n9 (x17426 : List Int) : Option (Bool) :=
  (impl_TreeOk_n1 x17426).bind (Sum.elim (fun (t : Unit) => impl_TreeOk_n8 x17426) (fun e => some ((fun (t : Bool) => t) e)))

@[irreducible] def impl_TreeOk (x17426 : List Int) : Option (Bool) :=
  impl_TreeOk_n9 x17426

def impl_scoreBounds_n1 (x17622 : List (List Int)) : Option (((List Int))) :=
  (mk (IntKind.wrap .i64 ((((List.length x17622 : Nat) : Int)) + 1)) (IntKind.wrap .i64 ((((List.length x17622 : Nat) : Int)) + 1))).bind fun (v17625 : Nat) => some (List.replicate v17625 (0 : Int))

def impl_scoreBounds_n2 (x17622 : List (List Int)) : Option (Int) :=
  some (IntKind.wrap .i64 ((((List.length x17622 : Nat) : Int)) - 1))

def impl_scoreBounds_n3 (x17622 : List (List Int)) (x17649 : Int) (x17650 : List Int) : Option ((Int × (List Int)) ⊕ ((List Int))) :=
  cond (decide (x17649 ≥ 0)) ((idx x17622 x17649).bind fun (v17662 : List Int) => (inb (IntKind.wrap .i64 (x17649 + 1)) (List.length x17650)).bind fun (v17664 : Nat) => (x17650[v17664]?).bind fun (v17665 : Int) => (slices_Max_int_int v17662).bind fun (v17666 : Int) => (inb x17649 (List.length x17650)).bind fun (v17668 : Nat) => some (Sum.inl ((IntKind.wrap .i64 (x17649 - 1)), (x17650.set v17668 (IntKind.wrap .i64 (v17666 + v17665)))))) (some (Sum.inr x17650))

def impl_scoreBounds_n4 (x17622 : List (List Int)) (x17628 : Int) (x17626 : List Int) : Option (((List Int))) :=
  nloop (fun (s : Int × (List Int)) => ((impl_scoreBounds_n3 x17622 s.1 s.2).map (Sum.elim (fun (t : Int × (List Int)) => Sum.inl (t.1, t.2)) (fun (t : (List Int)) => Sum.inr t)) : Option ((Int × (List Int)) ⊕ (((List Int)))))) LL (x17628, x17626)

def impl_scoreBounds_n5 (x17622 : List (List Int)) (x17628 : Int) (x17626 : List Int) : Option (((List Int))) :=
  (impl_scoreBounds_n4 x17622 x17628 x17626).map (fun (t : (List Int)) => t)

def impl_scoreBounds_n6 (x17622 : List (List Int)) (x17626 : List Int) : Option (((List Int))) :=
  (impl_scoreBounds_n2 x17622).bind (fun (t : Int) => impl_scoreBounds_n5 x17622 t x17626)

def impl_scoreBounds_n7 (x17650 : List Int) : Option (((List Int))) :=
  some x17650

def impl_scoreBounds_n8 (x17622 : List (List Int)) (x17626 : List Int) : Option (((List Int))) :=
  (impl_scoreBounds_n6 x17622 x17626).bind (fun (t : (List Int)) => impl_scoreBounds_n7 t)

def impl_scoreBounds_n9 (x17622 : List (List Int)) : Option (((List Int))) :=
  (impl_scoreBounds_n1 x17622).bind (fun (t : (List Int)) => impl_scoreBounds_n8 x17622 t)

@[irreducible] def impl_scoreBounds (x17622 : List (List Int)) : Option ((List Int)) :=
  impl_scoreBounds_n9 x17622

def impl_newHeadSearch_n1 (x17620 : List (List Int)) : Option (((List Int) × (List Int))) :=
  (impl_scoreBounds x17620).bind fun (v17675 : List Int) => (mk (((List.length x17620 : Nat) : Int)) (((List.length x17620 : Nat) : Int))).bind fun (v17676 : Nat) => some ((List.replicate v17676 (0 : Int)), v17675)

@[irreducible] def impl_newHeadSearch (x17620 : List (List Int)) : Option ((List Int) × (List Int)) :=
  impl_newHeadSearch_n1 x17620

def impl_headSearch_giveFrom_n1 (R0 : Int → Int → (List (List Int)) → Int → (List Int) → (List Int) → Option (Int × (List Int))) (x17686 : Int) (x17687 : Int) (x17688 : List (List Int)) (x17689 : Int) (x17690 : List Int) (x17691 : List Int) : Option (((List Int) × Int) ⊕ (Int × (List Int))) :=
  (inb x17686 (List.length x17691)).bind fun (v17791 : Nat) => (x17691[v17791]?).bind fun (v17792 : Int) => cond (decide ((IntKind.wrap .i64 (x17687 + v17792)) ≤ x17689)) (some (Sum.inr (x17689, x17690))) (cond (x17686 == (((List.length x17690 : Nat) : Int))) ((impl_TreeOk x17690).bind fun (v17797 : Bool) => cond v17797 (some (Sum.inr (x17687, x17690))) (some (Sum.inr (x17689, x17690)))) ((idx x17688 x17686).bind fun (v17798 : List Int) => some (Sum.inl (v17798, (((List.length v17798 : Nat) : Int))))))

def impl_headSearch_giveFrom_n2 (R0 : Int → Int → (List (List Int)) → Int → (List Int) → (List Int) → Option (Int × (List Int))) (x17686 : Int) (x17687 : Int) (x17798 : List Int) (x17799 : Int) (x17821 : Int) (x17688 : List (List Int)) (x17822 : Int) (x17823 : List Int) (x17691 : List Int) : Option ((Int × Int × (List Int)) ⊕ (Int × (List Int))) :=
  cond (decide (x17821 < x17799)) ((idx x17798 x17821).bind fun (v17836 : Int) => (inb x17686 (List.length x17823)).bind fun (v17837 : Nat) => (R0 (IntKind.wrap .i64 (x17686 + 1)) (IntKind.wrap .i64 (x17687 + v17836)) x17688 x17822 (x17823.set v17837 x17821) x17691).bind fun (v17841 : Int × (List Int)) => some (Sum.inl ((IntKind.wrap .i64 (x17821 + 1)), (v17841.1), (v17841.2)))) (some (Sum.inr (x17822, x17823)))

def impl_headSearch_giveFrom_n3 (R0 : Int → Int → (List (List Int)) → Int → (List Int) → (List Int) → Option (Int × (List Int))) (x17686 : Int) (x17687 : Int) (x17798 : List Int) (x17799 : Int) (x17688 : List (List Int)) (x17689 : Int) (x17690 : List Int) (x17691 : List Int) : Option ((Int × (List Int))) :=
  nloop (fun (s : Int × Int × (List Int)) => ((impl_headSearch_giveFrom_n2 R0 x17686 x17687 x17798 x17799 s.1 x17688 s.2.1 s.2.2 x17691).map (Sum.elim (fun (t : Int × Int × (List Int)) => Sum.inl (t.1, t.2.1, t.2.2)) (fun (t : Int × (List Int)) => Sum.inr t)) : Option ((Int × Int × (List Int)) ⊕ ((Int × (List Int)))))) LL (0, x17689, x17690)

def impl_headSearch_giveFrom_n4 (R0 : Int → Int → (List (List Int)) → Int → (List Int) → (List Int) → Option (Int × (List Int))) (x17686 : Int) (x17687 : Int) (x17798 : List Int) (x17799 : Int) (x17688 : List (List Int)) (x17689 : Int) (x17690 : List Int) (x17691 : List Int) : Option ((Int × (List Int))) :=
  (impl_headSearch_giveFrom_n3 R0 x17686 x17687 x17798 x17799 x17688 x17689 x17690 x17691).map (fun (t : Int × (List Int)) => (t.1, t.2))

def impl_headSearch_giveFrom_n5 (R0 : Int → Int → (List (List Int)) → Int → (List Int) → (List Int) → Option (Int × (List Int))) (x17686 : Int) (x17687 : Int) (x17688 : List (List Int)) (x17689 : Int) (x17690 : List Int) (x17691 : List Int) : Option ((Int × (List Int)) ⊕ (Int × (List Int))) :=
  (impl_headSearch_giveFrom_n1 R0 x17686 x17687 x17688 x17689 x17690 x17691).bind (Sum.elim (fun (t : (List Int) × Int) => (impl_headSearch_giveFrom_n4 R0 x17686 x17687 t.1 t.2 x17688 x17689 x17690 x17691).map (fun (u : Int × (List Int)) => (Sum.inl (u.1, u.2)))) (fun e => some ((fun (t : Int × (List Int)) => (Sum.inr t)) e)))

def impl_headSearch_giveFrom_one (R0 : Int → Int → (List (List Int)) → Int → (List Int) → (List Int) → Option (Int × (List Int))) (x17686 : Int) (x17687 : Int) (x17688 : List (List Int)) (x17689 : Int) (x17690 : List Int) (x17691 : List Int) : Option (Int × (List Int)) :=
  (impl_headSearch_giveFrom_n5 R0 x17686 x17687 x17688 x17689 x17690 x17691).map (Sum.elim (fun (t : Int × (List Int)) => (t.1, t.2)) (fun (t : Int × (List Int)) => t))

def impl_headSearch_giveFrom_knot : Nat → (Int → Int → (List (List Int)) → Int → (List Int) → (List Int) → Option (Int × (List Int)))
  | 0 => (fun _ _ _ _ _ _ => none)
  | n + 1 => (fun y0 y1 y2 y3 y4 y5 => impl_headSearch_giveFrom_one (impl_headSearch_giveFrom_knot n) y0 y1 y2 y3 y4 y5)

def impl_headSearch_giveFrom_fuel (n : Nat) : Int → Int → (List (List Int)) → Int → (List Int) → (List Int) → Option (Int × (List Int)) := (impl_headSearch_giveFrom_knot n)

@[irreducible] def impl_headSearch_giveFrom (x17686 : Int) (x17687 : Int) (x17688 : List (List Int)) (x17689 : Int) (x17690 : List Int) (x17691 : List Int) : Option (Int × (List Int)) := impl_headSearch_giveFrom_fuel RR x17686 x17687 x17688 x17689 x17690 x17691

def impl_BestScore_n1 (x17615 : List (List Int)) : Option (Int) :=
  (impl_ScoresOk x17615).bind fun (v17858 : Bool) => cond (!v17858) (some (-1)) ((impl_newHeadSearch x17615).bind fun (v17860 : (List Int) × (List Int)) => (impl_headSearch_giveFrom 0 0 x17615 (-1) (v17860.1) (v17860.2)).bind fun (v17863 : Int × (List Int)) => some (v17863.1))

@[irreducible] def impl_BestScore (x17615 : List (List Int)) : Option (Int) :=
  impl_BestScore_n1 x17615

def spec_TreeOk_n1 (x17886 : List Int) : Option (Int ⊕ Bool) :=
  (spec_l1In (((List.length x17886 : Nat) : Int)) 1 8).bind fun (v17892 : Bool) => cond (!v17892) (some (Sum.inr false)) (some (Sum.inl (((List.length x17886 : Nat) : Int))))

def spec_TreeOk_n2 : Option (Unit) :=
  some ()

def spec_TreeOk_n3 (x17891 : Int) (x17958 : Int) (x17959 : Int) : Option (Unit ⊕ Int) :=
  cond (decide (x17959 < x17891)) (some (Sum.inl ())) (some (Sum.inr x17958))

def spec_TreeOk_n4 (x17886 : List Int) (x17891 : Int) (x17958 : Int) (x17959 : Int) : Option ((Int × Int) ⊕ Bool) :=
  (idx x17886 x17959).bind fun (v17976 : Int) => (spec_l1In v17976 0 x17891).bind fun (v17977 : Bool) => cond (!v17977) (some (Sum.inr false)) ((idx x17886 x17959).bind fun (v17979 : Int) => cond (v17979 == (IntKind.wrap .i64 (x17959 + 1))) (some (Sum.inr false)) ((idx x17886 x17959).bind fun (v17982 : Int) => cond (v17982 == 0) (some (Sum.inl ((IntKind.wrap .i64 (x17958 + 1)), (IntKind.wrap .i64 (x17959 + 1))))) (some (Sum.inl (x17958, (IntKind.wrap .i64 (x17959 + 1)))))))

def spec_TreeOk_n5 : Option (Unit) :=
  some ()

def spec_TreeOk_n6 (x17886 : List Int) (x17891 : Int) (x18004 : Int) (x18005 : Int) : Option ((Int × Int) ⊕ Bool ⊕ Int) :=
  cond (decide (x18004 > 0)) (cond (decide (x18005 < x17891)) ((idx x17886 (IntKind.wrap .i64 (x18004 - 1))).bind fun (v18017 : Int) => (spec_l1In v18017 0 x17891).bind fun (v18018 : Bool) => cond (!v18018) (some (Sum.inr (Sum.inl false))) (some (Sum.inl (v18017, (IntKind.wrap .i64 (x18005 + 1)))))) (some (Sum.inr (Sum.inr x18004)))) (some (Sum.inr (Sum.inr x18004)))

def spec_TreeOk_n7 (x17886 : List Int) (x17891 : Int) (x17988 : Int) : Option (Bool ⊕ Int) :=
  nloop (fun (s : Int × Int) => ((spec_TreeOk_n6 x17886 x17891 s.1 s.2).map (Sum.elim (fun (t : Int × Int) => Sum.inl (t.1, t.2)) (Sum.elim (fun (t : Bool) => Sum.inr (Sum.inl t)) (fun (t : Int) => Sum.inr (Sum.inr t)))) : Option ((Int × Int) ⊕ (Bool ⊕ Int)))) LL (x17988, 0)

def spec_TreeOk_n8 (x17886 : List Int) (x17891 : Int) (x17988 : Int) : Option (Int ⊕ Bool) :=
  (spec_TreeOk_n7 x17886 x17891 x17988).map (Sum.elim (fun (t : Bool) => (Sum.inr t)) (fun (t : Int) => (Sum.inl t)))

def spec_TreeOk_n9 (x17886 : List Int) (x17891 : Int) (x17988 : Int) : Option (Int ⊕ Bool) :=
  (spec_TreeOk_n5).bind (fun (t : Unit) => spec_TreeOk_n8 x17886 x17891 x17988)

def spec_TreeOk_n10 (x18004 : Int) : Option (Unit ⊕ Bool) :=
  cond (decide (x18004 > 0)) (some (Sum.inr false)) (some (Sum.inl ()))

def spec_TreeOk_n11 (x17886 : List Int) (x17891 : Int) (x17988 : Int) : Option (Unit ⊕ Bool) :=
  (spec_TreeOk_n9 x17886 x17891 x17988).bind (Sum.elim (fun (t : Int) => spec_TreeOk_n10 t) (fun e => some ((fun (t : Bool) => (Sum.inr t)) e)))

def spec_TreeOk_n12 (x17886 : List Int) (x17891 : Int) (x17958 : Int) (x17959 : Int) : Option (Int ⊕ Bool) :=
  (spec_TreeOk_n4 x17886 x17891 x17958 x17959).bind (Sum.elim (fun (t : Int × Int) => (spec_TreeOk_n11 x17886 x17891 t.2).map (Sum.elim (fun (u : Unit) => (Sum.inl t.1)) (fun (u : Bool) => (Sum.inr u)))) (fun e => some ((fun (t : Bool) => (Sum.inr t)) e)))

def spec_TreeOk_n13 (x17886 : List Int) (x17891 : Int) (x17958 : Int) (x17959 : Int) : Option (Int ⊕ Bool) :=
  (spec_TreeOk_n12 x17886 x17891 x17958 x17959).map (Sum.elim (fun (t : Int) => (Sum.inl t)) (fun (t : Bool) => (Sum.inr t)))

def spec_TreeOk_n14 (x17959 : Int) : Option (Int) :=
  some (IntKind.wrap .i64 (x17959 + 1))

def spec_TreeOk_n15 (x17886 : List Int) (x17891 : Int) (x17958 : Int) (x17959 : Int) : Option ((Int × Int) ⊕ Bool) :=
  (spec_TreeOk_n13 x17886 x17891 x17958 x17959).bind (Sum.elim (fun (t : Int) => (spec_TreeOk_n14 x17959).map (fun (u : Int) => (Sum.inl (t, u)))) (fun e => some ((fun (t : Bool) => (Sum.inr t)) e)))

def spec_TreeOk_n16 (x17886 : List Int) (x17891 : Int) (x17958 : Int) (x17959 : Int) : Option ((Int × Int) ⊕ Bool ⊕ Int) :=
  (spec_TreeOk_n3 x17891 x17958 x17959).bind (Sum.elim (fun (t : Unit) => (spec_TreeOk_n15 x17886 x17891 x17958 x17959).map (Sum.elim (fun (t : Int × Int) => (Sum.inl (t.1, t.2))) (fun (t : Bool) => (Sum.inr (Sum.inl t))))) (fun e => some ((fun (t : Int) => (Sum.inr (Sum.inr t))) e)))

def spec_TreeOk_n17 (x17886 : List Int) (x17891 : Int) : Option (Bool ⊕ Int) :=
  nloop (fun (s : Int × Int) => ((spec_TreeOk_n16 x17886 x17891 s.1 s.2).map (Sum.elim (fun (t : Int × Int) => Sum.inl (t.1, t.2)) (Sum.elim (fun (t : Bool) => Sum.inr (Sum.inl t)) (fun (t : Int) => Sum.inr (Sum.inr t)))) : Option ((Int × Int) ⊕ (Bool ⊕ Int)))) LL (0, 0)

def spec_TreeOk_n18 (x17886 : List Int) (x17891 : Int) : Option (Int ⊕ Bool) :=
  (spec_TreeOk_n17 x17886 x17891).map (Sum.elim (fun (t : Bool) => (Sum.inr t)) (fun (t : Int) => (Sum.inl t)))

def spec_TreeOk_n19 (x17886 : List Int) (x17891 : Int) : Option (Int ⊕ Bool) :=
  (spec_TreeOk_n2).bind (fun (t : Unit) => spec_TreeOk_n18 x17886 x17891)

def spec_TreeOk_n20 (x17958 : Int) : Option (Bool) :=
  some (x17958 == 1)

def spec_TreeOk_n21 (x17886 : List Int) (x17891 : Int) : Option (Bool) :=
  (spec_TreeOk_n19 x17886 x17891).bind (Sum.elim (fun (t : Int) => spec_TreeOk_n20 t) (fun e => some ((fun (t : Bool) => t) e)))

def spec_TreeOk_n22 (x17886 : List Int) : Option (Bool) :=
  (spec_TreeOk_n1 x17886).bind (Sum.elim (fun (t : Int) => spec_TreeOk_n21 x17886 t) (fun e => some ((fun (t : Bool) => t) e)))

@[irreducible] def spec_TreeOk (x17886 : List Int) : Option (Bool) :=
  spec_TreeOk_n22 x17886

def spec_ScoreOf_n1 (x17882 : List (List Int)) (x17883 : List Int) : Option (Unit ⊕ Int) :=
  (spec_ScoresOk x17882).bind fun (v18032 : Bool) => cond (!v18032) (some (Sum.inr (-1))) ((spec_TreeOk x17883).bind fun (v18034 : Bool) => cond (!v18034) (some (Sum.inr (-1))) (cond ((((List.length x17883 : Nat) : Int)) != (((List.length x17882 : Nat) : Int))) (some (Sum.inr (-1))) (some (Sum.inl ()))))

def spec_ScoreOf_n2 : Option (Unit) :=
  some ()

def spec_ScoreOf_n3 (x17882 : List (List Int)) (x17883 : List Int) (x18054 : Int) (x18055 : Int) : Option ((Int × Int) ⊕ Int) :=
  cond (decide (x18055 < (((List.length x17883 : Nat) : Int)))) ((idx x17882 x18055).bind fun (v18066 : List Int) => (idx x17883 x18055).bind fun (v18067 : Int) => (idx v18066 v18067).bind fun (v18068 : Int) => some (Sum.inl ((IntKind.wrap .i64 (x18054 + v18068)), (IntKind.wrap .i64 (x18055 + 1))))) (some (Sum.inr x18054))

def spec_ScoreOf_n4 (x17882 : List (List Int)) (x17883 : List Int) : Option (Int) :=
  nloop (fun (s : Int × Int) => ((spec_ScoreOf_n3 x17882 x17883 s.1 s.2).map (Sum.elim (fun (t : Int × Int) => Sum.inl (t.1, t.2)) (fun (t : Int) => Sum.inr t)) : Option ((Int × Int) ⊕ (Int)))) LL (0, 0)

def spec_ScoreOf_n5 (x17882 : List (List Int)) (x17883 : List Int) : Option (Int) :=
  (spec_ScoreOf_n4 x17882 x17883).map (fun (t : Int) => t)

def spec_ScoreOf_n6 (x17882 : List (List Int)) (x17883 : List Int) : Option (Int) :=
  (spec_ScoreOf_n2).bind (fun (t : Unit) => spec_ScoreOf_n5 x17882 x17883)

def spec_ScoreOf_n7 (x18054 : Int) : Option (Int) :=
  some x18054

def spec_ScoreOf_n8 (x17882 : List (List Int)) (x17883 : List Int) : Option (Int) :=
  (spec_ScoreOf_n6 x17882 x17883).bind (fun (t : Int) => spec_ScoreOf_n7 t)

def spec_ScoreOf_n9 (x17882 : List (List Int)) (x17883 : List Int) : Option (Int) :=
  (spec_ScoreOf_n1 x17882 x17883).bind (Sum.elim (fun (t : Unit) => spec_ScoreOf_n8 x17882 x17883) (fun e => some ((fun (t : Int) => t) e)))

@[irreducible] def spec_ScoreOf (x17882 : List (List Int)) (x17883 : List Int) : Option (Int) :=
  spec_ScoreOf_n9 x17882 x17883

def spec_l9Best_n1 (R0 : (List (List Int)) → (List Int) → Option Int) (x17877 : List (List Int)) (x17878 : List Int) : Option (Unit ⊕ Int) :=
  cond ((((List.length x17878 : Nat) : Int)) == (((List.length x17877 : Nat) : Int))) ((spec_ScoreOf x17877 x17878).bind fun (v18140 : Int) => some (Sum.inr v18140)) (some (Sum.inl ()))

def spec_l9Best_n2 (R0 : (List (List Int)) → (List Int) → Option Int) : Option (Unit) :=
  some ()

def spec_l9Best_n3 (R0 : (List (List Int)) → (List Int) → Option Int) (x17877 : List (List Int)) (x17878 : List Int) (x18175 : Int) (x18176 : Int) : Option ((Int × Int) ⊕ Int) :=
  cond (decide (x18176 ≤ (((List.length x17877 : Nat) : Int)))) (cond (x18176 != (IntKind.wrap .i64 ((((List.length x17878 : Nat) : Int)) + 1))) ((room ((List.length ([] : List Int)) + List.length x17878)).bind fun (v18199 : Unit) => (room ((List.length (([] : List Int) ++ x17878)) + List.length ([x18176]))).bind fun (v18203 : Unit) => (R0 x17877 ((([] : List Int) ++ x17878) ++ ([x18176]))).bind fun (v18205 : Int) => some (Sum.inl ((imax x18175 v18205), (IntKind.wrap .i64 (x18176 + 1))))) (some (Sum.inl (x18175, (IntKind.wrap .i64 (x18176 + 1)))))) (some (Sum.inr x18175))

def spec_l9Best_n4 (R0 : (List (List Int)) → (List Int) → Option Int) (x17877 : List (List Int)) (x17878 : List Int) : Option (Int) :=
  nloop (fun (s : Int × Int) => ((spec_l9Best_n3 R0 x17877 x17878 s.1 s.2).map (Sum.elim (fun (t : Int × Int) => Sum.inl (t.1, t.2)) (fun (t : Int) => Sum.inr t)) : Option ((Int × Int) ⊕ (Int)))) LL ((-1), 0)

def spec_l9Best_n5 (R0 : (List (List Int)) → (List Int) → Option Int) (x17877 : List (List Int)) (x17878 : List Int) : Option (Int) :=
  (spec_l9Best_n4 R0 x17877 x17878).map (fun (t : Int) => t)

def spec_l9Best_n6 (R0 : (List (List Int)) → (List Int) → Option Int) (x17877 : List (List Int)) (x17878 : List Int) : Option (Int) :=
  (spec_l9Best_n2 R0).bind (fun (t : Unit) => spec_l9Best_n5 R0 x17877 x17878)

def spec_l9Best_n7 (R0 : (List (List Int)) → (List Int) → Option Int) (x18175 : Int) : Option (Int) :=
  some x18175

def spec_l9Best_n8 (R0 : (List (List Int)) → (List Int) → Option Int) (x17877 : List (List Int)) (x17878 : List Int) : Option (Int) :=
  (spec_l9Best_n6 R0 x17877 x17878).bind (fun (t : Int) => spec_l9Best_n7 R0 t)

def spec_l9Best_n9 (R0 : (List (List Int)) → (List Int) → Option Int) (x17877 : List (List Int)) (x17878 : List Int) : Option (Int) :=
  (spec_l9Best_n1 R0 x17877 x17878).bind (Sum.elim (fun (t : Unit) => spec_l9Best_n8 R0 x17877 x17878) (fun e => some ((fun (t : Int) => t) e)))

def spec_l9Best_one (R0 : (List (List Int)) → (List Int) → Option Int) (x17877 : List (List Int)) (x17878 : List Int) : Option (Int) :=
  spec_l9Best_n9 R0 x17877 x17878

def spec_l9Best_knot : Nat → ((List (List Int)) → (List Int) → Option Int)
  | 0 => (fun _ _ => none)
  | n + 1 => (fun y0 y1 => spec_l9Best_one (spec_l9Best_knot n) y0 y1)

def spec_l9Best_fuel (n : Nat) : (List (List Int)) → (List Int) → Option Int := (spec_l9Best_knot n)

@[irreducible] def spec_l9Best (x17877 : List (List Int)) (x17878 : List Int) : Option (Int) := spec_l9Best_fuel RR x17877 x17878

def spec_BestScore_n1 (x17872 : List (List Int)) : Option (Int) :=
  (spec_ScoresOk x17872).bind fun (v18213 : Bool) => cond (!v18213) (some (-1)) ((spec_l9Best x17872 ([] : List Int)).bind fun (v18215 : Int) => some v18215)

@[irreducible] def spec_BestScore (x17872 : List (List Int)) : Option (Int) :=
  spec_BestScore_n1 x17872

def laws_szIntS_n1 (x20454 : List Int) (x20455 : Int) : Option (Int) :=
  cond (decide ((IntKind.wrap .i64 (x20455 - (((List.length x20454 : Nat) : Int)))) < 0)) (some (-1)) (some (IntKind.wrap .i64 (x20455 - (((List.length x20454 : Nat) : Int)))))

@[irreducible] def laws_szIntS (x20454 : List Int) (x20455 : Int) : Option (Int) :=
  laws_szIntS_n1 x20454 x20455

def laws_szIntSS_n1 (x20442 : List (List Int)) (x20443 : Int) : Option (Int ⊕ Int) :=
  cond (decide ((IntKind.wrap .i64 (x20443 - (((List.length x20442 : Nat) : Int)))) < 0)) (some (Sum.inr (-1))) (some (Sum.inl (IntKind.wrap .i64 (x20443 - (((List.length x20442 : Nat) : Int))))))

def laws_szIntSS_n2 : Option (Unit) :=
  some ()

def laws_szIntSS_n3 (x20442 : List (List Int)) (x20476 : Int) (x20477 : Int) : Option ((Int × Int) ⊕ Int ⊕ Int) :=
  cond (decide (x20477 < (((List.length x20442 : Nat) : Int)))) ((idx x20442 x20477).bind fun (v20487 : List Int) => (laws_szIntS v20487 x20476).bind fun (v20488 : Int) => cond (decide (v20488 < 0)) (some (Sum.inr (Sum.inl (-1)))) (some (Sum.inl (v20488, (IntKind.wrap .i64 (x20477 + 1)))))) (some (Sum.inr (Sum.inr x20476)))

def laws_szIntSS_n4 (x20442 : List (List Int)) (x20447 : Int) : Option (Int ⊕ Int) :=
  nloop (fun (s : Int × Int) => ((laws_szIntSS_n3 x20442 s.1 s.2).map (Sum.elim (fun (t : Int × Int) => Sum.inl (t.1, t.2)) (Sum.elim (fun (t : Int) => Sum.inr (Sum.inl t)) (fun (t : Int) => Sum.inr (Sum.inr t)))) : Option ((Int × Int) ⊕ (Int ⊕ Int)))) LL (x20447, 0)

def laws_szIntSS_n5 (x20442 : List (List Int)) (x20447 : Int) : Option (Int ⊕ Int) :=
  (laws_szIntSS_n4 x20442 x20447).map (Sum.elim (fun (t : Int) => (Sum.inr t)) (fun (t : Int) => (Sum.inl t)))

def laws_szIntSS_n6 (x20442 : List (List Int)) (x20447 : Int) : Option (Int ⊕ Int) :=
  (laws_szIntSS_n2).bind (fun (t : Unit) => laws_szIntSS_n5 x20442 x20447)

def laws_szIntSS_n7 (x20476 : Int) : Option (Int) :=
  some x20476

def laws_szIntSS_n8 (x20442 : List (List Int)) (x20447 : Int) : Option (Int) :=
  (laws_szIntSS_n6 x20442 x20447).bind (Sum.elim (fun (t : Int) => laws_szIntSS_n7 t) (fun e => some ((fun (t : Int) => t) e)))

def laws_szIntSS_n9 (x20442 : List (List Int)) (x20443 : Int) : Option (Int) :=
  (laws_szIntSS_n1 x20442 x20443).bind (Sum.elim (fun (t : Int) => laws_szIntSS_n8 x20442 t) (fun e => some ((fun (t : Int) => t) e)))

@[irreducible] def laws_szIntSS (x20442 : List (List Int)) (x20443 : Int) : Option (Int) :=
  laws_szIntSS_n9 x20442 x20443

def laws_toIntS_n1 (x20506 : List Int) : Option (((List Int))) :=
  (mk (((List.length x20506 : Nat) : Int)) (((List.length x20506 : Nat) : Int))).bind fun (v20508 : Nat) => some (List.replicate v20508 (0 : Int))

def laws_toIntS_n2 : Option (Unit) :=
  some ()

def laws_toIntS_n3 (x20506 : List Int) (x20523 : Int) (x20524 : List Int) : Option ((Int × (List Int)) ⊕ ((List Int))) :=
  cond (decide (x20523 < (((List.length x20506 : Nat) : Int)))) ((idx x20506 x20523).bind fun (v20534 : Int) => (inb x20523 (List.length x20524)).bind fun (v20535 : Nat) => some (Sum.inl ((IntKind.wrap .i64 (x20523 + 1)), (x20524.set v20535 v20534)))) (some (Sum.inr x20524))

def laws_toIntS_n4 (x20506 : List Int) (x20509 : List Int) : Option (((List Int))) :=
  nloop (fun (s : Int × (List Int)) => ((laws_toIntS_n3 x20506 s.1 s.2).map (Sum.elim (fun (t : Int × (List Int)) => Sum.inl (t.1, t.2)) (fun (t : (List Int)) => Sum.inr t)) : Option ((Int × (List Int)) ⊕ (((List Int)))))) LL (0, x20509)

def laws_toIntS_n5 (x20506 : List Int) (x20509 : List Int) : Option (((List Int))) :=
  (laws_toIntS_n4 x20506 x20509).map (fun (t : (List Int)) => t)

def laws_toIntS_n6 (x20506 : List Int) (x20509 : List Int) : Option (((List Int))) :=
  (laws_toIntS_n2).bind (fun (t : Unit) => laws_toIntS_n5 x20506 x20509)

def laws_toIntS_n7 (x20524 : List Int) : Option (((List Int))) :=
  some x20524

def laws_toIntS_n8 (x20506 : List Int) (x20509 : List Int) : Option (((List Int))) :=
  (laws_toIntS_n6 x20506 x20509).bind (fun (t : (List Int)) => laws_toIntS_n7 t)

def laws_toIntS_n9 (x20506 : List Int) : Option (((List Int))) :=
  (laws_toIntS_n1 x20506).bind (fun (t : (List Int)) => laws_toIntS_n8 x20506 t)

@[irreducible] def laws_toIntS (x20506 : List Int) : Option ((List Int)) :=
  laws_toIntS_n9 x20506

def laws_toIntSS_n1 (x20497 : List (List Int)) : Option (((List (List Int)))) :=
  (mk (((List.length x20497 : Nat) : Int)) (((List.length x20497 : Nat) : Int))).bind fun (v20499 : Nat) => some (List.replicate v20499 [])

def laws_toIntSS_n2 : Option (Unit) :=
  some ()

def laws_toIntSS_n3 (x20497 : List (List Int)) (x20550 : Int) (x20551 : List (List Int)) : Option ((Int × (List (List Int))) ⊕ ((List (List Int)))) :=
  cond (decide (x20550 < (((List.length x20497 : Nat) : Int)))) ((idx x20497 x20550).bind fun (v20563 : List Int) => (laws_toIntS v20563).bind fun (v20564 : List Int) => (inb x20550 (List.length x20551)).bind fun (v20565 : Nat) => (within v20565 (List.length x20551)).bind fun (v20566 : Unit) => some (Sum.inl ((IntKind.wrap .i64 (x20550 + 1)), ((x20551).set v20565 v20564)))) (some (Sum.inr x20551))

def laws_toIntSS_n4 (x20497 : List (List Int)) (x20500 : List (List Int)) : Option (((List (List Int)))) :=
  nloop (fun (s : Int × (List (List Int))) => ((laws_toIntSS_n3 x20497 s.1 s.2).map (Sum.elim (fun (t : Int × (List (List Int))) => Sum.inl (t.1, t.2)) (fun (t : (List (List Int))) => Sum.inr t)) : Option ((Int × (List (List Int))) ⊕ (((List (List Int))))))) LL (0, x20500)

def laws_toIntSS_n5 (x20497 : List (List Int)) (x20500 : List (List Int)) : Option (((List (List Int)))) :=
  (laws_toIntSS_n4 x20497 x20500).map (fun (t : (List (List Int))) => t)

def laws_toIntSS_n6 (x20497 : List (List Int)) (x20500 : List (List Int)) : Option (((List (List Int)))) :=
  (laws_toIntSS_n2).bind (fun (t : Unit) => laws_toIntSS_n5 x20497 x20500)

def laws_toIntSS_n7 (x20551 : List (List Int)) : Option (((List (List Int)))) :=
  some x20551

def laws_toIntSS_n8 (x20497 : List (List Int)) (x20500 : List (List Int)) : Option (((List (List Int)))) :=
  (laws_toIntSS_n6 x20497 x20500).bind (fun (t : (List (List Int))) => laws_toIntSS_n7 t)

def laws_toIntSS_n9 (x20497 : List (List Int)) : Option (((List (List Int)))) :=
  (laws_toIntSS_n1 x20497).bind (fun (t : (List (List Int))) => laws_toIntSS_n8 x20497 t)

@[irreducible] def laws_toIntSS (x20497 : List (List Int)) : Option ((List (List Int))) :=
  laws_toIntSS_n9 x20497

def laws_eqIntS_n1 (x20608 : List Int) (x20609 : List Int) : Option (Unit ⊕ Bool) :=
  cond ((((List.length x20608 : Nat) : Int)) != (((List.length x20609 : Nat) : Int))) (some (Sum.inr false)) (some (Sum.inl ()))

def laws_eqIntS_n2 : Option (Unit) :=
  some ()

def laws_eqIntS_n3 (x20608 : List Int) (x20609 : List Int) (x20626 : Int) : Option (Int ⊕ Bool ⊕ Unit) :=
  cond (decide (x20626 < (((List.length x20608 : Nat) : Int)))) ((idx x20608 x20626).bind fun (v20636 : Int) => (idx x20609 x20626).bind fun (v20637 : Int) => cond (v20636 != v20637) (some (Sum.inr (Sum.inl false))) (some (Sum.inl (IntKind.wrap .i64 (x20626 + 1))))) (some (Sum.inr (Sum.inr ())))

def laws_eqIntS_n4 (x20608 : List Int) (x20609 : List Int) : Option (Bool ⊕ Unit) :=
  nloop (fun (s : Int) => ((laws_eqIntS_n3 x20608 x20609 s).map (Sum.elim (fun (t : Int) => Sum.inl t) (Sum.elim (fun (t : Bool) => Sum.inr (Sum.inl t)) (fun (t : Unit) => Sum.inr (Sum.inr t)))) : Option ((Int) ⊕ (Bool ⊕ Unit)))) LL 0

def laws_eqIntS_n5 (x20608 : List Int) (x20609 : List Int) : Option (Unit ⊕ Bool) :=
  (laws_eqIntS_n4 x20608 x20609).map (Sum.elim (fun (t : Bool) => (Sum.inr t)) (fun (t : Unit) => (Sum.inl ())))

def laws_eqIntS_n6 (x20608 : List Int) (x20609 : List Int) : Option (Unit ⊕ Bool) :=
  (laws_eqIntS_n2).bind (fun (t : Unit) => laws_eqIntS_n5 x20608 x20609)

def laws_eqIntS_n7 : Option (Bool) :=
  some true

def laws_eqIntS_n8 (x20608 : List Int) (x20609 : List Int) : Option (Bool) :=
  (laws_eqIntS_n6 x20608 x20609).bind (Sum.elim (fun (t : Unit) => laws_eqIntS_n7) (fun e => some ((fun (t : Bool) => t) e)))

def laws_eqIntS_n9 (x20608 : List Int) (x20609 : List Int) : Option (Bool) :=
  (laws_eqIntS_n1 x20608 x20609).bind (Sum.elim (fun (t : Unit) => laws_eqIntS_n8 x20608 x20609) (fun e => some ((fun (t : Bool) => t) e)))

@[irreducible] def laws_eqIntS (x20608 : List Int) (x20609 : List Int) : Option (Bool) :=
  laws_eqIntS_n9 x20608 x20609

def laws_eqIntSS_n1 (x20597 : List (List Int)) (x20598 : List (List Int)) : Option (Unit ⊕ Bool) :=
  cond ((((List.length x20597 : Nat) : Int)) != (((List.length x20598 : Nat) : Int))) (some (Sum.inr false)) (some (Sum.inl ()))

def laws_eqIntSS_n2 : Option (Unit) :=
  some ()

def laws_eqIntSS_n3 (x20597 : List (List Int)) (x20598 : List (List Int)) (x20650 : Int) : Option (Int ⊕ Bool ⊕ Unit) :=
  cond (decide (x20650 < (((List.length x20597 : Nat) : Int)))) ((idx x20597 x20650).bind fun (v20661 : List Int) => (idx x20598 x20650).bind fun (v20662 : List Int) => (laws_eqIntS v20661 v20662).bind fun (v20663 : Bool) => cond (!v20663) (some (Sum.inr (Sum.inl false))) (some (Sum.inl (IntKind.wrap .i64 (x20650 + 1))))) (some (Sum.inr (Sum.inr ())))

def laws_eqIntSS_n4 (x20597 : List (List Int)) (x20598 : List (List Int)) : Option (Bool ⊕ Unit) :=
  nloop (fun (s : Int) => ((laws_eqIntSS_n3 x20597 x20598 s).map (Sum.elim (fun (t : Int) => Sum.inl t) (Sum.elim (fun (t : Bool) => Sum.inr (Sum.inl t)) (fun (t : Unit) => Sum.inr (Sum.inr t)))) : Option ((Int) ⊕ (Bool ⊕ Unit)))) LL 0

def laws_eqIntSS_n5 (x20597 : List (List Int)) (x20598 : List (List Int)) : Option (Unit ⊕ Bool) :=
  (laws_eqIntSS_n4 x20597 x20598).map (Sum.elim (fun (t : Bool) => (Sum.inr t)) (fun (t : Unit) => (Sum.inl ())))

def laws_eqIntSS_n6 (x20597 : List (List Int)) (x20598 : List (List Int)) : Option (Unit ⊕ Bool) :=
  (laws_eqIntSS_n2).bind (fun (t : Unit) => laws_eqIntSS_n5 x20597 x20598)

def laws_eqIntSS_n7 : Option (Bool) :=
  some true

def laws_eqIntSS_n8 (x20597 : List (List Int)) (x20598 : List (List Int)) : Option (Bool) :=
  (laws_eqIntSS_n6 x20597 x20598).bind (Sum.elim (fun (t : Unit) => laws_eqIntSS_n7) (fun e => some ((fun (t : Bool) => t) e)))

def laws_eqIntSS_n9 (x20597 : List (List Int)) (x20598 : List (List Int)) : Option (Bool) :=
  (laws_eqIntSS_n1 x20597 x20598).bind (Sum.elim (fun (t : Unit) => laws_eqIntSS_n8 x20597 x20598) (fun e => some ((fun (t : Bool) => t) e)))

@[irreducible] def laws_eqIntSS (x20597 : List (List Int)) (x20598 : List (List Int)) : Option (Bool) :=
  laws_eqIntSS_n9 x20597 x20598

def laws_FnExactBestScore_n1 (x20817 : List (List Int)) : Option (Bool) :=
  (laws_szIntSS x20817 1048576).bind fun (v20863 : Int) => cond (decide (v20863 < 0)) (some true) ((laws_toIntSS x20817).bind fun (v20865 : List (List Int)) => (spec_BestScore v20865).bind fun (v20866 : Int) => (laws_toIntSS x20817).bind fun (v20867 : List (List Int)) => (impl_BestScore v20867).bind fun (v20868 : Int) => cond (v20868 != v20866) (some false) ((laws_toIntSS x20817).bind fun (v20870 : List (List Int)) => (laws_eqIntSS v20867 v20870).bind fun (v20871 : Bool) => cond (!v20871) (some false) (some true)))

@[irreducible] def laws_FnExactBestScore (x20817 : List (List Int)) : Option (Bool) :=
  laws_FnExactBestScore_n1 x20817

end Go.Rv
