/-
  Plain functions, written by program for functions of the checked code. Conditions: none.
-/
import Derived.Test.YteafjhhkdekagaaFB
set_option linter.unusedVariables false
namespace Go.Rv
def spec_l1In_n1 (x780 : Int) (x781 : Int) (x782 : Int) : Option (Bool) :=
  cond (decide (x780 ≥ x781)) (some (decide (x780 ≤ x782))) (some false)

@[irreducible] def spec_l1In (x780 : Int) (x781 : Int) (x782 : Int) : Option (Bool) :=
  spec_l1In_n1 x780 x781 x782

def spec_TreeOk_n1 (x776 : List Int) : Option (Int ⊕ Bool) :=
  (spec_l1In (((List.length x776 : Nat) : Int)) 1 8).bind fun (v791 : Bool) => cond (!v791) (some (Sum.inr false)) (some (Sum.inl (((List.length x776 : Nat) : Int))))

def spec_TreeOk_n2 : Option (Unit) :=
  some ()

def spec_TreeOk_n3 (x790 : Int) (x857 : Int) (x858 : Int) : Option (Unit ⊕ Int) :=
  cond (decide (x858 < x790)) (some (Sum.inl ())) (some (Sum.inr x857))

def spec_TreeOk_n4 (x776 : List Int) (x790 : Int) (x857 : Int) (x858 : Int) : Option ((Int × Int) ⊕ Bool) :=
  (idx x776 x858).bind fun (v875 : Int) => (spec_l1In v875 0 x790).bind fun (v876 : Bool) => cond (!v876) (some (Sum.inr false)) ((idx x776 x858).bind fun (v878 : Int) => cond (v878 == (IntKind.wrap .i64 (x858 + 1))) (some (Sum.inr false)) ((idx x776 x858).bind fun (v881 : Int) => cond (v881 == 0) (some (Sum.inl ((IntKind.wrap .i64 (x857 + 1)), (IntKind.wrap .i64 (x858 + 1))))) (some (Sum.inl (x857, (IntKind.wrap .i64 (x858 + 1)))))))

def spec_TreeOk_n5 : Option (Unit) :=
  some ()

def spec_TreeOk_n6 (x776 : List Int) (x790 : Int) (x903 : Int) (x904 : Int) : Option ((Int × Int) ⊕ Bool ⊕ Int) :=
  cond (decide (x903 > 0)) (cond (decide (x904 < x790)) ((idx x776 (IntKind.wrap .i64 (x903 - 1))).bind fun (v916 : Int) => (spec_l1In v916 0 x790).bind fun (v917 : Bool) => cond (!v917) (some (Sum.inr (Sum.inl false))) (some (Sum.inl (v916, (IntKind.wrap .i64 (x904 + 1)))))) (some (Sum.inr (Sum.inr x903)))) (some (Sum.inr (Sum.inr x903)))

def spec_TreeOk_n7 (x776 : List Int) (x790 : Int) (x887 : Int) : Option (Bool ⊕ Int) :=
  nloop (fun (s : Int × Int) => ((spec_TreeOk_n6 x776 x790 s.1 s.2).map (Sum.elim (fun (t : Int × Int) => Sum.inl (t.1, t.2)) (Sum.elim (fun (t : Bool) => Sum.inr (Sum.inl t)) (fun (t : Int) => Sum.inr (Sum.inr t)))) : Option ((Int × Int) ⊕ (Bool ⊕ Int)))) LL (x887, 0)

def spec_TreeOk_n8 (x776 : List Int) (x790 : Int) (x887 : Int) : Option (Int ⊕ Bool) :=
  (spec_TreeOk_n7 x776 x790 x887).map (Sum.elim (fun (t : Bool) => (Sum.inr t)) (fun (t : Int) => (Sum.inl t)))

def spec_TreeOk_n9 (x776 : List Int) (x790 : Int) (x887 : Int) : Option (Int ⊕ Bool) :=
  (spec_TreeOk_n5).bind (fun (t : Unit) => spec_TreeOk_n8 x776 x790 x887)

def spec_TreeOk_n10 (x903 : Int) : Option (Unit ⊕ Bool) :=
  cond (decide (x903 > 0)) (some (Sum.inr false)) (some (Sum.inl ()))

def spec_TreeOk_n11 (x776 : List Int) (x790 : Int) (x887 : Int) : Option (Unit ⊕ Bool) :=
  (spec_TreeOk_n9 x776 x790 x887).bind (Sum.elim (fun (t : Int) => spec_TreeOk_n10 t) (fun e => some ((fun (t : Bool) => (Sum.inr t)) e)))

def spec_TreeOk_n12 (x776 : List Int) (x790 : Int) (x857 : Int) (x858 : Int) : Option (Int ⊕ Bool) :=
  (spec_TreeOk_n4 x776 x790 x857 x858).bind (Sum.elim (fun (t : Int × Int) => (spec_TreeOk_n11 x776 x790 t.2).map (Sum.elim (fun (u : Unit) => (Sum.inl t.1)) (fun (u : Bool) => (Sum.inr u)))) (fun e => some ((fun (t : Bool) => (Sum.inr t)) e)))

def spec_TreeOk_n13 (x776 : List Int) (x790 : Int) (x857 : Int) (x858 : Int) : Option (Int ⊕ Bool) :=
  (spec_TreeOk_n12 x776 x790 x857 x858).map (Sum.elim (fun (t : Int) => (Sum.inl t)) (fun (t : Bool) => (Sum.inr t)))

def spec_TreeOk_n14 (x858 : Int) : Option (Int) :=
  some (IntKind.wrap .i64 (x858 + 1))

def spec_TreeOk_n15 (x776 : List Int) (x790 : Int) (x857 : Int) (x858 : Int) : Option ((Int × Int) ⊕ Bool) :=
  (spec_TreeOk_n13 x776 x790 x857 x858).bind (Sum.elim (fun (t : Int) => (spec_TreeOk_n14 x858).map (fun (u : Int) => (Sum.inl (t, u)))) (fun e => some ((fun (t : Bool) => (Sum.inr t)) e)))

def spec_TreeOk_n16 (x776 : List Int) (x790 : Int) (x857 : Int) (x858 : Int) : Option ((Int × Int) ⊕ Bool ⊕ Int) :=
  (spec_TreeOk_n3 x790 x857 x858).bind (Sum.elim (fun (t : Unit) => (spec_TreeOk_n15 x776 x790 x857 x858).map (Sum.elim (fun (t : Int × Int) => (Sum.inl (t.1, t.2))) (fun (t : Bool) => (Sum.inr (Sum.inl t))))) (fun e => some ((fun (t : Int) => (Sum.inr (Sum.inr t))) e)))

def spec_TreeOk_n17 (x776 : List Int) (x790 : Int) : Option (Bool ⊕ Int) :=
  nloop (fun (s : Int × Int) => ((spec_TreeOk_n16 x776 x790 s.1 s.2).map (Sum.elim (fun (t : Int × Int) => Sum.inl (t.1, t.2)) (Sum.elim (fun (t : Bool) => Sum.inr (Sum.inl t)) (fun (t : Int) => Sum.inr (Sum.inr t)))) : Option ((Int × Int) ⊕ (Bool ⊕ Int)))) LL (0, 0)

def spec_TreeOk_n18 (x776 : List Int) (x790 : Int) : Option (Int ⊕ Bool) :=
  (spec_TreeOk_n17 x776 x790).map (Sum.elim (fun (t : Bool) => (Sum.inr t)) (fun (t : Int) => (Sum.inl t)))

def spec_TreeOk_n19 (x776 : List Int) (x790 : Int) : Option (Int ⊕ Bool) :=
  (spec_TreeOk_n2).bind (fun (t : Unit) => spec_TreeOk_n18 x776 x790)

def spec_TreeOk_n20 (x857 : Int) : Option (Bool) :=
  some (x857 == 1)

def spec_TreeOk_n21 (x776 : List Int) (x790 : Int) : Option (Bool) :=
  (spec_TreeOk_n19 x776 x790).bind (Sum.elim (fun (t : Int) => spec_TreeOk_n20 t) (fun e => some ((fun (t : Bool) => t) e)))

def spec_TreeOk_n22 (x776 : List Int) : Option (Bool) :=
  (spec_TreeOk_n1 x776).bind (Sum.elim (fun (t : Int) => spec_TreeOk_n21 x776 t) (fun e => some ((fun (t : Bool) => t) e)))

@[irreducible] def spec_TreeOk (x776 : List Int) : Option (Bool) :=
  spec_TreeOk_n22 x776

def impl_oneRoot_n1 : Option (Unit) :=
  some ()

def impl_oneRoot_n2 (x1431 : List Int) : Option (Int) :=
  some (((List.length x1431 : Nat) : Int))

def impl_oneRoot_n3 (x1431 : List Int) (x1453 : Int) (x1432 : Int) (x1454 : Int) : Option ((Int × Int) ⊕ Bool ⊕ Int) :=
  cond (decide (x1454 < x1432)) ((idx x1431 x1454).bind fun (v1465 : Int) => cond (decide (v1465 < 0)) (some (Sum.inr (Sum.inl false))) (cond (decide (v1465 > (((List.length x1431 : Nat) : Int)))) (some (Sum.inr (Sum.inl false))) (cond (v1465 == 0) (some (Sum.inl ((IntKind.wrap .i64 (x1453 + 1)), (IntKind.wrap .i64 (x1454 + 1))))) (some (Sum.inl (x1453, (IntKind.wrap .i64 (x1454 + 1)))))))) (some (Sum.inr (Sum.inr x1453)))

def impl_oneRoot_n4 (x1431 : List Int) (x1432 : Int) : Option (Bool ⊕ Int) :=
  nloop (fun (s : Int × Int) => ((impl_oneRoot_n3 x1431 s.1 x1432 s.2).map (Sum.elim (fun (t : Int × Int) => Sum.inl (t.1, t.2)) (Sum.elim (fun (t : Bool) => Sum.inr (Sum.inl t)) (fun (t : Int) => Sum.inr (Sum.inr t)))) : Option ((Int × Int) ⊕ (Bool ⊕ Int)))) LL (0, 0)

def impl_oneRoot_n5 (x1431 : List Int) (x1432 : Int) : Option (Int ⊕ Bool) :=
  (impl_oneRoot_n4 x1431 x1432).map (Sum.elim (fun (t : Bool) => (Sum.inr t)) (fun (t : Int) => (Sum.inl t)))

def impl_oneRoot_n6 (x1431 : List Int) : Option (Int ⊕ Bool) :=
  (impl_oneRoot_n2 x1431).bind (fun (t : Int) => impl_oneRoot_n5 x1431 t)

def impl_oneRoot_n7 (x1453 : Int) : Option (Bool) :=
  some (x1453 == 1)

def impl_oneRoot_n8 (x1431 : List Int) : Option (Bool) :=
  (impl_oneRoot_n6 x1431).bind (Sum.elim (fun (t : Int) => impl_oneRoot_n7 t) (fun e => some ((fun (t : Bool) => t) e)))

def impl_oneRoot_n9 (x1431 : List Int) : Option (Bool) :=
  (impl_oneRoot_n1).bind (fun (t : Unit) => impl_oneRoot_n8 x1431)

@[irreducible] def impl_oneRoot (x1431 : List Int) : Option (Bool) :=
  impl_oneRoot_n9 x1431

def impl_walker_up_n1 (x1487 : List Int) (x1488 : Int) (x1489 : Int) : Option ((Bool × Int × Int)) :=
  (idx x1487 (IntKind.wrap .i64 (x1488 - 1))).bind fun (v1507 : Int) => cond (v1507 == 0) (some (false, x1488, x1489)) (some (true, v1507, (IntKind.wrap .i64 (x1489 + 1))))

@[irreducible] def impl_walker_up (x1487 : List Int) (x1488 : Int) (x1489 : Int) : Option (Bool × Int × Int) :=
  impl_walker_up_n1 x1487 x1488 x1489

def impl_stepsToRoot_n1 : Option (Unit) :=
  some ()

def impl_stepsToRoot_n2 (x1485 : List Int) (x1523 : Int) (x1524 : Int) : Option ((Int × Int) ⊕ (Int × Bool) ⊕ (Int × Int)) :=
  (impl_walker_up x1485 x1523 x1524).bind fun (v1529 : Bool × Int × Int) => cond (v1529.1) (cond (decide ((v1529.2.2) ≥ (((List.length x1485 : Nat) : Int)))) (some (Sum.inr (Sum.inl (0, false)))) (some (Sum.inl ((v1529.2.1), (v1529.2.2))))) (some (Sum.inr (Sum.inr ((v1529.2.1), (v1529.2.2)))))

def impl_stepsToRoot_n3 (x1485 : List Int) (x1486 : Int) : Option ((Int × Bool) ⊕ (Int × Int)) :=
  nloop (fun (s : Int × Int) => ((impl_stepsToRoot_n2 x1485 s.1 s.2).map (Sum.elim (fun (t : Int × Int) => Sum.inl (t.1, t.2)) (Sum.elim (fun (t : Int × Bool) => Sum.inr (Sum.inl t)) (fun (t : Int × Int) => Sum.inr (Sum.inr t)))) : Option ((Int × Int) ⊕ ((Int × Bool) ⊕ (Int × Int))))) LL (x1486, 0)

def impl_stepsToRoot_n4 (x1485 : List Int) (x1486 : Int) : Option ((Int × Int) ⊕ (Int × Bool)) :=
  (impl_stepsToRoot_n3 x1485 x1486).map (Sum.elim (fun (t : Int × Bool) => (Sum.inr t)) (fun (t : Int × Int) => (Sum.inl (t.1, t.2))))

def impl_stepsToRoot_n5 (x1532 : Int) : Option ((Int × Bool)) :=
  some (x1532, true)

def impl_stepsToRoot_n6 (x1485 : List Int) (x1486 : Int) : Option ((Int × Bool)) :=
  (impl_stepsToRoot_n4 x1485 x1486).bind (Sum.elim (fun (t : Int × Int) => impl_stepsToRoot_n5 t.2) (fun e => some ((fun (t : Int × Bool) => t) e)))

def impl_stepsToRoot_n7 (x1485 : List Int) (x1486 : Int) : Option ((Int × Bool)) :=
  (impl_stepsToRoot_n1).bind (fun (t : Unit) => impl_stepsToRoot_n6 x1485 x1486)

@[irreducible] def impl_stepsToRoot (x1485 : List Int) (x1486 : Int) : Option (Int × Bool) :=
  impl_stepsToRoot_n7 x1485 x1486

def impl_TreeOk_n1 (x1426 : List Int) : Option (Unit ⊕ Bool) :=
  cond (decide ((((List.length x1426 : Nat) : Int)) < 1)) (some (Sum.inr false)) (cond (decide ((((List.length x1426 : Nat) : Int)) > 8)) (some (Sum.inr false)) ((impl_oneRoot x1426).bind fun (v1478 : Bool) => cond (!v1478) (some (Sum.inr false)) (some (Sum.inl ()))))

def impl_TreeOk_n2 (x1426 : List Int) : Option (Int) :=
  some (((List.length x1426 : Nat) : Int))

def impl_TreeOk_n3 (x1426 : List Int) (x1480 : Int) (x1548 : Int) : Option (Int ⊕ Bool ⊕ Unit) :=
  cond (decide (x1548 < x1480)) ((impl_stepsToRoot x1426 (IntKind.wrap .i64 (x1548 + 1))).bind fun (v1559 : Int × Bool) => cond (!(v1559.2)) (some (Sum.inr (Sum.inl false))) (some (Sum.inl (IntKind.wrap .i64 (x1548 + 1))))) (some (Sum.inr (Sum.inr ())))

def impl_TreeOk_n4 (x1426 : List Int) (x1480 : Int) : Option (Bool ⊕ Unit) :=
  nloop (fun (s : Int) => ((impl_TreeOk_n3 x1426 x1480 s).map (Sum.elim (fun (t : Int) => Sum.inl t) (Sum.elim (fun (t : Bool) => Sum.inr (Sum.inl t)) (fun (t : Unit) => Sum.inr (Sum.inr t)))) : Option ((Int) ⊕ (Bool ⊕ Unit)))) LL 0

def impl_TreeOk_n5 (x1426 : List Int) (x1480 : Int) : Option (Unit ⊕ Bool) :=
  (impl_TreeOk_n4 x1426 x1480).map (Sum.elim (fun (t : Bool) => (Sum.inr t)) (fun (t : Unit) => (Sum.inl ())))

def impl_TreeOk_n6 (x1426 : List Int) : Option (Unit ⊕ Bool) :=
  (impl_TreeOk_n2 x1426).bind (fun (t : Int) => impl_TreeOk_n5 x1426 t)

def impl_TreeOk_n7 : Option (Bool) :=
  some true

def impl_TreeOk_n8 (x1426 : List Int) : Option (Bool) :=
  (impl_TreeOk_n6 x1426).bind (Sum.elim (fun (t : Unit) => impl_TreeOk_n7) (fun e => some ((fun (t : Bool) => t) e)))

def impl_TreeOk_n9 (x1426 : List Int) : Option (Bool) :=
  (impl_TreeOk_n1 x1426).bind (Sum.elim (fun (t : Unit) => impl_TreeOk_n8 x1426) (fun e => some ((fun (t : Bool) => t) e)))

@[irreducible] def impl_TreeOk (x1426 : List Int) : Option (Bool) :=
  impl_TreeOk_n9 x1426

def impl_arcBetween_n1 (x1580 : Int) (x1581 : Int) : Option ((Bool × Int × Int)) :=
  cond (decide (x1580 < 1)) (some (false, 0, 0)) (cond (decide (x1581 < 1)) (some (false, 0, 0)) (cond (x1580 == x1581) (some (false, 0, 0)) (some (true, (imin x1580 x1581), (imax x1580 x1581)))))

@[irreducible] def impl_arcBetween (x1580 : Int) (x1581 : Int) : Option (Bool × Int × Int) :=
  impl_arcBetween_n1 x1580 x1581

def impl_arcsOf_n1 (x1569 : List Int) : Option (((List (Int × Int × Unit)))) :=
  (mk 0 (((List.length x1569 : Nat) : Int))).bind fun (v1572 : Nat) => some (List.replicate v1572 ((0 : Int), ((0 : Int), ())))

def impl_arcsOf_n2 (x1569 : List Int) : Option (Int) :=
  some (((List.length x1569 : Nat) : Int))

def impl_arcsOf_n3 (x1569 : List Int) (x1574 : Int) (x1626 : Int) (x1627 : List (Int × Int × Unit)) : Option ((Int × (List (Int × Int × Unit))) ⊕ ((List (Int × Int × Unit)))) :=
  cond (decide (x1626 < x1574)) ((idx x1569 x1626).bind fun (v1644 : Int) => (impl_arcBetween (IntKind.wrap .i64 (x1626 + 1)) v1644).bind fun (v1646 : Bool × Int × Int) => cond (v1646.1) ((room ((List.length x1627) + List.length ([((v1646.2.1), ((v1646.2.2), ()))]))).bind fun (v1654 : Unit) => some (Sum.inl ((IntKind.wrap .i64 (x1626 + 1)), (x1627 ++ ([((v1646.2.1), ((v1646.2.2), ()))]))))) (some (Sum.inl ((IntKind.wrap .i64 (x1626 + 1)), x1627)))) (some (Sum.inr x1627))

def impl_arcsOf_n4 (x1569 : List Int) (x1574 : Int) (x1573 : List (Int × Int × Unit)) : Option (((List (Int × Int × Unit)))) :=
  nloop (fun (s : Int × (List (Int × Int × Unit))) => ((impl_arcsOf_n3 x1569 x1574 s.1 s.2).map (Sum.elim (fun (t : Int × (List (Int × Int × Unit))) => Sum.inl (t.1, t.2)) (fun (t : (List (Int × Int × Unit))) => Sum.inr t)) : Option ((Int × (List (Int × Int × Unit))) ⊕ (((List (Int × Int × Unit))))))) LL (0, x1573)

def impl_arcsOf_n5 (x1569 : List Int) (x1574 : Int) (x1573 : List (Int × Int × Unit)) : Option (((List (Int × Int × Unit)))) :=
  (impl_arcsOf_n4 x1569 x1574 x1573).map (fun (t : (List (Int × Int × Unit))) => t)

def impl_arcsOf_n6 (x1569 : List Int) (x1573 : List (Int × Int × Unit)) : Option (((List (Int × Int × Unit)))) :=
  (impl_arcsOf_n2 x1569).bind (fun (t : Int) => impl_arcsOf_n5 x1569 t x1573)

def impl_arcsOf_n7 (x1627 : List (Int × Int × Unit)) : Option (((List (Int × Int × Unit)))) :=
  some x1627

def impl_arcsOf_n8 (x1569 : List Int) (x1573 : List (Int × Int × Unit)) : Option (((List (Int × Int × Unit)))) :=
  (impl_arcsOf_n6 x1569 x1573).bind (fun (t : (List (Int × Int × Unit))) => impl_arcsOf_n7 t)

def impl_arcsOf_n9 (x1569 : List Int) : Option (((List (Int × Int × Unit)))) :=
  (impl_arcsOf_n1 x1569).bind (fun (t : (List (Int × Int × Unit))) => impl_arcsOf_n8 x1569 t)

@[irreducible] def impl_arcsOf (x1569 : List Int) : Option ((List (Int × Int × Unit))) :=
  impl_arcsOf_n9 x1569

def impl_arc_length_n1 (x1671 : Int) (x1672 : Int) : Option (Int) :=
  some (IntKind.wrap .i64 (x1672 - x1671))

@[irreducible] def impl_arc_length (x1671 : Int) (x1672 : Int) : Option (Int) :=
  impl_arc_length_n1 x1671 x1672

def laws_toIntS_n1 (x2198 : List Int) : Option (((List Int))) :=
  (mk (((List.length x2198 : Nat) : Int)) (((List.length x2198 : Nat) : Int))).bind fun (v2200 : Nat) => some (List.replicate v2200 (0 : Int))

def laws_toIntS_n2 : Option (Unit) :=
  some ()

def laws_toIntS_n3 (x2198 : List Int) (x2215 : Int) (x2216 : List Int) : Option ((Int × (List Int)) ⊕ ((List Int))) :=
  cond (decide (x2215 < (((List.length x2198 : Nat) : Int)))) ((idx x2198 x2215).bind fun (v2226 : Int) => (inb x2215 (List.length x2216)).bind fun (v2227 : Nat) => some (Sum.inl ((IntKind.wrap .i64 (x2215 + 1)), (x2216.set v2227 v2226)))) (some (Sum.inr x2216))

def laws_toIntS_n4 (x2198 : List Int) (x2201 : List Int) : Option (((List Int))) :=
  nloop (fun (s : Int × (List Int)) => ((laws_toIntS_n3 x2198 s.1 s.2).map (Sum.elim (fun (t : Int × (List Int)) => Sum.inl (t.1, t.2)) (fun (t : (List Int)) => Sum.inr t)) : Option ((Int × (List Int)) ⊕ (((List Int)))))) LL (0, x2201)

def laws_toIntS_n5 (x2198 : List Int) (x2201 : List Int) : Option (((List Int))) :=
  (laws_toIntS_n4 x2198 x2201).map (fun (t : (List Int)) => t)

def laws_toIntS_n6 (x2198 : List Int) (x2201 : List Int) : Option (((List Int))) :=
  (laws_toIntS_n2).bind (fun (t : Unit) => laws_toIntS_n5 x2198 x2201)

def laws_toIntS_n7 (x2216 : List Int) : Option (((List Int))) :=
  some x2216

def laws_toIntS_n8 (x2198 : List Int) (x2201 : List Int) : Option (((List Int))) :=
  (laws_toIntS_n6 x2198 x2201).bind (fun (t : (List Int)) => laws_toIntS_n7 t)

def laws_toIntS_n9 (x2198 : List Int) : Option (((List Int))) :=
  (laws_toIntS_n1 x2198).bind (fun (t : (List Int)) => laws_toIntS_n8 x2198 t)

@[irreducible] def laws_toIntS (x2198 : List Int) : Option ((List Int)) :=
  laws_toIntS_n9 x2198

def laws_eqIntS_n1 (x2258 : List Int) (x2259 : List Int) : Option (Unit ⊕ Bool) :=
  cond ((((List.length x2258 : Nat) : Int)) != (((List.length x2259 : Nat) : Int))) (some (Sum.inr false)) (some (Sum.inl ()))

def laws_eqIntS_n2 : Option (Unit) :=
  some ()

def laws_eqIntS_n3 (x2258 : List Int) (x2259 : List Int) (x2276 : Int) : Option (Int ⊕ Bool ⊕ Unit) :=
  cond (decide (x2276 < (((List.length x2258 : Nat) : Int)))) ((idx x2258 x2276).bind fun (v2286 : Int) => (idx x2259 x2276).bind fun (v2287 : Int) => cond (v2286 != v2287) (some (Sum.inr (Sum.inl false))) (some (Sum.inl (IntKind.wrap .i64 (x2276 + 1))))) (some (Sum.inr (Sum.inr ())))

def laws_eqIntS_n4 (x2258 : List Int) (x2259 : List Int) : Option (Bool ⊕ Unit) :=
  nloop (fun (s : Int) => ((laws_eqIntS_n3 x2258 x2259 s).map (Sum.elim (fun (t : Int) => Sum.inl t) (Sum.elim (fun (t : Bool) => Sum.inr (Sum.inl t)) (fun (t : Unit) => Sum.inr (Sum.inr t)))) : Option ((Int) ⊕ (Bool ⊕ Unit)))) LL 0

def laws_eqIntS_n5 (x2258 : List Int) (x2259 : List Int) : Option (Unit ⊕ Bool) :=
  (laws_eqIntS_n4 x2258 x2259).map (Sum.elim (fun (t : Bool) => (Sum.inr t)) (fun (t : Unit) => (Sum.inl ())))

def laws_eqIntS_n6 (x2258 : List Int) (x2259 : List Int) : Option (Unit ⊕ Bool) :=
  (laws_eqIntS_n2).bind (fun (t : Unit) => laws_eqIntS_n5 x2258 x2259)

def laws_eqIntS_n7 : Option (Bool) :=
  some true

def laws_eqIntS_n8 (x2258 : List Int) (x2259 : List Int) : Option (Bool) :=
  (laws_eqIntS_n6 x2258 x2259).bind (Sum.elim (fun (t : Unit) => laws_eqIntS_n7) (fun e => some ((fun (t : Bool) => t) e)))

def laws_eqIntS_n9 (x2258 : List Int) (x2259 : List Int) : Option (Bool) :=
  (laws_eqIntS_n1 x2258 x2259).bind (Sum.elim (fun (t : Unit) => laws_eqIntS_n8 x2258 x2259) (fun e => some ((fun (t : Bool) => t) e)))

@[irreducible] def laws_eqIntS (x2258 : List Int) (x2259 : List Int) : Option (Bool) :=
  laws_eqIntS_n9 x2258 x2259

def impl_LongestArc_n1 (x2819 : List Int) : Option (Unit ⊕ Int) :=
  (impl_TreeOk x2819).bind fun (v2822 : Bool) => cond (!v2822) (some (Sum.inr (-1))) (some (Sum.inl ()))

def impl_LongestArc_n2 (x2819 : List Int) : Option ((Int × (List (Int × Int × Unit)))) :=
  (impl_arcsOf x2819).bind fun (v2824 : List (Int × Int × Unit)) => some ((((List.length v2824 : Nat) : Int)), v2824)

def impl_LongestArc_n3 (x2847 : Int) (x2825 : Int) (x2848 : Int) (x2824 : List (Int × Int × Unit)) : Option ((Int × Int) ⊕ Int) :=
  cond (decide (x2848 < x2825)) ((inb x2848 (List.length x2824)).bind fun (v2861 : Nat) => (x2824[v2861]?).bind fun (v2862 : Int × Int × Unit) => (impl_arc_length (v2862.1) ((v2862.2).1)).bind fun (v2867 : Int) => some (Sum.inl ((imax x2847 v2867), (IntKind.wrap .i64 (x2848 + 1))))) (some (Sum.inr x2847))

def impl_LongestArc_n4 (x2825 : Int) (x2824 : List (Int × Int × Unit)) : Option (Int) :=
  nloop (fun (s : Int × Int) => ((impl_LongestArc_n3 s.1 x2825 s.2 x2824).map (Sum.elim (fun (t : Int × Int) => Sum.inl (t.1, t.2)) (fun (t : Int) => Sum.inr t)) : Option ((Int × Int) ⊕ (Int)))) LL (0, 0)

def impl_LongestArc_n5 (x2825 : Int) (x2824 : List (Int × Int × Unit)) : Option (Int) :=
  (impl_LongestArc_n4 x2825 x2824).map (fun (t : Int) => t)

def impl_LongestArc_n6 (x2819 : List Int) : Option (Int) :=
  (impl_LongestArc_n2 x2819).bind (fun (t : Int × (List (Int × Int × Unit))) => impl_LongestArc_n5 t.1 t.2)

def impl_LongestArc_n7 (x2847 : Int) : Option (Int) :=
  some x2847

def impl_LongestArc_n8 (x2819 : List Int) : Option (Int) :=
  (impl_LongestArc_n6 x2819).bind (fun (t : Int) => impl_LongestArc_n7 t)

def impl_LongestArc_n9 (x2819 : List Int) : Option (Int) :=
  (impl_LongestArc_n1 x2819).bind (Sum.elim (fun (t : Unit) => impl_LongestArc_n8 x2819) (fun e => some ((fun (t : Int) => t) e)))

@[irreducible] def impl_LongestArc (x2819 : List Int) : Option (Int) :=
  impl_LongestArc_n9 x2819

def spec_LongestArc_n1 (x2876 : List Int) : Option (Unit ⊕ Int) :=
  (spec_TreeOk x2876).bind fun (v2879 : Bool) => cond (!v2879) (some (Sum.inr (-1))) (some (Sum.inl ()))

def spec_LongestArc_n2 : Option (Unit) :=
  some ()

def spec_LongestArc_n3 (x2876 : List Int) (x2911 : Int) (x2912 : Int) : Option ((Int × Int) ⊕ Int) :=
  cond (decide (x2912 < (((List.length x2876 : Nat) : Int)))) ((idx x2876 x2912).bind fun (v2929 : Int) => cond (decide (v2929 > 0)) ((idx x2876 x2912).bind fun (v2931 : Int) => (idx x2876 x2912).bind fun (v2935 : Int) => some (Sum.inl ((imax (imax x2911 (IntKind.wrap .i64 ((IntKind.wrap .i64 (v2931 - x2912)) - 1))) (IntKind.wrap .i64 ((IntKind.wrap .i64 (x2912 + 1)) - v2935))), (IntKind.wrap .i64 (x2912 + 1))))) (some (Sum.inl (x2911, (IntKind.wrap .i64 (x2912 + 1)))))) (some (Sum.inr x2911))

def spec_LongestArc_n4 (x2876 : List Int) : Option (Int) :=
  nloop (fun (s : Int × Int) => ((spec_LongestArc_n3 x2876 s.1 s.2).map (Sum.elim (fun (t : Int × Int) => Sum.inl (t.1, t.2)) (fun (t : Int) => Sum.inr t)) : Option ((Int × Int) ⊕ (Int)))) LL (0, 0)

def spec_LongestArc_n5 (x2876 : List Int) : Option (Int) :=
  (spec_LongestArc_n4 x2876).map (fun (t : Int) => t)

def spec_LongestArc_n6 (x2876 : List Int) : Option (Int) :=
  (spec_LongestArc_n2).bind (fun (t : Unit) => spec_LongestArc_n5 x2876)

def spec_LongestArc_n7 (x2911 : Int) : Option (Int) :=
  some x2911

def spec_LongestArc_n8 (x2876 : List Int) : Option (Int) :=
  (spec_LongestArc_n6 x2876).bind (fun (t : Int) => spec_LongestArc_n7 t)

def spec_LongestArc_n9 (x2876 : List Int) : Option (Int) :=
  (spec_LongestArc_n1 x2876).bind (Sum.elim (fun (t : Unit) => spec_LongestArc_n8 x2876) (fun e => some ((fun (t : Int) => t) e)))

@[irreducible] def spec_LongestArc (x2876 : List Int) : Option (Int) :=
  spec_LongestArc_n9 x2876

def laws_FnExactLongestArc_n1 (x3001 : List Int) : Option (Bool) :=
  cond (decide ((((List.length x3001 : Nat) : Int)) > 1048576)) (some true) ((laws_toIntS x3001).bind fun (v3048 : List Int) => (spec_LongestArc v3048).bind fun (v3049 : Int) => (laws_toIntS x3001).bind fun (v3050 : List Int) => (impl_LongestArc v3050).bind fun (v3051 : Int) => cond (v3051 != v3049) (some false) ((laws_toIntS x3001).bind fun (v3053 : List Int) => (laws_eqIntS v3050 v3053).bind fun (v3054 : Bool) => cond (!v3054) (some false) (some true)))

@[irreducible] def laws_FnExactLongestArc (x3001 : List Int) : Option (Bool) :=
  laws_FnExactLongestArc_n1 x3001

end Go.Rv
