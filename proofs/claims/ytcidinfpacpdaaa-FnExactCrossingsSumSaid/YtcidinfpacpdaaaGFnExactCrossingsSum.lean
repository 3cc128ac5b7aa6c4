/-
  Plain functions, written by program for functions of the checked code. Conditions: none.
-/
import Derived.Test.YtcidinfpacpdaaaFB
set_option linter.unusedVariables false
namespace Go.Rv
def spec_l1In_n1 (x780 : Int) (x781 : Int) (x782 : Int) : Option (Bool) :=
  cond (decide (x780 ≥ x781)) (some (decide (x780 ≤ x782))) (some false)

@[irreducible] def spec_l1In (x780 : Int) (x781 : Int) (x782 : Int) : Option (Bool) :=
  spec_l1In_n1 x780 x781 x782

def spec_TreeOk_n1 (x776 : List Int) : Option (Int ⊕ Bool) :=
  (spec_l1In (((List.length x776 : Nat) : Int)) 1 8).bind fun (v791 : Bool) => cond (!v791) (some (Sum.inr false)) (some (Sum.inl (((List.length x776 : Nat) : Int))))

def spec_TreeOk_n2 : Option (Unit) :=
  some ()

def spec_TreeOk_n3 (x790 : Int) (x857 : Int) (x858 : Int) : Option (Unit ⊕ Int) :=
  cond (decide (x858 < x790)) (some (Sum.inl ())) (some (Sum.inr x857))

def spec_TreeOk_n4 (x776 : List Int) (x790 : Int) (x857 : Int) (x858 : Int) : Option ((Int × Int) ⊕ Bool) :=
  (idx x776 x858).bind fun (v875 : Int) => (spec_l1In v875 0 x790).bind fun (v876 : Bool) => cond (!v876) (some (Sum.inr false)) ((idx x776 x858).bind fun (v878 : Int) => cond (v878 == (IntKind.wrap .i64 (x858 + 1))) (some (Sum.inr false)) ((idx x776 x858).bind fun (v881 : Int) => cond (v881 == 0) (some (Sum.inl ((IntKind.wrap .i64 (x857 + 1)), (IntKind.wrap .i64 (x858 + 1))))) (some (Sum.inl (x857, (IntKind.wrap .i64 (x858 + 1)))))))

def spec_TreeOk_n5 : Option (Unit) :=
  some ()

def spec_TreeOk_n6 (x776 : List Int) (x790 : Int) (x903 : Int) (x904 : Int) : Option ((Int × Int) ⊕ Bool ⊕ Int) :=
  cond (decide (x903 > 0)) (cond (decide (x904 < x790)) ((idx x776 (IntKind.wrap .i64 (x903 - 1))).bind fun (v916 : Int) => (spec_l1In v916 0 x790).bind fun (v917 : Bool) => cond (!v917) (some (Sum.inr (Sum.inl false))) (some (Sum.inl (v916, (IntKind.wrap .i64 (x904 + 1)))))) (some (Sum.inr (Sum.inr x903)))) (some (Sum.inr (Sum.inr x903)))

def spec_TreeOk_n7 (x776 : List Int) (x790 : Int) (x887 : Int) : Option (Bool ⊕ Int) :=
  nloop (fun (s : Int × Int) => ((spec_TreeOk_n6 x776 x790 s.1 s.2).map (Sum.elim (fun (t : Int × Int) => Sum.inl (t.1, t.2)) (Sum.elim (fun (t : Bool) => Sum.inr (Sum.inl t)) (fun (t : Int) => Sum.inr (Sum.inr t)))) : Option ((Int × Int) ⊕ (Bool ⊕ Int)))) LL (x887, 0)

def spec_TreeOk_n8 (x776 : List Int) (x790 : Int) (x887 : Int) : Option (Int ⊕ Bool) :=
  (spec_TreeOk_n7 x776 x790 x887).map (Sum.elim (fun (t : Bool) => (Sum.inr t)) (fun (t : Int) => (Sum.inl t)))

def spec_TreeOk_n9 (x776 : List Int) (x790 : Int) (x887 : Int) : Option (Int ⊕ Bool) :=
  (spec_TreeOk_n5).bind (fun (t : Unit) => spec_TreeOk_n8 x776 x790 x887)

def spec_TreeOk_n10 (x903 : Int) : Option (Unit ⊕ Bool) :=
  cond (decide (x903 > 0)) (some (Sum.inr false)) (some (Sum.inl ()))

def spec_TreeOk_n11 (x776 : List Int) (x790 : Int) (x887 : Int) : Option (Unit ⊕ Bool) :=
  (spec_TreeOk_n9 x776 x790 x887).bind (Sum.elim (fun (t : Int) => spec_TreeOk_n10 t) (fun e => some ((fun (t : Bool) => (Sum.inr t)) e)))

def spec_TreeOk_n12 (x776 : List Int) (x790 : Int) (x857 : Int) (x858 : Int) : Option (Int ⊕ Bool) :=
  (spec_TreeOk_n4 x776 x790 x857 x858).bind (Sum.elim (fun (t : Int × Int) => (spec_TreeOk_n11 x776 x790 t.2).map (Sum.elim (fun (u : Unit) => (Sum.inl t.1)) (fun (u : Bool) => (Sum.inr u)))) (fun e => some ((fun (t : Bool) => (Sum.inr t)) e)))

def spec_TreeOk_n13 (x776 : List Int) (x790 : Int) (x857 : Int) (x858 : Int) : Option (Int ⊕ Bool) :=
  (spec_TreeOk_n12 x776 x790 x857 x858).map (Sum.elim (fun (t : Int) => (Sum.inl t)) (fun (t : Bool) => (Sum.inr t)))

def spec_TreeOk_n14 (x858 : Int) : Option (Int) :=
  some (IntKind.wrap .i64 (x858 + 1))

def spec_TreeOk_n15 (x776 : List Int) (x790 : Int) (x857 : Int) (x858 : Int) : Option ((Int × Int) ⊕ Bool) :=
  (spec_TreeOk_n13 x776 x790 x857 x858).bind (Sum.elim (fun (t : Int) => (spec_TreeOk_n14 x858).map (fun (u : Int) => (Sum.inl (t, u)))) (fun e => some ((fun (t : Bool) => (Sum.inr t)) e)))

def spec_TreeOk_n16 (x776 : List Int) (x790 : Int) (x857 : Int) (x858 : Int) : Option ((Int × Int) ⊕ Bool ⊕ Int) :=
  (spec_TreeOk_n3 x790 x857 x858).bind (Sum.elim (fun (t : Unit) => (spec_TreeOk_n15 x776 x790 x857 x858).map (Sum.elim (fun (t : Int × Int) => (Sum.inl (t.1, t.2))) (fun (t : Bool) => (Sum.inr (Sum.inl t))))) (fun e => some ((fun (t : Int) => (Sum.inr (Sum.inr t))) e)))

def spec_TreeOk_n17 (x776 : List Int) (x790 : Int) : Option (Bool ⊕ Int) :=
  nloop (fun (s : Int × Int) => ((spec_TreeOk_n16 x776 x790 s.1 s.2).map (Sum.elim (fun (t : Int × Int) => Sum.inl (t.1, t.2)) (Sum.elim (fun (t : Bool) => Sum.inr (Sum.inl t)) (fun (t : Int) => Sum.inr (Sum.inr t)))) : Option ((Int × Int) ⊕ (Bool ⊕ Int)))) LL (0, 0)

def spec_TreeOk_n18 (x776 : List Int) (x790 : Int) : Option (Int ⊕ Bool) :=
  (spec_TreeOk_n17 x776 x790).map (Sum.elim (fun (t : Bool) => (Sum.inr t)) (fun (t : Int) => (Sum.inl t)))

def spec_TreeOk_n19 (x776 : List Int) (x790 : Int) : Option (Int ⊕ Bool) :=
  (spec_TreeOk_n2).bind (fun (t : Unit) => spec_TreeOk_n18 x776 x790)

def spec_TreeOk_n20 (x857 : Int) : Option (Bool) :=
  some (x857 == 1)

def spec_TreeOk_n21 (x776 : List Int) (x790 : Int) : Option (Bool) :=
  (spec_TreeOk_n19 x776 x790).bind (Sum.elim (fun (t : Int) => spec_TreeOk_n20 t) (fun e => some ((fun (t : Bool) => t) e)))

def spec_TreeOk_n22 (x776 : List Int) : Option (Bool) :=
  (spec_TreeOk_n1 x776).bind (Sum.elim (fun (t : Int) => spec_TreeOk_n21 x776 t) (fun e => some ((fun (t : Bool) => t) e)))

@[irreducible] def spec_TreeOk (x776 : List Int) : Option (Bool) :=
  spec_TreeOk_n22 x776

def impl_oneRoot_n1 : Option (Unit) :=
  some ()

def impl_oneRoot_n2 (x1431 : List Int) : Option (Int) :=
  some (((List.length x1431 : Nat) : Int))

def impl_oneRoot_n3 (x1431 : List Int) (x1453 : Int) (x1432 : Int) (x1454 : Int) : Option ((Int × Int) ⊕ Bool ⊕ Int) :=
  cond (decide (x1454 < x1432)) ((idx x1431 x1454).bind fun (v1465 : Int) => cond (decide (v1465 < 0)) (some (Sum.inr (Sum.inl false))) (cond (decide (v1465 > (((List.length x1431 : Nat) : Int)))) (some (Sum.inr (Sum.inl false))) (cond (v1465 == 0) (some (Sum.inl ((IntKind.wrap .i64 (x1453 + 1)), (IntKind.wrap .i64 (x1454 + 1))))) (some (Sum.inl (x1453, (IntKind.wrap .i64 (x1454 + 1)))))))) (some (Sum.inr (Sum.inr x1453)))

def impl_oneRoot_n4 (x1431 : List Int) (x1432 : Int) : Option (Bool ⊕ Int) :=
  nloop (fun (s : Int × Int) => ((impl_oneRoot_n3 x1431 s.1 x1432 s.2).map (Sum.elim (fun (t : Int × Int) => Sum.inl (t.1, t.2)) (Sum.elim (fun (t : Bool) => Sum.inr (Sum.inl t)) (fun (t : Int) => Sum.inr (Sum.inr t)))) : Option ((Int × Int) ⊕ (Bool ⊕ Int)))) LL (0, 0)

def impl_oneRoot_n5 (x1431 : List Int) (x1432 : Int) : Option (Int ⊕ Bool) :=
  (impl_oneRoot_n4 x1431 x1432).map (Sum.elim (fun (t : Bool) => (Sum.inr t)) (fun (t : Int) => (Sum.inl t)))

def impl_oneRoot_n6 (x1431 : List Int) : Option (Int ⊕ Bool) :=
  (impl_oneRoot_n2 x1431).bind (fun (t : Int) => impl_oneRoot_n5 x1431 t)

def impl_oneRoot_n7 (x1453 : Int) : Option (Bool) :=
  some (x1453 == 1)

def impl_oneRoot_n8 (x1431 : List Int) : Option (Bool) :=
  (impl_oneRoot_n6 x1431).bind (Sum.elim (fun (t : Int) => impl_oneRoot_n7 t) (fun e => some ((fun (t : Bool) => t) e)))

def impl_oneRoot_n9 (x1431 : List Int) : Option (Bool) :=
  (impl_oneRoot_n1).bind (fun (t : Unit) => impl_oneRoot_n8 x1431)

@[irreducible] def impl_oneRoot (x1431 : List Int) : Option (Bool) :=
  impl_oneRoot_n9 x1431

def impl_walker_up_n1 (x1487 : List Int) (x1488 : Int) (x1489 : Int) : Option ((Bool × Int × Int)) :=
  (idx x1487 (IntKind.wrap .i64 (x1488 - 1))).bind fun (v1507 : Int) => cond (v1507 == 0) (some (false, x1488, x1489)) (some (true, v1507, (IntKind.wrap .i64 (x1489 + 1))))

@[irreducible] def impl_walker_up (x1487 : List Int) (x1488 : Int) (x1489 : Int) : Option (Bool × Int × Int) :=
  impl_walker_up_n1 x1487 x1488 x1489

def impl_stepsToRoot_n1 : Option (Unit) :=
  some ()

def impl_stepsToRoot_n2 (x1485 : List Int) (x1523 : Int) (x1524 : Int) : Option ((Int × Int) ⊕ (Int × Bool) ⊕ (Int × Int)) :=
  (impl_walker_up x1485 x1523 x1524).bind fun (v1529 : Bool × Int × Int) => cond (v1529.1) (cond (decide ((v1529.2.2) ≥ (((List.length x1485 : Nat) : Int)))) (some (Sum.inr (Sum.inl (0, false)))) (some (Sum.inl ((v1529.2.1), (v1529.2.2))))) (some (Sum.inr (Sum.inr ((v1529.2.1), (v1529.2.2)))))

def impl_stepsToRoot_n3 (x1485 : List Int) (x1486 : Int) : Option ((Int × Bool) ⊕ (Int × Int)) :=
  nloop (fun (s : Int × Int) => ((impl_stepsToRoot_n2 x1485 s.1 s.2).map (Sum.elim (fun (t : Int × Int) => Sum.inl (t.1, t.2)) (Sum.elim (fun (t : Int × Bool) => Sum.inr (Sum.inl t)) (fun (t : Int × Int) => Sum.inr (Sum.inr t)))) : Option ((Int × Int) ⊕ ((Int × Bool) ⊕ (Int × Int))))) LL (x1486, 0)

def impl_stepsToRoot_n4 (x1485 : List Int) (x1486 : Int) : Option ((Int × Int) ⊕ (Int × Bool)) :=
  (impl_stepsToRoot_n3 x1485 x1486).map (Sum.elim (fun (t : Int × Bool) => (Sum.inr t)) (fun (t : Int × Int) => (Sum.inl (t.1, t.2))))

def impl_stepsToRoot_n5 (x1532 : Int) : Option ((Int × Bool)) :=
  some (x1532, true)

def impl_stepsToRoot_n6 (x1485 : List Int) (x1486 : Int) : Option ((Int × Bool)) :=
  (impl_stepsToRoot_n4 x1485 x1486).bind (Sum.elim (fun (t : Int × Int) => impl_stepsToRoot_n5 t.2) (fun e => some ((fun (t : Int × Bool) => t) e)))

def impl_stepsToRoot_n7 (x1485 : List Int) (x1486 : Int) : Option ((Int × Bool)) :=
  (impl_stepsToRoot_n1).bind (fun (t : Unit) => impl_stepsToRoot_n6 x1485 x1486)

@[irreducible] def impl_stepsToRoot (x1485 : List Int) (x1486 : Int) : Option (Int × Bool) :=
  impl_stepsToRoot_n7 x1485 x1486

def impl_TreeOk_n1 (x1426 : List Int) : Option (Unit ⊕ Bool) :=
  cond (decide ((((List.length x1426 : Nat) : Int)) < 1)) (some (Sum.inr false)) (cond (decide ((((List.length x1426 : Nat) : Int)) > 8)) (some (Sum.inr false)) ((impl_oneRoot x1426).bind fun (v1478 : Bool) => cond (!v1478) (some (Sum.inr false)) (some (Sum.inl ()))))

def impl_TreeOk_n2 (x1426 : List Int) : Option (Int) :=
  some (((List.length x1426 : Nat) : Int))

def impl_TreeOk_n3 (x1426 : List Int) (x1480 : Int) (x1548 : Int) : Option (Int ⊕ Bool ⊕ Unit) :=
  cond (decide (x1548 < x1480)) ((impl_stepsToRoot x1426 (IntKind.wrap .i64 (x1548 + 1))).bind fun (v1559 : Int × Bool) => cond (!(v1559.2)) (some (Sum.inr (Sum.inl false))) (some (Sum.inl (IntKind.wrap .i64 (x1548 + 1))))) (some (Sum.inr (Sum.inr ())))

def impl_TreeOk_n4 (x1426 : List Int) (x1480 : Int) : Option (Bool ⊕ Unit) :=
  nloop (fun (s : Int) => ((impl_TreeOk_n3 x1426 x1480 s).map (Sum.elim (fun (t : Int) => Sum.inl t) (Sum.elim (fun (t : Bool) => Sum.inr (Sum.inl t)) (fun (t : Unit) => Sum.inr (Sum.inr t)))) : Option ((Int) ⊕ (Bool ⊕ Unit)))) LL 0

def impl_TreeOk_n5 (x1426 : List Int) (x1480 : Int) : Option (Unit ⊕ Bool) :=
  (impl_TreeOk_n4 x1426 x1480).map (Sum.elim (fun (t : Bool) => (Sum.inr t)) (fun (t : Unit) => (Sum.inl ())))

def impl_TreeOk_n6 (x1426 : List Int) : Option (Unit ⊕ Bool) :=
  (impl_TreeOk_n2 x1426).bind (fun (t : Int) => impl_TreeOk_n5 x1426 t)

def impl_TreeOk_n7 : Option (Bool) :=
  some true

def impl_TreeOk_n8 (x1426 : List Int) : Option (Bool) :=
  (impl_TreeOk_n6 x1426).bind (Sum.elim (fun (t : Unit) => impl_TreeOk_n7) (fun e => some ((fun (t : Bool) => t) e)))

def impl_TreeOk_n9 (x1426 : List Int) : Option (Bool) :=
  (impl_TreeOk_n1 x1426).bind (Sum.elim (fun (t : Unit) => impl_TreeOk_n8 x1426) (fun e => some ((fun (t : Bool) => t) e)))

@[irreducible] def impl_TreeOk (x1426 : List Int) : Option (Bool) :=
  impl_TreeOk_n9 x1426

def impl_arcBetween_n1 (x1580 : Int) (x1581 : Int) : Option ((Bool × Int × Int)) :=
  cond (decide (x1580 < 1)) (some (false, 0, 0)) (cond (decide (x1581 < 1)) (some (false, 0, 0)) (cond (x1580 == x1581) (some (false, 0, 0)) (some (true, (imin x1580 x1581), (imax x1580 x1581)))))

@[irreducible] def impl_arcBetween (x1580 : Int) (x1581 : Int) : Option (Bool × Int × Int) :=
  impl_arcBetween_n1 x1580 x1581

def impl_arcsOf_n1 (x1569 : List Int) : Option (((List (Int × Int × Unit)))) :=
  (mk 0 (((List.length x1569 : Nat) : Int))).bind fun (v1572 : Nat) => some (List.replicate v1572 ((0 : Int), ((0 : Int), ())))

def impl_arcsOf_n2 (x1569 : List Int) : Option (Int) :=
  some (((List.length x1569 : Nat) : Int))

def impl_arcsOf_n3 (x1569 : List Int) (x1574 : Int) (x1626 : Int) (x1627 : List (Int × Int × Unit)) : Option ((Int × (List (Int × Int × Unit))) ⊕ ((List (Int × Int × Unit)))) :=
  cond (decide (x1626 < x1574)) ((idx x1569 x1626).bind fun (v1644 : Int) => (impl_arcBetween (IntKind.wrap .i64 (x1626 + 1)) v1644).bind fun (v1646 : Bool × Int × Int) => cond (v1646.1) ((room ((List.length x1627) + List.length ([((v1646.2.1), ((v1646.2.2), ()))]))).bind fun (v1654 : Unit) => some (Sum.inl ((IntKind.wrap .i64 (x1626 + 1)), (x1627 ++ ([((v1646.2.1), ((v1646.2.2), ()))]))))) (some (Sum.inl ((IntKind.wrap .i64 (x1626 + 1)), x1627)))) (some (Sum.inr x1627))

def impl_arcsOf_n4 (x1569 : List Int) (x1574 : Int) (x1573 : List (Int × Int × Unit)) : Option (((List (Int × Int × Unit)))) :=
  nloop (fun (s : Int × (List (Int × Int × Unit))) => ((impl_arcsOf_n3 x1569 x1574 s.1 s.2).map (Sum.elim (fun (t : Int × (List (Int × Int × Unit))) => Sum.inl (t.1, t.2)) (fun (t : (List (Int × Int × Unit))) => Sum.inr t)) : Option ((Int × (List (Int × Int × Unit))) ⊕ (((List (Int × Int × Unit))))))) LL (0, x1573)

def impl_arcsOf_n5 (x1569 : List Int) (x1574 : Int) (x1573 : List (Int × Int × Unit)) : Option (((List (Int × Int × Unit)))) :=
  (impl_arcsOf_n4 x1569 x1574 x1573).map (fun (t : (List (Int × Int × Unit))) => t)

def impl_arcsOf_n6 (x1569 : List Int) (x1573 : List (Int × Int × Unit)) : Option (((List (Int × Int × Unit)))) :=
  (impl_arcsOf_n2 x1569).bind (fun (t : Int) => impl_arcsOf_n5 x1569 t x1573)

def impl_arcsOf_n7 (x1627 : List (Int × Int × Unit)) : Option (((List (Int × Int × Unit)))) :=
  some x1627

def impl_arcsOf_n8 (x1569 : List Int) (x1573 : List (Int × Int × Unit)) : Option (((List (Int × Int × Unit)))) :=
  (impl_arcsOf_n6 x1569 x1573).bind (fun (t : (List (Int × Int × Unit))) => impl_arcsOf_n7 t)

def impl_arcsOf_n9 (x1569 : List Int) : Option (((List (Int × Int × Unit)))) :=
  (impl_arcsOf_n1 x1569).bind (fun (t : (List (Int × Int × Unit))) => impl_arcsOf_n8 x1569 t)

@[irreducible] def impl_arcsOf (x1569 : List Int) : Option ((List (Int × Int × Unit))) :=
  impl_arcsOf_n9 x1569

def impl_countEnds_n1 : Option (Unit) :=
  some ()

def impl_countEnds_n2 (x1661 : List (Int × Int × Unit)) : Option (Int) :=
  some (((List.length x1661 : Nat) : Int))

def impl_countEnds_n3 (x1661 : List (Int × Int × Unit)) (x1663 : Int) (x1707 : Int) (x1708 : List Int) : Option ((Int × (List Int)) ⊕ ((List Int))) :=
  cond (decide (x1707 < x1663)) ((idx x1661 x1707).bind fun (v1732 : Int × Int × Unit) => (same (List.length x1708) 9).bind fun (v1737 : Unit) => (inb (v1732.1) 9).bind fun (v1738 : Nat) => (x1708[v1738]?).bind fun (v1739 : Int) => (same (List.length x1708) 9).bind fun (v1741 : Unit) => (inb (v1732.1) 9).bind fun (v1742 : Nat) => (same (List.length (x1708.set v1742 (IntKind.wrap .i64 (v1739 + 1)))) 9).bind fun (v1744 : Unit) => (inb ((v1732.2).1) 9).bind fun (v1745 : Nat) => ((x1708.set v1742 (IntKind.wrap .i64 (v1739 + 1)))[v1745]?).bind fun (v1746 : Int) => (same (List.length (x1708.set v1742 (IntKind.wrap .i64 (v1739 + 1)))) 9).bind fun (v1748 : Unit) => (inb ((v1732.2).1) 9).bind fun (v1749 : Nat) => some (Sum.inl ((IntKind.wrap .i64 (x1707 + 1)), ((x1708.set v1742 (IntKind.wrap .i64 (v1739 + 1))).set v1749 (IntKind.wrap .i64 (v1746 + 1)))))) (some (Sum.inr x1708))

def impl_countEnds_n4 (x1661 : List (Int × Int × Unit)) (x1663 : Int) : Option (((List Int))) :=
  nloop (fun (s : Int × (List Int)) => ((impl_countEnds_n3 x1661 x1663 s.1 s.2).map (Sum.elim (fun (t : Int × (List Int)) => Sum.inl (t.1, t.2)) (fun (t : (List Int)) => Sum.inr t)) : Option ((Int × (List Int)) ⊕ (((List Int)))))) LL (0, (List.replicate 9 (0 : Int)))

def impl_countEnds_n5 (x1661 : List (Int × Int × Unit)) (x1663 : Int) : Option (((List Int))) :=
  (impl_countEnds_n4 x1661 x1663).map (fun (t : (List Int)) => t)

def impl_countEnds_n6 (x1661 : List (Int × Int × Unit)) : Option (((List Int))) :=
  (impl_countEnds_n2 x1661).bind (fun (t : Int) => impl_countEnds_n5 x1661 t)

def impl_countEnds_n7 (x1708 : List Int) : Option ((Int × Int × Int × Int × Int × Int × Int × Int × Int)) :=
  (same (List.length x1708) 9).bind fun (v1763 : Unit) => (same (List.length (List.replicate 9 (0 : Int))) 9).bind fun (v1773 : Unit) => some ((x1708.getD 0 (0 : Int)), (x1708.getD 1 (0 : Int)), (x1708.getD 2 (0 : Int)), (x1708.getD 3 (0 : Int)), (x1708.getD 4 (0 : Int)), (x1708.getD 5 (0 : Int)), (x1708.getD 6 (0 : Int)), (x1708.getD 7 (0 : Int)), (x1708.getD 8 (0 : Int)))

def impl_countEnds_n8 (x1661 : List (Int × Int × Unit)) : Option ((Int × Int × Int × Int × Int × Int × Int × Int × Int)) :=
  (impl_countEnds_n6 x1661).bind (fun (t : (List Int)) => impl_countEnds_n7 t)

def impl_countEnds_n9 (x1661 : List (Int × Int × Unit)) : Option ((Int × Int × Int × Int × Int × Int × Int × Int × Int)) :=
  (impl_countEnds_n1).bind (fun (t : Unit) => impl_countEnds_n8 x1661)

@[irreducible] def impl_countEnds (x1661 : List (Int × Int × Unit)) : Option (Int × Int × Int × Int × Int × Int × Int × Int × Int) :=
  impl_countEnds_n9 x1661

def spec_EndsOf_n1 : Option (Unit) :=
  some ()

def spec_EndsOf_n2 : Option (Unit) :=
  some ()

def spec_EndsOf_n3 (x1883 : List Int) (x1933 : Int) (x1934 : List Int) : Option (Unit ⊕ ((List Int))) :=
  cond (decide (x1933 < (((List.length x1883 : Nat) : Int)))) ((spec_TreeOk x1883).bind fun (v1937 : Bool) => cond v1937 (some (Sum.inl ())) (some (Sum.inr x1934))) (some (Sum.inr x1934))

def spec_EndsOf_n4 (x1883 : List Int) (x1933 : Int) : Option (Int) :=
  (idx x1883 x1933).bind fun (v1938 : Int) => cond (decide (v1938 > 0)) (some 1) (some 0)

def spec_EndsOf_n5 : Option (Unit) :=
  some ()

def spec_EndsOf_n6 (x1883 : List Int) (x1933 : Int) (x1959 : Int) (x1960 : Int) : Option ((Int × Int) ⊕ Int) :=
  cond (decide (x1960 < (((List.length x1883 : Nat) : Int)))) ((idx x1883 x1960).bind fun (v1971 : Int) => cond (v1971 == (IntKind.wrap .i64 (x1933 + 1))) (some (Sum.inl ((IntKind.wrap .i64 (x1959 + 1)), (IntKind.wrap .i64 (x1960 + 1))))) (some (Sum.inl (x1959, (IntKind.wrap .i64 (x1960 + 1)))))) (some (Sum.inr x1959))

def spec_EndsOf_n7 (x1883 : List Int) (x1933 : Int) (x1940 : Int) : Option (Int) :=
  nloop (fun (s : Int × Int) => ((spec_EndsOf_n6 x1883 x1933 s.1 s.2).map (Sum.elim (fun (t : Int × Int) => Sum.inl (t.1, t.2)) (fun (t : Int) => Sum.inr t)) : Option ((Int × Int) ⊕ (Int)))) LL (x1940, 0)

def spec_EndsOf_n8 (x1883 : List Int) (x1933 : Int) (x1940 : Int) : Option (Int) :=
  (spec_EndsOf_n7 x1883 x1933 x1940).map (fun (t : Int) => t)

def spec_EndsOf_n9 (x1883 : List Int) (x1933 : Int) (x1940 : Int) : Option (Int) :=
  (spec_EndsOf_n5).bind (fun (t : Unit) => spec_EndsOf_n8 x1883 x1933 x1940)

def spec_EndsOf_n10 (x1959 : Int) (x1934 : List Int) : Option (((List Int))) :=
  (room ((List.length x1934) + List.length ([x1959]))).bind fun (v1981 : Unit) => some (x1934 ++ ([x1959]))

def spec_EndsOf_n11 (x1883 : List Int) (x1933 : Int) (x1940 : Int) (x1934 : List Int) : Option (((List Int))) :=
  (spec_EndsOf_n9 x1883 x1933 x1940).bind (fun (t : Int) => spec_EndsOf_n10 t x1934)

def spec_EndsOf_n12 (x1883 : List Int) (x1933 : Int) (x1934 : List Int) : Option (((List Int))) :=
  (spec_EndsOf_n4 x1883 x1933).bind (fun (t : Int) => spec_EndsOf_n11 x1883 x1933 t x1934)

def spec_EndsOf_n13 (x1883 : List Int) (x1933 : Int) (x1934 : List Int) : Option (((List Int))) :=
  (spec_EndsOf_n12 x1883 x1933 x1934).map (fun (t : (List Int)) => t)

def spec_EndsOf_n14 (x1933 : Int) : Option (Int) :=
  some (IntKind.wrap .i64 (x1933 + 1))

def spec_EndsOf_n15 (x1883 : List Int) (x1933 : Int) (x1934 : List Int) : Option ((Int × (List Int))) :=
  (spec_EndsOf_n13 x1883 x1933 x1934).bind (fun (t : (List Int)) => (spec_EndsOf_n14 x1933).map (fun (u : Int) => (u, t)))

def spec_EndsOf_n16 (x1883 : List Int) (x1933 : Int) (x1934 : List Int) : Option ((Int × (List Int)) ⊕ ((List Int))) :=
  (spec_EndsOf_n3 x1883 x1933 x1934).bind (Sum.elim (fun (t : Unit) => (spec_EndsOf_n15 x1883 x1933 x1934).map (fun (t : Int × (List Int)) => (Sum.inl (t.1, t.2)))) (fun e => some ((fun (t : (List Int)) => (Sum.inr t)) e)))

def spec_EndsOf_n17 (x1883 : List Int) : Option (((List Int))) :=
  nloop (fun (s : Int × (List Int)) => ((spec_EndsOf_n16 x1883 s.1 s.2).map (Sum.elim (fun (t : Int × (List Int)) => Sum.inl (t.1, t.2)) (fun (t : (List Int)) => Sum.inr t)) : Option ((Int × (List Int)) ⊕ (((List Int)))))) LL (0, ([] : List Int))

def spec_EndsOf_n18 (x1883 : List Int) : Option (((List Int))) :=
  (spec_EndsOf_n17 x1883).map (fun (t : (List Int)) => t)

def spec_EndsOf_n19 (x1883 : List Int) : Option (((List Int))) :=
  (spec_EndsOf_n2).bind (fun (t : Unit) => spec_EndsOf_n18 x1883)

def spec_EndsOf_n20 (x1934 : List Int) : Option (((List Int))) :=
  some x1934

def spec_EndsOf_n21 (x1883 : List Int) : Option (((List Int))) :=
  (spec_EndsOf_n19 x1883).bind (fun (t : (List Int)) => spec_EndsOf_n20 t)

def spec_EndsOf_n22 (x1883 : List Int) : Option (((List Int))) :=
  (spec_EndsOf_n1).bind (fun (t : Unit) => spec_EndsOf_n21 x1883)

@[irreducible] def spec_EndsOf (x1883 : List Int) : Option ((List Int)) :=
  spec_EndsOf_n22 x1883

def impl_pairsAmong_n1 (x2485 : Int) : Option (Int) :=
  (quo .i64 (IntKind.wrap .i64 (x2485 * (IntKind.wrap .i64 (x2485 - 1)))) 2).bind fun (v2491 : Int) => some v2491

@[irreducible] def impl_pairsAmong (x2485 : Int) : Option (Int) :=
  impl_pairsAmong_n1 x2485

def impl_PairsApart_n1 (x2475 : List Int) : Option ((Int × (List (Int × Int × Unit))) ⊕ Int) :=
  (impl_TreeOk x2475).bind fun (v2481 : Bool) => cond (!v2481) (some (Sum.inr (-1))) ((impl_arcsOf x2475).bind fun (v2483 : List (Int × Int × Unit)) => (impl_pairsAmong (((List.length v2483 : Nat) : Int))).bind fun (v2492 : Int) => some (Sum.inl (v2492, v2483)))

def impl_PairsApart_n2 (x2483 : List (Int × Int × Unit)) : Option ((Int × Int × Int × Int × Int × Int × Int × Int × Int)) :=
  (impl_countEnds x2483).bind fun (v2493 : Int × Int × Int × Int × Int × Int × Int × Int × Int) => some ((v2493.1), (v2493.2.1), (v2493.2.2.1), (v2493.2.2.2.1), (v2493.2.2.2.2.1), (v2493.2.2.2.2.2.1), (v2493.2.2.2.2.2.2.1), (v2493.2.2.2.2.2.2.2.1), (v2493.2.2.2.2.2.2.2.2))

def impl_PairsApart_n3 (x2514 : Int) (x2494 : Int) (x2495 : Int) (x2496 : Int) (x2497 : Int) (x2498 : Int) (x2499 : Int) (x2500 : Int) (x2501 : Int) (x2502 : Int) (x2515 : Int) : Option ((Int × Int) ⊕ Int) :=
  cond (decide (x2515 < 9)) ((idx [x2494, x2495, x2496, x2497, x2498, x2499, x2500, x2501, x2502] x2515).bind fun (v2523 : Int) => (impl_pairsAmong v2523).bind fun (v2524 : Int) => some (Sum.inl ((IntKind.wrap .i64 (x2514 - v2524)), (IntKind.wrap .i64 (x2515 + 1))))) (some (Sum.inr x2514))

def impl_PairsApart_n4 (x2492 : Int) (x2494 : Int) (x2495 : Int) (x2496 : Int) (x2497 : Int) (x2498 : Int) (x2499 : Int) (x2500 : Int) (x2501 : Int) (x2502 : Int) : Option (Int) :=
  nloop (fun (s : Int × Int) => ((impl_PairsApart_n3 s.1 x2494 x2495 x2496 x2497 x2498 x2499 x2500 x2501 x2502 s.2).map (Sum.elim (fun (t : Int × Int) => Sum.inl (t.1, t.2)) (fun (t : Int) => Sum.inr t)) : Option ((Int × Int) ⊕ (Int)))) LL (x2492, 0)

def impl_PairsApart_n5 (x2492 : Int) (x2494 : Int) (x2495 : Int) (x2496 : Int) (x2497 : Int) (x2498 : Int) (x2499 : Int) (x2500 : Int) (x2501 : Int) (x2502 : Int) : Option (Int) :=
  (impl_PairsApart_n4 x2492 x2494 x2495 x2496 x2497 x2498 x2499 x2500 x2501 x2502).map (fun (t : Int) => t)

def impl_PairsApart_n6 (x2492 : Int) (x2483 : List (Int × Int × Unit)) : Option (Int) :=
  (impl_PairsApart_n2 x2483).bind (fun (t : Int × Int × Int × Int × Int × Int × Int × Int × Int) => impl_PairsApart_n5 x2492 t.1 t.2.1 t.2.2.1 t.2.2.2.1 t.2.2.2.2.1 t.2.2.2.2.2.1 t.2.2.2.2.2.2.1 t.2.2.2.2.2.2.2.1 t.2.2.2.2.2.2.2.2)

def impl_PairsApart_n7 (x2514 : Int) : Option (Int) :=
  some x2514

def impl_PairsApart_n8 (x2492 : Int) (x2483 : List (Int × Int × Unit)) : Option (Int) :=
  (impl_PairsApart_n6 x2492 x2483).bind (fun (t : Int) => impl_PairsApart_n7 t)

def impl_PairsApart_n9 (x2475 : List Int) : Option (Int) :=
  (impl_PairsApart_n1 x2475).bind (Sum.elim (fun (t : Int × (List (Int × Int × Unit))) => impl_PairsApart_n8 t.1 t.2) (fun e => some ((fun (t : Int) => t) e)))

@[irreducible] def impl_PairsApart (x2475 : List Int) : Option (Int) :=
  impl_PairsApart_n9 x2475

def spec_PairsApart_n1 (x2533 : List Int) : Option ((Int × (List Int)) ⊕ Int) :=
  (spec_TreeOk x2533).bind fun (v2544 : Bool) => cond (!v2544) (some (Sum.inr (-1))) ((quo .i64 (IntKind.wrap .i64 ((IntKind.wrap .i64 ((((List.length x2533 : Nat) : Int)) - 1)) * (IntKind.wrap .i64 ((((List.length x2533 : Nat) : Int)) - 2)))) 2).bind fun (v2551 : Int) => (spec_EndsOf x2533).bind fun (v2552 : List Int) => some (Sum.inl (v2551, v2552)))

def spec_PairsApart_n2 : Option (Unit) :=
  some ()

def spec_PairsApart_n3 (x2576 : Int) (x2577 : Int) (x2552 : List Int) : Option ((Int × Int) ⊕ Int) :=
  cond (decide (x2577 < (((List.length x2552 : Nat) : Int)))) ((inb x2577 (List.length x2552)).bind fun (v2592 : Nat) => (x2552[v2592]?).bind fun (v2593 : Int) => (inb x2577 (List.length x2552)).bind fun (v2594 : Nat) => (x2552[v2594]?).bind fun (v2595 : Int) => (quo .i64 (IntKind.wrap .i64 (v2593 * (IntKind.wrap .i64 (v2595 - 1)))) 2).bind fun (v2598 : Int) => some (Sum.inl ((IntKind.wrap .i64 (x2576 - v2598)), (IntKind.wrap .i64 (x2577 + 1))))) (some (Sum.inr x2576))

def spec_PairsApart_n4 (x2551 : Int) (x2552 : List Int) : Option (Int) :=
  nloop (fun (s : Int × Int) => ((spec_PairsApart_n3 s.1 s.2 x2552).map (Sum.elim (fun (t : Int × Int) => Sum.inl (t.1, t.2)) (fun (t : Int) => Sum.inr t)) : Option ((Int × Int) ⊕ (Int)))) LL (x2551, 0)

def spec_PairsApart_n5 (x2551 : Int) (x2552 : List Int) : Option (Int) :=
  (spec_PairsApart_n4 x2551 x2552).map (fun (t : Int) => t)

def spec_PairsApart_n6 (x2551 : Int) (x2552 : List Int) : Option (Int) :=
  (spec_PairsApart_n2).bind (fun (t : Unit) => spec_PairsApart_n5 x2551 x2552)

def spec_PairsApart_n7 (x2576 : Int) : Option (Int) :=
  some x2576

def spec_PairsApart_n8 (x2551 : Int) (x2552 : List Int) : Option (Int) :=
  (spec_PairsApart_n6 x2551 x2552).bind (fun (t : Int) => spec_PairsApart_n7 t)

def spec_PairsApart_n9 (x2533 : List Int) : Option (Int) :=
  (spec_PairsApart_n1 x2533).bind (Sum.elim (fun (t : Int × (List Int)) => spec_PairsApart_n8 t.1 t.2) (fun e => some ((fun (t : Int) => t) e)))

@[irreducible] def spec_PairsApart (x2533 : List Int) : Option (Int) :=
  spec_PairsApart_n9 x2533

def impl_countOrders_n1 : Option (Unit) :=
  some ()

def impl_countOrders_n2 : Option (Unit) :=
  some ()

def impl_countOrders_n3 (x2894 : Int) (x2901 : Int) (x2902 : Int) : Option ((Int × Int) ⊕ Int) :=
  cond (decide (x2902 ≤ x2894)) (some (Sum.inl ((IntKind.wrap .i64 (x2901 * x2902)), (IntKind.wrap .i64 (x2902 + 1))))) (some (Sum.inr x2901))

def impl_countOrders_n4 (x2894 : Int) : Option (Int) :=
  nloop (fun (s : Int × Int) => ((impl_countOrders_n3 x2894 s.1 s.2).map (Sum.elim (fun (t : Int × Int) => Sum.inl (t.1, t.2)) (fun (t : Int) => Sum.inr t)) : Option ((Int × Int) ⊕ (Int)))) LL (1, 2)

def impl_countOrders_n5 (x2894 : Int) : Option (Int) :=
  (impl_countOrders_n4 x2894).map (fun (t : Int) => t)

def impl_countOrders_n6 (x2894 : Int) : Option (Int) :=
  (impl_countOrders_n2).bind (fun (t : Unit) => impl_countOrders_n5 x2894)

def impl_countOrders_n7 (x2901 : Int) : Option (Int) :=
  some x2901

def impl_countOrders_n8 (x2894 : Int) : Option (Int) :=
  (impl_countOrders_n6 x2894).bind (fun (t : Int) => impl_countOrders_n7 t)

def impl_countOrders_n9 (x2894 : Int) : Option (Int) :=
  (impl_countOrders_n1).bind (fun (t : Unit) => impl_countOrders_n8 x2894)

@[irreducible] def impl_countOrders (x2894 : Int) : Option (Int) :=
  impl_countOrders_n9 x2894

def impl_CrossingsSum_n1 (x2888 : List Int) : Option (Int) :=
  (impl_TreeOk x2888).bind fun (v2913 : Bool) => cond (!v2913) (some (-1)) ((impl_countOrders (((List.length x2888 : Nat) : Int))).bind fun (v2916 : Int) => (impl_PairsApart x2888).bind fun (v2917 : Int) => (quo .i64 (IntKind.wrap .i64 (v2916 * v2917)) 3).bind fun (v2919 : Int) => some v2919)

@[irreducible] def impl_CrossingsSum (x2888 : List Int) : Option (Int) :=
  impl_CrossingsSum_n1 x2888

def spec_CrossingsSum_n1 (x2926 : List Int) : Option (Unit ⊕ Int) :=
  (spec_TreeOk x2926).bind fun (v2929 : Bool) => cond (!v2929) (some (Sum.inr (-1))) (some (Sum.inl ()))

def spec_CrossingsSum_n2 : Option (Unit) :=
  some ()

def spec_CrossingsSum_n3 (x2926 : List Int) (x2940 : Int) (x2941 : Int) : Option ((Int × Int) ⊕ Int) :=
  cond (decide (x2941 ≤ (((List.length x2926 : Nat) : Int)))) (some (Sum.inl ((IntKind.wrap .i64 (x2940 * x2941)), (IntKind.wrap .i64 (x2941 + 1))))) (some (Sum.inr x2940))

def spec_CrossingsSum_n4 (x2926 : List Int) : Option (Int) :=
  nloop (fun (s : Int × Int) => ((spec_CrossingsSum_n3 x2926 s.1 s.2).map (Sum.elim (fun (t : Int × Int) => Sum.inl (t.1, t.2)) (fun (t : Int) => Sum.inr t)) : Option ((Int × Int) ⊕ (Int)))) LL (1, 2)

def spec_CrossingsSum_n5 (x2926 : List Int) : Option (Int) :=
  (spec_CrossingsSum_n4 x2926).map (fun (t : Int) => t)

def spec_CrossingsSum_n6 (x2926 : List Int) : Option (Int) :=
  (spec_CrossingsSum_n2).bind (fun (t : Unit) => spec_CrossingsSum_n5 x2926)

def spec_CrossingsSum_n7 (x2926 : List Int) (x2940 : Int) : Option (Int) :=
  (spec_PairsApart x2926).bind fun (v2954 : Int) => (quo .i64 (IntKind.wrap .i64 (x2940 * v2954)) 3).bind fun (v2956 : Int) => some v2956

def spec_CrossingsSum_n8 (x2926 : List Int) : Option (Int) :=
  (spec_CrossingsSum_n6 x2926).bind (fun (t : Int) => spec_CrossingsSum_n7 x2926 t)

def spec_CrossingsSum_n9 (x2926 : List Int) : Option (Int) :=
  (spec_CrossingsSum_n1 x2926).bind (Sum.elim (fun (t : Unit) => spec_CrossingsSum_n8 x2926) (fun e => some ((fun (t : Int) => t) e)))

@[irreducible] def spec_CrossingsSum (x2926 : List Int) : Option (Int) :=
  spec_CrossingsSum_n9 x2926

def laws_toIntS_n1 (x5381 : List Int) : Option (((List Int))) :=
  (mk (((List.length x5381 : Nat) : Int)) (((List.length x5381 : Nat) : Int))).bind fun (v5383 : Nat) => some (List.replicate v5383 (0 : Int))

def laws_toIntS_n2 : Option (Unit) :=
  some ()

def laws_toIntS_n3 (x5381 : List Int) (x5398 : Int) (x5399 : List Int) : Option ((Int × (List Int)) ⊕ ((List Int))) :=
  cond (decide (x5398 < (((List.length x5381 : Nat) : Int)))) ((idx x5381 x5398).bind fun (v5409 : Int) => (inb x5398 (List.length x5399)).bind fun (v5410 : Nat) => some (Sum.inl ((IntKind.wrap .i64 (x5398 + 1)), (x5399.set v5410 v5409)))) (some (Sum.inr x5399))

def laws_toIntS_n4 (x5381 : List Int) (x5384 : List Int) : Option (((List Int))) :=
  nloop (fun (s : Int × (List Int)) => ((laws_toIntS_n3 x5381 s.1 s.2).map (Sum.elim (fun (t : Int × (List Int)) => Sum.inl (t.1, t.2)) (fun (t : (List Int)) => Sum.inr t)) : Option ((Int × (List Int)) ⊕ (((List Int)))))) LL (0, x5384)

def laws_toIntS_n5 (x5381 : List Int) (x5384 : List Int) : Option (((List Int))) :=
  (laws_toIntS_n4 x5381 x5384).map (fun (t : (List Int)) => t)

def laws_toIntS_n6 (x5381 : List Int) (x5384 : List Int) : Option (((List Int))) :=
  (laws_toIntS_n2).bind (fun (t : Unit) => laws_toIntS_n5 x5381 x5384)

def laws_toIntS_n7 (x5399 : List Int) : Option (((List Int))) :=
  some x5399

def laws_toIntS_n8 (x5381 : List Int) (x5384 : List Int) : Option (((List Int))) :=
  (laws_toIntS_n6 x5381 x5384).bind (fun (t : (List Int)) => laws_toIntS_n7 t)

def laws_toIntS_n9 (x5381 : List Int) : Option (((List Int))) :=
  (laws_toIntS_n1 x5381).bind (fun (t : (List Int)) => laws_toIntS_n8 x5381 t)

@[irreducible] def laws_toIntS (x5381 : List Int) : Option ((List Int)) :=
  laws_toIntS_n9 x5381

def laws_eqIntS_n1 (x5432 : List Int) (x5433 : List Int) : Option (Unit ⊕ Bool) :=
  cond ((((List.length x5432 : Nat) : Int)) != (((List.length x5433 : Nat) : Int))) (some (Sum.inr false)) (some (Sum.inl ()))

def laws_eqIntS_n2 : Option (Unit) :=
  some ()

def laws_eqIntS_n3 (x5432 : List Int) (x5433 : List Int) (x5450 : Int) : Option (Int ⊕ Bool ⊕ Unit) :=
  cond (decide (x5450 < (((List.length x5432 : Nat) : Int)))) ((idx x5432 x5450).bind fun (v5460 : Int) => (idx x5433 x5450).bind fun (v5461 : Int) => cond (v5460 != v5461) (some (Sum.inr (Sum.inl false))) (some (Sum.inl (IntKind.wrap .i64 (x5450 + 1))))) (some (Sum.inr (Sum.inr ())))

def laws_eqIntS_n4 (x5432 : List Int) (x5433 : List Int) : Option (Bool ⊕ Unit) :=
  nloop (fun (s : Int) => ((laws_eqIntS_n3 x5432 x5433 s).map (Sum.elim (fun (t : Int) => Sum.inl t) (Sum.elim (fun (t : Bool) => Sum.inr (Sum.inl t)) (fun (t : Unit) => Sum.inr (Sum.inr t)))) : Option ((Int) ⊕ (Bool ⊕ Unit)))) LL 0

def laws_eqIntS_n5 (x5432 : List Int) (x5433 : List Int) : Option (Unit ⊕ Bool) :=
  (laws_eqIntS_n4 x5432 x5433).map (Sum.elim (fun (t : Bool) => (Sum.inr t)) (fun (t : Unit) => (Sum.inl ())))

def laws_eqIntS_n6 (x5432 : List Int) (x5433 : List Int) : Option (Unit ⊕ Bool) :=
  (laws_eqIntS_n2).bind (fun (t : Unit) => laws_eqIntS_n5 x5432 x5433)

def laws_eqIntS_n7 : Option (Bool) :=
  some true

def laws_eqIntS_n8 (x5432 : List Int) (x5433 : List Int) : Option (Bool) :=
  (laws_eqIntS_n6 x5432 x5433).bind (Sum.elim (fun (t : Unit) => laws_eqIntS_n7) (fun e => some ((fun (t : Bool) => t) e)))

def laws_eqIntS_n9 (x5432 : List Int) (x5433 : List Int) : Option (Bool) :=
  (laws_eqIntS_n1 x5432 x5433).bind (Sum.elim (fun (t : Unit) => laws_eqIntS_n8 x5432 x5433) (fun e => some ((fun (t : Bool) => t) e)))

@[irreducible] def laws_eqIntS (x5432 : List Int) (x5433 : List Int) : Option (Bool) :=
  laws_eqIntS_n9 x5432 x5433

def laws_FnExactCrossingsSum_n1 (x5990 : List Int) : Option (Bool) :=
  cond (decide ((((List.length x5990 : Nat) : Int)) > 1048576)) (some true) ((laws_toIntS x5990).bind fun (v6037 : List Int) => (spec_CrossingsSum v6037).bind fun (v6038 : Int) => (laws_toIntS x5990).bind fun (v6039 : List Int) => (impl_CrossingsSum v6039).bind fun (v6040 : Int) => cond (v6040 != v6038) (some false) ((laws_toIntS x5990).bind fun (v6042 : List Int) => (laws_eqIntS v6039 v6042).bind fun (v6043 : Bool) => cond (!v6043) (some false) (some true)))

@[irreducible] def laws_FnExactCrossingsSum (x5990 : List Int) : Option (Bool) :=
  laws_FnExactCrossingsSum_n1 x5990

end Go.Rv
