/-
  Plain functions, written by program for functions of the checked code. Conditions: none.
-/
import Derived.Test.YteafjhhkdekagaaFB
set_option linter.unusedVariables false
namespace Go.Rv
def spec_l20Open_n1 (x12 : List Int) : Option (((List Int))) :=
  cond (decide ((((List.length x12 : Nat) : Int)) > 2000)) ((inc 2000 (List.length x12)).bind fun (v29 : Nat) => some ((x12.take v29).drop 0)) (some x12)

@[irreducible] def spec_l20Open (x12 : List Int) : Option ((List Int)) :=
  spec_l20Open_n1 x12

def spec_l20Rd_pick_n1 (x41 : Int) (x42 : List Int) (x43 : Int) : Option ((Int × Int)) :=
  cond (decide (x41 < 1)) (some (0, (IntKind.wrap .i64 (x43 + 1)))) (cond ((((List.length x42 : Nat) : Int)) == 0) (some (0, (IntKind.wrap .i64 (x43 + 1)))) (cond (decide ((IntKind.wrap .i64 ((IntKind.wrap .i64 (x43 + 1)) - 1)) < (((List.length x42 : Nat) : Int)))) ((idx x42 (IntKind.wrap .i64 ((IntKind.wrap .i64 (x43 + 1)) - 1))).bind fun (v170 : Int) => (rem (IntKind.wrap .i64 v170) x41).bind fun (v172 : Int) => some (v172, (IntKind.wrap .i64 (x43 + 1)))) ((rem (IntKind.wrap .i64 ((IntKind.wrap .i64 (x43 + 1)) - 1)) (((List.length x42 : Nat) : Int))).bind fun (v174 : Int) => (idx x42 v174).bind fun (v175 : Int) => (rem (IntKind.wrap .i64 ((IntKind.wrap .i64 ((IntKind.wrap .i64 ((IntKind.wrap .i64 (x43 + 1)) - 1)) * 7)) + 3)) (((List.length x42 : Nat) : Int))).bind fun (v181 : Int) => (idx x42 v181).bind fun (v182 : Int) => (quo .i64 (IntKind.wrap .i64 ((IntKind.wrap .i64 (x43 + 1)) - 1)) (((List.length x42 : Nat) : Int))).bind fun (v189 : Int) => (quo .i64 (IntKind.wrap .i64 ((IntKind.wrap .i64 ((IntKind.wrap .i64 ((IntKind.wrap .i64 ((IntKind.wrap .i64 v175) * 131)) + (IntKind.wrap .i64 ((IntKind.wrap .i64 v182) * 1117)))) + (IntKind.wrap .i64 ((IntKind.wrap .i64 ((IntKind.wrap .i64 (x43 + 1)) - 1)) * 29)))) + (IntKind.wrap .i64 (v189 * 53)))) 64).bind fun (v192 : Int) => (rem (ixor .i64 (IntKind.wrap .i64 ((IntKind.wrap .i64 ((IntKind.wrap .i64 ((IntKind.wrap .i64 ((IntKind.wrap .i64 v175) * 131)) + (IntKind.wrap .i64 ((IntKind.wrap .i64 v182) * 1117)))) + (IntKind.wrap .i64 ((IntKind.wrap .i64 ((IntKind.wrap .i64 (x43 + 1)) - 1)) * 29)))) + (IntKind.wrap .i64 (v189 * 53)))) v192) x41).bind fun (v194 : Int) => some (v194, (IntKind.wrap .i64 (x43 + 1))))))

@[irreducible] def spec_l20Rd_pick (x41 : Int) (x42 : List Int) (x43 : Int) : Option (Int × Int) :=
  spec_l20Rd_pick_n1 x41 x42 x43

def spec_l1In_n1 (x780 : Int) (x781 : Int) (x782 : Int) : Option (Bool) :=
  cond (decide (x780 ≥ x781)) (some (decide (x780 ≤ x782))) (some false)

@[irreducible] def spec_l1In (x780 : Int) (x781 : Int) (x782 : Int) : Option (Bool) :=
  spec_l1In_n1 x780 x781 x782

def impl_oneRoot_n1 : Option (Unit) :=
  some ()

def impl_oneRoot_n2 (x1431 : List Int) : Option (Int) :=
  some (((List.length x1431 : Nat) : Int))

def impl_oneRoot_n3 (x1431 : List Int) (x1453 : Int) (x1432 : Int) (x1454 : Int) : Option ((Int × Int) ⊕ Bool ⊕ Int) :=
  cond (decide (x1454 < x1432)) ((idx x1431 x1454).bind fun (v1465 : Int) => cond (decide (v1465 < 0)) (some (Sum.inr (Sum.inl false))) (cond (decide (v1465 > (((List.length x1431 : Nat) : Int)))) (some (Sum.inr (Sum.inl false))) (cond (v1465 == 0) (some (Sum.inl ((IntKind.wrap .i64 (x1453 + 1)), (IntKind.wrap .i64 (x1454 + 1))))) (some (Sum.inl (x1453, (IntKind.wrap .i64 (x1454 + 1)))))))) (some (Sum.inr (Sum.inr x1453)))

def impl_oneRoot_n4 (x1431 : List Int) (x1432 : Int) : Option (Bool ⊕ Int) :=
  nloop (fun (s : Int × Int) => ((impl_oneRoot_n3 x1431 s.1 x1432 s.2).map (Sum.elim (fun (t : Int × Int) => Sum.inl (t.1, t.2)) (Sum.elim (fun (t : Bool) => Sum.inr (Sum.inl t)) (fun (t : Int) => Sum.inr (Sum.inr t)))) : Option ((Int × Int) ⊕ (Bool ⊕ Int)))) LL (0, 0)

def impl_oneRoot_n5 (x1431 : List Int) (x1432 : Int) : Option (Int ⊕ Bool) :=
  (impl_oneRoot_n4 x1431 x1432).map (Sum.elim (fun (t : Bool) => (Sum.inr t)) (fun (t : Int) => (Sum.inl t)))

def impl_oneRoot_n6 (x1431 : List Int) : Option (Int ⊕ Bool) :=
  (impl_oneRoot_n2 x1431).bind (fun (t : Int) => impl_oneRoot_n5 x1431 t)

def impl_oneRoot_n7 (x1453 : Int) : Option (Bool) :=
  some (x1453 == 1)

def impl_oneRoot_n8 (x1431 : List Int) : Option (Bool) :=
  (impl_oneRoot_n6 x1431).bind (Sum.elim (fun (t : Int) => impl_oneRoot_n7 t) (fun e => some ((fun (t : Bool) => t) e)))

def impl_oneRoot_n9 (x1431 : List Int) : Option (Bool) :=
  (impl_oneRoot_n1).bind (fun (t : Unit) => impl_oneRoot_n8 x1431)

@[irreducible] def impl_oneRoot (x1431 : List Int) : Option (Bool) :=
  impl_oneRoot_n9 x1431

def impl_walker_up_n1 (x1487 : List Int) (x1488 : Int) (x1489 : Int) : Option ((Bool × Int × Int)) :=
  (idx x1487 (IntKind.wrap .i64 (x1488 - 1))).bind fun (v1507 : Int) => cond (v1507 == 0) (some (false, x1488, x1489)) (some (true, v1507, (IntKind.wrap .i64 (x1489 + 1))))

@[irreducible] def impl_walker_up (x1487 : List Int) (x1488 : Int) (x1489 : Int) : Option (Bool × Int × Int) :=
  impl_walker_up_n1 x1487 x1488 x1489

def impl_stepsToRoot_n1 : Option (Unit) :=
  some ()

def impl_stepsToRoot_n2 (x1485 : List Int) (x1523 : Int) (x1524 : Int) : Option ((Int × Int) ⊕ (Int × Bool) ⊕ (Int × Int)) :=
  (impl_walker_up x1485 x1523 x1524).bind fun (v1529 : Bool × Int × Int) => cond (v1529.1) (cond (decide ((v1529.2.2) ≥ (((List.length x1485 : Nat) : Int)))) (some (Sum.inr (Sum.inl (0, false)))) (some (Sum.inl ((v1529.2.1), (v1529.2.2))))) (some (Sum.inr (Sum.inr ((v1529.2.1), (v1529.2.2)))))

def impl_stepsToRoot_n3 (x1485 : List Int) (x1486 : Int) : Option ((Int × Bool) ⊕ (Int × Int)) :=
  nloop (fun (s : Int × Int) => ((impl_stepsToRoot_n2 x1485 s.1 s.2).map (Sum.elim (fun (t : Int × Int) => Sum.inl (t.1, t.2)) (Sum.elim (fun (t : Int × Bool) => Sum.inr (Sum.inl t)) (fun (t : Int × Int) => Sum.inr (Sum.inr t)))) : Option ((Int × Int) ⊕ ((Int × Bool) ⊕ (Int × Int))))) LL (x1486, 0)

def impl_stepsToRoot_n4 (x1485 : List Int) (x1486 : Int) : Option ((Int × Int) ⊕ (Int × Bool)) :=
  (impl_stepsToRoot_n3 x1485 x1486).map (Sum.elim (fun (t : Int × Bool) => (Sum.inr t)) (fun (t : Int × Int) => (Sum.inl (t.1, t.2))))

def impl_stepsToRoot_n5 (x1532 : Int) : Option ((Int × Bool)) :=
  some (x1532, true)

def impl_stepsToRoot_n6 (x1485 : List Int) (x1486 : Int) : Option ((Int × Bool)) :=
  (impl_stepsToRoot_n4 x1485 x1486).bind (Sum.elim (fun (t : Int × Int) => impl_stepsToRoot_n5 t.2) (fun e => some ((fun (t : Int × Bool) => t) e)))

def impl_stepsToRoot_n7 (x1485 : List Int) (x1486 : Int) : Option ((Int × Bool)) :=
  (impl_stepsToRoot_n1).bind (fun (t : Unit) => impl_stepsToRoot_n6 x1485 x1486)

@[irreducible] def impl_stepsToRoot (x1485 : List Int) (x1486 : Int) : Option (Int × Bool) :=
  impl_stepsToRoot_n7 x1485 x1486

def impl_TreeOk_n1 (x1426 : List Int) : Option (Unit ⊕ Bool) :=
  cond (decide ((((List.length x1426 : Nat) : Int)) < 1)) (some (Sum.inr false)) (cond (decide ((((List.length x1426 : Nat) : Int)) > 8)) (some (Sum.inr false)) ((impl_oneRoot x1426).bind fun (v1478 : Bool) => cond (!v1478) (some (Sum.inr false)) (some (Sum.inl ()))))

def impl_TreeOk_n2 (x1426 : List Int) : Option (Int) :=
  some (((List.length x1426 : Nat) : Int))

def impl_TreeOk_n3 (x1426 : List Int) (x1480 : Int) (x1548 : Int) : Option (Int ⊕ Bool ⊕ Unit) :=
  cond (decide (x1548 < x1480)) ((impl_stepsToRoot x1426 (IntKind.wrap .i64 (x1548 + 1))).bind fun (v1559 : Int × Bool) => cond (!(v1559.2)) (some (Sum.inr (Sum.inl false))) (some (Sum.inl (IntKind.wrap .i64 (x1548 + 1))))) (some (Sum.inr (Sum.inr ())))

def impl_TreeOk_n4 (x1426 : List Int) (x1480 : Int) : Option (Bool ⊕ Unit) :=
  nloop (fun (s : Int) => ((impl_TreeOk_n3 x1426 x1480 s).map (Sum.elim (fun (t : Int) => Sum.inl t) (Sum.elim (fun (t : Bool) => Sum.inr (Sum.inl t)) (fun (t : Unit) => Sum.inr (Sum.inr t)))) : Option ((Int) ⊕ (Bool ⊕ Unit)))) LL 0

def impl_TreeOk_n5 (x1426 : List Int) (x1480 : Int) : Option (Unit ⊕ Bool) :=
  (impl_TreeOk_n4 x1426 x1480).map (Sum.elim (fun (t : Bool) => (Sum.inr t)) (fun (t : Unit) => (Sum.inl ())))

def impl_TreeOk_n6 (x1426 : List Int) : Option (Unit ⊕ Bool) :=
  (impl_TreeOk_n2 x1426).bind (fun (t : Int) => impl_TreeOk_n5 x1426 t)

def impl_TreeOk_n7 : Option (Bool) :=
  some true

def impl_TreeOk_n8 (x1426 : List Int) : Option (Bool) :=
  (impl_TreeOk_n6 x1426).bind (Sum.elim (fun (t : Unit) => impl_TreeOk_n7) (fun e => some ((fun (t : Bool) => t) e)))

def impl_TreeOk_n9 (x1426 : List Int) : Option (Bool) :=
  (impl_TreeOk_n1 x1426).bind (Sum.elim (fun (t : Unit) => impl_TreeOk_n8 x1426) (fun e => some ((fun (t : Bool) => t) e)))

@[irreducible] def impl_TreeOk (x1426 : List Int) : Option (Bool) :=
  impl_TreeOk_n9 x1426

def impl_arcBetween_n1 (x1580 : Int) (x1581 : Int) : Option ((Bool × Int × Int)) :=
  cond (decide (x1580 < 1)) (some (false, 0, 0)) (cond (decide (x1581 < 1)) (some (false, 0, 0)) (cond (x1580 == x1581) (some (false, 0, 0)) (some (true, (imin x1580 x1581), (imax x1580 x1581)))))

@[irreducible] def impl_arcBetween (x1580 : Int) (x1581 : Int) : Option (Bool × Int × Int) :=
  impl_arcBetween_n1 x1580 x1581

def impl_arcsOf_n1 (x1569 : List Int) : Option (((List (Int × Int × Unit)))) :=
  (mk 0 (((List.length x1569 : Nat) : Int))).bind fun (v1572 : Nat) => some (List.replicate v1572 ((0 : Int), ((0 : Int), ())))

def impl_arcsOf_n2 (x1569 : List Int) : Option (Int) :=
  some (((List.length x1569 : Nat) : Int))

def impl_arcsOf_n3 (x1569 : List Int) (x1574 : Int) (x1626 : Int) (x1627 : List (Int × Int × Unit)) : Option ((Int × (List (Int × Int × Unit))) ⊕ ((List (Int × Int × Unit)))) :=
  cond (decide (x1626 < x1574)) ((idx x1569 x1626).bind fun (v1644 : Int) => (impl_arcBetween (IntKind.wrap .i64 (x1626 + 1)) v1644).bind fun (v1646 : Bool × Int × Int) => cond (v1646.1) ((room ((List.length x1627) + List.length ([((v1646.2.1), ((v1646.2.2), ()))]))).bind fun (v1654 : Unit) => some (Sum.inl ((IntKind.wrap .i64 (x1626 + 1)), (x1627 ++ ([((v1646.2.1), ((v1646.2.2), ()))]))))) (some (Sum.inl ((IntKind.wrap .i64 (x1626 + 1)), x1627)))) (some (Sum.inr x1627))

def impl_arcsOf_n4 (x1569 : List Int) (x1574 : Int) (x1573 : List (Int × Int × Unit)) : Option (((List (Int × Int × Unit)))) :=
  nloop (fun (s : Int × (List (Int × Int × Unit))) => ((impl_arcsOf_n3 x1569 x1574 s.1 s.2).map (Sum.elim (fun (t : Int × (List (Int × Int × Unit))) => Sum.inl (t.1, t.2)) (fun (t : (List (Int × Int × Unit))) => Sum.inr t)) : Option ((Int × (List (Int × Int × Unit))) ⊕ (((List (Int × Int × Unit))))))) LL (0, x1573)

def impl_arcsOf_n5 (x1569 : List Int) (x1574 : Int) (x1573 : List (Int × Int × Unit)) : Option (((List (Int × Int × Unit)))) :=
  (impl_arcsOf_n4 x1569 x1574 x1573).map (fun (t : (List (Int × Int × Unit))) => t)

def impl_arcsOf_n6 (x1569 : List Int) (x1573 : List (Int × Int × Unit)) : Option (((List (Int × Int × Unit)))) :=
  (impl_arcsOf_n2 x1569).bind (fun (t : Int) => impl_arcsOf_n5 x1569 t x1573)

def impl_arcsOf_n7 (x1627 : List (Int × Int × Unit)) : Option (((List (Int × Int × Unit)))) :=
  some x1627

def impl_arcsOf_n8 (x1569 : List Int) (x1573 : List (Int × Int × Unit)) : Option (((List (Int × Int × Unit)))) :=
  (impl_arcsOf_n6 x1569 x1573).bind (fun (t : (List (Int × Int × Unit))) => impl_arcsOf_n7 t)

def impl_arcsOf_n9 (x1569 : List Int) : Option (((List (Int × Int × Unit)))) :=
  (impl_arcsOf_n1 x1569).bind (fun (t : (List (Int × Int × Unit))) => impl_arcsOf_n8 x1569 t)

@[irreducible] def impl_arcsOf (x1569 : List Int) : Option ((List (Int × Int × Unit))) :=
  impl_arcsOf_n9 x1569

def impl_arc_length_n1 (x1671 : Int) (x1672 : Int) : Option (Int) :=
  some (IntKind.wrap .i64 (x1672 - x1671))

@[irreducible] def impl_arc_length (x1671 : Int) (x1672 : Int) : Option (Int) :=
  impl_arc_length_n1 x1671 x1672

def impl_LengthOf_n1 (x1425 : List Int) : Option (Unit ⊕ Int) :=
  (impl_TreeOk x1425).bind fun (v1567 : Bool) => cond (!v1567) (some (Sum.inr (-1))) (some (Sum.inl ()))

def impl_LengthOf_n2 (x1425 : List Int) : Option ((Int × (List (Int × Int × Unit)))) :=
  (impl_arcsOf x1425).bind fun (v1660 : List (Int × Int × Unit)) => some ((((List.length v1660 : Nat) : Int)), v1660)

def impl_LengthOf_n3 (x1687 : Int) (x1661 : Int) (x1688 : Int) (x1660 : List (Int × Int × Unit)) : Option ((Int × Int) ⊕ Int) :=
  cond (decide (x1688 < x1661)) ((inb x1688 (List.length x1660)).bind fun (v1701 : Nat) => (x1660[v1701]?).bind fun (v1702 : Int × Int × Unit) => (impl_arc_length (v1702.1) ((v1702.2).1)).bind fun (v1707 : Int) => some (Sum.inl ((IntKind.wrap .i64 (x1687 + v1707)), (IntKind.wrap .i64 (x1688 + 1))))) (some (Sum.inr x1687))

def impl_LengthOf_n4 (x1661 : Int) (x1660 : List (Int × Int × Unit)) : Option (Int) :=
  nloop (fun (s : Int × Int) => ((impl_LengthOf_n3 s.1 x1661 s.2 x1660).map (Sum.elim (fun (t : Int × Int) => Sum.inl (t.1, t.2)) (fun (t : Int) => Sum.inr t)) : Option ((Int × Int) ⊕ (Int)))) LL (0, 0)

def impl_LengthOf_n5 (x1661 : Int) (x1660 : List (Int × Int × Unit)) : Option (Int) :=
  (impl_LengthOf_n4 x1661 x1660).map (fun (t : Int) => t)

def impl_LengthOf_n6 (x1425 : List Int) : Option (Int) :=
  (impl_LengthOf_n2 x1425).bind (fun (t : Int × (List (Int × Int × Unit))) => impl_LengthOf_n5 t.1 t.2)

def impl_LengthOf_n7 (x1687 : Int) : Option (Int) :=
  some x1687

def impl_LengthOf_n8 (x1425 : List Int) : Option (Int) :=
  (impl_LengthOf_n6 x1425).bind (fun (t : Int) => impl_LengthOf_n7 t)

def impl_LengthOf_n9 (x1425 : List Int) : Option (Int) :=
  (impl_LengthOf_n1 x1425).bind (Sum.elim (fun (t : Unit) => impl_LengthOf_n8 x1425) (fun e => some ((fun (t : Int) => t) e)))

@[irreducible] def impl_LengthOf (x1425 : List Int) : Option (Int) :=
  impl_LengthOf_n9 x1425

def laws_alive_n1 : Option (Bool) :=
  (impl_TreeOk ([0])).bind fun (v1802 : Bool) => cond v1802 ((impl_TreeOk ([1])).bind fun (v1804 : Bool) => some (!v1804)) (some false)

@[irreducible] def laws_alive : Option (Bool) :=
  laws_alive_n1

def impl_OrderOk_n1 (x1995 : List Int) (x1996 : Int) : Option (Unit ⊕ Bool) :=
  cond (decide (x1996 < 1)) (some (Sum.inr false)) (cond (decide (x1996 > 8)) (some (Sum.inr false)) (cond ((((List.length x1995 : Nat) : Int)) != x1996) (some (Sum.inr false)) (some (Sum.inl ()))))

def impl_OrderOk_n2 (x1995 : List Int) : Option (Int) :=
  some (((List.length x1995 : Nat) : Int))

def impl_OrderOk_n3 (x1996 : Int) (x1995 : List Int) (x2006 : Int) (x2030 : Int) (x2031 : List Bool) : Option ((Int × (List Bool)) ⊕ Bool ⊕ Unit) :=
  cond (decide (x2030 < x2006)) ((idx x1995 x2030).bind fun (v2045 : Int) => cond (decide (v2045 < 1)) (some (Sum.inr (Sum.inl false))) (cond (decide (v2045 > x1996)) (some (Sum.inr (Sum.inl false))) ((same (List.length x2031) 9).bind fun (v2048 : Unit) => (inb v2045 9).bind fun (v2049 : Nat) => (x2031[v2049]?).bind fun (v2050 : Bool) => cond v2050 (some (Sum.inr (Sum.inl false))) ((same (List.length x2031) 9).bind fun (v2051 : Unit) => (inb v2045 9).bind fun (v2052 : Nat) => some (Sum.inl ((IntKind.wrap .i64 (x2030 + 1)), (x2031.set v2052 true))))))) (some (Sum.inr (Sum.inr ())))

def impl_OrderOk_n4 (x1996 : Int) (x1995 : List Int) (x2006 : Int) : Option (Bool ⊕ Unit) :=
  nloop (fun (s : Int × (List Bool)) => ((impl_OrderOk_n3 x1996 x1995 x2006 s.1 s.2).map (Sum.elim (fun (t : Int × (List Bool)) => Sum.inl (t.1, t.2)) (Sum.elim (fun (t : Bool) => Sum.inr (Sum.inl t)) (fun (t : Unit) => Sum.inr (Sum.inr t)))) : Option ((Int × (List Bool)) ⊕ (Bool ⊕ Unit)))) LL (0, (List.replicate 9 false))

def impl_OrderOk_n5 (x1996 : Int) (x1995 : List Int) (x2006 : Int) : Option (Unit ⊕ Bool) :=
  (impl_OrderOk_n4 x1996 x1995 x2006).map (Sum.elim (fun (t : Bool) => (Sum.inr t)) (fun (t : Unit) => (Sum.inl ())))

def impl_OrderOk_n6 (x1995 : List Int) (x1996 : Int) : Option (Unit ⊕ Bool) :=
  (impl_OrderOk_n2 x1995).bind (fun (t : Int) => impl_OrderOk_n5 x1996 x1995 t)

def impl_OrderOk_n7 : Option (Bool) :=
  some true

def impl_OrderOk_n8 (x1995 : List Int) (x1996 : Int) : Option (Bool) :=
  (impl_OrderOk_n6 x1995 x1996).bind (Sum.elim (fun (t : Unit) => impl_OrderOk_n7) (fun e => some ((fun (t : Bool) => t) e)))

def impl_OrderOk_n9 (x1995 : List Int) (x1996 : Int) : Option (Bool) :=
  (impl_OrderOk_n1 x1995 x1996).bind (Sum.elim (fun (t : Unit) => impl_OrderOk_n8 x1995 x1996) (fun e => some ((fun (t : Bool) => t) e)))

@[irreducible] def impl_OrderOk (x1995 : List Int) (x1996 : Int) : Option (Bool) :=
  impl_OrderOk_n9 x1995 x1996

def impl_placesIn_n1 (x2063 : List Int) : Option (((List Int))) :=
  (mk (IntKind.wrap .i64 ((((List.length x2063 : Nat) : Int)) + 1)) (IntKind.wrap .i64 ((((List.length x2063 : Nat) : Int)) + 1))).bind fun (v2066 : Nat) => some (List.replicate v2066 (0 : Int))

def impl_placesIn_n2 (x2063 : List Int) : Option (Int) :=
  some (((List.length x2063 : Nat) : Int))

def impl_placesIn_n3 (x2063 : List Int) (x2068 : Int) (x2082 : Int) (x2083 : List Int) : Option ((Int × (List Int)) ⊕ ((List Int))) :=
  cond (decide (x2082 < x2068)) ((idx x2063 x2082).bind fun (v2092 : Int) => (inb v2092 (List.length x2083)).bind fun (v2094 : Nat) => some (Sum.inl ((IntKind.wrap .i64 (x2082 + 1)), (x2083.set v2094 (IntKind.wrap .i64 (x2082 + 1)))))) (some (Sum.inr x2083))

def impl_placesIn_n4 (x2063 : List Int) (x2068 : Int) (x2067 : List Int) : Option (((List Int))) :=
  nloop (fun (s : Int × (List Int)) => ((impl_placesIn_n3 x2063 x2068 s.1 s.2).map (Sum.elim (fun (t : Int × (List Int)) => Sum.inl (t.1, t.2)) (fun (t : (List Int)) => Sum.inr t)) : Option ((Int × (List Int)) ⊕ (((List Int)))))) LL (0, x2067)

def impl_placesIn_n5 (x2063 : List Int) (x2068 : Int) (x2067 : List Int) : Option (((List Int))) :=
  (impl_placesIn_n4 x2063 x2068 x2067).map (fun (t : (List Int)) => t)

def impl_placesIn_n6 (x2063 : List Int) (x2067 : List Int) : Option (((List Int))) :=
  (impl_placesIn_n2 x2063).bind (fun (t : Int) => impl_placesIn_n5 x2063 t x2067)

def impl_placesIn_n7 (x2083 : List Int) : Option (((List Int))) :=
  some x2083

def impl_placesIn_n8 (x2063 : List Int) (x2067 : List Int) : Option (((List Int))) :=
  (impl_placesIn_n6 x2063 x2067).bind (fun (t : (List Int)) => impl_placesIn_n7 t)

def impl_placesIn_n9 (x2063 : List Int) : Option (((List Int))) :=
  (impl_placesIn_n1 x2063).bind (fun (t : (List Int)) => impl_placesIn_n8 x2063 t)

@[irreducible] def impl_placesIn (x2063 : List Int) : Option ((List Int)) :=
  impl_placesIn_n9 x2063

def impl_PutInOrder_1_n1 (x2117 : Int) (x2118 : List Int) : Option (Int) :=
  (inb x2117 (List.length x2118)).bind fun (v2121 : Nat) => (x2118[v2121]?).bind fun (v2122 : Int) => some v2122

@[irreducible] def impl_PutInOrder_1 (x2117 : Int) (x2118 : List Int) : Option (Int) :=
  impl_PutInOrder_1_n1 x2117 x2118

def impl_renamed_int_n1 (x2105 : List Int) : Option (((List Int))) :=
  (mk (((List.length x2105 : Nat) : Int)) (((List.length x2105 : Nat) : Int))).bind fun (v2108 : Nat) => some (List.replicate v2108 (0 : Int))

def impl_renamed_int_n2 (x2105 : List Int) : Option (Int) :=
  some (((List.length x2105 : Nat) : Int))

def impl_renamed_int_n3 (x2104 : List Int) (x2105 : List Int) (x2110 : Int) (x2134 : Int) (x2106 : List Int) (x2135 : List Int) : Option ((Int × (List Int)) ⊕ ((List Int))) :=
  cond (decide (x2134 < x2110)) ((idx x2105 x2134).bind fun (v2146 : Int) => (idx x2104 (IntKind.wrap .i64 (v2146 - 1))).bind fun (v2148 : Int) => (impl_PutInOrder_1 v2148 x2106).bind fun (v2149 : Int) => (inb x2134 (List.length x2135)).bind fun (v2150 : Nat) => some (Sum.inl ((IntKind.wrap .i64 (x2134 + 1)), (x2135.set v2150 v2149)))) (some (Sum.inr x2135))

def impl_renamed_int_n4 (x2104 : List Int) (x2105 : List Int) (x2110 : Int) (x2106 : List Int) (x2109 : List Int) : Option (((List Int))) :=
  nloop (fun (s : Int × (List Int)) => ((impl_renamed_int_n3 x2104 x2105 x2110 s.1 x2106 s.2).map (Sum.elim (fun (t : Int × (List Int)) => Sum.inl (t.1, t.2)) (fun (t : (List Int)) => Sum.inr t)) : Option ((Int × (List Int)) ⊕ (((List Int)))))) LL (0, x2109)

def impl_renamed_int_n5 (x2104 : List Int) (x2105 : List Int) (x2110 : Int) (x2106 : List Int) (x2109 : List Int) : Option (((List Int))) :=
  (impl_renamed_int_n4 x2104 x2105 x2110 x2106 x2109).map (fun (t : (List Int)) => t)

def impl_renamed_int_n6 (x2104 : List Int) (x2105 : List Int) (x2106 : List Int) (x2109 : List Int) : Option (((List Int))) :=
  (impl_renamed_int_n2 x2105).bind (fun (t : Int) => impl_renamed_int_n5 x2104 x2105 t x2106 x2109)

def impl_renamed_int_n7 (x2135 : List Int) : Option (((List Int))) :=
  some x2135

def impl_renamed_int_n8 (x2104 : List Int) (x2105 : List Int) (x2106 : List Int) (x2109 : List Int) : Option (((List Int))) :=
  (impl_renamed_int_n6 x2104 x2105 x2106 x2109).bind (fun (t : (List Int)) => impl_renamed_int_n7 t)

def impl_renamed_int_n9 (x2104 : List Int) (x2105 : List Int) (x2106 : List Int) : Option (((List Int))) :=
  (impl_renamed_int_n1 x2105).bind (fun (t : (List Int)) => impl_renamed_int_n8 x2104 x2105 x2106 t)

@[irreducible] def impl_renamed_int (x2104 : List Int) (x2105 : List Int) (x2106 : List Int) : Option ((List Int)) :=
  impl_renamed_int_n9 x2104 x2105 x2106

def impl_PutInOrder_n1 (x1990 : List Int) (x1991 : List Int) : Option ((Bool × (List Int))) :=
  (impl_TreeOk x1990).bind fun (v2154 : Bool) => cond (!v2154) (some (false, ([] : List Int))) ((impl_OrderOk x1991 (((List.length x1990 : Nat) : Int))).bind fun (v2157 : Bool) => cond (!v2157) (some (false, ([] : List Int))) ((impl_placesIn x1991).bind fun (v2159 : List Int) => (impl_renamed_int x1990 x1991 v2159).bind fun (v2160 : List Int) => some (true, v2160)))

@[irreducible] def impl_PutInOrder (x1990 : List Int) (x1991 : List Int) : Option (Bool × (List Int)) :=
  impl_PutInOrder_n1 x1990 x1991

def spec_DrawLengthsSum_n1 (x2320 : List Int) : Option (Int) :=
  (spec_l20Open x2320).bind fun (v2327 : List Int) => (spec_l20Rd_pick 11 v2327 0).bind fun (v2328 : Int × Int) => some (IntKind.wrap .i64 ((v2328.1) - 1))

@[irreducible] def spec_DrawLengthsSum (x2320 : List Int) : Option (Int) :=
  spec_DrawLengthsSum_n1 x2320

def impl_countOrders_n1 : Option (Unit) :=
  some ()

def impl_countOrders_n2 : Option (Unit) :=
  some ()

def impl_countOrders_n3 (x2341 : Int) (x2348 : Int) (x2349 : Int) : Option ((Int × Int) ⊕ Int) :=
  cond (decide (x2349 ≤ x2341)) (some (Sum.inl ((IntKind.wrap .i64 (x2348 * x2349)), (IntKind.wrap .i64 (x2349 + 1))))) (some (Sum.inr x2348))

def impl_countOrders_n4 (x2341 : Int) : Option (Int) :=
  nloop (fun (s : Int × Int) => ((impl_countOrders_n3 x2341 s.1 s.2).map (Sum.elim (fun (t : Int × Int) => Sum.inl (t.1, t.2)) (fun (t : Int) => Sum.inr t)) : Option ((Int × Int) ⊕ (Int)))) LL (1, 2)

def impl_countOrders_n5 (x2341 : Int) : Option (Int) :=
  (impl_countOrders_n4 x2341).map (fun (t : Int) => t)

def impl_countOrders_n6 (x2341 : Int) : Option (Int) :=
  (impl_countOrders_n2).bind (fun (t : Unit) => impl_countOrders_n5 x2341)

def impl_countOrders_n7 (x2348 : Int) : Option (Int) :=
  some x2348

def impl_countOrders_n8 (x2341 : Int) : Option (Int) :=
  (impl_countOrders_n6 x2341).bind (fun (t : Int) => impl_countOrders_n7 t)

def impl_countOrders_n9 (x2341 : Int) : Option (Int) :=
  (impl_countOrders_n1).bind (fun (t : Unit) => impl_countOrders_n8 x2341)

@[irreducible] def impl_countOrders (x2341 : Int) : Option (Int) :=
  impl_countOrders_n9 x2341

def impl_LengthsSum_n1 (x2336 : Int) : Option (Int) :=
  cond (decide (x2336 < 1)) (some (-1)) (cond (decide (x2336 > 8)) (some (-1)) ((impl_countOrders x2336).bind fun (v2364 : Int) => (quo .i64 (IntKind.wrap .i64 ((IntKind.wrap .i64 (v2364 * (IntKind.wrap .i64 (x2336 - 1)))) * (IntKind.wrap .i64 (x2336 + 1)))) 3).bind fun (v2369 : Int) => some v2369))

@[irreducible] def impl_LengthsSum (x2336 : Int) : Option (Int) :=
  impl_LengthsSum_n1 x2336

def spec_LengthsSum_n1 (x2376 : Int) : Option (Unit ⊕ Int) :=
  (spec_l1In x2376 1 8).bind fun (v2379 : Bool) => cond (!v2379) (some (Sum.inr (-1))) (some (Sum.inl ()))

def spec_LengthsSum_n2 : Option (Unit) :=
  some ()

def spec_LengthsSum_n3 (x2376 : Int) (x2387 : Int) (x2388 : Int) : Option ((Int × Int) ⊕ Int) :=
  cond (decide (x2388 ≤ x2376)) (some (Sum.inl ((IntKind.wrap .i64 (x2387 * x2388)), (IntKind.wrap .i64 (x2388 + 1))))) (some (Sum.inr x2387))

def spec_LengthsSum_n4 (x2376 : Int) : Option (Int) :=
  nloop (fun (s : Int × Int) => ((spec_LengthsSum_n3 x2376 s.1 s.2).map (Sum.elim (fun (t : Int × Int) => Sum.inl (t.1, t.2)) (fun (t : Int) => Sum.inr t)) : Option ((Int × Int) ⊕ (Int)))) LL (1, 2)

def spec_LengthsSum_n5 (x2376 : Int) : Option (Int) :=
  (spec_LengthsSum_n4 x2376).map (fun (t : Int) => t)

def spec_LengthsSum_n6 (x2376 : Int) : Option (Int) :=
  (spec_LengthsSum_n2).bind (fun (t : Unit) => spec_LengthsSum_n5 x2376)

def spec_LengthsSum_n7 (x2376 : Int) (x2387 : Int) : Option (Int) :=
  (quo .i64 (IntKind.wrap .i64 ((IntKind.wrap .i64 (x2387 * (IntKind.wrap .i64 (x2376 - 1)))) * (IntKind.wrap .i64 (x2376 + 1)))) 3).bind fun (v2404 : Int) => some v2404

def spec_LengthsSum_n8 (x2376 : Int) : Option (Int) :=
  (spec_LengthsSum_n6 x2376).bind (fun (t : Int) => spec_LengthsSum_n7 x2376 t)

def spec_LengthsSum_n9 (x2376 : Int) : Option (Int) :=
  (spec_LengthsSum_n1 x2376).bind (Sum.elim (fun (t : Unit) => spec_LengthsSum_n8 x2376) (fun e => some ((fun (t : Int) => t) e)))

@[irreducible] def spec_LengthsSum (x2376 : Int) : Option (Int) :=
  spec_LengthsSum_n9 x2376

def laws_FnLengthsSum_n1 (x2315 : List Int) : Option ((Int × Int) ⊕ Bool) :=
  cond (decide ((((List.length x2315 : Nat) : Int)) > 1048576)) (some (Sum.inr true)) ((spec_DrawLengthsSum x2315).bind fun (v2465 : Int) => (impl_LengthsSum v2465).bind fun (v2466 : Int) => (spec_LengthsSum v2465).bind fun (v2467 : Int) => cond (v2466 != v2467) (some (Sum.inr false)) (cond (decide (v2466 < 0)) (cond (v2466 == (-1)) (cond (decide (v2465 < 1)) ((laws_alive).bind fun (v2472 : Bool) => some (Sum.inr v2472)) (cond (decide (v2465 > 8)) ((laws_alive).bind fun (v2474 : Bool) => some (Sum.inr v2474)) (some (Sum.inr false)))) (some (Sum.inr false))) (cond (decide (v2465 > 5)) (some (Sum.inr (decide (v2466 > 0)))) (some (Sum.inl (v2465, v2466))))))

def laws_FnLengthsSum_n2 : Option (Unit) :=
  some ()

def laws_FnLengthsSum_n3 (x2465 : Int) (x2505 : Int) (x2506 : Int) (x2507 : List Int) (x2508 : List Int) : Option ((Int × Int × (List Int) × (List Int)) ⊕ (Int × (List Int) × (List Int))) :=
  cond (decide (x2506 ≤ x2465)) ((room ((List.length x2507) + List.length ([(IntKind.wrap .i64 (x2506 - 1))]))).bind fun (v2527 : Unit) => (room ((List.length x2508) + List.length ([(imin (IntKind.wrap .i64 (x2506 - 1)) 1)]))).bind fun (v2533 : Unit) => some (Sum.inl ((IntKind.wrap .i64 (x2505 * x2506)), (IntKind.wrap .i64 (x2506 + 1)), (x2507 ++ ([(IntKind.wrap .i64 (x2506 - 1))])), (x2508 ++ ([(imin (IntKind.wrap .i64 (x2506 - 1)) 1)]))))) (some (Sum.inr (x2505, x2507, x2508)))

def laws_FnLengthsSum_n4 (x2465 : Int) : Option ((Int × (List Int) × (List Int))) :=
  nloop (fun (s : Int × Int × (List Int) × (List Int)) => ((laws_FnLengthsSum_n3 x2465 s.1 s.2.1 s.2.2.1 s.2.2.2).map (Sum.elim (fun (t : Int × Int × (List Int) × (List Int)) => Sum.inl (t.1, t.2.1, t.2.2.1, t.2.2.2)) (fun (t : Int × (List Int) × (List Int)) => Sum.inr t)) : Option ((Int × Int × (List Int) × (List Int)) ⊕ ((Int × (List Int) × (List Int)))))) LL (1, 1, ([] : List Int), ([] : List Int))

def laws_FnLengthsSum_n5 (x2465 : Int) : Option ((Int × (List Int) × (List Int))) :=
  (laws_FnLengthsSum_n4 x2465).map (fun (t : Int × (List Int) × (List Int)) => (t.1, t.2.1, t.2.2))

def laws_FnLengthsSum_n6 (x2465 : Int) : Option ((Int × (List Int) × (List Int))) :=
  (laws_FnLengthsSum_n2).bind (fun (t : Unit) => laws_FnLengthsSum_n5 x2465)

def laws_FnLengthsSum_n7 : Option (Unit) :=
  some ()

def laws_FnLengthsSum_n8 : Option (Unit) :=
  some ()

def laws_FnLengthsSum_n9 (x2505 : Int) (x2657 : Int) (x2658 : Int) (x2659 : Int) : Option (Unit ⊕ (Int × Int)) :=
  cond (decide (x2659 < x2505)) (some (Sum.inl ())) (some (Sum.inr (x2657, x2658)))

def laws_FnLengthsSum_n10 : Option (Unit) :=
  some ()

def laws_FnLengthsSum_n11 : Option (Unit) :=
  some ()

def laws_FnLengthsSum_n12 (x2465 : Int) (x2705 : Int) (x2706 : Int) (x2707 : List Int) : Option ((Int × Int × (List Int)) ⊕ ((List Int))) :=
  cond (decide (x2706 ≤ x2465)) ((rem x2705 x2706).bind fun (v2731 : Int) => (quo .i64 x2705 x2706).bind fun (v2732 : Int) => (inc v2731 (List.length x2707)).bind fun (v2734 : Nat) => (room ((List.length ([] : List Int)) + List.length ((x2707.drop 0).take (v2734 - 0)))).bind fun (v2738 : Unit) => (room ((List.length (([] : List Int) ++ ((x2707.drop 0).take (v2734 - 0)))) + List.length ([x2706]))).bind fun (v2742 : Unit) => (inc v2731 (List.length x2707)).bind fun (v2745 : Nat) => (room ((List.length ((([] : List Int) ++ ((x2707.drop 0).take (v2734 - 0))) ++ ([x2706]))) + List.length ((x2707.drop v2745).take ((List.length x2707) - v2745)))).bind fun (v2749 : Unit) => some (Sum.inl (v2732, (IntKind.wrap .i64 (x2706 + 1)), (((([] : List Int) ++ ((x2707.drop 0).take (v2734 - 0))) ++ ([x2706])) ++ ((x2707.drop v2745).take ((List.length x2707) - v2745)))))) (some (Sum.inr x2707))

def laws_FnLengthsSum_n13 (x2465 : Int) (x2659 : Int) : Option (((List Int))) :=
  nloop (fun (s : Int × Int × (List Int)) => ((laws_FnLengthsSum_n12 x2465 s.1 s.2.1 s.2.2).map (Sum.elim (fun (t : Int × Int × (List Int)) => Sum.inl (t.1, t.2.1, t.2.2)) (fun (t : (List Int)) => Sum.inr t)) : Option ((Int × Int × (List Int)) ⊕ (((List Int)))))) LL (x2659, 1, ([] : List Int))

def laws_FnLengthsSum_n14 (x2465 : Int) (x2659 : Int) : Option (((List Int))) :=
  (laws_FnLengthsSum_n13 x2465 x2659).map (fun (t : (List Int)) => t)

def laws_FnLengthsSum_n15 (x2465 : Int) (x2659 : Int) : Option (((List Int))) :=
  (laws_FnLengthsSum_n11).bind (fun (t : Unit) => laws_FnLengthsSum_n14 x2465 x2659)

def laws_FnLengthsSum_n16 (x2657 : Int) (x2658 : Int) (x2507 : List Int) (x2508 : List Int) (x2707 : List Int) : Option ((Int × Int)) :=
  (impl_PutInOrder x2507 x2707).bind fun (v2769 : Bool × (List Int)) => (impl_PutInOrder x2508 x2707).bind fun (v2772 : Bool × (List Int)) => (impl_LengthOf (v2769.2)).bind fun (v2775 : Int) => (impl_LengthOf (v2772.2)).bind fun (v2777 : Int) => some ((IntKind.wrap .i64 (x2657 + v2775)), (IntKind.wrap .i64 (x2658 + v2777)))

def laws_FnLengthsSum_n17 (x2465 : Int) (x2657 : Int) (x2658 : Int) (x2659 : Int) (x2507 : List Int) (x2508 : List Int) : Option ((Int × Int)) :=
  (laws_FnLengthsSum_n15 x2465 x2659).bind (fun (t : (List Int)) => laws_FnLengthsSum_n16 x2657 x2658 x2507 x2508 t)

def laws_FnLengthsSum_n18 (x2465 : Int) (x2657 : Int) (x2658 : Int) (x2659 : Int) (x2507 : List Int) (x2508 : List Int) : Option ((Int × Int)) :=
  (laws_FnLengthsSum_n10).bind (fun (t : Unit) => laws_FnLengthsSum_n17 x2465 x2657 x2658 x2659 x2507 x2508)

def laws_FnLengthsSum_n19 (x2465 : Int) (x2657 : Int) (x2658 : Int) (x2659 : Int) (x2507 : List Int) (x2508 : List Int) : Option ((Int × Int)) :=
  (laws_FnLengthsSum_n18 x2465 x2657 x2658 x2659 x2507 x2508).map (fun (t : Int × Int) => (t.1, t.2))

def laws_FnLengthsSum_n20 (x2659 : Int) : Option (Int) :=
  some (IntKind.wrap .i64 (x2659 + 1))

def laws_FnLengthsSum_n21 (x2465 : Int) (x2657 : Int) (x2658 : Int) (x2659 : Int) (x2507 : List Int) (x2508 : List Int) : Option ((Int × Int × Int)) :=
  (laws_FnLengthsSum_n19 x2465 x2657 x2658 x2659 x2507 x2508).bind (fun (t : Int × Int) => (laws_FnLengthsSum_n20 x2659).map (fun (u : Int) => (t.1, t.2, u)))

def laws_FnLengthsSum_n22 (x2465 : Int) (x2505 : Int) (x2657 : Int) (x2658 : Int) (x2659 : Int) (x2507 : List Int) (x2508 : List Int) : Option ((Int × Int × Int) ⊕ (Int × Int)) :=
  (laws_FnLengthsSum_n9 x2505 x2657 x2658 x2659).bind (Sum.elim (fun (t : Unit) => (laws_FnLengthsSum_n21 x2465 x2657 x2658 x2659 x2507 x2508).map (fun (t : Int × Int × Int) => (Sum.inl (t.1, t.2.1, t.2.2)))) (fun e => some ((fun (t : Int × Int) => (Sum.inr t)) e)))

def laws_FnLengthsSum_n23 (x2465 : Int) (x2505 : Int) (x2507 : List Int) (x2508 : List Int) : Option ((Int × Int)) :=
  nloop (fun (s : Int × Int × Int) => ((laws_FnLengthsSum_n22 x2465 x2505 s.1 s.2.1 s.2.2 x2507 x2508).map (Sum.elim (fun (t : Int × Int × Int) => Sum.inl (t.1, t.2.1, t.2.2)) (fun (t : Int × Int) => Sum.inr t)) : Option ((Int × Int × Int) ⊕ ((Int × Int))))) LL (0, 0, 0)

def laws_FnLengthsSum_n24 (x2465 : Int) (x2505 : Int) (x2507 : List Int) (x2508 : List Int) : Option ((Int × Int)) :=
  (laws_FnLengthsSum_n23 x2465 x2505 x2507 x2508).map (fun (t : Int × Int) => (t.1, t.2))

def laws_FnLengthsSum_n25 (x2465 : Int) (x2505 : Int) (x2507 : List Int) (x2508 : List Int) : Option ((Int × Int)) :=
  (laws_FnLengthsSum_n8).bind (fun (t : Unit) => laws_FnLengthsSum_n24 x2465 x2505 x2507 x2508)

def laws_FnLengthsSum_n26 (x2466 : Int) (x2657 : Int) (x2658 : Int) : Option (Bool) :=
  cond (x2657 == x2466) (some (x2658 == x2466)) (some false)

def laws_FnLengthsSum_n27 (x2465 : Int) (x2466 : Int) (x2505 : Int) (x2507 : List Int) (x2508 : List Int) : Option (Bool) :=
  (laws_FnLengthsSum_n25 x2465 x2505 x2507 x2508).bind (fun (t : Int × Int) => laws_FnLengthsSum_n26 x2466 t.1 t.2)

def laws_FnLengthsSum_n28 (x2465 : Int) (x2466 : Int) (x2505 : Int) (x2507 : List Int) (x2508 : List Int) : Option (Bool) :=
  (laws_FnLengthsSum_n7).bind (fun (t : Unit) => laws_FnLengthsSum_n27 x2465 x2466 x2505 x2507 x2508)

def laws_FnLengthsSum_n29 (x2465 : Int) (x2466 : Int) : Option (Bool) :=
  (laws_FnLengthsSum_n6 x2465).bind (fun (t : Int × (List Int) × (List Int)) => laws_FnLengthsSum_n28 x2465 x2466 t.1 t.2.1 t.2.2)

def laws_FnLengthsSum_n30 (x2315 : List Int) : Option (Bool) :=
  (laws_FnLengthsSum_n1 x2315).bind (Sum.elim (fun (t : Int × Int) => laws_FnLengthsSum_n29 t.1 t.2) (fun e => some ((fun (t : Bool) => t) e)))

@[irreducible] def laws_FnLengthsSum (x2315 : List Int) : Option (Bool) :=
  laws_FnLengthsSum_n30 x2315

end Go.Rv
