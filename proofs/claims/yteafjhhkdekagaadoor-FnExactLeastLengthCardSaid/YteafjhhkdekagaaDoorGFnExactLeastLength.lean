/-
  Plain functions, written by program for functions of the checked code. Conditions: none.
-/
import Derived.Test.YteafjhhkdekagaaDoorFB
set_option linter.unusedVariables false
namespace Go.Rv
def spec_l1In_n1 (x786 : Int) (x787 : Int) (x788 : Int) : Option (Bool) :=
  cond (decide (x786 ≥ x787)) (some (decide (x786 ≤ x788))) (some false)

@[irreducible] def spec_l1In (x786 : Int) (x787 : Int) (x788 : Int) : Option (Bool) :=
  spec_l1In_n1 x786 x787 x788

def spec_TreeOk_n1 (x782 : List Int) : Option (Int ⊕ Bool) :=
  (spec_l1In (((List.length x782 : Nat) : Int)) 1 8).bind fun (v797 : Bool) => cond (!v797) (some (Sum.inr false)) (some (Sum.inl (((List.length x782 : Nat) : Int))))

def spec_TreeOk_n2 : Option (Unit) :=
  some ()

def spec_TreeOk_n3 (x796 : Int) (x863 : Int) (x864 : Int) : Option (Unit ⊕ Int) :=
  cond (decide (x864 < x796)) (some (Sum.inl ())) (some (Sum.inr x863))

def spec_TreeOk_n4 (x782 : List Int) (x796 : Int) (x863 : Int) (x864 : Int) : Option ((Int × Int) ⊕ Bool) :=
  (idx x782 x864).bind fun (v881 : Int) => (spec_l1In v881 0 x796).bind fun (v882 : Bool) => cond (!v882) (some (Sum.inr false)) ((idx x782 x864).bind fun (v884 : Int) => cond (v884 == (IntKind.wrap .i64 (x864 + 1))) (some (Sum.inr false)) ((idx x782 x864).bind fun (v887 : Int) => cond (v887 == 0) (some (Sum.inl ((IntKind.wrap .i64 (x863 + 1)), (IntKind.wrap .i64 (x864 + 1))))) (some (Sum.inl (x863, (IntKind.wrap .i64 (x864 + 1)))))))

def spec_TreeOk_n5 : Option (Unit) :=
  some ()

def spec_TreeOk_n6 (x782 : List Int) (x796 : Int) (x909 : Int) (x910 : Int) : Option ((Int × Int) ⊕ Bool ⊕ Int) :=
  cond (decide (x909 > 0)) (cond (decide (x910 < x796)) ((idx x782 (IntKind.wrap .i64 (x909 - 1))).bind fun (v922 : Int) => (spec_l1In v922 0 x796).bind fun (v923 : Bool) => cond (!v923) (some (Sum.inr (Sum.inl false))) (some (Sum.inl (v922, (IntKind.wrap .i64 (x910 + 1)))))) (some (Sum.inr (Sum.inr x909)))) (some (Sum.inr (Sum.inr x909)))

def spec_TreeOk_n7 (x782 : List Int) (x796 : Int) (x893 : Int) : Option (Bool ⊕ Int) :=
  nloop (fun (s : Int × Int) => ((spec_TreeOk_n6 x782 x796 s.1 s.2).map (Sum.elim (fun (t : Int × Int) => Sum.inl (t.1, t.2)) (Sum.elim (fun (t : Bool) => Sum.inr (Sum.inl t)) (fun (t : Int) => Sum.inr (Sum.inr t)))) : Option ((Int × Int) ⊕ (Bool ⊕ Int)))) LL (x893, 0)

def spec_TreeOk_n8 (x782 : List Int) (x796 : Int) (x893 : Int) : Option (Int ⊕ Bool) :=
  (spec_TreeOk_n7 x782 x796 x893).map (Sum.elim (fun (t : Bool) => (Sum.inr t)) (fun (t : Int) => (Sum.inl t)))

def spec_TreeOk_n9 (x782 : List Int) (x796 : Int) (x893 : Int) : Option (Int ⊕ Bool) :=
  (spec_TreeOk_n5).bind (fun (t : Unit) => spec_TreeOk_n8 x782 x796 x893)

def spec_TreeOk_n10 (x909 : Int) : Option (Unit ⊕ Bool) :=
  cond (decide (x909 > 0)) (some (Sum.inr false)) (some (Sum.inl ()))

def spec_TreeOk_n11 (x782 : List Int) (x796 : Int) (x893 : Int) : Option (Unit ⊕ Bool) :=
  (spec_TreeOk_n9 x782 x796 x893).bind (Sum.elim (fun (t : Int) => spec_TreeOk_n10 t) (fun e => some ((fun (t : Bool) => (Sum.inr t)) e)))

def spec_TreeOk_n12 (x782 : List Int) (x796 : Int) (x863 : Int) (x864 : Int) : Option (Int ⊕ Bool) :=
  (spec_TreeOk_n4 x782 x796 x863 x864).bind (Sum.elim (fun (t : Int × Int) => (spec_TreeOk_n11 x782 x796 t.2).map (Sum.elim (fun (u : Unit) => (Sum.inl t.1)) (fun (u : Bool) => (Sum.inr u)))) (fun e => some ((fun (t : Bool) => (Sum.inr t)) e)))

def spec_TreeOk_n13 (x782 : List Int) (x796 : Int) (x863 : Int) (x864 : Int) : Option (Int ⊕ Bool) :=
  (spec_TreeOk_n12 x782 x796 x863 x864).map (Sum.elim (fun (t : Int) => (Sum.inl t)) (fun (t : Bool) => (Sum.inr t)))

def spec_TreeOk_n14 (x864 : Int) : Option (Int) :=
  some (IntKind.wrap .i64 (x864 + 1))

def spec_TreeOk_n15 (x782 : List Int) (x796 : Int) (x863 : Int) (x864 : Int) : Option ((Int × Int) ⊕ Bool) :=
  (spec_TreeOk_n13 x782 x796 x863 x864).bind (Sum.elim (fun (t : Int) => (spec_TreeOk_n14 x864).map (fun (u : Int) => (Sum.inl (t, u)))) (fun e => some ((fun (t : Bool) => (Sum.inr t)) e)))

def spec_TreeOk_n16 (x782 : List Int) (x796 : Int) (x863 : Int) (x864 : Int) : Option ((Int × Int) ⊕ Bool ⊕ Int) :=
  (spec_TreeOk_n3 x796 x863 x864).bind (Sum.elim (fun (t : Unit) => (spec_TreeOk_n15 x782 x796 x863 x864).map (Sum.elim (fun (t : Int × Int) => (Sum.inl (t.1, t.2))) (fun (t : Bool) => (Sum.inr (Sum.inl t))))) (fun e => some ((fun (t : Int) => (Sum.inr (Sum.inr t))) e)))

def spec_TreeOk_n17 (x782 : List Int) (x796 : Int) : Option (Bool ⊕ Int) :=
  nloop (fun (s : Int × Int) => ((spec_TreeOk_n16 x782 x796 s.1 s.2).map (Sum.elim (fun (t : Int × Int) => Sum.inl (t.1, t.2)) (Sum.elim (fun (t : Bool) => Sum.inr (Sum.inl t)) (fun (t : Int) => Sum.inr (Sum.inr t)))) : Option ((Int × Int) ⊕ (Bool ⊕ Int)))) LL (0, 0)

def spec_TreeOk_n18 (x782 : List Int) (x796 : Int) : Option (Int ⊕ Bool) :=
  (spec_TreeOk_n17 x782 x796).map (Sum.elim (fun (t : Bool) => (Sum.inr t)) (fun (t : Int) => (Sum.inl t)))

def spec_TreeOk_n19 (x782 : List Int) (x796 : Int) : Option (Int ⊕ Bool) :=
  (spec_TreeOk_n2).bind (fun (t : Unit) => spec_TreeOk_n18 x782 x796)

def spec_TreeOk_n20 (x863 : Int) : Option (Bool) :=
  some (x863 == 1)

def spec_TreeOk_n21 (x782 : List Int) (x796 : Int) : Option (Bool) :=
  (spec_TreeOk_n19 x782 x796).bind (Sum.elim (fun (t : Int) => spec_TreeOk_n20 t) (fun e => some ((fun (t : Bool) => t) e)))

def spec_TreeOk_n22 (x782 : List Int) : Option (Bool) :=
  (spec_TreeOk_n1 x782).bind (Sum.elim (fun (t : Int) => spec_TreeOk_n21 x782 t) (fun e => some ((fun (t : Bool) => t) e)))

@[irreducible] def spec_TreeOk (x782 : List Int) : Option (Bool) :=
  spec_TreeOk_n22 x782

def impl_oneRoot_n1 : Option (Unit) :=
  some ()

def impl_oneRoot_n2 (x1439 : List Int) : Option (Int) :=
  some (((List.length x1439 : Nat) : Int))

def impl_oneRoot_n3 (x1439 : List Int) (x1461 : Int) (x1440 : Int) (x1462 : Int) : Option ((Int × Int) ⊕ Bool ⊕ Int) :=
  cond (decide (x1462 < x1440)) ((idx x1439 x1462).bind fun (v1473 : Int) => cond (decide (v1473 < 0)) (some (Sum.inr (Sum.inl false))) (cond (decide (v1473 > (((List.length x1439 : Nat) : Int)))) (some (Sum.inr (Sum.inl false))) (cond (v1473 == 0) (some (Sum.inl ((IntKind.wrap .i64 (x1461 + 1)), (IntKind.wrap .i64 (x1462 + 1))))) (some (Sum.inl (x1461, (IntKind.wrap .i64 (x1462 + 1)))))))) (some (Sum.inr (Sum.inr x1461)))

def impl_oneRoot_n4 (x1439 : List Int) (x1440 : Int) : Option (Bool ⊕ Int) :=
  nloop (fun (s : Int × Int) => ((impl_oneRoot_n3 x1439 s.1 x1440 s.2).map (Sum.elim (fun (t : Int × Int) => Sum.inl (t.1, t.2)) (Sum.elim (fun (t : Bool) => Sum.inr (Sum.inl t)) (fun (t : Int) => Sum.inr (Sum.inr t)))) : Option ((Int × Int) ⊕ (Bool ⊕ Int)))) LL (0, 0)

def impl_oneRoot_n5 (x1439 : List Int) (x1440 : Int) : Option (Int ⊕ Bool) :=
  (impl_oneRoot_n4 x1439 x1440).map (Sum.elim (fun (t : Bool) => (Sum.inr t)) (fun (t : Int) => (Sum.inl t)))

def impl_oneRoot_n6 (x1439 : List Int) : Option (Int ⊕ Bool) :=
  (impl_oneRoot_n2 x1439).bind (fun (t : Int) => impl_oneRoot_n5 x1439 t)

def impl_oneRoot_n7 (x1461 : Int) : Option (Bool) :=
  some (x1461 == 1)

def impl_oneRoot_n8 (x1439 : List Int) : Option (Bool) :=
  (impl_oneRoot_n6 x1439).bind (Sum.elim (fun (t : Int) => impl_oneRoot_n7 t) (fun e => some ((fun (t : Bool) => t) e)))

def impl_oneRoot_n9 (x1439 : List Int) : Option (Bool) :=
  (impl_oneRoot_n1).bind (fun (t : Unit) => impl_oneRoot_n8 x1439)

@[irreducible] def impl_oneRoot (x1439 : List Int) : Option (Bool) :=
  impl_oneRoot_n9 x1439

def impl_walker_up_n1 (x1495 : List Int) (x1496 : Int) (x1497 : Int) : Option ((Bool × Int × Int)) :=
  (idx x1495 (IntKind.wrap .i64 (x1496 - 1))).bind fun (v1515 : Int) => cond (v1515 == 0) (some (false, x1496, x1497)) (some (true, v1515, (IntKind.wrap .i64 (x1497 + 1))))

@[irreducible] def impl_walker_up (x1495 : List Int) (x1496 : Int) (x1497 : Int) : Option (Bool × Int × Int) :=
  impl_walker_up_n1 x1495 x1496 x1497

def impl_stepsToRoot_n1 : Option (Unit) :=
  some ()

def impl_stepsToRoot_n2 (x1493 : List Int) (x1531 : Int) (x1532 : Int) : Option ((Int × Int) ⊕ (Int × Bool) ⊕ (Int × Int)) :=
  (impl_walker_up x1493 x1531 x1532).bind fun (v1537 : Bool × Int × Int) => cond (v1537.1) (cond (decide ((v1537.2.2) ≥ (((List.length x1493 : Nat) : Int)))) (some (Sum.inr (Sum.inl (0, false)))) (some (Sum.inl ((v1537.2.1), (v1537.2.2))))) (some (Sum.inr (Sum.inr ((v1537.2.1), (v1537.2.2)))))

def impl_stepsToRoot_n3 (x1493 : List Int) (x1494 : Int) : Option ((Int × Bool) ⊕ (Int × Int)) :=
  nloop (fun (s : Int × Int) => ((impl_stepsToRoot_n2 x1493 s.1 s.2).map (Sum.elim (fun (t : Int × Int) => Sum.inl (t.1, t.2)) (Sum.elim (fun (t : Int × Bool) => Sum.inr (Sum.inl t)) (fun (t : Int × Int) => Sum.inr (Sum.inr t)))) : Option ((Int × Int) ⊕ ((Int × Bool) ⊕ (Int × Int))))) LL (x1494, 0)

def impl_stepsToRoot_n4 (x1493 : List Int) (x1494 : Int) : Option ((Int × Int) ⊕ (Int × Bool)) :=
  (impl_stepsToRoot_n3 x1493 x1494).map (Sum.elim (fun (t : Int × Bool) => (Sum.inr t)) (fun (t : Int × Int) => (Sum.inl (t.1, t.2))))

def impl_stepsToRoot_n5 (x1540 : Int) : Option ((Int × Bool)) :=
  some (x1540, true)

def impl_stepsToRoot_n6 (x1493 : List Int) (x1494 : Int) : Option ((Int × Bool)) :=
  (impl_stepsToRoot_n4 x1493 x1494).bind (Sum.elim (fun (t : Int × Int) => impl_stepsToRoot_n5 t.2) (fun e => some ((fun (t : Int × Bool) => t) e)))

def impl_stepsToRoot_n7 (x1493 : List Int) (x1494 : Int) : Option ((Int × Bool)) :=
  (impl_stepsToRoot_n1).bind (fun (t : Unit) => impl_stepsToRoot_n6 x1493 x1494)

@[irreducible] def impl_stepsToRoot (x1493 : List Int) (x1494 : Int) : Option (Int × Bool) :=
  impl_stepsToRoot_n7 x1493 x1494

def impl_TreeOk_n1 (x1434 : List Int) : Option (Unit ⊕ Bool) :=
  cond (decide ((((List.length x1434 : Nat) : Int)) < 1)) (some (Sum.inr false)) (cond (decide ((((List.length x1434 : Nat) : Int)) > 8)) (some (Sum.inr false)) ((impl_oneRoot x1434).bind fun (v1486 : Bool) => cond (!v1486) (some (Sum.inr false)) (some (Sum.inl ()))))

def impl_TreeOk_n2 (x1434 : List Int) : Option (Int) :=
  some (((List.length x1434 : Nat) : Int))

def impl_TreeOk_n3 (x1434 : List Int) (x1488 : Int) (x1556 : Int) : Option (Int ⊕ Bool ⊕ Unit) :=
  cond (decide (x1556 < x1488)) ((impl_stepsToRoot x1434 (IntKind.wrap .i64 (x1556 + 1))).bind fun (v1567 : Int × Bool) => cond (!(v1567.2)) (some (Sum.inr (Sum.inl false))) (some (Sum.inl (IntKind.wrap .i64 (x1556 + 1))))) (some (Sum.inr (Sum.inr ())))

def impl_TreeOk_n4 (x1434 : List Int) (x1488 : Int) : Option (Bool ⊕ Unit) :=
  nloop (fun (s : Int) => ((impl_TreeOk_n3 x1434 x1488 s).map (Sum.elim (fun (t : Int) => Sum.inl t) (Sum.elim (fun (t : Bool) => Sum.inr (Sum.inl t)) (fun (t : Unit) => Sum.inr (Sum.inr t)))) : Option ((Int) ⊕ (Bool ⊕ Unit)))) LL 0

def impl_TreeOk_n5 (x1434 : List Int) (x1488 : Int) : Option (Unit ⊕ Bool) :=
  (impl_TreeOk_n4 x1434 x1488).map (Sum.elim (fun (t : Bool) => (Sum.inr t)) (fun (t : Unit) => (Sum.inl ())))

def impl_TreeOk_n6 (x1434 : List Int) : Option (Unit ⊕ Bool) :=
  (impl_TreeOk_n2 x1434).bind (fun (t : Int) => impl_TreeOk_n5 x1434 t)

def impl_TreeOk_n7 : Option (Bool) :=
  some true

def impl_TreeOk_n8 (x1434 : List Int) : Option (Bool) :=
  (impl_TreeOk_n6 x1434).bind (Sum.elim (fun (t : Unit) => impl_TreeOk_n7) (fun e => some ((fun (t : Bool) => t) e)))

def impl_TreeOk_n9 (x1434 : List Int) : Option (Bool) :=
  (impl_TreeOk_n1 x1434).bind (Sum.elim (fun (t : Unit) => impl_TreeOk_n8 x1434) (fun e => some ((fun (t : Bool) => t) e)))

@[irreducible] def impl_TreeOk (x1434 : List Int) : Option (Bool) :=
  impl_TreeOk_n9 x1434

def impl_RootOf_n1 (x1584 : List Int) : Option (Unit ⊕ Int) :=
  (impl_TreeOk x1584).bind fun (v1587 : Bool) => cond (!v1587) (some (Sum.inr (-1))) (some (Sum.inl ()))

def impl_RootOf_n2 (x1584 : List Int) (x1597 : Int) (x1598 : Int) : Option ((Int × Int) ⊕ (Int × Int)) :=
  (impl_walker_up x1584 x1597 x1598).bind fun (v1603 : Bool × Int × Int) => cond (v1603.1) (some (Sum.inl ((v1603.2.1), (v1603.2.2)))) (some (Sum.inr ((v1603.2.1), (v1603.2.2))))

def impl_RootOf_n3 (x1584 : List Int) : Option ((Int × Int)) :=
  nloop (fun (s : Int × Int) => ((impl_RootOf_n2 x1584 s.1 s.2).map (Sum.elim (fun (t : Int × Int) => Sum.inl (t.1, t.2)) (fun (t : Int × Int) => Sum.inr t)) : Option ((Int × Int) ⊕ ((Int × Int))))) LL (1, 0)

def impl_RootOf_n4 (x1584 : List Int) : Option ((Int × Int)) :=
  (impl_RootOf_n3 x1584).map (fun (t : Int × Int) => (t.1, t.2))

def impl_RootOf_n5 (x1605 : Int) : Option (Int) :=
  some x1605

def impl_RootOf_n6 (x1584 : List Int) : Option (Int) :=
  (impl_RootOf_n4 x1584).bind (fun (t : Int × Int) => impl_RootOf_n5 t.1)

def impl_RootOf_n7 (x1584 : List Int) : Option (Int) :=
  (impl_RootOf_n1 x1584).bind (Sum.elim (fun (t : Unit) => impl_RootOf_n6 x1584) (fun e => some ((fun (t : Int) => t) e)))

@[irreducible] def impl_RootOf (x1584 : List Int) : Option (Int) :=
  impl_RootOf_n7 x1584

def impl_only_n1 (x1612 : Int) : Option (Int) :=
  (shl .u64 1 (IntKind.wrap .i64 (x1612 - 1))).bind fun (v1616 : Int) => some v1616

@[irreducible] def impl_only (x1612 : Int) : Option (Int) :=
  impl_only_n1 x1612

def impl_dependents_n1 : Option (Unit) :=
  some ()

def impl_dependents_n2 (x1618 : List Int) : Option (Int) :=
  some (((List.length x1618 : Nat) : Int))

def impl_dependents_n3 (x1618 : List Int) (x1619 : Int) (x1639 : Int) (x1620 : Int) (x1640 : Int) : Option ((Int × Int) ⊕ Int) :=
  cond (decide (x1640 < x1620)) ((idx x1618 x1640).bind fun (v1650 : Int) => cond (v1650 == x1619) ((impl_only (IntKind.wrap .i64 (x1640 + 1))).bind fun (v1653 : Int) => some (Sum.inl ((ior .u64 x1639 v1653), (IntKind.wrap .i64 (x1640 + 1))))) (some (Sum.inl (x1639, (IntKind.wrap .i64 (x1640 + 1)))))) (some (Sum.inr x1639))

def impl_dependents_n4 (x1618 : List Int) (x1619 : Int) (x1620 : Int) : Option (Int) :=
  nloop (fun (s : Int × Int) => ((impl_dependents_n3 x1618 x1619 s.1 x1620 s.2).map (Sum.elim (fun (t : Int × Int) => Sum.inl (t.1, t.2)) (fun (t : Int) => Sum.inr t)) : Option ((Int × Int) ⊕ (Int)))) LL (0, 0)

def impl_dependents_n5 (x1618 : List Int) (x1619 : Int) (x1620 : Int) : Option (Int) :=
  (impl_dependents_n4 x1618 x1619 x1620).map (fun (t : Int) => t)

def impl_dependents_n6 (x1618 : List Int) (x1619 : Int) : Option (Int) :=
  (impl_dependents_n2 x1618).bind (fun (t : Int) => impl_dependents_n5 x1618 x1619 t)

def impl_dependents_n7 (x1639 : Int) : Option (Int) :=
  some x1639

def impl_dependents_n8 (x1618 : List Int) (x1619 : Int) : Option (Int) :=
  (impl_dependents_n6 x1618 x1619).bind (fun (t : Int) => impl_dependents_n7 t)

def impl_dependents_n9 (x1618 : List Int) (x1619 : Int) : Option (Int) :=
  (impl_dependents_n1).bind (fun (t : Unit) => impl_dependents_n8 x1618 x1619)

@[irreducible] def impl_dependents (x1618 : List Int) (x1619 : Int) : Option (Int) :=
  impl_dependents_n9 x1618 x1619

def math_bits_OnesCount64_n1 (x1663 : Int) : Option (Int) :=
  (shr .u64 x1663 1).bind fun (v1664 : Int) => some (IntKind.wrap .u64 ((iand .u64 v1664 6148914691236517205) + (iand .u64 x1663 6148914691236517205)))

def math_bits_OnesCount64_n2 (x1668 : Int) : Option (Int) :=
  (shr .u64 x1668 2).bind fun (v1682 : Int) => some (IntKind.wrap .u64 ((iand .u64 v1682 3689348814741910323) + (iand .u64 x1668 3689348814741910323)))

def math_bits_OnesCount64_n3 (x1685 : Int) : Option (Int) :=
  (shr .u64 x1685 4).bind fun (v1690 : Int) => some (iand .u64 (IntKind.wrap .u64 (v1690 + x1685)) 1085102592571150095)

def math_bits_OnesCount64_n4 (x1692 : Int) : Option (Int) :=
  (shr .u64 x1692 8).bind fun (v1695 : Int) => some (IntKind.wrap .u64 (x1692 + v1695))

def math_bits_OnesCount64_n5 (x1696 : Int) : Option (Int) :=
  (shr .u64 x1696 16).bind fun (v1700 : Int) => some (IntKind.wrap .u64 (x1696 + v1700))

def math_bits_OnesCount64_n6 (x1701 : Int) : Option (Int) :=
  (shr .u64 x1701 32).bind fun (v1705 : Int) => some (IntKind.wrap .u64 (x1701 + v1705))

def math_bits_OnesCount64_n7 (x1706 : Int) : Option (Int) :=
  some (iand .i64 (IntKind.wrap .i64 x1706) 127)

def math_bits_OnesCount64_n8 (x1711 : Int) : Option (Int) :=
  some x1711

def math_bits_OnesCount64_n9 (x1706 : Int) : Option (Int) :=
  (math_bits_OnesCount64_n7 x1706).bind (fun (t : Int) => math_bits_OnesCount64_n8 t)

def math_bits_OnesCount64_n10 (x1701 : Int) : Option (Int) :=
  (math_bits_OnesCount64_n6 x1701).bind (fun (t : Int) => math_bits_OnesCount64_n9 t)

def math_bits_OnesCount64_n11 (x1696 : Int) : Option (Int) :=
  (math_bits_OnesCount64_n5 x1696).bind (fun (t : Int) => math_bits_OnesCount64_n10 t)

def math_bits_OnesCount64_n12 (x1692 : Int) : Option (Int) :=
  (math_bits_OnesCount64_n4 x1692).bind (fun (t : Int) => math_bits_OnesCount64_n11 t)

def math_bits_OnesCount64_n13 (x1685 : Int) : Option (Int) :=
  (math_bits_OnesCount64_n3 x1685).bind (fun (t : Int) => math_bits_OnesCount64_n12 t)

def math_bits_OnesCount64_n14 (x1668 : Int) : Option (Int) :=
  (math_bits_OnesCount64_n2 x1668).bind (fun (t : Int) => math_bits_OnesCount64_n13 t)

def math_bits_OnesCount64_n15 (x1663 : Int) : Option (Int) :=
  (math_bits_OnesCount64_n1 x1663).bind (fun (t : Int) => math_bits_OnesCount64_n14 t)

@[irreducible] def math_bits_OnesCount64 (x1663 : Int) : Option (Int) :=
  math_bits_OnesCount64_n15 x1663

def math_bits_OnesCount_n1 (x1662 : Int) : Option (Int) :=
  (math_bits_OnesCount64 x1662).bind fun (v1713 : Int) => some v1713

@[irreducible] def math_bits_OnesCount (x1662 : Int) : Option (Int) :=
  math_bits_OnesCount_n1 x1662

def impl_wordSet_count_n1 (x1661 : Int) : Option (Int) :=
  (math_bits_OnesCount x1661).bind fun (v1715 : Int) => some v1715

@[irreducible] def impl_wordSet_count (x1661 : Int) : Option (Int) :=
  impl_wordSet_count_n1 x1661

def math_bits_TrailingZeros64_n1 (x1722 : Int) : Option (Int) :=
  cond (x1722 == 0) (some 64) ((shr .u64 (IntKind.wrap .u64 ((iand .u64 x1722 (IntKind.wrap .u64 (0 - x1722))) * 285870213051353865)) 58).bind fun (v1739 : Int) => (same (List.length tab1) 64).bind fun (v1740 : Unit) => (idx tab1 v1739).bind fun (v1741 : Int) => some (IntKind.wrap .i64 v1741))

@[irreducible] def math_bits_TrailingZeros64 (x1722 : Int) : Option (Int) :=
  math_bits_TrailingZeros64_n1 x1722

def math_bits_TrailingZeros_n1 (x1721 : Int) : Option (Int) :=
  (math_bits_TrailingZeros64 x1721).bind fun (v1745 : Int) => some v1745

@[irreducible] def math_bits_TrailingZeros (x1721 : Int) : Option (Int) :=
  math_bits_TrailingZeros_n1 x1721

def impl_wordSet_list_n1 (x1660 : Int) : Option (((List Int))) :=
  (impl_wordSet_count x1660).bind fun (v1716 : Int) => (mk 0 v1716).bind fun (v1717 : Nat) => some (List.replicate v1717 (0 : Int))

def impl_wordSet_list_n2 : Option (Unit) :=
  some ()

def impl_wordSet_list_n3 (x1761 : Int) (x1762 : List Int) : Option ((Int × (List Int)) ⊕ ((List Int))) :=
  cond (x1761 != 0) ((math_bits_TrailingZeros x1761).bind fun (v1772 : Int) => (room ((List.length x1762) + List.length ([(IntKind.wrap .i64 (v1772 + 1))]))).bind fun (v1776 : Unit) => some (Sum.inl ((iand .u64 x1761 (IntKind.wrap .u64 (x1761 - 1))), (x1762 ++ ([(IntKind.wrap .i64 (v1772 + 1))]))))) (some (Sum.inr x1762))

def impl_wordSet_list_n4 (x1660 : Int) (x1718 : List Int) : Option (((List Int))) :=
  nloop (fun (s : Int × (List Int)) => ((impl_wordSet_list_n3 s.1 s.2).map (Sum.elim (fun (t : Int × (List Int)) => Sum.inl (t.1, t.2)) (fun (t : (List Int)) => Sum.inr t)) : Option ((Int × (List Int)) ⊕ (((List Int)))))) LL (x1660, x1718)

def impl_wordSet_list_n5 (x1660 : Int) (x1718 : List Int) : Option (((List Int))) :=
  (impl_wordSet_list_n4 x1660 x1718).map (fun (t : (List Int)) => t)

def impl_wordSet_list_n6 (x1660 : Int) (x1718 : List Int) : Option (((List Int))) :=
  (impl_wordSet_list_n2).bind (fun (t : Unit) => impl_wordSet_list_n5 x1660 x1718)

def impl_wordSet_list_n7 (x1762 : List Int) : Option (((List Int))) :=
  some x1762

def impl_wordSet_list_n8 (x1660 : Int) (x1718 : List Int) : Option (((List Int))) :=
  (impl_wordSet_list_n6 x1660 x1718).bind (fun (t : (List Int)) => impl_wordSet_list_n7 t)

def impl_wordSet_list_n9 (x1660 : Int) : Option (((List Int))) :=
  (impl_wordSet_list_n1 x1660).bind (fun (t : (List Int)) => impl_wordSet_list_n8 x1660 t)

@[irreducible] def impl_wordSet_list (x1660 : Int) : Option ((List Int)) :=
  impl_wordSet_list_n9 x1660

def impl_fillYields_n1 (R0 : (List Int) → Int → (List Int) → Option (Int × (List Int))) (x1610 : Int) : Option (Int) :=
  (impl_only x1610).bind fun (v1796 : Int) => some v1796

def impl_fillYields_n2 (R0 : (List Int) → Int → (List Int) → Option (Int × (List Int))) (x1609 : List Int) (x1610 : Int) : Option ((Int × (List Int))) :=
  (impl_dependents x1609 x1610).bind fun (v1797 : Int) => (impl_wordSet_list v1797).bind fun (v1798 : List Int) => some ((((List.length v1798 : Nat) : Int)), v1798)

def impl_fillYields_n3 (R0 : (List Int) → Int → (List Int) → Option (Int × (List Int))) (x1609 : List Int) (x1817 : Int) (x1799 : Int) (x1818 : Int) (x1819 : List Int) (x1798 : List Int) : Option ((Int × Int × (List Int)) ⊕ (Int × (List Int))) :=
  cond (decide (x1818 < x1799)) ((inb x1818 (List.length x1798)).bind fun (v1830 : Nat) => (x1798[v1830]?).bind fun (v1831 : Int) => (R0 x1609 v1831 x1819).bind fun (v1832 : Int × (List Int)) => some (Sum.inl ((ior .u64 x1817 (v1832.1)), (IntKind.wrap .i64 (x1818 + 1)), (v1832.2)))) (some (Sum.inr (x1817, x1819)))

def impl_fillYields_n4 (R0 : (List Int) → Int → (List Int) → Option (Int × (List Int))) (x1609 : List Int) (x1796 : Int) (x1799 : Int) (x1611 : List Int) (x1798 : List Int) : Option ((Int × (List Int))) :=
  nloop (fun (s : Int × Int × (List Int)) => ((impl_fillYields_n3 R0 x1609 s.1 x1799 s.2.1 s.2.2 x1798).map (Sum.elim (fun (t : Int × Int × (List Int)) => Sum.inl (t.1, t.2.1, t.2.2)) (fun (t : Int × (List Int)) => Sum.inr t)) : Option ((Int × Int × (List Int)) ⊕ ((Int × (List Int)))))) LL (x1796, 0, x1611)

def impl_fillYields_n5 (R0 : (List Int) → Int → (List Int) → Option (Int × (List Int))) (x1609 : List Int) (x1796 : Int) (x1799 : Int) (x1611 : List Int) (x1798 : List Int) : Option ((Int × (List Int))) :=
  (impl_fillYields_n4 R0 x1609 x1796 x1799 x1611 x1798).map (fun (t : Int × (List Int)) => (t.1, t.2))

def impl_fillYields_n6 (R0 : (List Int) → Int → (List Int) → Option (Int × (List Int))) (x1609 : List Int) (x1610 : Int) (x1796 : Int) (x1611 : List Int) : Option ((Int × (List Int))) :=
  (impl_fillYields_n2 R0 x1609 x1610).bind (fun (t : Int × (List Int)) => impl_fillYields_n5 R0 x1609 x1796 t.1 x1611 t.2)

def impl_fillYields_n7 (R0 : (List Int) → Int → (List Int) → Option (Int × (List Int))) (x1610 : Int) (x1817 : Int) (x1819 : List Int) : Option ((Int × (List Int))) :=
  (inb (IntKind.wrap .i64 (x1610 - 1)) (List.length x1819)).bind fun (v1844 : Nat) => some (x1817, (x1819.set v1844 x1817))

def impl_fillYields_n8 (R0 : (List Int) → Int → (List Int) → Option (Int × (List Int))) (x1609 : List Int) (x1610 : Int) (x1796 : Int) (x1611 : List Int) : Option ((Int × (List Int))) :=
  (impl_fillYields_n6 R0 x1609 x1610 x1796 x1611).bind (fun (t : Int × (List Int)) => impl_fillYields_n7 R0 x1610 t.1 t.2)

def impl_fillYields_n9 (R0 : (List Int) → Int → (List Int) → Option (Int × (List Int))) (x1609 : List Int) (x1610 : Int) (x1611 : List Int) : Option ((Int × (List Int))) :=
  (impl_fillYields_n1 R0 x1610).bind (fun (t : Int) => impl_fillYields_n8 R0 x1609 x1610 t x1611)

def impl_fillYields_one (R0 : (List Int) → Int → (List Int) → Option (Int × (List Int))) (x1609 : List Int) (x1610 : Int) (x1611 : List Int) : Option (Int × (List Int)) :=
  impl_fillYields_n9 R0 x1609 x1610 x1611

def impl_fillYields_knot : Nat → ((List Int) → Int → (List Int) → Option (Int × (List Int)))
  | 0 => (fun _ _ _ => none)
  | n + 1 => (fun y0 y1 y2 => impl_fillYields_one (impl_fillYields_knot n) y0 y1 y2)

def impl_fillYields_fuel (n : Nat) : (List Int) → Int → (List Int) → Option (Int × (List Int)) := (impl_fillYields_knot n)

@[irreducible] def impl_fillYields (x1609 : List Int) (x1610 : Int) (x1611 : List Int) : Option (Int × (List Int)) := impl_fillYields_fuel RR x1609 x1610 x1611

def impl_yieldsOf_n1 (x1577 : List Int) : Option (((List Int))) :=
  (mk (((List.length x1577 : Nat) : Int)) (((List.length x1577 : Nat) : Int))).bind fun (v1857 : Nat) => (impl_RootOf x1577).bind fun (v1859 : Int) => (impl_fillYields x1577 v1859 (List.replicate v1857 (0 : Int))).bind fun (v1860 : Int × (List Int)) => some (v1860.2)

@[irreducible] def impl_yieldsOf (x1577 : List Int) : Option ((List Int)) :=
  impl_yieldsOf_n1 x1577

def slices_Insert_int_int (x1 : Int) (x2 x3 : List Int) : Option (List Int) := insI x2 x1 x3

def impl_inserted_int_n1 (x1888 : List Int) : Option (Int) :=
  some (((List.length x1888 : Nat) : Int))

def impl_inserted_int_n2 (x1887 : Int) (x1901 : Int) (x1888 : List Int) : Option (Int ⊕ Int) :=
  cond (decide (x1901 > 0)) ((inb (IntKind.wrap .i64 (x1901 - 1)) (List.length x1888)).bind fun (v1909 : Nat) => (x1888[v1909]?).bind fun (v1910 : Int) => cond (decide (x1887 < v1910)) (some (Sum.inl (IntKind.wrap .i64 (x1901 - 1)))) (some (Sum.inr x1901))) (some (Sum.inr x1901))

def impl_inserted_int_n3 (x1887 : Int) (x1889 : Int) (x1888 : List Int) : Option (Int) :=
  nloop (fun (s : Int) => ((impl_inserted_int_n2 x1887 s x1888).map (Sum.elim (fun (t : Int) => Sum.inl t) (fun (t : Int) => Sum.inr t)) : Option ((Int) ⊕ (Int)))) LL x1889

def impl_inserted_int_n4 (x1887 : Int) (x1889 : Int) (x1888 : List Int) : Option (Int) :=
  (impl_inserted_int_n3 x1887 x1889 x1888).map (fun (t : Int) => t)

def impl_inserted_int_n5 (x1887 : Int) (x1901 : Int) (x1888 : List Int) : Option (((List Int))) :=
  (slices_Insert_int_int x1901 x1888 ([x1887])).bind fun (v1920 : List Int) => some v1920

def impl_inserted_int_n6 (x1887 : Int) (x1889 : Int) (x1888 : List Int) : Option (((List Int))) :=
  (impl_inserted_int_n4 x1887 x1889 x1888).bind (fun (t : Int) => impl_inserted_int_n5 x1887 t x1888)

def impl_inserted_int_n7 (x1887 : Int) (x1888 : List Int) : Option (((List Int))) :=
  (impl_inserted_int_n1 x1888).bind (fun (t : Int) => impl_inserted_int_n6 x1887 t x1888)

@[irreducible] def impl_inserted_int (x1887 : Int) (x1888 : List Int) : Option ((List Int)) :=
  impl_inserted_int_n7 x1887 x1888

def impl_sizesBelow_n1 : Option (Unit) :=
  some ()

def impl_sizesBelow_n2 (x1873 : List Int) (x1875 : Int) : Option ((Int × (List Int))) :=
  (impl_dependents x1873 x1875).bind fun (v1876 : Int) => (impl_wordSet_list v1876).bind fun (v1877 : List Int) => some ((((List.length v1877 : Nat) : Int)), v1877)

def impl_sizesBelow_n3 (x1874 : List Int) (x1878 : Int) (x1930 : Int) (x1931 : List Int) (x1877 : List Int) : Option ((Int × (List Int)) ⊕ ((List Int))) :=
  cond (decide (x1930 < x1878)) ((inb x1930 (List.length x1877)).bind fun (v1942 : Nat) => (x1877[v1942]?).bind fun (v1943 : Int) => (idx x1874 (IntKind.wrap .i64 (v1943 - 1))).bind fun (v1945 : Int) => (impl_wordSet_count v1945).bind fun (v1946 : Int) => (impl_inserted_int v1946 x1931).bind fun (v1947 : List Int) => some (Sum.inl ((IntKind.wrap .i64 (x1930 + 1)), v1947))) (some (Sum.inr x1931))

def impl_sizesBelow_n4 (x1874 : List Int) (x1878 : Int) (x1877 : List Int) : Option (((List Int))) :=
  nloop (fun (s : Int × (List Int)) => ((impl_sizesBelow_n3 x1874 x1878 s.1 s.2 x1877).map (Sum.elim (fun (t : Int × (List Int)) => Sum.inl (t.1, t.2)) (fun (t : (List Int)) => Sum.inr t)) : Option ((Int × (List Int)) ⊕ (((List Int)))))) LL (0, ([] : List Int))

def impl_sizesBelow_n5 (x1874 : List Int) (x1878 : Int) (x1877 : List Int) : Option (((List Int))) :=
  (impl_sizesBelow_n4 x1874 x1878 x1877).map (fun (t : (List Int)) => t)

def impl_sizesBelow_n6 (x1873 : List Int) (x1874 : List Int) (x1875 : Int) : Option (((List Int))) :=
  (impl_sizesBelow_n2 x1873 x1875).bind (fun (t : Int × (List Int)) => impl_sizesBelow_n5 x1874 t.1 t.2)

def impl_sizesBelow_n7 (x1931 : List Int) : Option (((List Int))) :=
  some x1931

def impl_sizesBelow_n8 (x1873 : List Int) (x1874 : List Int) (x1875 : Int) : Option (((List Int))) :=
  (impl_sizesBelow_n6 x1873 x1874 x1875).bind (fun (t : (List Int)) => impl_sizesBelow_n7 t)

def impl_sizesBelow_n9 (x1873 : List Int) (x1874 : List Int) (x1875 : Int) : Option (((List Int))) :=
  (impl_sizesBelow_n1).bind (fun (t : Unit) => impl_sizesBelow_n8 x1873 x1874 x1875)

@[irreducible] def impl_sizesBelow (x1873 : List Int) (x1874 : List Int) (x1875 : Int) : Option ((List Int)) :=
  impl_sizesBelow_n9 x1873 x1874 x1875

def impl_lengthByChoice_n1 : Option (Unit) :=
  some ()

def impl_lengthByChoice_n2 (x1953 : List Int) : Option (Int) :=
  some (((List.length x1953 : Nat) : Int))

def impl_lengthByChoice_n3 (x1954 : Int) (x1993 : Int) (x1953 : List Int) (x1957 : Int) (x1994 : Int) (x1995 : List Int) : Option ((Int × Int × (List Int)) ⊕ (Int × (List Int))) :=
  cond (decide (x1994 < x1957)) ((idx x1953 x1994).bind fun (v2015 : Int) => (shr .u64 x1954 x1994).bind fun (v2016 : Int) => (same (List.length x1995) 2).bind fun (v2018 : Unit) => (inb (iand .u64 v2016 1) 2).bind fun (v2019 : Nat) => (x1995[v2019]?).bind fun (v2020 : Int) => (same (List.length x1995) 2).bind fun (v2023 : Unit) => (inb (iand .u64 v2016 1) 2).bind fun (v2024 : Nat) => (x1995[v2024]?).bind fun (v2025 : Int) => (same (List.length x1995) 2).bind fun (v2027 : Unit) => (inb (iand .u64 v2016 1) 2).bind fun (v2028 : Nat) => some (Sum.inl ((IntKind.wrap .i64 (x1993 + (IntKind.wrap .i64 (v2020 + 1)))), (IntKind.wrap .i64 (x1994 + 1)), (x1995.set v2028 (IntKind.wrap .i64 (v2025 + v2015)))))) (some (Sum.inr (x1993, x1995)))

def impl_lengthByChoice_n4 (x1954 : Int) (x1953 : List Int) (x1957 : Int) : Option ((Int × (List Int))) :=
  nloop (fun (s : Int × Int × (List Int)) => ((impl_lengthByChoice_n3 x1954 s.1 x1953 x1957 s.2.1 s.2.2).map (Sum.elim (fun (t : Int × Int × (List Int)) => Sum.inl (t.1, t.2.1, t.2.2)) (fun (t : Int × (List Int)) => Sum.inr t)) : Option ((Int × Int × (List Int)) ⊕ ((Int × (List Int)))))) LL (0, 0, (List.replicate 2 (0 : Int)))

def impl_lengthByChoice_n5 (x1954 : Int) (x1953 : List Int) (x1957 : Int) : Option ((Int × (List Int))) :=
  (impl_lengthByChoice_n4 x1954 x1953 x1957).map (fun (t : Int × (List Int)) => (t.1, t.2))

def impl_lengthByChoice_n6 (x1953 : List Int) (x1954 : Int) : Option ((Int × (List Int))) :=
  (impl_lengthByChoice_n2 x1953).bind (fun (t : Int) => impl_lengthByChoice_n5 x1954 x1953 t)

def impl_lengthByChoice_n7 (x1955 : Bool) (x1993 : Int) (x1995 : List Int) : Option (Int) :=
  cond x1955 ((same (List.length x1995) 2).bind fun (v2039 : Unit) => (inb 0 2).bind fun (v2040 : Nat) => (x1995[v2040]?).bind fun (v2041 : Int) => some (IntKind.wrap .i64 (x1993 + v2041))) (some x1993)

def impl_lengthByChoice_n8 (x1953 : List Int) (x1954 : Int) (x1955 : Bool) : Option (Int) :=
  (impl_lengthByChoice_n6 x1953 x1954).bind (fun (t : Int × (List Int)) => impl_lengthByChoice_n7 x1955 t.1 t.2)

def impl_lengthByChoice_n9 (x1953 : List Int) (x1954 : Int) (x1955 : Bool) : Option (Int) :=
  (impl_lengthByChoice_n1).bind (fun (t : Unit) => impl_lengthByChoice_n8 x1953 x1954 x1955)

@[irreducible] def impl_lengthByChoice (x1953 : List Int) (x1954 : Int) (x1955 : Bool) : Option (Int) :=
  impl_lengthByChoice_n9 x1953 x1954 x1955

def impl_leastByChoice_n1 (x1951 : List Int) (x1952 : Bool) : Option (Int) :=
  (impl_lengthByChoice x1951 0 x1952).bind fun (v2044 : Int) => some v2044

def impl_leastByChoice_n2 (x1951 : List Int) : Option (Int) :=
  (shl .u64 1 (((List.length x1951 : Nat) : Int))).bind fun (v2046 : Int) => some v2046

def impl_leastByChoice_n3 (x1951 : List Int) (x1952 : Bool) (x2056 : Int) (x2046 : Int) (x2057 : Int) : Option ((Int × Int) ⊕ Int) :=
  cond (decide (x2057 < x2046)) ((impl_lengthByChoice x1951 x2057 x1952).bind fun (v2064 : Int) => some (Sum.inl ((imin x2056 v2064), (IntKind.wrap .u64 (x2057 + 1))))) (some (Sum.inr x2056))

def impl_leastByChoice_n4 (x1951 : List Int) (x1952 : Bool) (x2044 : Int) (x2046 : Int) : Option (Int) :=
  nloop (fun (s : Int × Int) => ((impl_leastByChoice_n3 x1951 x1952 s.1 x2046 s.2).map (Sum.elim (fun (t : Int × Int) => Sum.inl (t.1, t.2)) (fun (t : Int) => Sum.inr t)) : Option ((Int × Int) ⊕ (Int)))) LL (x2044, 0)

def impl_leastByChoice_n5 (x1951 : List Int) (x1952 : Bool) (x2044 : Int) (x2046 : Int) : Option (Int) :=
  (impl_leastByChoice_n4 x1951 x1952 x2044 x2046).map (fun (t : Int) => t)

def impl_leastByChoice_n6 (x1951 : List Int) (x1952 : Bool) (x2044 : Int) : Option (Int) :=
  (impl_leastByChoice_n2 x1951).bind (fun (t : Int) => impl_leastByChoice_n5 x1951 x1952 x2044 t)

def impl_leastByChoice_n7 (x2056 : Int) : Option (Int) :=
  some x2056

def impl_leastByChoice_n8 (x1951 : List Int) (x1952 : Bool) (x2044 : Int) : Option (Int) :=
  (impl_leastByChoice_n6 x1951 x1952 x2044).bind (fun (t : Int) => impl_leastByChoice_n7 t)

def impl_leastByChoice_n9 (x1951 : List Int) (x1952 : Bool) : Option (Int) :=
  (impl_leastByChoice_n1 x1951 x1952).bind (fun (t : Int) => impl_leastByChoice_n8 x1951 x1952 t)

@[irreducible] def impl_leastByChoice (x1951 : List Int) (x1952 : Bool) : Option (Int) :=
  impl_leastByChoice_n9 x1951 x1952

def impl_LeastLength_n1 (x1433 : List Int) : Option (((List Int)) ⊕ Int) :=
  (impl_TreeOk x1433).bind fun (v1864 : Bool) => cond (!v1864) (some (Sum.inr (-1))) ((impl_yieldsOf x1433).bind fun (v1866 : List Int) => some (Sum.inl v1866))

def impl_LeastLength_n2 (x1433 : List Int) : Option (Int) :=
  some (((List.length x1433 : Nat) : Int))

def impl_LeastLength_n3 (x1433 : List Int) (x2077 : Int) (x1867 : Int) (x2078 : Int) (x1866 : List Int) : Option ((Int × Int) ⊕ Int) :=
  cond (decide (x2078 < x1867)) ((idx x1433 x2078).bind fun (v2089 : Int) => (impl_sizesBelow x1433 x1866 (IntKind.wrap .i64 (x2078 + 1))).bind fun (v2091 : List Int) => (impl_leastByChoice v2091 (v2089 != 0)).bind fun (v2093 : Int) => some (Sum.inl ((IntKind.wrap .i64 (x2077 + v2093)), (IntKind.wrap .i64 (x2078 + 1))))) (some (Sum.inr x2077))

def impl_LeastLength_n4 (x1433 : List Int) (x1867 : Int) (x1866 : List Int) : Option (Int) :=
  nloop (fun (s : Int × Int) => ((impl_LeastLength_n3 x1433 s.1 x1867 s.2 x1866).map (Sum.elim (fun (t : Int × Int) => Sum.inl (t.1, t.2)) (fun (t : Int) => Sum.inr t)) : Option ((Int × Int) ⊕ (Int)))) LL (0, 0)

def impl_LeastLength_n5 (x1433 : List Int) (x1867 : Int) (x1866 : List Int) : Option (Int) :=
  (impl_LeastLength_n4 x1433 x1867 x1866).map (fun (t : Int) => t)

def impl_LeastLength_n6 (x1433 : List Int) (x1866 : List Int) : Option (Int) :=
  (impl_LeastLength_n2 x1433).bind (fun (t : Int) => impl_LeastLength_n5 x1433 t x1866)

def impl_LeastLength_n7 (x2077 : Int) : Option (Int) :=
  some x2077

def impl_LeastLength_n8 (x1433 : List Int) (x1866 : List Int) : Option (Int) :=
  (impl_LeastLength_n6 x1433 x1866).bind (fun (t : Int) => impl_LeastLength_n7 t)

def impl_LeastLength_n9 (x1433 : List Int) : Option (Int) :=
  (impl_LeastLength_n1 x1433).bind (Sum.elim (fun (t : (List Int)) => impl_LeastLength_n8 x1433 t) (fun e => some ((fun (t : Int) => t) e)))

@[irreducible] def impl_LeastLength (x1433 : List Int) : Option (Int) :=
  impl_LeastLength_n9 x1433

def spec_l2Yield_n1 (R0 : (List Int) → Int → Option Int) (x2128 : Int) : Option (Int) :=
  (shl .i64 1 (IntKind.wrap .i64 (x2128 - 1))).bind fun (v2159 : Int) => some v2159

def spec_l2Yield_n2 (R0 : (List Int) → Int → Option Int) : Option (Unit) :=
  some ()

def spec_l2Yield_n3 (R0 : (List Int) → Int → Option Int) (x2127 : List Int) (x2128 : Int) (x2180 : Int) (x2181 : Int) : Option ((Int × Int) ⊕ Int) :=
  cond (decide (x2181 < (((List.length x2127 : Nat) : Int)))) ((idx x2127 x2181).bind fun (v2193 : Int) => cond (v2193 == x2128) ((R0 x2127 (IntKind.wrap .i64 (x2181 + 1))).bind fun (v2196 : Int) => some (Sum.inl ((ior .i64 x2180 v2196), (IntKind.wrap .i64 (x2181 + 1))))) (some (Sum.inl (x2180, (IntKind.wrap .i64 (x2181 + 1)))))) (some (Sum.inr x2180))

def spec_l2Yield_n4 (R0 : (List Int) → Int → Option Int) (x2127 : List Int) (x2128 : Int) (x2159 : Int) : Option (Int) :=
  nloop (fun (s : Int × Int) => ((spec_l2Yield_n3 R0 x2127 x2128 s.1 s.2).map (Sum.elim (fun (t : Int × Int) => Sum.inl (t.1, t.2)) (fun (t : Int) => Sum.inr t)) : Option ((Int × Int) ⊕ (Int)))) LL (x2159, 0)

def spec_l2Yield_n5 (R0 : (List Int) → Int → Option Int) (x2127 : List Int) (x2128 : Int) (x2159 : Int) : Option (Int) :=
  (spec_l2Yield_n4 R0 x2127 x2128 x2159).map (fun (t : Int) => t)

def spec_l2Yield_n6 (R0 : (List Int) → Int → Option Int) (x2127 : List Int) (x2128 : Int) (x2159 : Int) : Option (Int) :=
  (spec_l2Yield_n2 R0).bind (fun (t : Unit) => spec_l2Yield_n5 R0 x2127 x2128 x2159)

def spec_l2Yield_n7 (R0 : (List Int) → Int → Option Int) (x2180 : Int) : Option (Int) :=
  some x2180

def spec_l2Yield_n8 (R0 : (List Int) → Int → Option Int) (x2127 : List Int) (x2128 : Int) (x2159 : Int) : Option (Int) :=
  (spec_l2Yield_n6 R0 x2127 x2128 x2159).bind (fun (t : Int) => spec_l2Yield_n7 R0 t)

def spec_l2Yield_n9 (R0 : (List Int) → Int → Option Int) (x2127 : List Int) (x2128 : Int) : Option (Int) :=
  (spec_l2Yield_n1 R0 x2128).bind (fun (t : Int) => spec_l2Yield_n8 R0 x2127 x2128 t)

def spec_l2Yield_one (R0 : (List Int) → Int → Option Int) (x2127 : List Int) (x2128 : Int) : Option (Int) :=
  spec_l2Yield_n9 R0 x2127 x2128

def spec_l2Yield_knot : Nat → ((List Int) → Int → Option Int)
  | 0 => (fun _ _ => none)
  | n + 1 => (fun y0 y1 => spec_l2Yield_one (spec_l2Yield_knot n) y0 y1)

def spec_l2Yield_fuel (n : Nat) : (List Int) → Int → Option Int := (spec_l2Yield_knot n)

@[irreducible] def spec_l2Yield (x2127 : List Int) (x2128 : Int) : Option (Int) := spec_l2Yield_fuel RR x2127 x2128

def spec_l2Words_n1 : Option (Unit) :=
  some ()

def spec_l2Words_n2 : Option (Unit) :=
  some ()

def spec_l2Words_n3 (x2203 : Int) (x2230 : Int) (x2231 : List Int) : Option ((Int × (List Int)) ⊕ ((List Int))) :=
  (shr .i64 x2203 x2230).bind fun (v2244 : Int) => cond (decide (v2244 > 0)) ((shr .i64 x2203 x2230).bind fun (v2246 : Int) => (rem v2246 2).bind fun (v2247 : Int) => cond (v2247 == 1) ((room ((List.length x2231) + List.length ([(IntKind.wrap .i64 (x2230 + 1))]))).bind fun (v2252 : Unit) => some (Sum.inl ((IntKind.wrap .i64 (x2230 + 1)), (x2231 ++ ([(IntKind.wrap .i64 (x2230 + 1))]))))) (some (Sum.inl ((IntKind.wrap .i64 (x2230 + 1)), x2231)))) (some (Sum.inr x2231))

def spec_l2Words_n4 (x2203 : Int) : Option (((List Int))) :=
  nloop (fun (s : Int × (List Int)) => ((spec_l2Words_n3 x2203 s.1 s.2).map (Sum.elim (fun (t : Int × (List Int)) => Sum.inl (t.1, t.2)) (fun (t : (List Int)) => Sum.inr t)) : Option ((Int × (List Int)) ⊕ (((List Int)))))) LL (0, ([] : List Int))

def spec_l2Words_n5 (x2203 : Int) : Option (((List Int))) :=
  (spec_l2Words_n4 x2203).map (fun (t : (List Int)) => t)

def spec_l2Words_n6 (x2203 : Int) : Option (((List Int))) :=
  (spec_l2Words_n2).bind (fun (t : Unit) => spec_l2Words_n5 x2203)

def spec_l2Words_n7 (x2231 : List Int) : Option (((List Int))) :=
  some x2231

def spec_l2Words_n8 (x2203 : Int) : Option (((List Int))) :=
  (spec_l2Words_n6 x2203).bind (fun (t : (List Int)) => spec_l2Words_n7 t)

def spec_l2Words_n9 (x2203 : Int) : Option (((List Int))) :=
  (spec_l2Words_n1).bind (fun (t : Unit) => spec_l2Words_n8 x2203)

@[irreducible] def spec_l2Words (x2203 : Int) : Option ((List Int)) :=
  spec_l2Words_n9 x2203

def spec_l10Sizes_n1 : Option (Unit) :=
  some ()

def spec_l10Sizes_n2 : Option (Unit) :=
  some ()

def spec_l10Sizes_n3 (x2118 : List Int) (x2327 : Int) (x2328 : List Int) : Option (Unit ⊕ ((List Int))) :=
  cond (decide (x2327 < (((List.length x2118 : Nat) : Int)))) (some (Sum.inl ())) (some (Sum.inr x2328))

def spec_l10Sizes_n4 (x2118 : List Int) (x2119 : Int) (x2327 : Int) : Option (Int ⊕ Unit) :=
  (idx x2118 x2327).bind fun (v2339 : Int) => cond (v2339 != x2119) (some (Sum.inr ())) ((spec_l2Yield x2118 (IntKind.wrap .i64 (x2327 + 1))).bind fun (v2342 : Int) => (spec_l2Words v2342).bind fun (v2343 : List Int) => some (Sum.inl (((List.length v2343 : Nat) : Int))))

def spec_l10Sizes_n5 (x2344 : Int) (x2356 : Int) (x2328 : List Int) : Option (Int ⊕ Int) :=
  cond (decide (x2356 < (((List.length x2328 : Nat) : Int)))) ((inb x2356 (List.length x2328)).bind fun (v2364 : Nat) => (x2328[v2364]?).bind fun (v2365 : Int) => cond (decide (v2365 < x2344)) (some (Sum.inl (IntKind.wrap .i64 (x2356 + 1)))) (some (Sum.inr x2356))) (some (Sum.inr x2356))

def spec_l10Sizes_n6 (x2344 : Int) (x2328 : List Int) : Option (Int) :=
  nloop (fun (s : Int) => ((spec_l10Sizes_n5 x2344 s x2328).map (Sum.elim (fun (t : Int) => Sum.inl t) (fun (t : Int) => Sum.inr t)) : Option ((Int) ⊕ (Int)))) LL 0

def spec_l10Sizes_n7 (x2344 : Int) (x2328 : List Int) : Option (Int) :=
  (spec_l10Sizes_n6 x2344 x2328).map (fun (t : Int) => t)

def spec_l10Sizes_n8 (x2344 : Int) (x2356 : Int) (x2328 : List Int) : Option (((List Int))) :=
  (inc x2356 (List.length x2328)).bind fun (v2387 : Nat) => (room ((List.length ([] : List Int)) + List.length ((x2328.drop 0).take (v2387 - 0)))).bind fun (v2391 : Unit) => (room ((List.length (([] : List Int) ++ ((x2328.drop 0).take (v2387 - 0)))) + List.length ([x2344]))).bind fun (v2395 : Unit) => (inc x2356 (List.length x2328)).bind fun (v2398 : Nat) => (room ((List.length ((([] : List Int) ++ ((x2328.drop 0).take (v2387 - 0))) ++ ([x2344]))) + List.length ((x2328.drop v2398).take ((List.length x2328) - v2398)))).bind fun (v2402 : Unit) => some (((([] : List Int) ++ ((x2328.drop 0).take (v2387 - 0))) ++ ([x2344])) ++ ((x2328.drop v2398).take ((List.length x2328) - v2398)))

def spec_l10Sizes_n9 (x2344 : Int) (x2328 : List Int) : Option (((List Int))) :=
  (spec_l10Sizes_n7 x2344 x2328).bind (fun (t : Int) => spec_l10Sizes_n8 x2344 t x2328)

def spec_l10Sizes_n10 (x2118 : List Int) (x2119 : Int) (x2327 : Int) (x2328 : List Int) : Option (((List Int)) ⊕ Unit) :=
  (spec_l10Sizes_n4 x2118 x2119 x2327).bind (Sum.elim (fun (t : Int) => (spec_l10Sizes_n9 t x2328).map (fun (u : (List Int)) => (Sum.inl u))) (fun e => some ((fun (t : Unit) => (Sum.inr t)) e)))

def spec_l10Sizes_n11 (x2118 : List Int) (x2119 : Int) (x2327 : Int) (x2328 : List Int) : Option (((List Int))) :=
  (spec_l10Sizes_n10 x2118 x2119 x2327 x2328).map (Sum.elim (fun (t : (List Int)) => t) (fun (t : Unit) => x2328))

def spec_l10Sizes_n12 (x2327 : Int) : Option (Int) :=
  some (IntKind.wrap .i64 (x2327 + 1))

def spec_l10Sizes_n13 (x2118 : List Int) (x2119 : Int) (x2327 : Int) (x2328 : List Int) : Option ((Int × (List Int))) :=
  (spec_l10Sizes_n11 x2118 x2119 x2327 x2328).bind (fun (t : (List Int)) => (spec_l10Sizes_n12 x2327).map (fun (u : Int) => (u, t)))

def spec_l10Sizes_n14 (x2118 : List Int) (x2119 : Int) (x2327 : Int) (x2328 : List Int) : Option ((Int × (List Int)) ⊕ ((List Int))) :=
  (spec_l10Sizes_n3 x2118 x2327 x2328).bind (Sum.elim (fun (t : Unit) => (spec_l10Sizes_n13 x2118 x2119 x2327 x2328).map (fun (t : Int × (List Int)) => (Sum.inl (t.1, t.2)))) (fun e => some ((fun (t : (List Int)) => (Sum.inr t)) e)))

def spec_l10Sizes_n15 (x2118 : List Int) (x2119 : Int) : Option (((List Int))) :=
  nloop (fun (s : Int × (List Int)) => ((spec_l10Sizes_n14 x2118 x2119 s.1 s.2).map (Sum.elim (fun (t : Int × (List Int)) => Sum.inl (t.1, t.2)) (fun (t : (List Int)) => Sum.inr t)) : Option ((Int × (List Int)) ⊕ (((List Int)))))) LL (0, ([] : List Int))

def spec_l10Sizes_n16 (x2118 : List Int) (x2119 : Int) : Option (((List Int))) :=
  (spec_l10Sizes_n15 x2118 x2119).map (fun (t : (List Int)) => t)

def spec_l10Sizes_n17 (x2118 : List Int) (x2119 : Int) : Option (((List Int))) :=
  (spec_l10Sizes_n2).bind (fun (t : Unit) => spec_l10Sizes_n16 x2118 x2119)

def spec_l10Sizes_n18 (x2328 : List Int) : Option (((List Int))) :=
  some x2328

def spec_l10Sizes_n19 (x2118 : List Int) (x2119 : Int) : Option (((List Int))) :=
  (spec_l10Sizes_n17 x2118 x2119).bind (fun (t : (List Int)) => spec_l10Sizes_n18 t)

def spec_l10Sizes_n20 (x2118 : List Int) (x2119 : Int) : Option (((List Int))) :=
  (spec_l10Sizes_n1).bind (fun (t : Unit) => spec_l10Sizes_n19 x2118 x2119)

@[irreducible] def spec_l10Sizes (x2118 : List Int) (x2119 : Int) : Option ((List Int)) :=
  spec_l10Sizes_n20 x2118 x2119

def spec_l10Least_n1 : Option (Unit) :=
  some ()

def spec_l10Least_n2 : Option (Unit) :=
  some ()

def spec_l10Least_n3 (x2407 : List Int) (x2562 : Int) (x2563 : Int) : Option (Unit ⊕ Int) :=
  (shl .i64 1 (((List.length x2407 : Nat) : Int))).bind fun (v2565 : Int) => cond (decide (x2563 < v2565)) (some (Sum.inl ())) (some (Sum.inr x2562))

def spec_l10Least_n4 : Option (Unit) :=
  some ()

def spec_l10Least_n5 : Option (Unit) :=
  some ()

def spec_l10Least_n6 (x2638 : Int) (x2639 : Int) : Option (Unit ⊕ Int) :=
  cond (decide (x2639 < 2)) (some (Sum.inl ())) (some (Sum.inr x2638))

def spec_l10Least_n7 (x2407 : List Int) : Option (Int) :=
  some (IntKind.wrap .i64 ((((List.length x2407 : Nat) : Int)) - 1))

def spec_l10Least_n8 (x2407 : List Int) (x2408 : Bool) (x2563 : Int) (x2675 : Int) (x2639 : Int) (x2676 : Int) (x2677 : Int) : Option ((Int × Int × Int) ⊕ Int) :=
  cond (decide (x2677 ≥ 0)) ((shr .i64 x2563 x2677).bind fun (v2692 : Int) => (rem v2692 2).bind fun (v2693 : Int) => cond (v2693 == x2639) ((idx x2407 x2677).bind fun (v2695 : Int) => cond (x2639 == 1) (cond (!x2408) ((idx x2407 x2677).bind fun (v2701 : Int) => some (Sum.inl ((IntKind.wrap .i64 ((IntKind.wrap .i64 (x2675 + (IntKind.wrap .i64 (x2676 * v2695)))) + v2701)), (IntKind.wrap .i64 (x2676 + 1)), (IntKind.wrap .i64 (x2677 - 1))))) (some (Sum.inl ((IntKind.wrap .i64 (x2675 + (IntKind.wrap .i64 (x2676 * v2695)))), (IntKind.wrap .i64 (x2676 + 1)), (IntKind.wrap .i64 (x2677 - 1)))))) (some (Sum.inl ((IntKind.wrap .i64 (x2675 + (IntKind.wrap .i64 (x2676 * v2695)))), (IntKind.wrap .i64 (x2676 + 1)), (IntKind.wrap .i64 (x2677 - 1)))))) (some (Sum.inl (x2675, x2676, (IntKind.wrap .i64 (x2677 - 1)))))) (some (Sum.inr x2675))

def spec_l10Least_n9 (x2407 : List Int) (x2408 : Bool) (x2563 : Int) (x2638 : Int) (x2639 : Int) (x2642 : Int) : Option (Int) :=
  nloop (fun (s : Int × Int × Int) => ((spec_l10Least_n8 x2407 x2408 x2563 s.1 x2639 s.2.1 s.2.2).map (Sum.elim (fun (t : Int × Int × Int) => Sum.inl (t.1, t.2.1, t.2.2)) (fun (t : Int) => Sum.inr t)) : Option ((Int × Int × Int) ⊕ (Int)))) LL (x2638, 0, x2642)

def spec_l10Least_n10 (x2407 : List Int) (x2408 : Bool) (x2563 : Int) (x2638 : Int) (x2639 : Int) (x2642 : Int) : Option (Int) :=
  (spec_l10Least_n9 x2407 x2408 x2563 x2638 x2639 x2642).map (fun (t : Int) => t)

def spec_l10Least_n11 (x2407 : List Int) (x2408 : Bool) (x2563 : Int) (x2638 : Int) (x2639 : Int) : Option (Int) :=
  (spec_l10Least_n7 x2407).bind (fun (t : Int) => spec_l10Least_n10 x2407 x2408 x2563 x2638 x2639 t)

def spec_l10Least_n12 (x2407 : List Int) (x2408 : Bool) (x2563 : Int) (x2638 : Int) (x2639 : Int) : Option (Int) :=
  (spec_l10Least_n11 x2407 x2408 x2563 x2638 x2639).map (fun (t : Int) => t)

def spec_l10Least_n13 (x2639 : Int) : Option (Int) :=
  some (IntKind.wrap .i64 (x2639 + 1))

def spec_l10Least_n14 (x2407 : List Int) (x2408 : Bool) (x2563 : Int) (x2638 : Int) (x2639 : Int) : Option ((Int × Int)) :=
  (spec_l10Least_n12 x2407 x2408 x2563 x2638 x2639).bind (fun (t : Int) => (spec_l10Least_n13 x2639).map (fun (u : Int) => (t, u)))

def spec_l10Least_n15 (x2407 : List Int) (x2408 : Bool) (x2563 : Int) (x2638 : Int) (x2639 : Int) : Option ((Int × Int) ⊕ Int) :=
  (spec_l10Least_n6 x2638 x2639).bind (Sum.elim (fun (t : Unit) => (spec_l10Least_n14 x2407 x2408 x2563 x2638 x2639).map (fun (t : Int × Int) => (Sum.inl (t.1, t.2)))) (fun e => some ((fun (t : Int) => (Sum.inr t)) e)))

def spec_l10Least_n16 (x2407 : List Int) (x2408 : Bool) (x2563 : Int) : Option (Int) :=
  nloop (fun (s : Int × Int) => ((spec_l10Least_n15 x2407 x2408 x2563 s.1 s.2).map (Sum.elim (fun (t : Int × Int) => Sum.inl (t.1, t.2)) (fun (t : Int) => Sum.inr t)) : Option ((Int × Int) ⊕ (Int)))) LL (0, 0)

def spec_l10Least_n17 (x2407 : List Int) (x2408 : Bool) (x2563 : Int) : Option (Int) :=
  (spec_l10Least_n16 x2407 x2408 x2563).map (fun (t : Int) => t)

def spec_l10Least_n18 (x2407 : List Int) (x2408 : Bool) (x2563 : Int) : Option (Int) :=
  (spec_l10Least_n5).bind (fun (t : Unit) => spec_l10Least_n17 x2407 x2408 x2563)

def spec_l10Least_n19 (x2562 : Int) (x2638 : Int) : Option (Int) :=
  cond (decide (x2562 < 0)) (some x2638) (cond (decide (x2638 < x2562)) (some x2638) (some x2562))

def spec_l10Least_n20 (x2407 : List Int) (x2408 : Bool) (x2562 : Int) (x2563 : Int) : Option (Int) :=
  (spec_l10Least_n18 x2407 x2408 x2563).bind (fun (t : Int) => spec_l10Least_n19 x2562 t)

def spec_l10Least_n21 (x2407 : List Int) (x2408 : Bool) (x2562 : Int) (x2563 : Int) : Option (Int) :=
  (spec_l10Least_n4).bind (fun (t : Unit) => spec_l10Least_n20 x2407 x2408 x2562 x2563)

def spec_l10Least_n22 (x2407 : List Int) (x2408 : Bool) (x2562 : Int) (x2563 : Int) : Option (Int) :=
  (spec_l10Least_n21 x2407 x2408 x2562 x2563).map (fun (t : Int) => t)

def spec_l10Least_n23 (x2563 : Int) : Option (Int) :=
  some (IntKind.wrap .i64 (x2563 + 1))

def spec_l10Least_n24 (x2407 : List Int) (x2408 : Bool) (x2562 : Int) (x2563 : Int) : Option ((Int × Int)) :=
  (spec_l10Least_n22 x2407 x2408 x2562 x2563).bind (fun (t : Int) => (spec_l10Least_n23 x2563).map (fun (u : Int) => (t, u)))

def spec_l10Least_n25 (x2407 : List Int) (x2408 : Bool) (x2562 : Int) (x2563 : Int) : Option ((Int × Int) ⊕ Int) :=
  (spec_l10Least_n3 x2407 x2562 x2563).bind (Sum.elim (fun (t : Unit) => (spec_l10Least_n24 x2407 x2408 x2562 x2563).map (fun (t : Int × Int) => (Sum.inl (t.1, t.2)))) (fun e => some ((fun (t : Int) => (Sum.inr t)) e)))

def spec_l10Least_n26 (x2407 : List Int) (x2408 : Bool) : Option (Int) :=
  nloop (fun (s : Int × Int) => ((spec_l10Least_n25 x2407 x2408 s.1 s.2).map (Sum.elim (fun (t : Int × Int) => Sum.inl (t.1, t.2)) (fun (t : Int) => Sum.inr t)) : Option ((Int × Int) ⊕ (Int)))) LL ((-1), 0)

def spec_l10Least_n27 (x2407 : List Int) (x2408 : Bool) : Option (Int) :=
  (spec_l10Least_n26 x2407 x2408).map (fun (t : Int) => t)

def spec_l10Least_n28 (x2407 : List Int) (x2408 : Bool) : Option (Int) :=
  (spec_l10Least_n2).bind (fun (t : Unit) => spec_l10Least_n27 x2407 x2408)

def spec_l10Least_n29 (x2562 : Int) : Option (Int) :=
  some x2562

def spec_l10Least_n30 (x2407 : List Int) (x2408 : Bool) : Option (Int) :=
  (spec_l10Least_n28 x2407 x2408).bind (fun (t : Int) => spec_l10Least_n29 t)

def spec_l10Least_n31 (x2407 : List Int) (x2408 : Bool) : Option (Int) :=
  (spec_l10Least_n1).bind (fun (t : Unit) => spec_l10Least_n30 x2407 x2408)

@[irreducible] def spec_l10Least (x2407 : List Int) (x2408 : Bool) : Option (Int) :=
  spec_l10Least_n31 x2407 x2408

def spec_LeastLength_n1 (x2104 : List Int) : Option (Int ⊕ Int) :=
  (spec_TreeOk x2104).bind fun (v2107 : Bool) => cond (!v2107) (some (Sum.inr (-1))) (some (Sum.inl (IntKind.wrap .i64 ((((List.length x2104 : Nat) : Int)) - 1))))

def spec_LeastLength_n2 : Option (Unit) :=
  some ()

def spec_LeastLength_n3 (x2104 : List Int) (x2728 : Int) (x2729 : Int) : Option ((Int × Int) ⊕ Int) :=
  cond (decide (x2729 ≤ (((List.length x2104 : Nat) : Int)))) ((idx x2104 (IntKind.wrap .i64 (x2729 - 1))).bind fun (v2743 : Int) => (spec_l10Sizes x2104 x2729).bind fun (v2745 : List Int) => (spec_l10Least v2745 (v2743 == 0)).bind fun (v2746 : Int) => some (Sum.inl ((IntKind.wrap .i64 (x2728 + v2746)), (IntKind.wrap .i64 (x2729 + 1))))) (some (Sum.inr x2728))

def spec_LeastLength_n4 (x2104 : List Int) (x2110 : Int) : Option (Int) :=
  nloop (fun (s : Int × Int) => ((spec_LeastLength_n3 x2104 s.1 s.2).map (Sum.elim (fun (t : Int × Int) => Sum.inl (t.1, t.2)) (fun (t : Int) => Sum.inr t)) : Option ((Int × Int) ⊕ (Int)))) LL (x2110, 1)

def spec_LeastLength_n5 (x2104 : List Int) (x2110 : Int) : Option (Int) :=
  (spec_LeastLength_n4 x2104 x2110).map (fun (t : Int) => t)

def spec_LeastLength_n6 (x2104 : List Int) (x2110 : Int) : Option (Int) :=
  (spec_LeastLength_n2).bind (fun (t : Unit) => spec_LeastLength_n5 x2104 x2110)

def spec_LeastLength_n7 (x2728 : Int) : Option (Int) :=
  some x2728

def spec_LeastLength_n8 (x2104 : List Int) (x2110 : Int) : Option (Int) :=
  (spec_LeastLength_n6 x2104 x2110).bind (fun (t : Int) => spec_LeastLength_n7 t)

def spec_LeastLength_n9 (x2104 : List Int) : Option (Int) :=
  (spec_LeastLength_n1 x2104).bind (Sum.elim (fun (t : Int) => spec_LeastLength_n8 x2104 t) (fun e => some ((fun (t : Int) => t) e)))

@[irreducible] def spec_LeastLength (x2104 : List Int) : Option (Int) :=
  spec_LeastLength_n9 x2104

def laws_toIntS_n1 (x3852 : List Int) : Option (((List Int))) :=
  (mk (((List.length x3852 : Nat) : Int)) (((List.length x3852 : Nat) : Int))).bind fun (v3854 : Nat) => some (List.replicate v3854 (0 : Int))

def laws_toIntS_n2 : Option (Unit) :=
  some ()

def laws_toIntS_n3 (x3852 : List Int) (x3869 : Int) (x3870 : List Int) : Option ((Int × (List Int)) ⊕ ((List Int))) :=
  cond (decide (x3869 < (((List.length x3852 : Nat) : Int)))) ((idx x3852 x3869).bind fun (v3880 : Int) => (inb x3869 (List.length x3870)).bind fun (v3881 : Nat) => some (Sum.inl ((IntKind.wrap .i64 (x3869 + 1)), (x3870.set v3881 v3880)))) (some (Sum.inr x3870))

def laws_toIntS_n4 (x3852 : List Int) (x3855 : List Int) : Option (((List Int))) :=
  nloop (fun (s : Int × (List Int)) => ((laws_toIntS_n3 x3852 s.1 s.2).map (Sum.elim (fun (t : Int × (List Int)) => Sum.inl (t.1, t.2)) (fun (t : (List Int)) => Sum.inr t)) : Option ((Int × (List Int)) ⊕ (((List Int)))))) LL (0, x3855)

def laws_toIntS_n5 (x3852 : List Int) (x3855 : List Int) : Option (((List Int))) :=
  (laws_toIntS_n4 x3852 x3855).map (fun (t : (List Int)) => t)

def laws_toIntS_n6 (x3852 : List Int) (x3855 : List Int) : Option (((List Int))) :=
  (laws_toIntS_n2).bind (fun (t : Unit) => laws_toIntS_n5 x3852 x3855)

def laws_toIntS_n7 (x3870 : List Int) : Option (((List Int))) :=
  some x3870

def laws_toIntS_n8 (x3852 : List Int) (x3855 : List Int) : Option (((List Int))) :=
  (laws_toIntS_n6 x3852 x3855).bind (fun (t : (List Int)) => laws_toIntS_n7 t)

def laws_toIntS_n9 (x3852 : List Int) : Option (((List Int))) :=
  (laws_toIntS_n1 x3852).bind (fun (t : (List Int)) => laws_toIntS_n8 x3852 t)

@[irreducible] def laws_toIntS (x3852 : List Int) : Option ((List Int)) :=
  laws_toIntS_n9 x3852

def laws_eqIntS_n1 (x3912 : List Int) (x3913 : List Int) : Option (Unit ⊕ Bool) :=
  cond ((((List.length x3912 : Nat) : Int)) != (((List.length x3913 : Nat) : Int))) (some (Sum.inr false)) (some (Sum.inl ()))

def laws_eqIntS_n2 : Option (Unit) :=
  some ()

def laws_eqIntS_n3 (x3912 : List Int) (x3913 : List Int) (x3930 : Int) : Option (Int ⊕ Bool ⊕ Unit) :=
  cond (decide (x3930 < (((List.length x3912 : Nat) : Int)))) ((idx x3912 x3930).bind fun (v3940 : Int) => (idx x3913 x3930).bind fun (v3941 : Int) => cond (v3940 != v3941) (some (Sum.inr (Sum.inl false))) (some (Sum.inl (IntKind.wrap .i64 (x3930 + 1))))) (some (Sum.inr (Sum.inr ())))

def laws_eqIntS_n4 (x3912 : List Int) (x3913 : List Int) : Option (Bool ⊕ Unit) :=
  nloop (fun (s : Int) => ((laws_eqIntS_n3 x3912 x3913 s).map (Sum.elim (fun (t : Int) => Sum.inl t) (Sum.elim (fun (t : Bool) => Sum.inr (Sum.inl t)) (fun (t : Unit) => Sum.inr (Sum.inr t)))) : Option ((Int) ⊕ (Bool ⊕ Unit)))) LL 0

def laws_eqIntS_n5 (x3912 : List Int) (x3913 : List Int) : Option (Unit ⊕ Bool) :=
  (laws_eqIntS_n4 x3912 x3913).map (Sum.elim (fun (t : Bool) => (Sum.inr t)) (fun (t : Unit) => (Sum.inl ())))

def laws_eqIntS_n6 (x3912 : List Int) (x3913 : List Int) : Option (Unit ⊕ Bool) :=
  (laws_eqIntS_n2).bind (fun (t : Unit) => laws_eqIntS_n5 x3912 x3913)

def laws_eqIntS_n7 : Option (Bool) :=
  some true

def laws_eqIntS_n8 (x3912 : List Int) (x3913 : List Int) : Option (Bool) :=
  (laws_eqIntS_n6 x3912 x3913).bind (Sum.elim (fun (t : Unit) => laws_eqIntS_n7) (fun e => some ((fun (t : Bool) => t) e)))

def laws_eqIntS_n9 (x3912 : List Int) (x3913 : List Int) : Option (Bool) :=
  (laws_eqIntS_n1 x3912 x3913).bind (Sum.elim (fun (t : Unit) => laws_eqIntS_n8 x3912 x3913) (fun e => some ((fun (t : Bool) => t) e)))

@[irreducible] def laws_eqIntS (x3912 : List Int) (x3913 : List Int) : Option (Bool) :=
  laws_eqIntS_n9 x3912 x3913

def laws_FnExactLeastLength_n1 (x3847 : List Int) : Option (Bool) :=
  cond (decide ((((List.length x3847 : Nat) : Int)) > 1048576)) (some true) ((laws_toIntS x3847).bind fun (v3959 : List Int) => (spec_LeastLength v3959).bind fun (v3960 : Int) => (laws_toIntS x3847).bind fun (v3961 : List Int) => (impl_LeastLength v3961).bind fun (v3962 : Int) => cond (v3962 != v3960) (some false) ((laws_toIntS x3847).bind fun (v3964 : List Int) => (laws_eqIntS v3961 v3964).bind fun (v3965 : Bool) => cond (!v3965) (some false) (some true)))

@[irreducible] def laws_FnExactLeastLength (x3847 : List Int) : Option (Bool) :=
  laws_FnExactLeastLength_n1 x3847

end Go.Rv
