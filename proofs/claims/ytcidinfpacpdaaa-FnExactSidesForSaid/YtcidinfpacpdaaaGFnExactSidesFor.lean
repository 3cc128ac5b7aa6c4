/-
  Plain functions, written by program for functions of the checked code. Conditions: none.
-/
import Derived.Test.YtcidinfpacpdaaaFB
set_option linter.unusedVariables false
namespace Go.Rv
def spec_l1In_n1 (x780 : Int) (x781 : Int) (x782 : Int) : Option (Bool) :=
  cond (decide (x780 ≥ x781)) (some (decide (x780 ≤ x782))) (some false)

@[irreducible] def spec_l1In (x780 : Int) (x781 : Int) (x782 : Int) : Option (Bool) :=
  spec_l1In_n1 x780 x781 x782

def spec_TreeOk_n1 (x776 : List Int) : Option (Int ⊕ Bool) :=
  (spec_l1In (((List.length x776 : Nat) : Int)) 1 8).bind fun (v791 : Bool) => cond (!v791) (some (Sum.inr false)) (some (Sum.inl (((List.length x776 : Nat) : Int))))

def spec_TreeOk_n2 : Option (Unit) :=
  some ()

def spec_TreeOk_n3 (x790 : Int) (x857 : Int) (x858 : Int) : Option (Unit ⊕ Int) :=
  cond (decide (x858 < x790)) (some (Sum.inl ())) (some (Sum.inr x857))

def spec_TreeOk_n4 (x776 : List Int) (x790 : Int) (x857 : Int) (x858 : Int) : Option ((Int × Int) ⊕ Bool) :=
  (idx x776 x858).bind fun (v875 : Int) => (spec_l1In v875 0 x790).bind fun (v876 : Bool) => cond (!v876) (some (Sum.inr false)) ((idx x776 x858).bind fun (v878 : Int) => cond (v878 == (IntKind.wrap .i64 (x858 + 1))) (some (Sum.inr false)) ((idx x776 x858).bind fun (v881 : Int) => cond (v881 == 0) (some (Sum.inl ((IntKind.wrap .i64 (x857 + 1)), (IntKind.wrap .i64 (x858 + 1))))) (some (Sum.inl (x857, (IntKind.wrap .i64 (x858 + 1)))))))

def spec_TreeOk_n5 : Option (Unit) :=
  some ()

def spec_TreeOk_n6 (x776 : List Int) (x790 : Int) (x903 : Int) (x904 : Int) : Option ((Int × Int) ⊕ Bool ⊕ Int) :=
  cond (decide (x903 > 0)) (cond (decide (x904 < x790)) ((idx x776 (IntKind.wrap .i64 (x903 - 1))).bind fun (v916 : Int) => (spec_l1In v916 0 x790).bind fun (v917 : Bool) => cond (!v917) (some (Sum.inr (Sum.inl false))) (some (Sum.inl (v916, (IntKind.wrap .i64 (x904 + 1)))))) (some (Sum.inr (Sum.inr x903)))) (some (Sum.inr (Sum.inr x903)))

def spec_TreeOk_n7 (x776 : List Int) (x790 : Int) (x887 : Int) : Option (Bool ⊕ Int) :=
  nloop (fun (s : Int × Int) => ((spec_TreeOk_n6 x776 x790 s.1 s.2).map (Sum.elim (fun (t : Int × Int) => Sum.inl (t.1, t.2)) (Sum.elim (fun (t : Bool) => Sum.inr (Sum.inl t)) (fun (t : Int) => Sum.inr (Sum.inr t)))) : Option ((Int × Int) ⊕ (Bool ⊕ Int)))) LL (x887, 0)

def spec_TreeOk_n8 (x776 : List Int) (x790 : Int) (x887 : Int) : Option (Int ⊕ Bool) :=
  (spec_TreeOk_n7 x776 x790 x887).map (Sum.elim (fun (t : Bool) => (Sum.inr t)) (fun (t : Int) => (Sum.inl t)))

def spec_TreeOk_n9 (x776 : List Int) (x790 : Int) (x887 : Int) : Option (Int ⊕ Bool) :=
  (spec_TreeOk_n5).bind (fun (t : Unit) => spec_TreeOk_n8 x776 x790 x887)

def spec_TreeOk_n10 (x903 : Int) : Option (Unit ⊕ Bool) :=
  cond (decide (x903 > 0)) (some (Sum.inr false)) (some (Sum.inl ()))

def spec_TreeOk_n11 (x776 : List Int) (x790 : Int) (x887 : Int) : Option (Unit ⊕ Bool) :=
  (spec_TreeOk_n9 x776 x790 x887).bind (Sum.elim (fun (t : Int) => spec_TreeOk_n10 t) (fun e => some ((fun (t : Bool) => (Sum.inr t)) e)))

def spec_TreeOk_n12 (x776 : List Int) (x790 : Int) (x857 : Int) (x858 : Int) : Option (Int ⊕ Bool) :=
  (spec_TreeOk_n4 x776 x790 x857 x858).bind (Sum.elim (fun (t : Int × Int) => (spec_TreeOk_n11 x776 x790 t.2).map (Sum.elim (fun (u : Unit) => (Sum.inl t.1)) (fun (u : Bool) => (Sum.inr u)))) (fun e => some ((fun (t : Bool) => (Sum.inr t)) e)))

def spec_TreeOk_n13 (x776 : List Int) (x790 : Int) (x857 : Int) (x858 : Int) : Option (Int ⊕ Bool) :=
  (spec_TreeOk_n12 x776 x790 x857 x858).map (Sum.elim (fun (t : Int) => (Sum.inl t)) (fun (t : Bool) => (Sum.inr t)))

def spec_TreeOk_n14 (x858 : Int) : Option (Int) :=
  some (IntKind.wrap .i64 (x858 + 1))

def spec_TreeOk_n15 (x776 : List Int) (x790 : Int) (x857 : Int) (x858 : Int) : Option ((Int × Int) ⊕ Bool) :=
  (spec_TreeOk_n13 x776 x790 x857 x858).bind (Sum.elim (fun (t : Int) => (spec_TreeOk_n14 x858).map (fun (u : Int) => (Sum.inl (t, u)))) (fun e => some ((fun (t : Bool) => (Sum.inr t)) e)))

def spec_TreeOk_n16 (x776 : List Int) (x790 : Int) (x857 : Int) (x858 : Int) : Option ((Int × Int) ⊕ Bool ⊕ Int) :=
  (spec_TreeOk_n3 x790 x857 x858).bind (Sum.elim (fun (t : Unit) => (spec_TreeOk_n15 x776 x790 x857 x858).map (Sum.elim (fun (t : Int × Int) => (Sum.inl (t.1, t.2))) (fun (t : Bool) => (Sum.inr (Sum.inl t))))) (fun e => some ((fun (t : Int) => (Sum.inr (Sum.inr t))) e)))

def spec_TreeOk_n17 (x776 : List Int) (x790 : Int) : Option (Bool ⊕ Int) :=
  nloop (fun (s : Int × Int) => ((spec_TreeOk_n16 x776 x790 s.1 s.2).map (Sum.elim (fun (t : Int × Int) => Sum.inl (t.1, t.2)) (Sum.elim (fun (t : Bool) => Sum.inr (Sum.inl t)) (fun (t : Int) => Sum.inr (Sum.inr t)))) : Option ((Int × Int) ⊕ (Bool ⊕ Int)))) LL (0, 0)

def spec_TreeOk_n18 (x776 : List Int) (x790 : Int) : Option (Int ⊕ Bool) :=
  (spec_TreeOk_n17 x776 x790).map (Sum.elim (fun (t : Bool) => (Sum.inr t)) (fun (t : Int) => (Sum.inl t)))

def spec_TreeOk_n19 (x776 : List Int) (x790 : Int) : Option (Int ⊕ Bool) :=
  (spec_TreeOk_n2).bind (fun (t : Unit) => spec_TreeOk_n18 x776 x790)

def spec_TreeOk_n20 (x857 : Int) : Option (Bool) :=
  some (x857 == 1)

def spec_TreeOk_n21 (x776 : List Int) (x790 : Int) : Option (Bool) :=
  (spec_TreeOk_n19 x776 x790).bind (Sum.elim (fun (t : Int) => spec_TreeOk_n20 t) (fun e => some ((fun (t : Bool) => t) e)))

def spec_TreeOk_n22 (x776 : List Int) : Option (Bool) :=
  (spec_TreeOk_n1 x776).bind (Sum.elim (fun (t : Int) => spec_TreeOk_n21 x776 t) (fun e => some ((fun (t : Bool) => t) e)))

@[irreducible] def spec_TreeOk (x776 : List Int) : Option (Bool) :=
  spec_TreeOk_n22 x776

def impl_oneRoot_n1 : Option (Unit) :=
  some ()

def impl_oneRoot_n2 (x1431 : List Int) : Option (Int) :=
  some (((List.length x1431 : Nat) : Int))

def impl_oneRoot_n3 (x1431 : List Int) (x1453 : Int) (x1432 : Int) (x1454 : Int) : Option ((Int × Int) ⊕ Bool ⊕ Int) :=
  cond (decide (x1454 < x1432)) ((idx x1431 x1454).bind fun (v1465 : Int) => cond (decide (v1465 < 0)) (some (Sum.inr (Sum.inl false))) (cond (decide (v1465 > (((List.length x1431 : Nat) : Int)))) (some (Sum.inr (Sum.inl false))) (cond (v1465 == 0) (some (Sum.inl ((IntKind.wrap .i64 (x1453 + 1)), (IntKind.wrap .i64 (x1454 + 1))))) (some (Sum.inl (x1453, (IntKind.wrap .i64 (x1454 + 1)))))))) (some (Sum.inr (Sum.inr x1453)))

def impl_oneRoot_n4 (x1431 : List Int) (x1432 : Int) : Option (Bool ⊕ Int) :=
  nloop (fun (s : Int × Int) => ((impl_oneRoot_n3 x1431 s.1 x1432 s.2).map (Sum.elim (fun (t : Int × Int) => Sum.inl (t.1, t.2)) (Sum.elim (fun (t : Bool) => Sum.inr (Sum.inl t)) (fun (t : Int) => Sum.inr (Sum.inr t)))) : Option ((Int × Int) ⊕ (Bool ⊕ Int)))) LL (0, 0)

def impl_oneRoot_n5 (x1431 : List Int) (x1432 : Int) : Option (Int ⊕ Bool) :=
  (impl_oneRoot_n4 x1431 x1432).map (Sum.elim (fun (t : Bool) => (Sum.inr t)) (fun (t : Int) => (Sum.inl t)))

def impl_oneRoot_n6 (x1431 : List Int) : Option (Int ⊕ Bool) :=
  (impl_oneRoot_n2 x1431).bind (fun (t : Int) => impl_oneRoot_n5 x1431 t)

def impl_oneRoot_n7 (x1453 : Int) : Option (Bool) :=
  some (x1453 == 1)

def impl_oneRoot_n8 (x1431 : List Int) : Option (Bool) :=
  (impl_oneRoot_n6 x1431).bind (Sum.elim (fun (t : Int) => impl_oneRoot_n7 t) (fun e => some ((fun (t : Bool) => t) e)))

def impl_oneRoot_n9 (x1431 : List Int) : Option (Bool) :=
  (impl_oneRoot_n1).bind (fun (t : Unit) => impl_oneRoot_n8 x1431)

@[irreducible] def impl_oneRoot (x1431 : List Int) : Option (Bool) :=
  impl_oneRoot_n9 x1431

def impl_walker_up_n1 (x1487 : List Int) (x1488 : Int) (x1489 : Int) : Option ((Bool × Int × Int)) :=
  (idx x1487 (IntKind.wrap .i64 (x1488 - 1))).bind fun (v1507 : Int) => cond (v1507 == 0) (some (false, x1488, x1489)) (some (true, v1507, (IntKind.wrap .i64 (x1489 + 1))))

@[irreducible] def impl_walker_up (x1487 : List Int) (x1488 : Int) (x1489 : Int) : Option (Bool × Int × Int) :=
  impl_walker_up_n1 x1487 x1488 x1489

def impl_stepsToRoot_n1 : Option (Unit) :=
  some ()

def impl_stepsToRoot_n2 (x1485 : List Int) (x1523 : Int) (x1524 : Int) : Option ((Int × Int) ⊕ (Int × Bool) ⊕ (Int × Int)) :=
  (impl_walker_up x1485 x1523 x1524).bind fun (v1529 : Bool × Int × Int) => cond (v1529.1) (cond (decide ((v1529.2.2) ≥ (((List.length x1485 : Nat) : Int)))) (some (Sum.inr (Sum.inl (0, false)))) (some (Sum.inl ((v1529.2.1), (v1529.2.2))))) (some (Sum.inr (Sum.inr ((v1529.2.1), (v1529.2.2)))))

def impl_stepsToRoot_n3 (x1485 : List Int) (x1486 : Int) : Option ((Int × Bool) ⊕ (Int × Int)) :=
  nloop (fun (s : Int × Int) => ((impl_stepsToRoot_n2 x1485 s.1 s.2).map (Sum.elim (fun (t : Int × Int) => Sum.inl (t.1, t.2)) (Sum.elim (fun (t : Int × Bool) => Sum.inr (Sum.inl t)) (fun (t : Int × Int) => Sum.inr (Sum.inr t)))) : Option ((Int × Int) ⊕ ((Int × Bool) ⊕ (Int × Int))))) LL (x1486, 0)

def impl_stepsToRoot_n4 (x1485 : List Int) (x1486 : Int) : Option ((Int × Int) ⊕ (Int × Bool)) :=
  (impl_stepsToRoot_n3 x1485 x1486).map (Sum.elim (fun (t : Int × Bool) => (Sum.inr t)) (fun (t : Int × Int) => (Sum.inl (t.1, t.2))))

def impl_stepsToRoot_n5 (x1532 : Int) : Option ((Int × Bool)) :=
  some (x1532, true)

def impl_stepsToRoot_n6 (x1485 : List Int) (x1486 : Int) : Option ((Int × Bool)) :=
  (impl_stepsToRoot_n4 x1485 x1486).bind (Sum.elim (fun (t : Int × Int) => impl_stepsToRoot_n5 t.2) (fun e => some ((fun (t : Int × Bool) => t) e)))

def impl_stepsToRoot_n7 (x1485 : List Int) (x1486 : Int) : Option ((Int × Bool)) :=
  (impl_stepsToRoot_n1).bind (fun (t : Unit) => impl_stepsToRoot_n6 x1485 x1486)

@[irreducible] def impl_stepsToRoot (x1485 : List Int) (x1486 : Int) : Option (Int × Bool) :=
  impl_stepsToRoot_n7 x1485 x1486

def impl_TreeOk_n1 (x1426 : List Int) : Option (Unit ⊕ Bool) :=
  cond (decide ((((List.length x1426 : Nat) : Int)) < 1)) (some (Sum.inr false)) (cond (decide ((((List.length x1426 : Nat) : Int)) > 8)) (some (Sum.inr false)) ((impl_oneRoot x1426).bind fun (v1478 : Bool) => cond (!v1478) (some (Sum.inr false)) (some (Sum.inl ()))))

def impl_TreeOk_n2 (x1426 : List Int) : Option (Int) :=
  some (((List.length x1426 : Nat) : Int))

def impl_TreeOk_n3 (x1426 : List Int) (x1480 : Int) (x1548 : Int) : Option (Int ⊕ Bool ⊕ Unit) :=
  cond (decide (x1548 < x1480)) ((impl_stepsToRoot x1426 (IntKind.wrap .i64 (x1548 + 1))).bind fun (v1559 : Int × Bool) => cond (!(v1559.2)) (some (Sum.inr (Sum.inl false))) (some (Sum.inl (IntKind.wrap .i64 (x1548 + 1))))) (some (Sum.inr (Sum.inr ())))

def impl_TreeOk_n4 (x1426 : List Int) (x1480 : Int) : Option (Bool ⊕ Unit) :=
  nloop (fun (s : Int) => ((impl_TreeOk_n3 x1426 x1480 s).map (Sum.elim (fun (t : Int) => Sum.inl t) (Sum.elim (fun (t : Bool) => Sum.inr (Sum.inl t)) (fun (t : Unit) => Sum.inr (Sum.inr t)))) : Option ((Int) ⊕ (Bool ⊕ Unit)))) LL 0

def impl_TreeOk_n5 (x1426 : List Int) (x1480 : Int) : Option (Unit ⊕ Bool) :=
  (impl_TreeOk_n4 x1426 x1480).map (Sum.elim (fun (t : Bool) => (Sum.inr t)) (fun (t : Unit) => (Sum.inl ())))

def impl_TreeOk_n6 (x1426 : List Int) : Option (Unit ⊕ Bool) :=
  (impl_TreeOk_n2 x1426).bind (fun (t : Int) => impl_TreeOk_n5 x1426 t)

def impl_TreeOk_n7 : Option (Bool) :=
  some true

def impl_TreeOk_n8 (x1426 : List Int) : Option (Bool) :=
  (impl_TreeOk_n6 x1426).bind (Sum.elim (fun (t : Unit) => impl_TreeOk_n7) (fun e => some ((fun (t : Bool) => t) e)))

def impl_TreeOk_n9 (x1426 : List Int) : Option (Bool) :=
  (impl_TreeOk_n1 x1426).bind (Sum.elim (fun (t : Unit) => impl_TreeOk_n8 x1426) (fun e => some ((fun (t : Bool) => t) e)))

@[irreducible] def impl_TreeOk (x1426 : List Int) : Option (Bool) :=
  impl_TreeOk_n9 x1426

def impl_arcBetween_n1 (x1580 : Int) (x1581 : Int) : Option ((Bool × Int × Int)) :=
  cond (decide (x1580 < 1)) (some (false, 0, 0)) (cond (decide (x1581 < 1)) (some (false, 0, 0)) (cond (x1580 == x1581) (some (false, 0, 0)) (some (true, (imin x1580 x1581), (imax x1580 x1581)))))

@[irreducible] def impl_arcBetween (x1580 : Int) (x1581 : Int) : Option (Bool × Int × Int) :=
  impl_arcBetween_n1 x1580 x1581

def impl_arcsOf_n1 (x1569 : List Int) : Option (((List (Int × Int × Unit)))) :=
  (mk 0 (((List.length x1569 : Nat) : Int))).bind fun (v1572 : Nat) => some (List.replicate v1572 ((0 : Int), ((0 : Int), ())))

def impl_arcsOf_n2 (x1569 : List Int) : Option (Int) :=
  some (((List.length x1569 : Nat) : Int))

def impl_arcsOf_n3 (x1569 : List Int) (x1574 : Int) (x1626 : Int) (x1627 : List (Int × Int × Unit)) : Option ((Int × (List (Int × Int × Unit))) ⊕ ((List (Int × Int × Unit)))) :=
  cond (decide (x1626 < x1574)) ((idx x1569 x1626).bind fun (v1644 : Int) => (impl_arcBetween (IntKind.wrap .i64 (x1626 + 1)) v1644).bind fun (v1646 : Bool × Int × Int) => cond (v1646.1) ((room ((List.length x1627) + List.length ([((v1646.2.1), ((v1646.2.2), ()))]))).bind fun (v1654 : Unit) => some (Sum.inl ((IntKind.wrap .i64 (x1626 + 1)), (x1627 ++ ([((v1646.2.1), ((v1646.2.2), ()))]))))) (some (Sum.inl ((IntKind.wrap .i64 (x1626 + 1)), x1627)))) (some (Sum.inr x1627))

def impl_arcsOf_n4 (x1569 : List Int) (x1574 : Int) (x1573 : List (Int × Int × Unit)) : Option (((List (Int × Int × Unit)))) :=
  nloop (fun (s : Int × (List (Int × Int × Unit))) => ((impl_arcsOf_n3 x1569 x1574 s.1 s.2).map (Sum.elim (fun (t : Int × (List (Int × Int × Unit))) => Sum.inl (t.1, t.2)) (fun (t : (List (Int × Int × Unit))) => Sum.inr t)) : Option ((Int × (List (Int × Int × Unit))) ⊕ (((List (Int × Int × Unit))))))) LL (0, x1573)

def impl_arcsOf_n5 (x1569 : List Int) (x1574 : Int) (x1573 : List (Int × Int × Unit)) : Option (((List (Int × Int × Unit)))) :=
  (impl_arcsOf_n4 x1569 x1574 x1573).map (fun (t : (List (Int × Int × Unit))) => t)

def impl_arcsOf_n6 (x1569 : List Int) (x1573 : List (Int × Int × Unit)) : Option (((List (Int × Int × Unit)))) :=
  (impl_arcsOf_n2 x1569).bind (fun (t : Int) => impl_arcsOf_n5 x1569 t x1573)

def impl_arcsOf_n7 (x1627 : List (Int × Int × Unit)) : Option (((List (Int × Int × Unit)))) :=
  some x1627

def impl_arcsOf_n8 (x1569 : List Int) (x1573 : List (Int × Int × Unit)) : Option (((List (Int × Int × Unit)))) :=
  (impl_arcsOf_n6 x1569 x1573).bind (fun (t : (List (Int × Int × Unit))) => impl_arcsOf_n7 t)

def impl_arcsOf_n9 (x1569 : List Int) : Option (((List (Int × Int × Unit)))) :=
  (impl_arcsOf_n1 x1569).bind (fun (t : (List (Int × Int × Unit))) => impl_arcsOf_n8 x1569 t)

@[irreducible] def impl_arcsOf (x1569 : List Int) : Option ((List (Int × Int × Unit))) :=
  impl_arcsOf_n9 x1569

def impl_arc_covers_n1 (x2663 : Int) (x2664 : Int) (x2665 : Int) : Option (Bool) :=
  cond (decide (x2663 < x2665)) (some (decide (x2665 < x2664))) (some false)

@[irreducible] def impl_arc_covers (x2663 : Int) (x2664 : Int) (x2665 : Int) : Option (Bool) :=
  impl_arc_covers_n1 x2663 x2664 x2665

def impl_arc_leavesOut_n1 (x2672 : Int) (x2673 : Int) (x2674 : Int) : Option (Bool) :=
  cond (decide (x2674 < x2672)) (some true) (some (decide (x2673 < x2674)))

@[irreducible] def impl_arc_leavesOut (x2672 : Int) (x2673 : Int) (x2674 : Int) : Option (Bool) :=
  impl_arc_leavesOut_n1 x2672 x2673 x2674

def impl_arc_crosses_n1 (x2659 : Int) (x2660 : Int) (x2661 : Int) (x2662 : Int) : Option (Bool) :=
  (impl_arc_covers x2659 x2660 x2661).bind fun (v2685 : Bool) => cond v2685 ((impl_arc_leavesOut x2659 x2660 x2662).bind fun (v2686 : Bool) => cond v2686 (some true) ((impl_arc_covers x2659 x2660 x2662).bind fun (v2687 : Bool) => cond v2687 ((impl_arc_leavesOut x2659 x2660 x2661).bind fun (v2688 : Bool) => some v2688) (some false))) ((impl_arc_covers x2659 x2660 x2662).bind fun (v2689 : Bool) => cond v2689 ((impl_arc_leavesOut x2659 x2660 x2661).bind fun (v2690 : Bool) => some v2690) (some false))

@[irreducible] def impl_arc_crosses (x2659 : Int) (x2660 : Int) (x2661 : Int) (x2662 : Int) : Option (Bool) :=
  impl_arc_crosses_n1 x2659 x2660 x2661 x2662

def math_bits_Mul64_n1 (x3294 : Int) (x3295 : Int) : Option ((Int × Int × Int × Int)) :=
  (shr .u64 x3294 32).bind fun (v3314 : Int) => (shr .u64 x3295 32).bind fun (v3316 : Int) => (shr .u64 (IntKind.wrap .u64 ((iand .u64 x3294 4294967295) * (iand .u64 x3295 4294967295))) 32).bind fun (v3319 : Int) => some ((iand .u64 x3294 4294967295), v3314, v3316, (IntKind.wrap .u64 ((IntKind.wrap .u64 (v3314 * (iand .u64 x3295 4294967295))) + v3319)))

def math_bits_Mul64_n2 (x3320 : Int) : Option (Int) :=
  some (iand .u64 x3320 4294967295)

def math_bits_Mul64_n3 (x3320 : Int) : Option (Int) :=
  (shr .u64 x3320 32).bind fun (v3333 : Int) => some v3333

def math_bits_Mul64_n4 (x3313 : Int) (x3316 : Int) (x3331 : Int) : Option (Int) :=
  some (IntKind.wrap .u64 (x3331 + (IntKind.wrap .u64 (x3313 * x3316))))

def math_bits_Mul64_n5 (x3294 : Int) (x3295 : Int) (x3314 : Int) (x3316 : Int) (x3337 : Int) (x3333 : Int) : Option ((Int × Int)) :=
  (shr .u64 x3337 32).bind fun (v3349 : Int) => some ((IntKind.wrap .u64 ((IntKind.wrap .u64 ((IntKind.wrap .u64 (x3314 * x3316)) + x3333)) + v3349)), (IntKind.wrap .u64 (x3294 * x3295)))

def math_bits_Mul64_n6 (x3294 : Int) (x3295 : Int) (x3313 : Int) (x3314 : Int) (x3316 : Int) (x3331 : Int) (x3333 : Int) : Option ((Int × Int)) :=
  (math_bits_Mul64_n4 x3313 x3316 x3331).bind (fun (t : Int) => math_bits_Mul64_n5 x3294 x3295 x3314 x3316 t x3333)

def math_bits_Mul64_n7 (x3294 : Int) (x3295 : Int) (x3313 : Int) (x3314 : Int) (x3316 : Int) (x3320 : Int) (x3331 : Int) : Option ((Int × Int)) :=
  (math_bits_Mul64_n3 x3320).bind (fun (t : Int) => math_bits_Mul64_n6 x3294 x3295 x3313 x3314 x3316 x3331 t)

def math_bits_Mul64_n8 (x3294 : Int) (x3295 : Int) (x3313 : Int) (x3314 : Int) (x3316 : Int) (x3320 : Int) : Option ((Int × Int)) :=
  (math_bits_Mul64_n2 x3320).bind (fun (t : Int) => math_bits_Mul64_n7 x3294 x3295 x3313 x3314 x3316 x3320 t)

def math_bits_Mul64_n9 (x3294 : Int) (x3295 : Int) : Option ((Int × Int)) :=
  (math_bits_Mul64_n1 x3294 x3295).bind (fun (t : Int × Int × Int × Int) => math_bits_Mul64_n8 x3294 x3295 t.1 t.2.1 t.2.2.1 t.2.2.2)

@[irreducible] def math_bits_Mul64 (x3294 : Int) (x3295 : Int) : Option (Int × Int) :=
  math_bits_Mul64_n9 x3294 x3295

def math_bits_Mul_n1 (x3292 : Int) (x3293 : Int) : Option ((Int × Int)) :=
  (math_bits_Mul64 x3292 x3293).bind fun (v3358 : Int × Int) => some ((v3358.1), (v3358.2))

@[irreducible] def math_bits_Mul (x3292 : Int) (x3293 : Int) : Option (Int × Int) :=
  math_bits_Mul_n1 x3292 x3293

def slices_Repeat_int_int_n1 (x3285 : List Int) (x3286 : Int) : Option ((Int × (List Int))) :=
  cond (decide (x3286 < 0)) (none) ((math_bits_Mul (IntKind.wrap .u64 (((List.length x3285 : Nat) : Int))) (IntKind.wrap .u64 x3286)).bind fun (v3390 : Int × Int) => cond (decide ((v3390.1) > 0)) (none) (cond (decide ((v3390.2) > 9223372036854775807)) (none) ((mk (IntKind.wrap .i64 (v3390.2)) (IntKind.wrap .i64 (v3390.2))).bind fun (v3396 : Nat) => some ((((min (List.length x3285) (List.length (List.replicate v3396 (0 : Int))) : Nat) : Int)), (overL (List.replicate v3396 (0 : Int)) 0 (x3285.take (List.length (List.replicate v3396 (0 : Int)))))))))

def slices_Repeat_int_int_n2 (x3435 : Int) (x3436 : List Int) : Option ((Int × (List Int)) ⊕ ((List Int))) :=
  cond (decide (x3435 < (((List.length x3436 : Nat) : Int)))) ((inc x3435 (List.length x3436)).bind fun (v3442 : Nat) => (inc x3435 (List.length x3436)).bind fun (v3445 : Nat) => some (Sum.inl ((IntKind.wrap .i64 (x3435 + (((min (List.length ((x3436.drop 0).take (v3445 - 0))) ((List.length x3436) - v3442) : Nat) : Int)))), (overL x3436 v3442 (((x3436.drop 0).take (v3445 - 0)).take ((List.length x3436) - v3442)))))) (some (Sum.inr x3436))

def slices_Repeat_int_int_n3 (x3400 : Int) (x3399 : List Int) : Option (((List Int))) :=
  nloop (fun (s : Int × (List Int)) => ((slices_Repeat_int_int_n2 s.1 s.2).map (Sum.elim (fun (t : Int × (List Int)) => Sum.inl (t.1, t.2)) (fun (t : (List Int)) => Sum.inr t)) : Option ((Int × (List Int)) ⊕ (((List Int)))))) LL (x3400, x3399)

def slices_Repeat_int_int_n4 (x3400 : Int) (x3399 : List Int) : Option (((List Int))) :=
  (slices_Repeat_int_int_n3 x3400 x3399).map (fun (t : (List Int)) => t)

def slices_Repeat_int_int_n5 (x3436 : List Int) : Option (((List Int))) :=
  some x3436

def slices_Repeat_int_int_n6 (x3400 : Int) (x3399 : List Int) : Option (((List Int))) :=
  (slices_Repeat_int_int_n4 x3400 x3399).bind (fun (t : (List Int)) => slices_Repeat_int_int_n5 t)

def slices_Repeat_int_int_n7 (x3285 : List Int) (x3286 : Int) : Option (((List Int))) :=
  (slices_Repeat_int_int_n1 x3285 x3286).bind (fun (t : Int × (List Int)) => slices_Repeat_int_int_n6 t.1 t.2)

@[irreducible] def slices_Repeat_int_int (x3285 : List Int) (x3286 : Int) : Option ((List Int)) :=
  slices_Repeat_int_int_n7 x3285 x3286

def impl_newDrawing_n1 (x3282 : List (Int × Int × Unit)) : Option (((List Int))) :=
  (slices_Repeat_int_int ([(-1)]) (((List.length x3282 : Nat) : Int))).bind fun (v3454 : List Int) => some v3454

@[irreducible] def impl_newDrawing (x3282 : List (Int × Int × Unit)) : Option ((List Int)) :=
  impl_newDrawing_n1 x3282

def impl_opposite_n1 (x3507 : Int) : Option (Int) :=
  some (IntKind.wrap .i64 (1 - x3507))

@[irreducible] def impl_opposite (x3507 : Int) : Option (Int) :=
  impl_opposite_n1 x3507

def impl_drawing_draw_n1 (R0 : Int → Int → (List (Int × Int × Unit)) → (List Int) → Option (Bool × (List Int))) (x3474 : Int) (x3475 : Int) (x3477 : List Int) : Option (((List Int)) ⊕ (Bool × (List Int))) :=
  (inb x3474 (List.length x3477)).bind fun (v3593 : Nat) => (x3477[v3593]?).bind fun (v3594 : Int) => cond (v3594 != (-1)) ((inb x3474 (List.length x3477)).bind fun (v3596 : Nat) => (x3477[v3596]?).bind fun (v3597 : Int) => some (Sum.inr ((v3597 == x3475), x3477))) ((inb x3474 (List.length x3477)).bind fun (v3599 : Nat) => some (Sum.inl (x3477.set v3599 x3475)))

def impl_drawing_draw_n2 (R0 : Int → Int → (List (Int × Int × Unit)) → (List Int) → Option (Bool × (List Int))) (x3476 : List (Int × Int × Unit)) : Option (Int) :=
  some (((List.length x3476 : Nat) : Int))

def impl_drawing_draw_n3 (R0 : Int → Int → (List (Int × Int × Unit)) → (List Int) → Option (Bool × (List Int))) (x3474 : Int) (x3475 : Int) (x3476 : List (Int × Int × Unit)) (x3601 : Int) (x3642 : Int) (x3643 : List Int) : Option ((Int × (List Int)) ⊕ (Bool × (List Int)) ⊕ ((List Int))) :=
  cond (decide (x3642 < x3601)) ((idx x3476 x3642).bind fun (v3664 : Int × Int × Unit) => (idx x3476 x3474).bind fun (v3669 : Int × Int × Unit) => (impl_arc_crosses (v3669.1) ((v3669.2).1) (v3664.1) ((v3664.2).1)).bind fun (v3674 : Bool) => cond v3674 ((impl_opposite x3475).bind fun (v3675 : Int) => (R0 x3642 v3675 x3476 x3643).bind fun (v3676 : Bool × (List Int)) => cond (!(v3676.1)) (some (Sum.inr (Sum.inl (false, (v3676.2))))) (some (Sum.inl ((IntKind.wrap .i64 (x3642 + 1)), (v3676.2))))) (some (Sum.inl ((IntKind.wrap .i64 (x3642 + 1)), x3643)))) (some (Sum.inr (Sum.inr x3643)))

def impl_drawing_draw_n4 (R0 : Int → Int → (List (Int × Int × Unit)) → (List Int) → Option (Bool × (List Int))) (x3474 : Int) (x3475 : Int) (x3476 : List (Int × Int × Unit)) (x3601 : Int) (x3600 : List Int) : Option ((Bool × (List Int)) ⊕ ((List Int))) :=
  nloop (fun (s : Int × (List Int)) => ((impl_drawing_draw_n3 R0 x3474 x3475 x3476 x3601 s.1 s.2).map (Sum.elim (fun (t : Int × (List Int)) => Sum.inl (t.1, t.2)) (Sum.elim (fun (t : Bool × (List Int)) => Sum.inr (Sum.inl t)) (fun (t : (List Int)) => Sum.inr (Sum.inr t)))) : Option ((Int × (List Int)) ⊕ ((Bool × (List Int)) ⊕ ((List Int)))))) LL (0, x3600)

def impl_drawing_draw_n5 (R0 : Int → Int → (List (Int × Int × Unit)) → (List Int) → Option (Bool × (List Int))) (x3474 : Int) (x3475 : Int) (x3476 : List (Int × Int × Unit)) (x3601 : Int) (x3600 : List Int) : Option (((List Int)) ⊕ (Bool × (List Int))) :=
  (impl_drawing_draw_n4 R0 x3474 x3475 x3476 x3601 x3600).map (Sum.elim (fun (t : Bool × (List Int)) => (Sum.inr t)) (fun (t : (List Int)) => (Sum.inl t)))

def impl_drawing_draw_n6 (R0 : Int → Int → (List (Int × Int × Unit)) → (List Int) → Option (Bool × (List Int))) (x3474 : Int) (x3475 : Int) (x3476 : List (Int × Int × Unit)) (x3600 : List Int) : Option (((List Int)) ⊕ (Bool × (List Int))) :=
  (impl_drawing_draw_n2 R0 x3476).bind (fun (t : Int) => impl_drawing_draw_n5 R0 x3474 x3475 x3476 t x3600)

def impl_drawing_draw_n7 (R0 : Int → Int → (List (Int × Int × Unit)) → (List Int) → Option (Bool × (List Int))) (x3643 : List Int) : Option ((Bool × (List Int))) :=
  some (true, x3643)

def impl_drawing_draw_n8 (R0 : Int → Int → (List (Int × Int × Unit)) → (List Int) → Option (Bool × (List Int))) (x3474 : Int) (x3475 : Int) (x3476 : List (Int × Int × Unit)) (x3600 : List Int) : Option ((Bool × (List Int))) :=
  (impl_drawing_draw_n6 R0 x3474 x3475 x3476 x3600).bind (Sum.elim (fun (t : (List Int)) => impl_drawing_draw_n7 R0 t) (fun e => some ((fun (t : Bool × (List Int)) => t) e)))

def impl_drawing_draw_n9 (R0 : Int → Int → (List (Int × Int × Unit)) → (List Int) → Option (Bool × (List Int))) (x3474 : Int) (x3475 : Int) (x3476 : List (Int × Int × Unit)) (x3477 : List Int) : Option ((Bool × (List Int))) :=
  (impl_drawing_draw_n1 R0 x3474 x3475 x3477).bind (Sum.elim (fun (t : (List Int)) => impl_drawing_draw_n8 R0 x3474 x3475 x3476 t) (fun e => some ((fun (t : Bool × (List Int)) => t) e)))

def impl_drawing_draw_one (R0 : Int → Int → (List (Int × Int × Unit)) → (List Int) → Option (Bool × (List Int))) (x3474 : Int) (x3475 : Int) (x3476 : List (Int × Int × Unit)) (x3477 : List Int) : Option (Bool × (List Int)) :=
  impl_drawing_draw_n9 R0 x3474 x3475 x3476 x3477

def impl_drawing_draw_knot : Nat → (Int → Int → (List (Int × Int × Unit)) → (List Int) → Option (Bool × (List Int)))
  | 0 => (fun _ _ _ _ => none)
  | n + 1 => (fun y0 y1 y2 y3 => impl_drawing_draw_one (impl_drawing_draw_knot n) y0 y1 y2 y3)

def impl_drawing_draw_fuel (n : Nat) : Int → Int → (List (Int × Int × Unit)) → (List Int) → Option (Bool × (List Int)) := (impl_drawing_draw_knot n)

@[irreducible] def impl_drawing_draw (x3474 : Int) (x3475 : Int) (x3476 : List (Int × Int × Unit)) (x3477 : List Int) : Option (Bool × (List Int)) := impl_drawing_draw_fuel RR x3474 x3475 x3476 x3477

def impl_drawing_drawAll_n1 : Option (Unit) :=
  some ()

def impl_drawing_drawAll_n2 (x3465 : List (Int × Int × Unit)) : Option (Int) :=
  some (((List.length x3465 : Nat) : Int))

def impl_drawing_drawAll_n3 (x3467 : Int) (x3702 : Int) (x3465 : List (Int × Int × Unit)) (x3703 : List Int) : Option ((Int × (List Int)) ⊕ (Bool × (List Int)) ⊕ ((List Int))) :=
  cond (decide (x3702 < x3467)) ((inb x3702 (List.length x3703)).bind fun (v3715 : Nat) => (x3703[v3715]?).bind fun (v3716 : Int) => cond (v3716 == (-1)) ((impl_drawing_draw x3702 0 x3465 x3703).bind fun (v3718 : Bool × (List Int)) => cond (!(v3718.1)) (some (Sum.inr (Sum.inl (false, (v3718.2))))) (some (Sum.inl ((IntKind.wrap .i64 (x3702 + 1)), (v3718.2))))) (some (Sum.inl ((IntKind.wrap .i64 (x3702 + 1)), x3703)))) (some (Sum.inr (Sum.inr x3703)))

def impl_drawing_drawAll_n4 (x3467 : Int) (x3465 : List (Int × Int × Unit)) (x3466 : List Int) : Option ((Bool × (List Int)) ⊕ ((List Int))) :=
  nloop (fun (s : Int × (List Int)) => ((impl_drawing_drawAll_n3 x3467 s.1 x3465 s.2).map (Sum.elim (fun (t : Int × (List Int)) => Sum.inl (t.1, t.2)) (Sum.elim (fun (t : Bool × (List Int)) => Sum.inr (Sum.inl t)) (fun (t : (List Int)) => Sum.inr (Sum.inr t)))) : Option ((Int × (List Int)) ⊕ ((Bool × (List Int)) ⊕ ((List Int)))))) LL (0, x3466)

def impl_drawing_drawAll_n5 (x3467 : Int) (x3465 : List (Int × Int × Unit)) (x3466 : List Int) : Option (((List Int)) ⊕ (Bool × (List Int))) :=
  (impl_drawing_drawAll_n4 x3467 x3465 x3466).map (Sum.elim (fun (t : Bool × (List Int)) => (Sum.inr t)) (fun (t : (List Int)) => (Sum.inl t)))

def impl_drawing_drawAll_n6 (x3465 : List (Int × Int × Unit)) (x3466 : List Int) : Option (((List Int)) ⊕ (Bool × (List Int))) :=
  (impl_drawing_drawAll_n2 x3465).bind (fun (t : Int) => impl_drawing_drawAll_n5 t x3465 x3466)

def impl_drawing_drawAll_n7 (x3703 : List Int) : Option ((Bool × (List Int))) :=
  some (true, x3703)

def impl_drawing_drawAll_n8 (x3465 : List (Int × Int × Unit)) (x3466 : List Int) : Option ((Bool × (List Int))) :=
  (impl_drawing_drawAll_n6 x3465 x3466).bind (Sum.elim (fun (t : (List Int)) => impl_drawing_drawAll_n7 t) (fun e => some ((fun (t : Bool × (List Int)) => t) e)))

def impl_drawing_drawAll_n9 (x3465 : List (Int × Int × Unit)) (x3466 : List Int) : Option ((Bool × (List Int))) :=
  (impl_drawing_drawAll_n1).bind (fun (t : Unit) => impl_drawing_drawAll_n8 x3465 x3466)

@[irreducible] def impl_drawing_drawAll (x3465 : List (Int × Int × Unit)) (x3466 : List Int) : Option (Bool × (List Int)) :=
  impl_drawing_drawAll_n9 x3465 x3466

def impl_SidesFor_n1 (x3276 : List Int) : Option ((Bool × (List Int))) :=
  (impl_TreeOk x3276).bind fun (v3740 : Bool) => cond (!v3740) (some (false, ([] : List Int))) ((impl_arcsOf x3276).bind fun (v3742 : List (Int × Int × Unit)) => (impl_newDrawing v3742).bind fun (v3743 : List Int) => (impl_drawing_drawAll v3742 v3743).bind fun (v3744 : Bool × (List Int)) => cond (!(v3744.1)) (some (false, ([] : List Int))) (some (true, (v3744.2))))

@[irreducible] def impl_SidesFor (x3276 : List Int) : Option (Bool × (List Int)) :=
  impl_SidesFor_n1 x3276

def spec_l3Arcs_n1 : Option (Unit) :=
  some ()

def spec_l3Arcs_n2 : Option (Unit) :=
  some ()

def spec_l3Arcs_n3 (x3764 : List Int) (x3815 : Int) (x3816 : List (List Int)) : Option ((Int × (List (List Int))) ⊕ ((List (List Int)))) :=
  cond (decide (x3815 < (((List.length x3764 : Nat) : Int)))) ((idx x3764 x3815).bind fun (v3836 : Int) => cond (decide (v3836 > 0)) ((idx x3764 x3815).bind fun (v3839 : Int) => (idx x3764 x3815).bind fun (v3842 : Int) => (room ((List.length x3816) + List.length ([([(imin (IntKind.wrap .i64 (x3815 + 1)) v3839), (imax (IntKind.wrap .i64 (x3815 + 1)) v3842)])]))).bind fun (v3847 : Unit) => some (Sum.inl ((IntKind.wrap .i64 (x3815 + 1)), (x3816 ++ ([([(imin (IntKind.wrap .i64 (x3815 + 1)) v3839), (imax (IntKind.wrap .i64 (x3815 + 1)) v3842)])]))))) (some (Sum.inl ((IntKind.wrap .i64 (x3815 + 1)), x3816)))) (some (Sum.inr x3816))

def spec_l3Arcs_n4 (x3764 : List Int) : Option (((List (List Int)))) :=
  nloop (fun (s : Int × (List (List Int))) => ((spec_l3Arcs_n3 x3764 s.1 s.2).map (Sum.elim (fun (t : Int × (List (List Int))) => Sum.inl (t.1, t.2)) (fun (t : (List (List Int))) => Sum.inr t)) : Option ((Int × (List (List Int))) ⊕ (((List (List Int))))))) LL (0, ([] : List (List Int)))

def spec_l3Arcs_n5 (x3764 : List Int) : Option (((List (List Int)))) :=
  (spec_l3Arcs_n4 x3764).map (fun (t : (List (List Int))) => t)

def spec_l3Arcs_n6 (x3764 : List Int) : Option (((List (List Int)))) :=
  (spec_l3Arcs_n2).bind (fun (t : Unit) => spec_l3Arcs_n5 x3764)

def spec_l3Arcs_n7 (x3816 : List (List Int)) : Option (((List (List Int)))) :=
  some x3816

def spec_l3Arcs_n8 (x3764 : List Int) : Option (((List (List Int)))) :=
  (spec_l3Arcs_n6 x3764).bind (fun (t : (List (List Int))) => spec_l3Arcs_n7 t)

def spec_l3Arcs_n9 (x3764 : List Int) : Option (((List (List Int)))) :=
  (spec_l3Arcs_n1).bind (fun (t : Unit) => spec_l3Arcs_n8 x3764)

@[irreducible] def spec_l3Arcs (x3764 : List Int) : Option ((List (List Int))) :=
  spec_l3Arcs_n9 x3764

def spec_CrossOk_n1 (x3929 : Int) (x3930 : Int) (x3931 : Int) (x3932 : Int) : Option ((Int × Int × Int × Int) ⊕ Bool) :=
  cond (decide (x3929 < 1)) (some (Sum.inr false)) (cond (decide (x3930 < 1)) (some (Sum.inr false)) (cond (decide (x3931 < 1)) (some (Sum.inr false)) (cond (decide (x3932 < 1)) (some (Sum.inr false)) (cond (x3929 == x3930) (some (Sum.inr false)) (cond (x3931 == x3932) (some (Sum.inr false)) (some (Sum.inl ((imin x3929 x3930), (imax x3929 x3930), (imin x3931 x3932), (imax x3931 x3932)))))))))

def spec_CrossOk_n2 (x3969 : Int) (x3970 : Int) (x3971 : Int) (x3972 : Int) : Option (Bool) :=
  cond (decide (x3969 < x3971)) (cond (decide (x3971 < x3970)) (cond (decide (x3970 < x3972)) (some true) (cond (decide (x3971 < x3969)) (cond (decide (x3969 < x3972)) (some (decide (x3972 < x3970))) (some false)) (some false))) (cond (decide (x3971 < x3969)) (cond (decide (x3969 < x3972)) (some (decide (x3972 < x3970))) (some false)) (some false))) (cond (decide (x3971 < x3969)) (cond (decide (x3969 < x3972)) (some (decide (x3972 < x3970))) (some false)) (some false))

def spec_CrossOk_n3 (x3929 : Int) (x3930 : Int) (x3931 : Int) (x3932 : Int) : Option (Bool) :=
  (spec_CrossOk_n1 x3929 x3930 x3931 x3932).bind (Sum.elim (fun (t : Int × Int × Int × Int) => spec_CrossOk_n2 t.1 t.2.1 t.2.2.1 t.2.2.2) (fun e => some ((fun (t : Bool) => t) e)))

@[irreducible] def spec_CrossOk (x3929 : Int) (x3930 : Int) (x3931 : Int) (x3932 : Int) : Option (Bool) :=
  spec_CrossOk_n3 x3929 x3930 x3931 x3932

def spec_l11Sides_n1 : Option (Unit) :=
  some ()

def spec_l11Sides_n2 : Option (Unit) :=
  some ()

def spec_l11Sides_n3 (x3854 : List (List Int)) (x4291 : Int) (x4292 : List Int) : Option ((Int × (List Int)) ⊕ ((List Int))) :=
  cond (decide (x4291 < (((List.length x3854 : Nat) : Int)))) ((room ((List.length x4292) + List.length ([(-1)]))).bind fun (v4305 : Unit) => some (Sum.inl ((IntKind.wrap .i64 (x4291 + 1)), (x4292 ++ ([(-1)]))))) (some (Sum.inr x4292))

def spec_l11Sides_n4 (x3854 : List (List Int)) : Option (((List Int))) :=
  nloop (fun (s : Int × (List Int)) => ((spec_l11Sides_n3 x3854 s.1 s.2).map (Sum.elim (fun (t : Int × (List Int)) => Sum.inl (t.1, t.2)) (fun (t : (List Int)) => Sum.inr t)) : Option ((Int × (List Int)) ⊕ (((List Int)))))) LL (0, ([] : List Int))

def spec_l11Sides_n5 (x3854 : List (List Int)) : Option (((List Int))) :=
  (spec_l11Sides_n4 x3854).map (fun (t : (List Int)) => t)

def spec_l11Sides_n6 (x3854 : List (List Int)) : Option (((List Int))) :=
  (spec_l11Sides_n2).bind (fun (t : Unit) => spec_l11Sides_n5 x3854)

def spec_l11Sides_n7 : Option (Unit) :=
  some ()

def spec_l11Sides_n8 (x3854 : List (List Int)) (x4651 : Int) (x4652 : List Int) : Option (Unit ⊕ ((List Int))) :=
  cond (decide (x4651 < (((List.length x3854 : Nat) : Int)))) (some (Sum.inl ())) (some (Sum.inr x4652))

def spec_l11Sides_n9 (x4651 : Int) (x4652 : List Int) : Option ((Nat × (List Int) × (List Int)) ⊕ Unit) :=
  (inb x4651 (List.length x4652)).bind fun (v4663 : Nat) => (x4652[v4663]?).bind fun (v4664 : Int) => cond (decide (v4664 ≥ 0)) (some (Sum.inr ())) ((inb x4651 (List.length x4652)).bind fun (v4666 : Nat) => some (Sum.inl ((List.length ([x4651])), (x4652.set v4666 0), ([x4651]))))

def spec_l11Sides_n10 (x4831 : Nat) (x4832 : List Int) : Option (Unit ⊕ ((List Int))) :=
  cond (decide ((((x4831 : Nat) : Int)) > 0)) (some (Sum.inl ())) (some (Sum.inr x4832))

def spec_l11Sides_n11 (x4830 : Nat) (x4831 : Nat) (x4833 : List Int) : Option ((Nat × Nat × Int)) :=
  (inb 0 x4831).bind fun (v4845 : Nat) => (x4833[(x4830 + v4845)]?).bind fun (v4847 : Int) => (inc 1 x4831).bind fun (v4848 : Nat) => some ((x4830 + v4848), (x4831 - v4848), v4847)

def spec_l11Sides_n12 (x3854 : List (List Int)) (x4920 : Nat) (x4921 : Nat) (x4847 : Int) (x4922 : Int) (x4923 : List Int) (x4924 : List Int) : Option ((Nat × Nat × Int × (List Int) × (List Int)) ⊕ (Bool × (List Int)) ⊕ (Nat × Nat × (List Int) × (List Int))) :=
  cond (decide (x4922 < (((List.length x3854 : Nat) : Int)))) ((idx x3854 x4847).bind fun (v4958 : List Int) => (idx v4958 0).bind fun (v4959 : Int) => (idx x3854 x4847).bind fun (v4960 : List Int) => (idx v4960 1).bind fun (v4961 : Int) => (idx x3854 x4922).bind fun (v4962 : List Int) => (idx v4962 0).bind fun (v4963 : Int) => (idx x3854 x4922).bind fun (v4964 : List Int) => (idx v4964 1).bind fun (v4965 : Int) => (spec_CrossOk v4959 v4961 v4963 v4965).bind fun (v4966 : Bool) => cond (!v4966) (some (Sum.inl (x4920, x4921, (IntKind.wrap .i64 (x4922 + 1)), x4923, x4924))) ((inb x4922 (List.length x4923)).bind fun (v4969 : Nat) => (x4923[v4969]?).bind fun (v4970 : Int) => (inb x4847 (List.length x4923)).bind fun (v4971 : Nat) => (x4923[v4971]?).bind fun (v4972 : Int) => cond (v4970 == v4972) (some (Sum.inr (Sum.inl (false, ([] : List Int))))) ((inb x4922 (List.length x4923)).bind fun (v4974 : Nat) => (x4923[v4974]?).bind fun (v4975 : Int) => cond (decide (v4975 < 0)) ((inb x4847 (List.length x4923)).bind fun (v4977 : Nat) => (x4923[v4977]?).bind fun (v4978 : Int) => (inb x4922 (List.length x4923)).bind fun (v4980 : Nat) => (room (x4921 + List.length ([x4922]))).bind fun (v4984 : Unit) => some (Sum.inl (0, (List.length (((x4924.drop x4920).take x4921) ++ ([x4922]))), (IntKind.wrap .i64 (x4922 + 1)), (x4923.set v4980 (IntKind.wrap .i64 (1 - v4978))), (((x4924.drop x4920).take x4921) ++ ([x4922]))))) (some (Sum.inl (x4920, x4921, (IntKind.wrap .i64 (x4922 + 1)), x4923, x4924)))))) (some (Sum.inr (Sum.inr (x4920, x4921, x4923, x4924))))

def spec_l11Sides_n13 (x3854 : List (List Int)) (x4849 : Nat) (x4850 : Nat) (x4847 : Int) (x4832 : List Int) (x4833 : List Int) : Option ((Bool × (List Int)) ⊕ (Nat × Nat × (List Int) × (List Int))) :=
  nloop (fun (s : Nat × Nat × Int × (List Int) × (List Int)) => ((spec_l11Sides_n12 x3854 s.1 s.2.1 x4847 s.2.2.1 s.2.2.2.1 s.2.2.2.2).map (Sum.elim (fun (t : Nat × Nat × Int × (List Int) × (List Int)) => Sum.inl (t.1, t.2.1, t.2.2.1, t.2.2.2.1, t.2.2.2.2)) (Sum.elim (fun (t : Bool × (List Int)) => Sum.inr (Sum.inl t)) (fun (t : Nat × Nat × (List Int) × (List Int)) => Sum.inr (Sum.inr t)))) : Option ((Nat × Nat × Int × (List Int) × (List Int)) ⊕ ((Bool × (List Int)) ⊕ (Nat × Nat × (List Int) × (List Int)))))) LL (x4849, x4850, 0, x4832, x4833)

def spec_l11Sides_n14 (x3854 : List (List Int)) (x4849 : Nat) (x4850 : Nat) (x4847 : Int) (x4832 : List Int) (x4833 : List Int) : Option ((Nat × Nat × (List Int) × (List Int)) ⊕ (Bool × (List Int))) :=
  (spec_l11Sides_n13 x3854 x4849 x4850 x4847 x4832 x4833).map (Sum.elim (fun (t : Bool × (List Int)) => (Sum.inr t)) (fun (t : Nat × Nat × (List Int) × (List Int)) => (Sum.inl (t.1, t.2.1, t.2.2.1, t.2.2.2))))

def spec_l11Sides_n15 (x3854 : List (List Int)) (x4830 : Nat) (x4831 : Nat) (x4832 : List Int) (x4833 : List Int) : Option ((Nat × Nat × (List Int) × (List Int)) ⊕ (Bool × (List Int))) :=
  (spec_l11Sides_n11 x4830 x4831 x4833).bind (fun (t : Nat × Nat × Int) => spec_l11Sides_n14 x3854 t.1 t.2.1 t.2.2 x4832 x4833)

def spec_l11Sides_n16 (x3854 : List (List Int)) (x4830 : Nat) (x4831 : Nat) (x4832 : List Int) (x4833 : List Int) : Option ((Nat × Nat × (List Int) × (List Int)) ⊕ (Bool × (List Int))) :=
  (spec_l11Sides_n15 x3854 x4830 x4831 x4832 x4833).map (Sum.elim (fun (t : Nat × Nat × (List Int) × (List Int)) => (Sum.inl (t.1, t.2.1, t.2.2.1, t.2.2.2))) (fun (t : Bool × (List Int)) => (Sum.inr t)))

def spec_l11Sides_n17 (x3854 : List (List Int)) (x4830 : Nat) (x4831 : Nat) (x4832 : List Int) (x4833 : List Int) : Option ((Nat × Nat × (List Int) × (List Int)) ⊕ (Bool × (List Int)) ⊕ ((List Int))) :=
  (spec_l11Sides_n10 x4831 x4832).bind (Sum.elim (fun (t : Unit) => (spec_l11Sides_n16 x3854 x4830 x4831 x4832 x4833).map (Sum.elim (fun (t : Nat × Nat × (List Int) × (List Int)) => (Sum.inl (t.1, t.2.1, t.2.2.1, t.2.2.2))) (fun (t : Bool × (List Int)) => (Sum.inr (Sum.inl t))))) (fun e => some ((fun (t : (List Int)) => (Sum.inr (Sum.inr t))) e)))

def spec_l11Sides_n18 (x3854 : List (List Int)) (x4669 : Nat) (x4667 : List Int) (x4668 : List Int) : Option ((Bool × (List Int)) ⊕ ((List Int))) :=
  nloop (fun (s : Nat × Nat × (List Int) × (List Int)) => ((spec_l11Sides_n17 x3854 s.1 s.2.1 s.2.2.1 s.2.2.2).map (Sum.elim (fun (t : Nat × Nat × (List Int) × (List Int)) => Sum.inl (t.1, t.2.1, t.2.2.1, t.2.2.2)) (Sum.elim (fun (t : Bool × (List Int)) => Sum.inr (Sum.inl t)) (fun (t : (List Int)) => Sum.inr (Sum.inr t)))) : Option ((Nat × Nat × (List Int) × (List Int)) ⊕ ((Bool × (List Int)) ⊕ ((List Int)))))) LL (0, x4669, x4667, x4668)

def spec_l11Sides_n19 (x3854 : List (List Int)) (x4669 : Nat) (x4667 : List Int) (x4668 : List Int) : Option (((List Int)) ⊕ (Bool × (List Int))) :=
  (spec_l11Sides_n18 x3854 x4669 x4667 x4668).map (Sum.elim (fun (t : Bool × (List Int)) => (Sum.inr t)) (fun (t : (List Int)) => (Sum.inl t)))

def spec_l11Sides_n20 (x3854 : List (List Int)) (x4651 : Int) (x4652 : List Int) : Option (((List Int)) ⊕ (Bool × (List Int)) ⊕ Unit) :=
  (spec_l11Sides_n9 x4651 x4652).bind (Sum.elim (fun (t : Nat × (List Int) × (List Int)) => (spec_l11Sides_n19 x3854 t.1 t.2.1 t.2.2).map (Sum.elim (fun (u : (List Int)) => (Sum.inl u)) (fun (u : Bool × (List Int)) => (Sum.inr (Sum.inl u))))) (fun e => some ((fun (t : Unit) => (Sum.inr (Sum.inr t))) e)))

def spec_l11Sides_n21 (x3854 : List (List Int)) (x4651 : Int) (x4652 : List Int) : Option (((List Int)) ⊕ (Bool × (List Int))) :=
  (spec_l11Sides_n20 x3854 x4651 x4652).map (Sum.elim (fun (t : (List Int)) => (Sum.inl t)) (Sum.elim (fun (t : Bool × (List Int)) => (Sum.inr t)) (fun (t : Unit) => (Sum.inl x4652))))

def spec_l11Sides_n22 (x4651 : Int) : Option (Int) :=
  some (IntKind.wrap .i64 (x4651 + 1))

def spec_l11Sides_n23 (x3854 : List (List Int)) (x4651 : Int) (x4652 : List Int) : Option ((Int × (List Int)) ⊕ (Bool × (List Int))) :=
  (spec_l11Sides_n21 x3854 x4651 x4652).bind (Sum.elim (fun (t : (List Int)) => (spec_l11Sides_n22 x4651).map (fun (u : Int) => (Sum.inl (u, t)))) (fun e => some ((fun (t : Bool × (List Int)) => (Sum.inr t)) e)))

def spec_l11Sides_n24 (x3854 : List (List Int)) (x4651 : Int) (x4652 : List Int) : Option ((Int × (List Int)) ⊕ (Bool × (List Int)) ⊕ ((List Int))) :=
  (spec_l11Sides_n8 x3854 x4651 x4652).bind (Sum.elim (fun (t : Unit) => (spec_l11Sides_n23 x3854 x4651 x4652).map (Sum.elim (fun (t : Int × (List Int)) => (Sum.inl (t.1, t.2))) (fun (t : Bool × (List Int)) => (Sum.inr (Sum.inl t))))) (fun e => some ((fun (t : (List Int)) => (Sum.inr (Sum.inr t))) e)))

def spec_l11Sides_n25 (x3854 : List (List Int)) (x4292 : List Int) : Option ((Bool × (List Int)) ⊕ ((List Int))) :=
  nloop (fun (s : Int × (List Int)) => ((spec_l11Sides_n24 x3854 s.1 s.2).map (Sum.elim (fun (t : Int × (List Int)) => Sum.inl (t.1, t.2)) (Sum.elim (fun (t : Bool × (List Int)) => Sum.inr (Sum.inl t)) (fun (t : (List Int)) => Sum.inr (Sum.inr t)))) : Option ((Int × (List Int)) ⊕ ((Bool × (List Int)) ⊕ ((List Int)))))) LL (0, x4292)

def spec_l11Sides_n26 (x3854 : List (List Int)) (x4292 : List Int) : Option (((List Int)) ⊕ (Bool × (List Int))) :=
  (spec_l11Sides_n25 x3854 x4292).map (Sum.elim (fun (t : Bool × (List Int)) => (Sum.inr t)) (fun (t : (List Int)) => (Sum.inl t)))

def spec_l11Sides_n27 (x3854 : List (List Int)) (x4292 : List Int) : Option (((List Int)) ⊕ (Bool × (List Int))) :=
  (spec_l11Sides_n7).bind (fun (t : Unit) => spec_l11Sides_n26 x3854 x4292)

def spec_l11Sides_n28 (x4652 : List Int) : Option ((Bool × (List Int))) :=
  some (true, x4652)

def spec_l11Sides_n29 (x3854 : List (List Int)) (x4292 : List Int) : Option ((Bool × (List Int))) :=
  (spec_l11Sides_n27 x3854 x4292).bind (Sum.elim (fun (t : (List Int)) => spec_l11Sides_n28 t) (fun e => some ((fun (t : Bool × (List Int)) => t) e)))

def spec_l11Sides_n30 (x3854 : List (List Int)) : Option ((Bool × (List Int))) :=
  (spec_l11Sides_n6 x3854).bind (fun (t : (List Int)) => spec_l11Sides_n29 x3854 t)

def spec_l11Sides_n31 (x3854 : List (List Int)) : Option ((Bool × (List Int))) :=
  (spec_l11Sides_n1).bind (fun (t : Unit) => spec_l11Sides_n30 x3854)

@[irreducible] def spec_l11Sides (x3854 : List (List Int)) : Option (Bool × (List Int)) :=
  spec_l11Sides_n31 x3854

def spec_SidesFor_n1 (x3759 : List Int) : Option ((Bool × (List Int))) :=
  (spec_TreeOk x3759).bind fun (v5001 : Bool) => cond (!v5001) (some (false, ([] : List Int))) ((spec_l3Arcs x3759).bind fun (v5003 : List (List Int)) => (spec_l11Sides v5003).bind fun (v5004 : Bool × (List Int)) => some ((v5004.1), (v5004.2)))

@[irreducible] def spec_SidesFor (x3759 : List Int) : Option (Bool × (List Int)) :=
  spec_SidesFor_n1 x3759

def laws_toIntS_n1 (x5381 : List Int) : Option (((List Int))) :=
  (mk (((List.length x5381 : Nat) : Int)) (((List.length x5381 : Nat) : Int))).bind fun (v5383 : Nat) => some (List.replicate v5383 (0 : Int))

def laws_toIntS_n2 : Option (Unit) :=
  some ()

def laws_toIntS_n3 (x5381 : List Int) (x5398 : Int) (x5399 : List Int) : Option ((Int × (List Int)) ⊕ ((List Int))) :=
  cond (decide (x5398 < (((List.length x5381 : Nat) : Int)))) ((idx x5381 x5398).bind fun (v5409 : Int) => (inb x5398 (List.length x5399)).bind fun (v5410 : Nat) => some (Sum.inl ((IntKind.wrap .i64 (x5398 + 1)), (x5399.set v5410 v5409)))) (some (Sum.inr x5399))

def laws_toIntS_n4 (x5381 : List Int) (x5384 : List Int) : Option (((List Int))) :=
  nloop (fun (s : Int × (List Int)) => ((laws_toIntS_n3 x5381 s.1 s.2).map (Sum.elim (fun (t : Int × (List Int)) => Sum.inl (t.1, t.2)) (fun (t : (List Int)) => Sum.inr t)) : Option ((Int × (List Int)) ⊕ (((List Int)))))) LL (0, x5384)

def laws_toIntS_n5 (x5381 : List Int) (x5384 : List Int) : Option (((List Int))) :=
  (laws_toIntS_n4 x5381 x5384).map (fun (t : (List Int)) => t)

def laws_toIntS_n6 (x5381 : List Int) (x5384 : List Int) : Option (((List Int))) :=
  (laws_toIntS_n2).bind (fun (t : Unit) => laws_toIntS_n5 x5381 x5384)

def laws_toIntS_n7 (x5399 : List Int) : Option (((List Int))) :=
  some x5399

def laws_toIntS_n8 (x5381 : List Int) (x5384 : List Int) : Option (((List Int))) :=
  (laws_toIntS_n6 x5381 x5384).bind (fun (t : (List Int)) => laws_toIntS_n7 t)

def laws_toIntS_n9 (x5381 : List Int) : Option (((List Int))) :=
  (laws_toIntS_n1 x5381).bind (fun (t : (List Int)) => laws_toIntS_n8 x5381 t)

@[irreducible] def laws_toIntS (x5381 : List Int) : Option ((List Int)) :=
  laws_toIntS_n9 x5381

def laws_eqIntS_n1 (x5432 : List Int) (x5433 : List Int) : Option (Unit ⊕ Bool) :=
  cond ((((List.length x5432 : Nat) : Int)) != (((List.length x5433 : Nat) : Int))) (some (Sum.inr false)) (some (Sum.inl ()))

def laws_eqIntS_n2 : Option (Unit) :=
  some ()

def laws_eqIntS_n3 (x5432 : List Int) (x5433 : List Int) (x5450 : Int) : Option (Int ⊕ Bool ⊕ Unit) :=
  cond (decide (x5450 < (((List.length x5432 : Nat) : Int)))) ((idx x5432 x5450).bind fun (v5460 : Int) => (idx x5433 x5450).bind fun (v5461 : Int) => cond (v5460 != v5461) (some (Sum.inr (Sum.inl false))) (some (Sum.inl (IntKind.wrap .i64 (x5450 + 1))))) (some (Sum.inr (Sum.inr ())))

def laws_eqIntS_n4 (x5432 : List Int) (x5433 : List Int) : Option (Bool ⊕ Unit) :=
  nloop (fun (s : Int) => ((laws_eqIntS_n3 x5432 x5433 s).map (Sum.elim (fun (t : Int) => Sum.inl t) (Sum.elim (fun (t : Bool) => Sum.inr (Sum.inl t)) (fun (t : Unit) => Sum.inr (Sum.inr t)))) : Option ((Int) ⊕ (Bool ⊕ Unit)))) LL 0

def laws_eqIntS_n5 (x5432 : List Int) (x5433 : List Int) : Option (Unit ⊕ Bool) :=
  (laws_eqIntS_n4 x5432 x5433).map (Sum.elim (fun (t : Bool) => (Sum.inr t)) (fun (t : Unit) => (Sum.inl ())))

def laws_eqIntS_n6 (x5432 : List Int) (x5433 : List Int) : Option (Unit ⊕ Bool) :=
  (laws_eqIntS_n2).bind (fun (t : Unit) => laws_eqIntS_n5 x5432 x5433)

def laws_eqIntS_n7 : Option (Bool) :=
  some true

def laws_eqIntS_n8 (x5432 : List Int) (x5433 : List Int) : Option (Bool) :=
  (laws_eqIntS_n6 x5432 x5433).bind (Sum.elim (fun (t : Unit) => laws_eqIntS_n7) (fun e => some ((fun (t : Bool) => t) e)))

def laws_eqIntS_n9 (x5432 : List Int) (x5433 : List Int) : Option (Bool) :=
  (laws_eqIntS_n1 x5432 x5433).bind (Sum.elim (fun (t : Unit) => laws_eqIntS_n8 x5432 x5433) (fun e => some ((fun (t : Bool) => t) e)))

@[irreducible] def laws_eqIntS (x5432 : List Int) (x5433 : List Int) : Option (Bool) :=
  laws_eqIntS_n9 x5432 x5433

def laws_markIntS_n1 : Option (Unit) :=
  some ()

def laws_markIntS_n2 : Option (Unit) :=
  some ()

def laws_markIntS_n3 (x5515 : Int) (x5516 : Int) (x5517 : List Int) : Option ((Int × Int × (List Int)) ⊕ (Int × (List Int))) :=
  cond (decide (x5516 < (((List.length x5517 : Nat) : Int)))) ((inb x5516 (List.length x5517)).bind fun (v5527 : Nat) => some (Sum.inl ((IntKind.wrap .i64 (x5515 + 1)), (IntKind.wrap .i64 (x5516 + 1)), (x5517.set v5527 x5515)))) (some (Sum.inr (x5515, x5517)))

def laws_markIntS_n4 (x5500 : Int) (x5501 : List Int) : Option ((Int × (List Int))) :=
  nloop (fun (s : Int × Int × (List Int)) => ((laws_markIntS_n3 s.1 s.2.1 s.2.2).map (Sum.elim (fun (t : Int × Int × (List Int)) => Sum.inl (t.1, t.2.1, t.2.2)) (fun (t : Int × (List Int)) => Sum.inr t)) : Option ((Int × Int × (List Int)) ⊕ ((Int × (List Int)))))) LL (x5500, 0, x5501)

def laws_markIntS_n5 (x5500 : Int) (x5501 : List Int) : Option ((Int × (List Int))) :=
  (laws_markIntS_n4 x5500 x5501).map (fun (t : Int × (List Int)) => (t.1, t.2))

def laws_markIntS_n6 (x5500 : Int) (x5501 : List Int) : Option ((Int × (List Int))) :=
  (laws_markIntS_n2).bind (fun (t : Unit) => laws_markIntS_n5 x5500 x5501)

def laws_markIntS_n7 (x5515 : Int) (x5517 : List Int) : Option ((Int × (List Int))) :=
  some (x5515, x5517)

def laws_markIntS_n8 (x5500 : Int) (x5501 : List Int) : Option ((Int × (List Int))) :=
  (laws_markIntS_n6 x5500 x5501).bind (fun (t : Int × (List Int)) => laws_markIntS_n7 t.1 t.2)

def laws_markIntS_n9 (x5500 : Int) (x5501 : List Int) : Option ((Int × (List Int))) :=
  (laws_markIntS_n1).bind (fun (t : Unit) => laws_markIntS_n8 x5500 x5501)

@[irreducible] def laws_markIntS (x5500 : Int) (x5501 : List Int) : Option (Int × (List Int)) :=
  laws_markIntS_n9 x5500 x5501

def laws_heldIntS_n1 : Option (Unit) :=
  some ()

def laws_heldIntS_n2 : Option (Unit) :=
  some ()

def laws_heldIntS_n3 (x5628 : List Int) (x5643 : Int) (x5644 : Int) : Option ((Int × Int) ⊕ Int ⊕ Int) :=
  cond (decide (x5644 < (((List.length x5628 : Nat) : Int)))) ((idx x5628 x5644).bind fun (v5654 : Int) => cond (v5654 != x5643) (some (Sum.inr (Sum.inl (-1)))) (some (Sum.inl ((IntKind.wrap .i64 (x5643 + 1)), (IntKind.wrap .i64 (x5644 + 1)))))) (some (Sum.inr (Sum.inr x5643)))

def laws_heldIntS_n4 (x5628 : List Int) (x5629 : Int) : Option (Int ⊕ Int) :=
  nloop (fun (s : Int × Int) => ((laws_heldIntS_n3 x5628 s.1 s.2).map (Sum.elim (fun (t : Int × Int) => Sum.inl (t.1, t.2)) (Sum.elim (fun (t : Int) => Sum.inr (Sum.inl t)) (fun (t : Int) => Sum.inr (Sum.inr t)))) : Option ((Int × Int) ⊕ (Int ⊕ Int)))) LL (x5629, 0)

def laws_heldIntS_n5 (x5628 : List Int) (x5629 : Int) : Option (Int ⊕ Int) :=
  (laws_heldIntS_n4 x5628 x5629).map (Sum.elim (fun (t : Int) => (Sum.inr t)) (fun (t : Int) => (Sum.inl t)))

def laws_heldIntS_n6 (x5628 : List Int) (x5629 : Int) : Option (Int ⊕ Int) :=
  (laws_heldIntS_n2).bind (fun (t : Unit) => laws_heldIntS_n5 x5628 x5629)

def laws_heldIntS_n7 (x5643 : Int) : Option (Int) :=
  some x5643

def laws_heldIntS_n8 (x5628 : List Int) (x5629 : Int) : Option (Int) :=
  (laws_heldIntS_n6 x5628 x5629).bind (Sum.elim (fun (t : Int) => laws_heldIntS_n7 t) (fun e => some ((fun (t : Int) => t) e)))

def laws_heldIntS_n9 (x5628 : List Int) (x5629 : Int) : Option (Int) :=
  (laws_heldIntS_n1).bind (fun (t : Unit) => laws_heldIntS_n8 x5628 x5629)

@[irreducible] def laws_heldIntS (x5628 : List Int) (x5629 : Int) : Option (Int) :=
  laws_heldIntS_n9 x5628 x5629

def laws_FnExactSidesFor_n1 (x6047 : List Int) : Option (Bool) :=
  cond (decide ((((List.length x6047 : Nat) : Int)) > 1048576)) (some true) ((laws_toIntS x6047).bind fun (v6579 : List Int) => (spec_SidesFor v6579).bind fun (v6580 : Bool × (List Int)) => (laws_toIntS x6047).bind fun (v6583 : List Int) => (impl_SidesFor v6583).bind fun (v6584 : Bool × (List Int)) => (laws_eqIntS (v6584.2) (v6580.2)).bind fun (v6587 : Bool) => cond (!v6587) (some false) (cond ((v6584.1) != (v6580.1)) (some false) ((laws_toIntS x6047).bind fun (v6590 : List Int) => (laws_eqIntS v6583 v6590).bind fun (v6591 : Bool) => cond (!v6591) (some false) ((laws_markIntS 1 v6583).bind fun (v6593 : Int × (List Int)) => cond (decide ((v6593.1) < 0)) (some false) ((laws_eqIntS (v6584.2) (v6580.2)).bind fun (v6597 : Bool) => cond (!v6597) (some false) (cond ((v6584.1) != (v6580.1)) (some false) ((laws_markIntS 1 (v6584.2)).bind fun (v6600 : Int × (List Int)) => (laws_heldIntS (v6600.2) 1).bind fun (v6603 : Int) => cond (decide (v6603 < 0)) (some false) (cond (v6603 != (v6600.1)) (some false) ((laws_toIntS x6047).bind fun (v6606 : List Int) => (impl_SidesFor v6606).bind fun (v6607 : Bool × (List Int)) => (laws_eqIntS (v6607.2) (v6580.2)).bind fun (v6610 : Bool) => cond (!v6610) (some false) (cond ((v6607.1) != (v6580.1)) (some false) ((laws_heldIntS (v6600.2) 1).bind fun (v6613 : Int) => cond (decide (v6613 < 0)) (some false) (cond (v6613 != (v6600.1)) (some false) (some true)))))))))))))

@[irreducible] def laws_FnExactSidesFor (x6047 : List Int) : Option (Bool) :=
  laws_FnExactSidesFor_n1 x6047

end Go.Rv
