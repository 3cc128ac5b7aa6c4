/-
  Plain functions, written by program for functions of the checked code. Conditions: none.
-/
import Derived.Test.YtlnjhjhppejoiaaDoorFB
set_option linter.unusedVariables false
namespace Go.Rv
def spec_l20Open_n1 (x12 : List Int) : Option (((List Int))) :=
  cond (decide ((((List.length x12 : Nat) : Int)) > 2000)) ((inc 2000 (List.length x12)).bind fun (v29 : Nat) => some ((x12.take v29).drop 0)) (some x12)

@[irreducible] def spec_l20Open (x12 : List Int) : Option ((List Int)) :=
  spec_l20Open_n1 x12

def spec_l20Rd_pick_n1 (x41 : Int) (x42 : List Int) (x43 : Int) : Option ((Int × Int)) :=
  cond (decide (x41 < 1)) (some (0, (IntKind.wrap .i64 (x43 + 1)))) (cond ((((List.length x42 : Nat) : Int)) == 0) (some (0, (IntKind.wrap .i64 (x43 + 1)))) (cond (decide ((IntKind.wrap .i64 ((IntKind.wrap .i64 (x43 + 1)) - 1)) < (((List.length x42 : Nat) : Int)))) ((idx x42 (IntKind.wrap .i64 ((IntKind.wrap .i64 (x43 + 1)) - 1))).bind fun (v170 : Int) => (rem (IntKind.wrap .i64 v170) x41).bind fun (v172 : Int) => some (v172, (IntKind.wrap .i64 (x43 + 1)))) ((rem (IntKind.wrap .i64 ((IntKind.wrap .i64 (x43 + 1)) - 1)) (((List.length x42 : Nat) : Int))).bind fun (v174 : Int) => (idx x42 v174).bind fun (v175 : Int) => (rem (IntKind.wrap .i64 ((IntKind.wrap .i64 ((IntKind.wrap .i64 ((IntKind.wrap .i64 (x43 + 1)) - 1)) * 7)) + 3)) (((List.length x42 : Nat) : Int))).bind fun (v181 : Int) => (idx x42 v181).bind fun (v182 : Int) => (quo .i64 (IntKind.wrap .i64 ((IntKind.wrap .i64 (x43 + 1)) - 1)) (((List.length x42 : Nat) : Int))).bind fun (v189 : Int) => (quo .i64 (IntKind.wrap .i64 ((IntKind.wrap .i64 ((IntKind.wrap .i64 ((IntKind.wrap .i64 ((IntKind.wrap .i64 v175) * 131)) + (IntKind.wrap .i64 ((IntKind.wrap .i64 v182) * 1117)))) + (IntKind.wrap .i64 ((IntKind.wrap .i64 ((IntKind.wrap .i64 (x43 + 1)) - 1)) * 29)))) + (IntKind.wrap .i64 (v189 * 53)))) 64).bind fun (v192 : Int) => (rem (ixor .i64 (IntKind.wrap .i64 ((IntKind.wrap .i64 ((IntKind.wrap .i64 ((IntKind.wrap .i64 ((IntKind.wrap .i64 v175) * 131)) + (IntKind.wrap .i64 ((IntKind.wrap .i64 v182) * 1117)))) + (IntKind.wrap .i64 ((IntKind.wrap .i64 ((IntKind.wrap .i64 (x43 + 1)) - 1)) * 29)))) + (IntKind.wrap .i64 (v189 * 53)))) v192) x41).bind fun (v194 : Int) => some (v194, (IntKind.wrap .i64 (x43 + 1))))))

@[irreducible] def spec_l20Rd_pick (x41 : Int) (x42 : List Int) (x43 : Int) : Option (Int × Int) :=
  spec_l20Rd_pick_n1 x41 x42 x43

def spec_l20Order_n1 (x205 : List Int) (x206 : Int) : Option ((Int × Int)) :=
  (spec_l20Rd_pick 2 x205 x206).bind fun (v208 : Int × Int) => some ((v208.1), (v208.2))

def spec_l20Order_n2 : Option (Unit) :=
  some ()

def spec_l20Order_n3 (x204 : Int) (x209 : Int) (x352 : Int) (x205 : List Int) (x353 : Int) (x354 : List Int) : Option ((Int × Int × (List Int)) ⊕ (Int × (List Int))) :=
  cond (decide (x352 ≤ x204)) (cond (x209 == 0) ((spec_l20Rd_pick x352 x205 x353).bind fun (v426 : Int × Int) => (inc (v426.1) (List.length x354)).bind fun (v430 : Nat) => (room ((List.length ([] : List Int)) + List.length ((x354.drop 0).take (v430 - 0)))).bind fun (v434 : Unit) => (room ((List.length (([] : List Int) ++ ((x354.drop 0).take (v430 - 0)))) + List.length ([x352]))).bind fun (v438 : Unit) => (inc (v426.1) (List.length x354)).bind fun (v441 : Nat) => (room ((List.length ((([] : List Int) ++ ((x354.drop 0).take (v430 - 0))) ++ ([x352]))) + List.length ((x354.drop v441).take ((List.length x354) - v441)))).bind fun (v445 : Unit) => some (Sum.inl ((IntKind.wrap .i64 (x352 + 1)), (v426.2), (((([] : List Int) ++ ((x354.drop 0).take (v430 - 0))) ++ ([x352])) ++ ((x354.drop v441).take ((List.length x354) - v441)))))) ((spec_l20Rd_pick 3 x205 x353).bind fun (v448 : Int × Int) => cond ((v448.1) == 0) ((spec_l20Rd_pick x352 x205 (v448.2)).bind fun (v452 : Int × Int) => (inc (v452.1) (List.length x354)).bind fun (v456 : Nat) => (room ((List.length ([] : List Int)) + List.length ((x354.drop 0).take (v456 - 0)))).bind fun (v460 : Unit) => (room ((List.length (([] : List Int) ++ ((x354.drop 0).take (v456 - 0)))) + List.length ([x352]))).bind fun (v464 : Unit) => (inc (v452.1) (List.length x354)).bind fun (v467 : Nat) => (room ((List.length ((([] : List Int) ++ ((x354.drop 0).take (v456 - 0))) ++ ([x352]))) + List.length ((x354.drop v467).take ((List.length x354) - v467)))).bind fun (v471 : Unit) => some (Sum.inl ((IntKind.wrap .i64 (x352 + 1)), (v452.2), (((([] : List Int) ++ ((x354.drop 0).take (v456 - 0))) ++ ([x352])) ++ ((x354.drop v467).take ((List.length x354) - v467)))))) ((inc (((List.length x354 : Nat) : Int)) (List.length x354)).bind fun (v475 : Nat) => (room ((List.length ([] : List Int)) + List.length ((x354.drop 0).take (v475 - 0)))).bind fun (v479 : Unit) => (room ((List.length (([] : List Int) ++ ((x354.drop 0).take (v475 - 0)))) + List.length ([x352]))).bind fun (v483 : Unit) => (inc (((List.length x354 : Nat) : Int)) (List.length x354)).bind fun (v486 : Nat) => (room ((List.length ((([] : List Int) ++ ((x354.drop 0).take (v475 - 0))) ++ ([x352]))) + List.length ((x354.drop v486).take ((List.length x354) - v486)))).bind fun (v490 : Unit) => some (Sum.inl ((IntKind.wrap .i64 (x352 + 1)), (v448.2), (((([] : List Int) ++ ((x354.drop 0).take (v475 - 0))) ++ ([x352])) ++ ((x354.drop v486).take ((List.length x354) - v486)))))))) (some (Sum.inr (x353, x354)))

def spec_l20Order_n4 (x204 : Int) (x209 : Int) (x205 : List Int) (x210 : Int) : Option ((Int × (List Int))) :=
  nloop (fun (s : Int × Int × (List Int)) => ((spec_l20Order_n3 x204 x209 s.1 x205 s.2.1 s.2.2).map (Sum.elim (fun (t : Int × Int × (List Int)) => Sum.inl (t.1, t.2.1, t.2.2)) (fun (t : Int × (List Int)) => Sum.inr t)) : Option ((Int × Int × (List Int)) ⊕ ((Int × (List Int)))))) LL (1, x210, ([] : List Int))

def spec_l20Order_n5 (x204 : Int) (x209 : Int) (x205 : List Int) (x210 : Int) : Option ((Int × (List Int))) :=
  (spec_l20Order_n4 x204 x209 x205 x210).map (fun (t : Int × (List Int)) => (t.1, t.2))

def spec_l20Order_n6 (x204 : Int) (x209 : Int) (x205 : List Int) (x210 : Int) : Option ((Int × (List Int))) :=
  (spec_l20Order_n2).bind (fun (t : Unit) => spec_l20Order_n5 x204 x209 x205 x210)

def spec_l20Order_n7 (x353 : Int) (x354 : List Int) : Option ((Int × (List Int))) :=
  some (x353, x354)

def spec_l20Order_n8 (x204 : Int) (x209 : Int) (x205 : List Int) (x210 : Int) : Option ((Int × (List Int))) :=
  (spec_l20Order_n6 x204 x209 x205 x210).bind (fun (t : Int × (List Int)) => spec_l20Order_n7 t.1 t.2)

def spec_l20Order_n9 (x204 : Int) (x205 : List Int) (x206 : Int) : Option ((Int × (List Int))) :=
  (spec_l20Order_n1 x205 x206).bind (fun (t : Int × Int) => spec_l20Order_n8 x204 t.1 x205 t.2)

@[irreducible] def spec_l20Order (x204 : Int) (x205 : List Int) (x206 : Int) : Option (Int × (List Int)) :=
  spec_l20Order_n9 x204 x205 x206

def spec_l20Rd_odd_n1 (x661 : Int) (x662 : List Int) (x663 : Int) : Option ((Bool × Int)) :=
  cond (decide (x661 > 0)) ((spec_l20Rd_pick x661 x662 x663).bind fun (v671 : Int × Int) => some (((v671.1) == (IntKind.wrap .i64 (x661 - 1))), (v671.2))) (some (false, x663))

@[irreducible] def spec_l20Rd_odd (x661 : Int) (x662 : List Int) (x663 : Int) : Option (Bool × Int) :=
  spec_l20Rd_odd_n1 x661 x662 x663

def spec_l20Tree_n1 (x38 : List Int) (x39 : Int) : Option ((Int × Int × Int × (List Int) × (List Int))) :=
  (spec_l20Rd_pick 7 x38 x39).bind fun (v508 : Int × Int) => (spec_l20Order (IntKind.wrap .i64 (1 + (v508.1))) x38 (v508.2)).bind fun (v512 : Int × (List Int)) => (mk (IntKind.wrap .i64 (1 + (v508.1))) (IntKind.wrap .i64 (1 + (v508.1)))).bind fun (v515 : Nat) => (spec_l20Rd_pick 2 x38 (v512.1)).bind fun (v517 : Int × Int) => some ((IntKind.wrap .i64 (1 + (v508.1))), (v517.1), (v517.2), (v512.2), (List.replicate v515 (0 : Int)))

def spec_l20Tree_n2 : Option (Unit) :=
  some ()

def spec_l20Tree_n3 (x511 : Int) (x518 : Int) (x589 : Int) (x38 : List Int) (x590 : Int) (x514 : List Int) (x591 : List Int) : Option ((Int × Int × (List Int)) ⊕ (Int × (List Int))) :=
  cond (decide (x589 < x511)) ((spec_l20Rd_pick x589 x38 x590).bind fun (v625 : Int × Int) => cond (x518 == 1) ((spec_l20Rd_pick 2 x38 (v625.2)).bind fun (v629 : Int × Int) => cond ((v629.1) == 0) ((inb x589 (List.length x514)).bind fun (v634 : Nat) => (x514[v634]?).bind fun (v635 : Int) => (inb (IntKind.wrap .i64 (x589 - 1)) (List.length x514)).bind fun (v637 : Nat) => (x514[v637]?).bind fun (v638 : Int) => (inb (IntKind.wrap .i64 (v635 - 1)) (List.length x591)).bind fun (v639 : Nat) => some (Sum.inl ((IntKind.wrap .i64 (x589 + 1)), (v629.2), (x591.set v639 v638)))) ((inb x589 (List.length x514)).bind fun (v642 : Nat) => (x514[v642]?).bind fun (v643 : Int) => (inb (v625.1) (List.length x514)).bind fun (v645 : Nat) => (x514[v645]?).bind fun (v646 : Int) => (inb (IntKind.wrap .i64 (v643 - 1)) (List.length x591)).bind fun (v647 : Nat) => some (Sum.inl ((IntKind.wrap .i64 (x589 + 1)), (v629.2), (x591.set v647 v646))))) ((inb x589 (List.length x514)).bind fun (v650 : Nat) => (x514[v650]?).bind fun (v651 : Int) => (inb (v625.1) (List.length x514)).bind fun (v653 : Nat) => (x514[v653]?).bind fun (v654 : Int) => (inb (IntKind.wrap .i64 (v651 - 1)) (List.length x591)).bind fun (v655 : Nat) => some (Sum.inl ((IntKind.wrap .i64 (x589 + 1)), (v625.2), (x591.set v655 v654))))) (some (Sum.inr (x590, x591)))

def spec_l20Tree_n4 (x511 : Int) (x518 : Int) (x38 : List Int) (x519 : Int) (x514 : List Int) (x516 : List Int) : Option ((Int × (List Int))) :=
  nloop (fun (s : Int × Int × (List Int)) => ((spec_l20Tree_n3 x511 x518 s.1 x38 s.2.1 x514 s.2.2).map (Sum.elim (fun (t : Int × Int × (List Int)) => Sum.inl (t.1, t.2.1, t.2.2)) (fun (t : Int × (List Int)) => Sum.inr t)) : Option ((Int × Int × (List Int)) ⊕ ((Int × (List Int)))))) LL (1, x519, x516)

def spec_l20Tree_n5 (x511 : Int) (x518 : Int) (x38 : List Int) (x519 : Int) (x514 : List Int) (x516 : List Int) : Option ((Int × (List Int))) :=
  (spec_l20Tree_n4 x511 x518 x38 x519 x514 x516).map (fun (t : Int × (List Int)) => (t.1, t.2))

def spec_l20Tree_n6 (x511 : Int) (x518 : Int) (x38 : List Int) (x519 : Int) (x514 : List Int) (x516 : List Int) : Option ((Int × (List Int))) :=
  (spec_l20Tree_n2).bind (fun (t : Unit) => spec_l20Tree_n5 x511 x518 x38 x519 x514 x516)

def spec_l20Tree_n7 (x37 : Int) (x511 : Int) (x38 : List Int) (x590 : Int) (x591 : List Int) : Option ((Int × (List Int))) :=
  (spec_l20Rd_odd x37 x38 x590).bind fun (v736 : Bool × Int) => cond (v736.1) ((spec_l20Rd_pick 4 x38 (v736.2)).bind fun (v739 : Int × Int) => cond ((v739.1) == 0) (some ((v739.2), ([] : List Int))) (cond ((v739.1) == 1) (some ((v739.2), ([2, 1, 0]))) (cond ((v739.1) == 2) ((spec_l20Rd_pick x511 x38 (v739.2)).bind fun (v746 : Int × Int) => (inb (v746.1) (List.length x591)).bind fun (v749 : Nat) => (room ((List.length (x591.set v749 0)) + List.length ([0]))).bind fun (v753 : Unit) => some ((v746.2), ((x591.set v749 0) ++ ([0])))) ((spec_l20Rd_pick 3 x38 (v739.2)).bind fun (v757 : Int × Int) => (inb (v757.1) (List.length ([1, (IntKind.wrap .i64 (x511 + 1)), (-1)]))).bind fun (v760 : Nat) => (([1, (IntKind.wrap .i64 (x511 + 1)), (-1)])[v760]?).bind fun (v761 : Int) => (inb 0 (List.length x591)).bind fun (v762 : Nat) => some ((v757.2), (x591.set v762 v761)))))) (some ((v736.2), x591))

def spec_l20Tree_n8 (x37 : Int) (x511 : Int) (x518 : Int) (x38 : List Int) (x519 : Int) (x514 : List Int) (x516 : List Int) : Option ((Int × (List Int))) :=
  (spec_l20Tree_n6 x511 x518 x38 x519 x514 x516).bind (fun (t : Int × (List Int)) => spec_l20Tree_n7 x37 x511 x38 t.1 t.2)

def spec_l20Tree_n9 (x37 : Int) (x38 : List Int) (x39 : Int) : Option ((Int × (List Int))) :=
  (spec_l20Tree_n1 x38 x39).bind (fun (t : Int × Int × Int × (List Int) × (List Int)) => spec_l20Tree_n8 x37 t.1 t.2.1 x38 t.2.2.1 t.2.2.2.1 t.2.2.2.2)

@[irreducible] def spec_l20Tree (x37 : Int) (x38 : List Int) (x39 : Int) : Option (Int × (List Int)) :=
  spec_l20Tree_n9 x37 x38 x39

def spec_l1In_n1 (x780 : Int) (x781 : Int) (x782 : Int) : Option (Bool) :=
  cond (decide (x780 ≥ x781)) (some (decide (x780 ≤ x782))) (some false)

@[irreducible] def spec_l1In (x780 : Int) (x781 : Int) (x782 : Int) : Option (Bool) :=
  spec_l1In_n1 x780 x781 x782

def spec_TreeOk_n1 (x776 : List Int) : Option (Int ⊕ Bool) :=
  (spec_l1In (((List.length x776 : Nat) : Int)) 1 8).bind fun (v791 : Bool) => cond (!v791) (some (Sum.inr false)) (some (Sum.inl (((List.length x776 : Nat) : Int))))

def spec_TreeOk_n2 : Option (Unit) :=
  some ()

def spec_TreeOk_n3 (x790 : Int) (x857 : Int) (x858 : Int) : Option (Unit ⊕ Int) :=
  cond (decide (x858 < x790)) (some (Sum.inl ())) (some (Sum.inr x857))

def spec_TreeOk_n4 (x776 : List Int) (x790 : Int) (x857 : Int) (x858 : Int) : Option ((Int × Int) ⊕ Bool) :=
  (idx x776 x858).bind fun (v875 : Int) => (spec_l1In v875 0 x790).bind fun (v876 : Bool) => cond (!v876) (some (Sum.inr false)) ((idx x776 x858).bind fun (v878 : Int) => cond (v878 == (IntKind.wrap .i64 (x858 + 1))) (some (Sum.inr false)) ((idx x776 x858).bind fun (v881 : Int) => cond (v881 == 0) (some (Sum.inl ((IntKind.wrap .i64 (x857 + 1)), (IntKind.wrap .i64 (x858 + 1))))) (some (Sum.inl (x857, (IntKind.wrap .i64 (x858 + 1)))))))

def spec_TreeOk_n5 : Option (Unit) :=
  some ()

def spec_TreeOk_n6 (x776 : List Int) (x790 : Int) (x903 : Int) (x904 : Int) : Option ((Int × Int) ⊕ Bool ⊕ Int) :=
  cond (decide (x903 > 0)) (cond (decide (x904 < x790)) ((idx x776 (IntKind.wrap .i64 (x903 - 1))).bind fun (v916 : Int) => (spec_l1In v916 0 x790).bind fun (v917 : Bool) => cond (!v917) (some (Sum.inr (Sum.inl false))) (some (Sum.inl (v916, (IntKind.wrap .i64 (x904 + 1)))))) (some (Sum.inr (Sum.inr x903)))) (some (Sum.inr (Sum.inr x903)))

def spec_TreeOk_n7 (x776 : List Int) (x790 : Int) (x887 : Int) : Option (Bool ⊕ Int) :=
  nloop (fun (s : Int × Int) => ((spec_TreeOk_n6 x776 x790 s.1 s.2).map (Sum.elim (fun (t : Int × Int) => Sum.inl (t.1, t.2)) (Sum.elim (fun (t : Bool) => Sum.inr (Sum.inl t)) (fun (t : Int) => Sum.inr (Sum.inr t)))) : Option ((Int × Int) ⊕ (Bool ⊕ Int)))) LL (x887, 0)

def spec_TreeOk_n8 (x776 : List Int) (x790 : Int) (x887 : Int) : Option (Int ⊕ Bool) :=
  (spec_TreeOk_n7 x776 x790 x887).map (Sum.elim (fun (t : Bool) => (Sum.inr t)) (fun (t : Int) => (Sum.inl t)))

def spec_TreeOk_n9 (x776 : List Int) (x790 : Int) (x887 : Int) : Option (Int ⊕ Bool) :=
  (spec_TreeOk_n5).bind (fun (t : Unit) => spec_TreeOk_n8 x776 x790 x887)

def spec_TreeOk_n10 (x903 : Int) : Option (Unit ⊕ Bool) :=
  cond (decide (x903 > 0)) (some (Sum.inr false)) (some (Sum.inl ()))

def spec_TreeOk_n11 (x776 : List Int) (x790 : Int) (x887 : Int) : Option (Unit ⊕ Bool) :=
  (spec_TreeOk_n9 x776 x790 x887).bind (Sum.elim (fun (t : Int) => spec_TreeOk_n10 t) (fun e => some ((fun (t : Bool) => (Sum.inr t)) e)))

def spec_TreeOk_n12 (x776 : List Int) (x790 : Int) (x857 : Int) (x858 : Int) : Option (Int ⊕ Bool) :=
  (spec_TreeOk_n4 x776 x790 x857 x858).bind (Sum.elim (fun (t : Int × Int) => (spec_TreeOk_n11 x776 x790 t.2).map (Sum.elim (fun (u : Unit) => (Sum.inl t.1)) (fun (u : Bool) => (Sum.inr u)))) (fun e => some ((fun (t : Bool) => (Sum.inr t)) e)))

def spec_TreeOk_n13 (x776 : List Int) (x790 : Int) (x857 : Int) (x858 : Int) : Option (Int ⊕ Bool) :=
  (spec_TreeOk_n12 x776 x790 x857 x858).map (Sum.elim (fun (t : Int) => (Sum.inl t)) (fun (t : Bool) => (Sum.inr t)))

def spec_TreeOk_n14 (x858 : Int) : Option (Int) :=
  some (IntKind.wrap .i64 (x858 + 1))

def spec_TreeOk_n15 (x776 : List Int) (x790 : Int) (x857 : Int) (x858 : Int) : Option ((Int × Int) ⊕ Bool) :=
  (spec_TreeOk_n13 x776 x790 x857 x858).bind (Sum.elim (fun (t : Int) => (spec_TreeOk_n14 x858).map (fun (u : Int) => (Sum.inl (t, u)))) (fun e => some ((fun (t : Bool) => (Sum.inr t)) e)))

def spec_TreeOk_n16 (x776 : List Int) (x790 : Int) (x857 : Int) (x858 : Int) : Option ((Int × Int) ⊕ Bool ⊕ Int) :=
  (spec_TreeOk_n3 x790 x857 x858).bind (Sum.elim (fun (t : Unit) => (spec_TreeOk_n15 x776 x790 x857 x858).map (Sum.elim (fun (t : Int × Int) => (Sum.inl (t.1, t.2))) (fun (t : Bool) => (Sum.inr (Sum.inl t))))) (fun e => some ((fun (t : Int) => (Sum.inr (Sum.inr t))) e)))

def spec_TreeOk_n17 (x776 : List Int) (x790 : Int) : Option (Bool ⊕ Int) :=
  nloop (fun (s : Int × Int) => ((spec_TreeOk_n16 x776 x790 s.1 s.2).map (Sum.elim (fun (t : Int × Int) => Sum.inl (t.1, t.2)) (Sum.elim (fun (t : Bool) => Sum.inr (Sum.inl t)) (fun (t : Int) => Sum.inr (Sum.inr t)))) : Option ((Int × Int) ⊕ (Bool ⊕ Int)))) LL (0, 0)

def spec_TreeOk_n18 (x776 : List Int) (x790 : Int) : Option (Int ⊕ Bool) :=
  (spec_TreeOk_n17 x776 x790).map (Sum.elim (fun (t : Bool) => (Sum.inr t)) (fun (t : Int) => (Sum.inl t)))

def spec_TreeOk_n19 (x776 : List Int) (x790 : Int) : Option (Int ⊕ Bool) :=
  (spec_TreeOk_n2).bind (fun (t : Unit) => spec_TreeOk_n18 x776 x790)

def spec_TreeOk_n20 (x857 : Int) : Option (Bool) :=
  some (x857 == 1)

def spec_TreeOk_n21 (x776 : List Int) (x790 : Int) : Option (Bool) :=
  (spec_TreeOk_n19 x776 x790).bind (Sum.elim (fun (t : Int) => spec_TreeOk_n20 t) (fun e => some ((fun (t : Bool) => t) e)))

def spec_TreeOk_n22 (x776 : List Int) : Option (Bool) :=
  (spec_TreeOk_n1 x776).bind (Sum.elim (fun (t : Int) => spec_TreeOk_n21 x776 t) (fun e => some ((fun (t : Bool) => t) e)))

@[irreducible] def spec_TreeOk (x776 : List Int) : Option (Bool) :=
  spec_TreeOk_n22 x776

def spec_OrderOk_n1 : Option (Unit) :=
  some ()

def spec_OrderOk_n2 : Option (Unit) :=
  some ()

def spec_OrderOk_n3 (x936 : List Int) (x968 : Int) : Option (Unit ⊕ Unit) :=
  cond (decide (x968 < (((List.length x936 : Nat) : Int)))) (some (Sum.inl ())) (some (Sum.inr ()))

def spec_OrderOk_n4 (x936 : List Int) (x937 : Int) (x968 : Int) : Option (Unit ⊕ Bool) :=
  (idx x936 x968).bind fun (v974 : Int) => (spec_l1In v974 1 x937).bind fun (v975 : Bool) => cond (!v975) (some (Sum.inr false)) (some (Sum.inl ()))

def spec_OrderOk_n5 (x936 : List Int) (x968 : Int) (x987 : Int) : Option (Int ⊕ Bool ⊕ Unit) :=
  cond (decide (x987 < x968)) ((idx x936 x987).bind fun (v994 : Int) => (idx x936 x968).bind fun (v995 : Int) => cond (v994 == v995) (some (Sum.inr (Sum.inl false))) (some (Sum.inl (IntKind.wrap .i64 (x987 + 1))))) (some (Sum.inr (Sum.inr ())))

def spec_OrderOk_n6 (x936 : List Int) (x968 : Int) : Option (Bool ⊕ Unit) :=
  nloop (fun (s : Int) => ((spec_OrderOk_n5 x936 x968 s).map (Sum.elim (fun (t : Int) => Sum.inl t) (Sum.elim (fun (t : Bool) => Sum.inr (Sum.inl t)) (fun (t : Unit) => Sum.inr (Sum.inr t)))) : Option ((Int) ⊕ (Bool ⊕ Unit)))) LL 0

def spec_OrderOk_n7 (x936 : List Int) (x968 : Int) : Option (Unit ⊕ Bool) :=
  (spec_OrderOk_n6 x936 x968).map (Sum.elim (fun (t : Bool) => (Sum.inr t)) (fun (t : Unit) => (Sum.inl ())))

def spec_OrderOk_n8 (x936 : List Int) (x937 : Int) (x968 : Int) : Option (Unit ⊕ Bool) :=
  (spec_OrderOk_n4 x936 x937 x968).bind (Sum.elim (fun (t : Unit) => spec_OrderOk_n7 x936 x968) (fun e => some ((fun (t : Bool) => (Sum.inr t)) e)))

def spec_OrderOk_n9 (x936 : List Int) (x937 : Int) (x968 : Int) : Option (Unit ⊕ Bool) :=
  (spec_OrderOk_n8 x936 x937 x968).map (Sum.elim (fun (t : Unit) => (Sum.inl ())) (fun (t : Bool) => (Sum.inr t)))

def spec_OrderOk_n10 (x968 : Int) : Option (Int) :=
  some (IntKind.wrap .i64 (x968 + 1))

def spec_OrderOk_n11 (x936 : List Int) (x937 : Int) (x968 : Int) : Option (Int ⊕ Bool) :=
  (spec_OrderOk_n9 x936 x937 x968).bind (Sum.elim (fun (t : Unit) => (spec_OrderOk_n10 x968).map (fun (t : Int) => (Sum.inl t))) (fun e => some ((fun (t : Bool) => (Sum.inr t)) e)))

def spec_OrderOk_n12 (x936 : List Int) (x937 : Int) (x968 : Int) : Option (Int ⊕ Bool ⊕ Unit) :=
  (spec_OrderOk_n3 x936 x968).bind (Sum.elim (fun (t : Unit) => (spec_OrderOk_n11 x936 x937 x968).map (Sum.elim (fun (t : Int) => (Sum.inl t)) (fun (t : Bool) => (Sum.inr (Sum.inl t))))) (fun e => some ((fun (t : Unit) => (Sum.inr (Sum.inr t))) e)))

def spec_OrderOk_n13 (x936 : List Int) (x937 : Int) : Option (Bool ⊕ Unit) :=
  nloop (fun (s : Int) => ((spec_OrderOk_n12 x936 x937 s).map (Sum.elim (fun (t : Int) => Sum.inl t) (Sum.elim (fun (t : Bool) => Sum.inr (Sum.inl t)) (fun (t : Unit) => Sum.inr (Sum.inr t)))) : Option ((Int) ⊕ (Bool ⊕ Unit)))) LL 0

def spec_OrderOk_n14 (x936 : List Int) (x937 : Int) : Option (Unit ⊕ Bool) :=
  (spec_OrderOk_n13 x936 x937).map (Sum.elim (fun (t : Bool) => (Sum.inr t)) (fun (t : Unit) => (Sum.inl ())))

def spec_OrderOk_n15 (x936 : List Int) (x937 : Int) : Option (Unit ⊕ Bool) :=
  (spec_OrderOk_n2).bind (fun (t : Unit) => spec_OrderOk_n14 x936 x937)

def spec_OrderOk_n16 (x936 : List Int) (x937 : Int) : Option (Bool) :=
  (spec_l1In x937 1 8).bind fun (v1002 : Bool) => cond v1002 (some ((((List.length x936 : Nat) : Int)) == x937)) (some false)

def spec_OrderOk_n17 (x936 : List Int) (x937 : Int) : Option (Bool) :=
  (spec_OrderOk_n15 x936 x937).bind (Sum.elim (fun (t : Unit) => spec_OrderOk_n16 x936 x937) (fun e => some ((fun (t : Bool) => t) e)))

def spec_OrderOk_n18 (x936 : List Int) (x937 : Int) : Option (Bool) :=
  (spec_OrderOk_n1).bind (fun (t : Unit) => spec_OrderOk_n17 x936 x937)

@[irreducible] def spec_OrderOk (x936 : List Int) (x937 : Int) : Option (Bool) :=
  spec_OrderOk_n18 x936 x937

def spec_PutInOrder_n1 (x931 : List Int) (x932 : List Int) : Option (((List Int)) ⊕ (Bool × (List Int))) :=
  (spec_TreeOk x931).bind fun (v1008 : Bool) => cond (!v1008) (some (Sum.inr (false, ([] : List Int)))) ((spec_OrderOk x932 (((List.length x931 : Nat) : Int))).bind fun (v1011 : Bool) => cond (!v1011) (some (Sum.inr (false, ([] : List Int)))) ((mk (IntKind.wrap .i64 ((((List.length x931 : Nat) : Int)) + 1)) (IntKind.wrap .i64 ((((List.length x931 : Nat) : Int)) + 1))).bind fun (v1015 : Nat) => some (Sum.inl (List.replicate v1015 (0 : Int)))))

def spec_PutInOrder_n2 : Option (Unit) :=
  some ()

def spec_PutInOrder_n3 (x932 : List Int) (x1032 : Int) (x1033 : List Int) : Option ((Int × (List Int)) ⊕ ((List Int))) :=
  cond (decide (x1032 < (((List.length x932 : Nat) : Int)))) ((idx x932 x1032).bind fun (v1044 : Int) => (inb v1044 (List.length x1033)).bind fun (v1046 : Nat) => some (Sum.inl ((IntKind.wrap .i64 (x1032 + 1)), (x1033.set v1046 (IntKind.wrap .i64 (x1032 + 1)))))) (some (Sum.inr x1033))

def spec_PutInOrder_n4 (x932 : List Int) (x1016 : List Int) : Option (((List Int))) :=
  nloop (fun (s : Int × (List Int)) => ((spec_PutInOrder_n3 x932 s.1 s.2).map (Sum.elim (fun (t : Int × (List Int)) => Sum.inl (t.1, t.2)) (fun (t : (List Int)) => Sum.inr t)) : Option ((Int × (List Int)) ⊕ (((List Int)))))) LL (0, x1016)

def spec_PutInOrder_n5 (x932 : List Int) (x1016 : List Int) : Option (((List Int))) :=
  (spec_PutInOrder_n4 x932 x1016).map (fun (t : (List Int)) => t)

def spec_PutInOrder_n6 (x932 : List Int) (x1016 : List Int) : Option (((List Int))) :=
  (spec_PutInOrder_n2).bind (fun (t : Unit) => spec_PutInOrder_n5 x932 x1016)

def spec_PutInOrder_n7 : Option (Unit) :=
  some ()

def spec_PutInOrder_n8 : Option (Unit) :=
  some ()

def spec_PutInOrder_n9 (x931 : List Int) (x932 : List Int) (x1074 : Int) (x1033 : List Int) (x1075 : List Int) : Option ((Int × (List Int)) ⊕ ((List Int))) :=
  cond (decide (x1074 < (((List.length x932 : Nat) : Int)))) ((idx x932 x1074).bind fun (v1091 : Int) => (idx x931 (IntKind.wrap .i64 (v1091 - 1))).bind fun (v1093 : Int) => (inb v1093 (List.length x1033)).bind fun (v1094 : Nat) => (x1033[v1094]?).bind fun (v1095 : Int) => (room ((List.length x1075) + List.length ([v1095]))).bind fun (v1098 : Unit) => some (Sum.inl ((IntKind.wrap .i64 (x1074 + 1)), (x1075 ++ ([v1095]))))) (some (Sum.inr x1075))

def spec_PutInOrder_n10 (x931 : List Int) (x932 : List Int) (x1033 : List Int) : Option (((List Int))) :=
  nloop (fun (s : Int × (List Int)) => ((spec_PutInOrder_n9 x931 x932 s.1 x1033 s.2).map (Sum.elim (fun (t : Int × (List Int)) => Sum.inl (t.1, t.2)) (fun (t : (List Int)) => Sum.inr t)) : Option ((Int × (List Int)) ⊕ (((List Int)))))) LL (0, ([] : List Int))

def spec_PutInOrder_n11 (x931 : List Int) (x932 : List Int) (x1033 : List Int) : Option (((List Int))) :=
  (spec_PutInOrder_n10 x931 x932 x1033).map (fun (t : (List Int)) => t)

def spec_PutInOrder_n12 (x931 : List Int) (x932 : List Int) (x1033 : List Int) : Option (((List Int))) :=
  (spec_PutInOrder_n8).bind (fun (t : Unit) => spec_PutInOrder_n11 x931 x932 x1033)

def spec_PutInOrder_n13 (x1075 : List Int) : Option ((Bool × (List Int))) :=
  some (true, x1075)

def spec_PutInOrder_n14 (x931 : List Int) (x932 : List Int) (x1033 : List Int) : Option ((Bool × (List Int))) :=
  (spec_PutInOrder_n12 x931 x932 x1033).bind (fun (t : (List Int)) => spec_PutInOrder_n13 t)

def spec_PutInOrder_n15 (x931 : List Int) (x932 : List Int) (x1033 : List Int) : Option ((Bool × (List Int))) :=
  (spec_PutInOrder_n7).bind (fun (t : Unit) => spec_PutInOrder_n14 x931 x932 x1033)

def spec_PutInOrder_n16 (x931 : List Int) (x932 : List Int) (x1016 : List Int) : Option ((Bool × (List Int))) :=
  (spec_PutInOrder_n6 x932 x1016).bind (fun (t : (List Int)) => spec_PutInOrder_n15 x931 x932 t)

def spec_PutInOrder_n17 (x931 : List Int) (x932 : List Int) : Option ((Bool × (List Int))) :=
  (spec_PutInOrder_n1 x931 x932).bind (Sum.elim (fun (t : (List Int)) => spec_PutInOrder_n16 x931 x932 t) (fun e => some ((fun (t : Bool × (List Int)) => t) e)))

@[irreducible] def spec_PutInOrder (x931 : List Int) (x932 : List Int) : Option (Bool × (List Int)) :=
  spec_PutInOrder_n17 x931 x932

def spec_l20Fill_n1 (R0 : Int → Int → Int → (List Int) → Int → (List Int) → Option (Int × (List Int))) (x1172 : Int) (x1173 : Int) (x1174 : Int) (x1175 : List Int) (x1176 : Int) (x1177 : List Int) : Option ((Int × Int × (List Int)) ⊕ (Int × (List Int))) :=
  cond (decide (x1172 > x1173)) (some (Sum.inr (x1176, x1177))) ((spec_l20Rd_pick (IntKind.wrap .i64 ((IntKind.wrap .i64 (x1173 - x1172)) + 1)) x1175 x1176).bind fun (v1245 : Int × Int) => (inb (IntKind.wrap .i64 ((IntKind.wrap .i64 (x1172 + (v1245.1))) - 1)) (List.length x1177)).bind fun (v1250 : Nat) => some (Sum.inl ((IntKind.wrap .i64 (x1172 + (v1245.1))), (v1245.2), (x1177.set v1250 x1174))))

def spec_l20Fill_n2 (R0 : Int → Int → Int → (List Int) → Int → (List Int) → Option (Int × (List Int))) (x1248 : Int) (x1263 : Int) (x1175 : List Int) (x1264 : Int) (x1265 : List Int) : Option ((Int × Int × (List Int)) ⊕ (Int × (List Int))) :=
  cond (decide (x1263 < x1248)) ((spec_l20Rd_pick (IntKind.wrap .i64 (x1248 - x1263)) x1175 x1264).bind fun (v1269 : Int × Int) => (R0 x1263 (IntKind.wrap .i64 (x1263 + (v1269.1))) x1248 x1175 (v1269.2) x1265).bind fun (v1273 : Int × (List Int)) => some (Sum.inl ((IntKind.wrap .i64 ((IntKind.wrap .i64 (x1263 + (v1269.1))) + 1)), (v1273.1), (v1273.2)))) (some (Sum.inr (x1264, x1265)))

def spec_l20Fill_n3 (R0 : Int → Int → Int → (List Int) → Int → (List Int) → Option (Int × (List Int))) (x1248 : Int) (x1172 : Int) (x1175 : List Int) (x1247 : Int) (x1251 : List Int) : Option ((Int × (List Int))) :=
  nloop (fun (s : Int × Int × (List Int)) => ((spec_l20Fill_n2 R0 x1248 s.1 x1175 s.2.1 s.2.2).map (Sum.elim (fun (t : Int × Int × (List Int)) => Sum.inl (t.1, t.2.1, t.2.2)) (fun (t : Int × (List Int)) => Sum.inr t)) : Option ((Int × Int × (List Int)) ⊕ ((Int × (List Int)))))) LL (x1172, x1247, x1251)

def spec_l20Fill_n4 (R0 : Int → Int → Int → (List Int) → Int → (List Int) → Option (Int × (List Int))) (x1248 : Int) (x1172 : Int) (x1175 : List Int) (x1247 : Int) (x1251 : List Int) : Option ((Int × (List Int))) :=
  (spec_l20Fill_n3 R0 x1248 x1172 x1175 x1247 x1251).map (fun (t : Int × (List Int)) => (t.1, t.2))

def spec_l20Fill_n5 (R0 : Int → Int → Int → (List Int) → Int → (List Int) → Option (Int × (List Int))) (x1248 : Int) : Option (Int) :=
  some (IntKind.wrap .i64 (x1248 + 1))

def spec_l20Fill_n6 (R0 : Int → Int → Int → (List Int) → Int → (List Int) → Option (Int × (List Int))) (x1173 : Int) (x1248 : Int) (x1290 : Int) (x1175 : List Int) (x1291 : Int) (x1292 : List Int) : Option ((Int × Int × (List Int)) ⊕ (Int × (List Int))) :=
  cond (decide (x1290 ≤ x1173)) ((spec_l20Rd_pick (IntKind.wrap .i64 ((IntKind.wrap .i64 (x1173 - x1290)) + 1)) x1175 x1291).bind fun (v1297 : Int × Int) => (R0 x1290 (IntKind.wrap .i64 (x1290 + (v1297.1))) x1248 x1175 (v1297.2) x1292).bind fun (v1301 : Int × (List Int)) => some (Sum.inl ((IntKind.wrap .i64 ((IntKind.wrap .i64 (x1290 + (v1297.1))) + 1)), (v1301.1), (v1301.2)))) (some (Sum.inr (x1291, x1292)))

def spec_l20Fill_n7 (R0 : Int → Int → Int → (List Int) → Int → (List Int) → Option (Int × (List Int))) (x1173 : Int) (x1248 : Int) (x1277 : Int) (x1175 : List Int) (x1264 : Int) (x1265 : List Int) : Option ((Int × (List Int))) :=
  nloop (fun (s : Int × Int × (List Int)) => ((spec_l20Fill_n6 R0 x1173 x1248 s.1 x1175 s.2.1 s.2.2).map (Sum.elim (fun (t : Int × Int × (List Int)) => Sum.inl (t.1, t.2.1, t.2.2)) (fun (t : Int × (List Int)) => Sum.inr t)) : Option ((Int × Int × (List Int)) ⊕ ((Int × (List Int)))))) LL (x1277, x1264, x1265)

def spec_l20Fill_n8 (R0 : Int → Int → Int → (List Int) → Int → (List Int) → Option (Int × (List Int))) (x1173 : Int) (x1248 : Int) (x1277 : Int) (x1175 : List Int) (x1264 : Int) (x1265 : List Int) : Option ((Int × (List Int))) :=
  (spec_l20Fill_n7 R0 x1173 x1248 x1277 x1175 x1264 x1265).map (fun (t : Int × (List Int)) => (t.1, t.2))

def spec_l20Fill_n9 (R0 : Int → Int → Int → (List Int) → Int → (List Int) → Option (Int × (List Int))) (x1173 : Int) (x1248 : Int) (x1175 : List Int) (x1264 : Int) (x1265 : List Int) : Option ((Int × (List Int))) :=
  (spec_l20Fill_n5 R0 x1248).bind (fun (t : Int) => spec_l20Fill_n8 R0 x1173 x1248 t x1175 x1264 x1265)

def spec_l20Fill_n10 (R0 : Int → Int → Int → (List Int) → Int → (List Int) → Option (Int × (List Int))) (x1173 : Int) (x1248 : Int) (x1172 : Int) (x1175 : List Int) (x1247 : Int) (x1251 : List Int) : Option ((Int × (List Int))) :=
  (spec_l20Fill_n4 R0 x1248 x1172 x1175 x1247 x1251).bind (fun (t : Int × (List Int)) => spec_l20Fill_n9 R0 x1173 x1248 x1175 t.1 t.2)

def spec_l20Fill_n11 (R0 : Int → Int → Int → (List Int) → Int → (List Int) → Option (Int × (List Int))) (x1172 : Int) (x1173 : Int) (x1174 : Int) (x1175 : List Int) (x1176 : Int) (x1177 : List Int) : Option ((Int × (List Int)) ⊕ (Int × (List Int))) :=
  (spec_l20Fill_n1 R0 x1172 x1173 x1174 x1175 x1176 x1177).bind (Sum.elim (fun (t : Int × Int × (List Int)) => (spec_l20Fill_n10 R0 x1173 t.1 x1172 x1175 t.2.1 t.2.2).map (fun (u : Int × (List Int)) => (Sum.inl (u.1, u.2)))) (fun e => some ((fun (t : Int × (List Int)) => (Sum.inr t)) e)))

def spec_l20Fill_one (R0 : Int → Int → Int → (List Int) → Int → (List Int) → Option (Int × (List Int))) (x1172 : Int) (x1173 : Int) (x1174 : Int) (x1175 : List Int) (x1176 : Int) (x1177 : List Int) : Option (Int × (List Int)) :=
  (spec_l20Fill_n11 R0 x1172 x1173 x1174 x1175 x1176 x1177).map (Sum.elim (fun (t : Int × (List Int)) => (t.1, t.2)) (fun (t : Int × (List Int)) => t))

def spec_l20Fill_knot : Nat → (Int → Int → Int → (List Int) → Int → (List Int) → Option (Int × (List Int)))
  | 0 => (fun _ _ _ _ _ _ => none)
  | n + 1 => (fun y0 y1 y2 y3 y4 y5 => spec_l20Fill_one (spec_l20Fill_knot n) y0 y1 y2 y3 y4 y5)

def spec_l20Fill_fuel (n : Nat) : Int → Int → Int → (List Int) → Int → (List Int) → Option (Int × (List Int)) := (spec_l20Fill_knot n)

@[irreducible] def spec_l20Fill (x1172 : Int) (x1173 : Int) (x1174 : Int) (x1175 : List Int) (x1176 : Int) (x1177 : List Int) : Option (Int × (List Int)) := spec_l20Fill_fuel RR x1172 x1173 x1174 x1175 x1176 x1177

def spec_l20Flat_n1 (x1125 : Int) (x1126 : List Int) (x1127 : Int) : Option ((Int × (List Int))) :=
  (spec_l20Rd_pick 3 x1126 x1127).bind fun (v1326 : Int × Int) => cond ((v1326.1) == 0) ((spec_l20Tree x1125 x1126 (v1326.2)).bind fun (v1330 : Int × (List Int)) => some ((v1330.1), (v1330.2))) ((spec_l20Rd_pick 7 x1126 (v1326.2)).bind fun (v1333 : Int × Int) => (mk (IntKind.wrap .i64 (1 + (v1333.1))) (IntKind.wrap .i64 (1 + (v1333.1)))).bind fun (v1337 : Nat) => (spec_l20Fill 1 (IntKind.wrap .i64 (1 + (v1333.1))) 0 x1126 (v1333.2) (List.replicate v1337 (0 : Int))).bind fun (v1339 : Int × (List Int)) => some ((v1339.1), (v1339.2)))

@[irreducible] def spec_l20Flat (x1125 : Int) (x1126 : List Int) (x1127 : Int) : Option (Int × (List Int)) :=
  spec_l20Flat_n1 x1125 x1126 x1127

def spec_l20Wild_n1 (x34 : Int) (x35 : List Int) (x36 : Int) : Option ((Int × (List Int))) :=
  (spec_l20Tree x34 x35 x36).bind fun (v1383 : Int × (List Int)) => (spec_l20Rd_pick 2 x35 (v1383.1)).bind fun (v1386 : Int × Int) => cond ((v1386.1) == 0) ((spec_TreeOk (v1383.2)).bind fun (v1390 : Bool) => cond v1390 ((spec_l20Order (((List.length (v1383.2) : Nat) : Int)) x35 (v1386.2)).bind fun (v1392 : Int × (List Int)) => (spec_PutInOrder (v1383.2) (v1392.2)).bind fun (v1395 : Bool × (List Int)) => some ((v1392.1), (v1395.2))) ((spec_l20Rd_pick 3 x35 (v1386.2)).bind fun (v1398 : Int × Int) => cond ((v1398.1) == 0) ((spec_l20Flat x34 x35 (v1398.2)).bind fun (v1402 : Int × (List Int)) => some ((v1402.1), (v1402.2))) (some ((v1398.2), (v1383.2))))) ((spec_l20Rd_pick 3 x35 (v1386.2)).bind fun (v1405 : Int × Int) => cond ((v1405.1) == 0) ((spec_l20Flat x34 x35 (v1405.2)).bind fun (v1409 : Int × (List Int)) => some ((v1409.1), (v1409.2))) (some ((v1405.2), (v1383.2))))

@[irreducible] def spec_l20Wild (x34 : Int) (x35 : List Int) (x36 : Int) : Option (Int × (List Int)) :=
  spec_l20Wild_n1 x34 x35 x36

def spec_DrawMadeFlat_n1 (x10 : List Int) : Option (((List Int))) :=
  (spec_l20Open x10).bind fun (v1417 : List Int) => (spec_l20Wild 9 v1417 0).bind fun (v1418 : Int × (List Int)) => some (v1418.2)

@[irreducible] def spec_DrawMadeFlat (x10 : List Int) : Option ((List Int)) :=
  spec_DrawMadeFlat_n1 x10

def impl_oneRoot_n1 : Option (Unit) :=
  some ()

def impl_oneRoot_n2 (x1432 : List Int) : Option (Int) :=
  some (((List.length x1432 : Nat) : Int))

def impl_oneRoot_n3 (x1432 : List Int) (x1454 : Int) (x1433 : Int) (x1455 : Int) : Option ((Int × Int) ⊕ Bool ⊕ Int) :=
  cond (decide (x1455 < x1433)) ((idx x1432 x1455).bind fun (v1466 : Int) => cond (decide (v1466 < 0)) (some (Sum.inr (Sum.inl false))) (cond (decide (v1466 > (((List.length x1432 : Nat) : Int)))) (some (Sum.inr (Sum.inl false))) (cond (v1466 == 0) (some (Sum.inl ((IntKind.wrap .i64 (x1454 + 1)), (IntKind.wrap .i64 (x1455 + 1))))) (some (Sum.inl (x1454, (IntKind.wrap .i64 (x1455 + 1)))))))) (some (Sum.inr (Sum.inr x1454)))

def impl_oneRoot_n4 (x1432 : List Int) (x1433 : Int) : Option (Bool ⊕ Int) :=
  nloop (fun (s : Int × Int) => ((impl_oneRoot_n3 x1432 s.1 x1433 s.2).map (Sum.elim (fun (t : Int × Int) => Sum.inl (t.1, t.2)) (Sum.elim (fun (t : Bool) => Sum.inr (Sum.inl t)) (fun (t : Int) => Sum.inr (Sum.inr t)))) : Option ((Int × Int) ⊕ (Bool ⊕ Int)))) LL (0, 0)

def impl_oneRoot_n5 (x1432 : List Int) (x1433 : Int) : Option (Int ⊕ Bool) :=
  (impl_oneRoot_n4 x1432 x1433).map (Sum.elim (fun (t : Bool) => (Sum.inr t)) (fun (t : Int) => (Sum.inl t)))

def impl_oneRoot_n6 (x1432 : List Int) : Option (Int ⊕ Bool) :=
  (impl_oneRoot_n2 x1432).bind (fun (t : Int) => impl_oneRoot_n5 x1432 t)

def impl_oneRoot_n7 (x1454 : Int) : Option (Bool) :=
  some (x1454 == 1)

def impl_oneRoot_n8 (x1432 : List Int) : Option (Bool) :=
  (impl_oneRoot_n6 x1432).bind (Sum.elim (fun (t : Int) => impl_oneRoot_n7 t) (fun e => some ((fun (t : Bool) => t) e)))

def impl_oneRoot_n9 (x1432 : List Int) : Option (Bool) :=
  (impl_oneRoot_n1).bind (fun (t : Unit) => impl_oneRoot_n8 x1432)

@[irreducible] def impl_oneRoot (x1432 : List Int) : Option (Bool) :=
  impl_oneRoot_n9 x1432

def impl_walker_up_n1 (x1488 : List Int) (x1489 : Int) (x1490 : Int) : Option ((Bool × Int × Int)) :=
  (idx x1488 (IntKind.wrap .i64 (x1489 - 1))).bind fun (v1508 : Int) => cond (v1508 == 0) (some (false, x1489, x1490)) (some (true, v1508, (IntKind.wrap .i64 (x1490 + 1))))

@[irreducible] def impl_walker_up (x1488 : List Int) (x1489 : Int) (x1490 : Int) : Option (Bool × Int × Int) :=
  impl_walker_up_n1 x1488 x1489 x1490

def impl_stepsToRoot_n1 : Option (Unit) :=
  some ()

def impl_stepsToRoot_n2 (x1486 : List Int) (x1524 : Int) (x1525 : Int) : Option ((Int × Int) ⊕ (Int × Bool) ⊕ (Int × Int)) :=
  (impl_walker_up x1486 x1524 x1525).bind fun (v1530 : Bool × Int × Int) => cond (v1530.1) (cond (decide ((v1530.2.2) ≥ (((List.length x1486 : Nat) : Int)))) (some (Sum.inr (Sum.inl (0, false)))) (some (Sum.inl ((v1530.2.1), (v1530.2.2))))) (some (Sum.inr (Sum.inr ((v1530.2.1), (v1530.2.2)))))

def impl_stepsToRoot_n3 (x1486 : List Int) (x1487 : Int) : Option ((Int × Bool) ⊕ (Int × Int)) :=
  nloop (fun (s : Int × Int) => ((impl_stepsToRoot_n2 x1486 s.1 s.2).map (Sum.elim (fun (t : Int × Int) => Sum.inl (t.1, t.2)) (Sum.elim (fun (t : Int × Bool) => Sum.inr (Sum.inl t)) (fun (t : Int × Int) => Sum.inr (Sum.inr t)))) : Option ((Int × Int) ⊕ ((Int × Bool) ⊕ (Int × Int))))) LL (x1487, 0)

def impl_stepsToRoot_n4 (x1486 : List Int) (x1487 : Int) : Option ((Int × Int) ⊕ (Int × Bool)) :=
  (impl_stepsToRoot_n3 x1486 x1487).map (Sum.elim (fun (t : Int × Bool) => (Sum.inr t)) (fun (t : Int × Int) => (Sum.inl (t.1, t.2))))

def impl_stepsToRoot_n5 (x1533 : Int) : Option ((Int × Bool)) :=
  some (x1533, true)

def impl_stepsToRoot_n6 (x1486 : List Int) (x1487 : Int) : Option ((Int × Bool)) :=
  (impl_stepsToRoot_n4 x1486 x1487).bind (Sum.elim (fun (t : Int × Int) => impl_stepsToRoot_n5 t.2) (fun e => some ((fun (t : Int × Bool) => t) e)))

def impl_stepsToRoot_n7 (x1486 : List Int) (x1487 : Int) : Option ((Int × Bool)) :=
  (impl_stepsToRoot_n1).bind (fun (t : Unit) => impl_stepsToRoot_n6 x1486 x1487)

@[irreducible] def impl_stepsToRoot (x1486 : List Int) (x1487 : Int) : Option (Int × Bool) :=
  impl_stepsToRoot_n7 x1486 x1487

def impl_TreeOk_n1 (x1427 : List Int) : Option (Unit ⊕ Bool) :=
  cond (decide ((((List.length x1427 : Nat) : Int)) < 1)) (some (Sum.inr false)) (cond (decide ((((List.length x1427 : Nat) : Int)) > 8)) (some (Sum.inr false)) ((impl_oneRoot x1427).bind fun (v1479 : Bool) => cond (!v1479) (some (Sum.inr false)) (some (Sum.inl ()))))

def impl_TreeOk_n2 (x1427 : List Int) : Option (Int) :=
  some (((List.length x1427 : Nat) : Int))

def impl_TreeOk_n3 (x1427 : List Int) (x1481 : Int) (x1549 : Int) : Option (Int ⊕ Bool ⊕ Unit) :=
  cond (decide (x1549 < x1481)) ((impl_stepsToRoot x1427 (IntKind.wrap .i64 (x1549 + 1))).bind fun (v1560 : Int × Bool) => cond (!(v1560.2)) (some (Sum.inr (Sum.inl false))) (some (Sum.inl (IntKind.wrap .i64 (x1549 + 1))))) (some (Sum.inr (Sum.inr ())))

def impl_TreeOk_n4 (x1427 : List Int) (x1481 : Int) : Option (Bool ⊕ Unit) :=
  nloop (fun (s : Int) => ((impl_TreeOk_n3 x1427 x1481 s).map (Sum.elim (fun (t : Int) => Sum.inl t) (Sum.elim (fun (t : Bool) => Sum.inr (Sum.inl t)) (fun (t : Unit) => Sum.inr (Sum.inr t)))) : Option ((Int) ⊕ (Bool ⊕ Unit)))) LL 0

def impl_TreeOk_n5 (x1427 : List Int) (x1481 : Int) : Option (Unit ⊕ Bool) :=
  (impl_TreeOk_n4 x1427 x1481).map (Sum.elim (fun (t : Bool) => (Sum.inr t)) (fun (t : Unit) => (Sum.inl ())))

def impl_TreeOk_n6 (x1427 : List Int) : Option (Unit ⊕ Bool) :=
  (impl_TreeOk_n2 x1427).bind (fun (t : Int) => impl_TreeOk_n5 x1427 t)

def impl_TreeOk_n7 : Option (Bool) :=
  some true

def impl_TreeOk_n8 (x1427 : List Int) : Option (Bool) :=
  (impl_TreeOk_n6 x1427).bind (Sum.elim (fun (t : Unit) => impl_TreeOk_n7) (fun e => some ((fun (t : Bool) => t) e)))

def impl_TreeOk_n9 (x1427 : List Int) : Option (Bool) :=
  (impl_TreeOk_n1 x1427).bind (Sum.elim (fun (t : Unit) => impl_TreeOk_n8 x1427) (fun e => some ((fun (t : Bool) => t) e)))

@[irreducible] def impl_TreeOk (x1427 : List Int) : Option (Bool) :=
  impl_TreeOk_n9 x1427

def impl_RootOf_n1 (x1571 : List Int) : Option (Unit ⊕ Int) :=
  (impl_TreeOk x1571).bind fun (v1574 : Bool) => cond (!v1574) (some (Sum.inr (-1))) (some (Sum.inl ()))

def impl_RootOf_n2 (x1571 : List Int) (x1584 : Int) (x1585 : Int) : Option ((Int × Int) ⊕ (Int × Int)) :=
  (impl_walker_up x1571 x1584 x1585).bind fun (v1590 : Bool × Int × Int) => cond (v1590.1) (some (Sum.inl ((v1590.2.1), (v1590.2.2)))) (some (Sum.inr ((v1590.2.1), (v1590.2.2))))

def impl_RootOf_n3 (x1571 : List Int) : Option ((Int × Int)) :=
  nloop (fun (s : Int × Int) => ((impl_RootOf_n2 x1571 s.1 s.2).map (Sum.elim (fun (t : Int × Int) => Sum.inl (t.1, t.2)) (fun (t : Int × Int) => Sum.inr t)) : Option ((Int × Int) ⊕ ((Int × Int))))) LL (1, 0)

def impl_RootOf_n4 (x1571 : List Int) : Option ((Int × Int)) :=
  (impl_RootOf_n3 x1571).map (fun (t : Int × Int) => (t.1, t.2))

def impl_RootOf_n5 (x1592 : Int) : Option (Int) :=
  some x1592

def impl_RootOf_n6 (x1571 : List Int) : Option (Int) :=
  (impl_RootOf_n4 x1571).bind (fun (t : Int × Int) => impl_RootOf_n5 t.1)

def impl_RootOf_n7 (x1571 : List Int) : Option (Int) :=
  (impl_RootOf_n1 x1571).bind (Sum.elim (fun (t : Unit) => impl_RootOf_n6 x1571) (fun e => some ((fun (t : Int) => t) e)))

@[irreducible] def impl_RootOf (x1571 : List Int) : Option (Int) :=
  impl_RootOf_n7 x1571

def impl_only_n1 (x1620 : Int) : Option (Int) :=
  (shl .u64 1 (IntKind.wrap .i64 (x1620 - 1))).bind fun (v1624 : Int) => some v1624

@[irreducible] def impl_only (x1620 : Int) : Option (Int) :=
  impl_only_n1 x1620

def impl_dependents_n1 : Option (Unit) :=
  some ()

def impl_dependents_n2 (x1611 : List Int) : Option (Int) :=
  some (((List.length x1611 : Nat) : Int))

def impl_dependents_n3 (x1611 : List Int) (x1612 : Int) (x1637 : Int) (x1613 : Int) (x1638 : Int) : Option ((Int × Int) ⊕ Int) :=
  cond (decide (x1638 < x1613)) ((idx x1611 x1638).bind fun (v1648 : Int) => cond (v1648 == x1612) ((impl_only (IntKind.wrap .i64 (x1638 + 1))).bind fun (v1651 : Int) => some (Sum.inl ((ior .u64 x1637 v1651), (IntKind.wrap .i64 (x1638 + 1))))) (some (Sum.inl (x1637, (IntKind.wrap .i64 (x1638 + 1)))))) (some (Sum.inr x1637))

def impl_dependents_n4 (x1611 : List Int) (x1612 : Int) (x1613 : Int) : Option (Int) :=
  nloop (fun (s : Int × Int) => ((impl_dependents_n3 x1611 x1612 s.1 x1613 s.2).map (Sum.elim (fun (t : Int × Int) => Sum.inl (t.1, t.2)) (fun (t : Int) => Sum.inr t)) : Option ((Int × Int) ⊕ (Int)))) LL (0, 0)

def impl_dependents_n5 (x1611 : List Int) (x1612 : Int) (x1613 : Int) : Option (Int) :=
  (impl_dependents_n4 x1611 x1612 x1613).map (fun (t : Int) => t)

def impl_dependents_n6 (x1611 : List Int) (x1612 : Int) : Option (Int) :=
  (impl_dependents_n2 x1611).bind (fun (t : Int) => impl_dependents_n5 x1611 x1612 t)

def impl_dependents_n7 (x1637 : Int) : Option (Int) :=
  some x1637

def impl_dependents_n8 (x1611 : List Int) (x1612 : Int) : Option (Int) :=
  (impl_dependents_n6 x1611 x1612).bind (fun (t : Int) => impl_dependents_n7 t)

def impl_dependents_n9 (x1611 : List Int) (x1612 : Int) : Option (Int) :=
  (impl_dependents_n1).bind (fun (t : Unit) => impl_dependents_n8 x1611 x1612)

@[irreducible] def impl_dependents (x1611 : List Int) (x1612 : Int) : Option (Int) :=
  impl_dependents_n9 x1611 x1612

def impl_before_n1 (x1659 : Int) : Option (Int) :=
  (impl_only x1659).bind fun (v1662 : Int) => some (IntKind.wrap .u64 (v1662 - 1))

@[irreducible] def impl_before (x1659 : Int) : Option (Int) :=
  impl_before_n1 x1659

def impl_dependentsBeside_n1 (x1609 : List Int) (x1610 : Int) : Option ((Int × Int)) :=
  (impl_dependents x1609 x1610).bind fun (v1668 : Int) => (impl_before x1610).bind fun (v1669 : Int) => (impl_before x1610).bind fun (v1671 : Int) => some ((iand .u64 v1668 v1669), (iandn .u64 v1668 v1671))

@[irreducible] def impl_dependentsBeside (x1609 : List Int) (x1610 : Int) : Option (Int × Int) :=
  impl_dependentsBeside_n1 x1609 x1610

def math_bits_OnesCount64_n1 (x1685 : Int) : Option (Int) :=
  (shr .u64 x1685 1).bind fun (v1686 : Int) => some (IntKind.wrap .u64 ((iand .u64 v1686 6148914691236517205) + (iand .u64 x1685 6148914691236517205)))

def math_bits_OnesCount64_n2 (x1690 : Int) : Option (Int) :=
  (shr .u64 x1690 2).bind fun (v1704 : Int) => some (IntKind.wrap .u64 ((iand .u64 v1704 3689348814741910323) + (iand .u64 x1690 3689348814741910323)))

def math_bits_OnesCount64_n3 (x1707 : Int) : Option (Int) :=
  (shr .u64 x1707 4).bind fun (v1712 : Int) => some (iand .u64 (IntKind.wrap .u64 (v1712 + x1707)) 1085102592571150095)

def math_bits_OnesCount64_n4 (x1714 : Int) : Option (Int) :=
  (shr .u64 x1714 8).bind fun (v1717 : Int) => some (IntKind.wrap .u64 (x1714 + v1717))

def math_bits_OnesCount64_n5 (x1718 : Int) : Option (Int) :=
  (shr .u64 x1718 16).bind fun (v1722 : Int) => some (IntKind.wrap .u64 (x1718 + v1722))

def math_bits_OnesCount64_n6 (x1723 : Int) : Option (Int) :=
  (shr .u64 x1723 32).bind fun (v1727 : Int) => some (IntKind.wrap .u64 (x1723 + v1727))

def math_bits_OnesCount64_n7 (x1728 : Int) : Option (Int) :=
  some (iand .i64 (IntKind.wrap .i64 x1728) 127)

def math_bits_OnesCount64_n8 (x1733 : Int) : Option (Int) :=
  some x1733

def math_bits_OnesCount64_n9 (x1728 : Int) : Option (Int) :=
  (math_bits_OnesCount64_n7 x1728).bind (fun (t : Int) => math_bits_OnesCount64_n8 t)

def math_bits_OnesCount64_n10 (x1723 : Int) : Option (Int) :=
  (math_bits_OnesCount64_n6 x1723).bind (fun (t : Int) => math_bits_OnesCount64_n9 t)

def math_bits_OnesCount64_n11 (x1718 : Int) : Option (Int) :=
  (math_bits_OnesCount64_n5 x1718).bind (fun (t : Int) => math_bits_OnesCount64_n10 t)

def math_bits_OnesCount64_n12 (x1714 : Int) : Option (Int) :=
  (math_bits_OnesCount64_n4 x1714).bind (fun (t : Int) => math_bits_OnesCount64_n11 t)

def math_bits_OnesCount64_n13 (x1707 : Int) : Option (Int) :=
  (math_bits_OnesCount64_n3 x1707).bind (fun (t : Int) => math_bits_OnesCount64_n12 t)

def math_bits_OnesCount64_n14 (x1690 : Int) : Option (Int) :=
  (math_bits_OnesCount64_n2 x1690).bind (fun (t : Int) => math_bits_OnesCount64_n13 t)

def math_bits_OnesCount64_n15 (x1685 : Int) : Option (Int) :=
  (math_bits_OnesCount64_n1 x1685).bind (fun (t : Int) => math_bits_OnesCount64_n14 t)

@[irreducible] def math_bits_OnesCount64 (x1685 : Int) : Option (Int) :=
  math_bits_OnesCount64_n15 x1685

def math_bits_OnesCount_n1 (x1684 : Int) : Option (Int) :=
  (math_bits_OnesCount64 x1684).bind fun (v1735 : Int) => some v1735

@[irreducible] def math_bits_OnesCount (x1684 : Int) : Option (Int) :=
  math_bits_OnesCount_n1 x1684

def impl_wordSet_count_n1 (x1683 : Int) : Option (Int) :=
  (math_bits_OnesCount x1683).bind fun (v1737 : Int) => some v1737

@[irreducible] def impl_wordSet_count (x1683 : Int) : Option (Int) :=
  impl_wordSet_count_n1 x1683

def math_bits_TrailingZeros64_n1 (x1744 : Int) : Option (Int) :=
  cond (x1744 == 0) (some 64) ((shr .u64 (IntKind.wrap .u64 ((iand .u64 x1744 (IntKind.wrap .u64 (0 - x1744))) * 285870213051353865)) 58).bind fun (v1761 : Int) => (same (List.length tab1) 64).bind fun (v1762 : Unit) => (idx tab1 v1761).bind fun (v1763 : Int) => some (IntKind.wrap .i64 v1763))

@[irreducible] def math_bits_TrailingZeros64 (x1744 : Int) : Option (Int) :=
  math_bits_TrailingZeros64_n1 x1744

def math_bits_TrailingZeros_n1 (x1743 : Int) : Option (Int) :=
  (math_bits_TrailingZeros64 x1743).bind fun (v1767 : Int) => some v1767

@[irreducible] def math_bits_TrailingZeros (x1743 : Int) : Option (Int) :=
  math_bits_TrailingZeros_n1 x1743

def impl_wordSet_list_n1 (x1682 : Int) : Option (((List Int))) :=
  (impl_wordSet_count x1682).bind fun (v1738 : Int) => (mk 0 v1738).bind fun (v1739 : Nat) => some (List.replicate v1739 (0 : Int))

def impl_wordSet_list_n2 : Option (Unit) :=
  some ()

def impl_wordSet_list_n3 (x1783 : Int) (x1784 : List Int) : Option ((Int × (List Int)) ⊕ ((List Int))) :=
  cond (x1783 != 0) ((math_bits_TrailingZeros x1783).bind fun (v1794 : Int) => (room ((List.length x1784) + List.length ([(IntKind.wrap .i64 (v1794 + 1))]))).bind fun (v1798 : Unit) => some (Sum.inl ((iand .u64 x1783 (IntKind.wrap .u64 (x1783 - 1))), (x1784 ++ ([(IntKind.wrap .i64 (v1794 + 1))]))))) (some (Sum.inr x1784))

def impl_wordSet_list_n4 (x1682 : Int) (x1740 : List Int) : Option (((List Int))) :=
  nloop (fun (s : Int × (List Int)) => ((impl_wordSet_list_n3 s.1 s.2).map (Sum.elim (fun (t : Int × (List Int)) => Sum.inl (t.1, t.2)) (fun (t : (List Int)) => Sum.inr t)) : Option ((Int × (List Int)) ⊕ (((List Int)))))) LL (x1682, x1740)

def impl_wordSet_list_n5 (x1682 : Int) (x1740 : List Int) : Option (((List Int))) :=
  (impl_wordSet_list_n4 x1682 x1740).map (fun (t : (List Int)) => t)

def impl_wordSet_list_n6 (x1682 : Int) (x1740 : List Int) : Option (((List Int))) :=
  (impl_wordSet_list_n2).bind (fun (t : Unit) => impl_wordSet_list_n5 x1682 x1740)

def impl_wordSet_list_n7 (x1784 : List Int) : Option (((List Int))) :=
  some x1784

def impl_wordSet_list_n8 (x1682 : Int) (x1740 : List Int) : Option (((List Int))) :=
  (impl_wordSet_list_n6 x1682 x1740).bind (fun (t : (List Int)) => impl_wordSet_list_n7 t)

def impl_wordSet_list_n9 (x1682 : Int) : Option (((List Int))) :=
  (impl_wordSet_list_n1 x1682).bind (fun (t : (List Int)) => impl_wordSet_list_n8 x1682 t)

@[irreducible] def impl_wordSet_list (x1682 : Int) : Option ((List Int)) :=
  impl_wordSet_list_n9 x1682

def impl_appendFlat_n1 (R0 : (List Int) → Int → (List Int) → Option ((List Int))) (R1 : (List Int) → Int → (List Int) → Option ((List Int))) (x1606 : List Int) (x1607 : Int) (x1608 : List Int) : Option (((List Int))) :=
  (impl_dependentsBeside x1606 x1607).bind fun (v1914 : Int × Int) => (R1 x1606 (v1914.1) x1608).bind fun (v1917 : List Int) => (room ((List.length v1917) + List.length ([x1607]))).bind fun (v1920 : Unit) => (R1 x1606 (v1914.2) (v1917 ++ ([x1607]))).bind fun (v1922 : List Int) => some v1922

def impl_appendFlat_one (R0 : (List Int) → Int → (List Int) → Option ((List Int))) (R1 : (List Int) → Int → (List Int) → Option ((List Int))) (x1606 : List Int) (x1607 : Int) (x1608 : List Int) : Option ((List Int)) :=
  impl_appendFlat_n1 R0 R1 x1606 x1607 x1608

def impl_appendEachFlat_n1 (R0 : (List Int) → Int → (List Int) → Option ((List Int))) (R1 : (List Int) → Int → (List Int) → Option ((List Int))) : Option (Unit) :=
  some ()

def impl_appendEachFlat_n2 (R0 : (List Int) → Int → (List Int) → Option ((List Int))) (R1 : (List Int) → Int → (List Int) → Option ((List Int))) (x1846 : Int) : Option ((Int × (List Int))) :=
  (impl_wordSet_list x1846).bind fun (v1874 : List Int) => some ((((List.length v1874 : Nat) : Int)), v1874)

def impl_appendEachFlat_n3 (R0 : (List Int) → Int → (List Int) → Option ((List Int))) (R1 : (List Int) → Int → (List Int) → Option ((List Int))) (x1845 : List Int) (x1875 : Int) (x1887 : Int) (x1888 : List Int) (x1874 : List Int) : Option ((Int × (List Int)) ⊕ ((List Int))) :=
  cond (decide (x1887 < x1875)) ((inb x1887 (List.length x1874)).bind fun (v1896 : Nat) => (x1874[v1896]?).bind fun (v1897 : Int) => (R0 x1845 v1897 x1888).bind fun (v1898 : List Int) => some (Sum.inl ((IntKind.wrap .i64 (x1887 + 1)), v1898))) (some (Sum.inr x1888))

def impl_appendEachFlat_n4 (R0 : (List Int) → Int → (List Int) → Option ((List Int))) (R1 : (List Int) → Int → (List Int) → Option ((List Int))) (x1845 : List Int) (x1875 : Int) (x1847 : List Int) (x1874 : List Int) : Option (((List Int))) :=
  nloop (fun (s : Int × (List Int)) => ((impl_appendEachFlat_n3 R0 R1 x1845 x1875 s.1 s.2 x1874).map (Sum.elim (fun (t : Int × (List Int)) => Sum.inl (t.1, t.2)) (fun (t : (List Int)) => Sum.inr t)) : Option ((Int × (List Int)) ⊕ (((List Int)))))) LL (0, x1847)

def impl_appendEachFlat_n5 (R0 : (List Int) → Int → (List Int) → Option ((List Int))) (R1 : (List Int) → Int → (List Int) → Option ((List Int))) (x1845 : List Int) (x1875 : Int) (x1847 : List Int) (x1874 : List Int) : Option (((List Int))) :=
  (impl_appendEachFlat_n4 R0 R1 x1845 x1875 x1847 x1874).map (fun (t : (List Int)) => t)

def impl_appendEachFlat_n6 (R0 : (List Int) → Int → (List Int) → Option ((List Int))) (R1 : (List Int) → Int → (List Int) → Option ((List Int))) (x1845 : List Int) (x1846 : Int) (x1847 : List Int) : Option (((List Int))) :=
  (impl_appendEachFlat_n2 R0 R1 x1846).bind (fun (t : Int × (List Int)) => impl_appendEachFlat_n5 R0 R1 x1845 t.1 x1847 t.2)

def impl_appendEachFlat_n7 (R0 : (List Int) → Int → (List Int) → Option ((List Int))) (R1 : (List Int) → Int → (List Int) → Option ((List Int))) (x1888 : List Int) : Option (((List Int))) :=
  some x1888

def impl_appendEachFlat_n8 (R0 : (List Int) → Int → (List Int) → Option ((List Int))) (R1 : (List Int) → Int → (List Int) → Option ((List Int))) (x1845 : List Int) (x1846 : Int) (x1847 : List Int) : Option (((List Int))) :=
  (impl_appendEachFlat_n6 R0 R1 x1845 x1846 x1847).bind (fun (t : (List Int)) => impl_appendEachFlat_n7 R0 R1 t)

def impl_appendEachFlat_n9 (R0 : (List Int) → Int → (List Int) → Option ((List Int))) (R1 : (List Int) → Int → (List Int) → Option ((List Int))) (x1845 : List Int) (x1846 : Int) (x1847 : List Int) : Option (((List Int))) :=
  (impl_appendEachFlat_n1 R0 R1).bind (fun (t : Unit) => impl_appendEachFlat_n8 R0 R1 x1845 x1846 x1847)

def impl_appendEachFlat_one (R0 : (List Int) → Int → (List Int) → Option ((List Int))) (R1 : (List Int) → Int → (List Int) → Option ((List Int))) (x1845 : List Int) (x1846 : Int) (x1847 : List Int) : Option ((List Int)) :=
  impl_appendEachFlat_n9 R0 R1 x1845 x1846 x1847

def impl_appendFlat_knot : Nat → ((List Int) → Int → (List Int) → Option ((List Int))) × ((List Int) → Int → (List Int) → Option ((List Int)))
  | 0 => ((fun _ _ _ => none), (fun _ _ _ => none))
  | n + 1 => ((fun y0 y1 y2 => impl_appendFlat_one (impl_appendFlat_knot n).1 (impl_appendFlat_knot n).2 y0 y1 y2), (fun y0 y1 y2 => impl_appendEachFlat_one (impl_appendFlat_knot n).1 (impl_appendFlat_knot n).2 y0 y1 y2))

def impl_appendFlat_fuel (n : Nat) : (List Int) → Int → (List Int) → Option ((List Int)) := (impl_appendFlat_knot n).1

@[irreducible] def impl_appendFlat (x1606 : List Int) (x1607 : Int) (x1608 : List Int) : Option ((List Int)) := impl_appendFlat_fuel RR x1606 x1607 x1608

def impl_appendEachFlat_fuel (n : Nat) : (List Int) → Int → (List Int) → Option ((List Int)) := (impl_appendFlat_knot n).2

@[irreducible] def impl_appendEachFlat (x1845 : List Int) (x1846 : Int) (x1847 : List Int) : Option ((List Int)) := impl_appendEachFlat_fuel RR x1845 x1846 x1847

def impl_FlatOrder_n1 (x1426 : List Int) : Option (((List Int))) :=
  (impl_TreeOk x1426).bind fun (v1932 : Bool) => cond (!v1932) (some ([] : List Int)) ((impl_RootOf x1426).bind fun (v1935 : Int) => (mk 0 (((List.length x1426 : Nat) : Int))).bind fun (v1936 : Nat) => (impl_appendFlat x1426 v1935 (List.replicate v1936 (0 : Int))).bind fun (v1938 : List Int) => some v1938)

@[irreducible] def impl_FlatOrder (x1426 : List Int) : Option ((List Int)) :=
  impl_FlatOrder_n1 x1426

def impl_OrderOk_n1 (x1946 : List Int) (x1947 : Int) : Option (Unit ⊕ Bool) :=
  cond (decide (x1947 < 1)) (some (Sum.inr false)) (cond (decide (x1947 > 8)) (some (Sum.inr false)) (cond ((((List.length x1946 : Nat) : Int)) != x1947) (some (Sum.inr false)) (some (Sum.inl ()))))

def impl_OrderOk_n2 (x1946 : List Int) : Option (Int) :=
  some (((List.length x1946 : Nat) : Int))

def impl_OrderOk_n3 (x1947 : Int) (x1946 : List Int) (x1957 : Int) (x1981 : Int) (x1982 : List Bool) : Option ((Int × (List Bool)) ⊕ Bool ⊕ Unit) :=
  cond (decide (x1981 < x1957)) ((idx x1946 x1981).bind fun (v1996 : Int) => cond (decide (v1996 < 1)) (some (Sum.inr (Sum.inl false))) (cond (decide (v1996 > x1947)) (some (Sum.inr (Sum.inl false))) ((same (List.length x1982) 9).bind fun (v1999 : Unit) => (inb v1996 9).bind fun (v2000 : Nat) => (x1982[v2000]?).bind fun (v2001 : Bool) => cond v2001 (some (Sum.inr (Sum.inl false))) ((same (List.length x1982) 9).bind fun (v2002 : Unit) => (inb v1996 9).bind fun (v2003 : Nat) => some (Sum.inl ((IntKind.wrap .i64 (x1981 + 1)), (x1982.set v2003 true))))))) (some (Sum.inr (Sum.inr ())))

def impl_OrderOk_n4 (x1947 : Int) (x1946 : List Int) (x1957 : Int) : Option (Bool ⊕ Unit) :=
  nloop (fun (s : Int × (List Bool)) => ((impl_OrderOk_n3 x1947 x1946 x1957 s.1 s.2).map (Sum.elim (fun (t : Int × (List Bool)) => Sum.inl (t.1, t.2)) (Sum.elim (fun (t : Bool) => Sum.inr (Sum.inl t)) (fun (t : Unit) => Sum.inr (Sum.inr t)))) : Option ((Int × (List Bool)) ⊕ (Bool ⊕ Unit)))) LL (0, (List.replicate 9 false))

def impl_OrderOk_n5 (x1947 : Int) (x1946 : List Int) (x1957 : Int) : Option (Unit ⊕ Bool) :=
  (impl_OrderOk_n4 x1947 x1946 x1957).map (Sum.elim (fun (t : Bool) => (Sum.inr t)) (fun (t : Unit) => (Sum.inl ())))

def impl_OrderOk_n6 (x1946 : List Int) (x1947 : Int) : Option (Unit ⊕ Bool) :=
  (impl_OrderOk_n2 x1946).bind (fun (t : Int) => impl_OrderOk_n5 x1947 x1946 t)

def impl_OrderOk_n7 : Option (Bool) :=
  some true

def impl_OrderOk_n8 (x1946 : List Int) (x1947 : Int) : Option (Bool) :=
  (impl_OrderOk_n6 x1946 x1947).bind (Sum.elim (fun (t : Unit) => impl_OrderOk_n7) (fun e => some ((fun (t : Bool) => t) e)))

def impl_OrderOk_n9 (x1946 : List Int) (x1947 : Int) : Option (Bool) :=
  (impl_OrderOk_n1 x1946 x1947).bind (Sum.elim (fun (t : Unit) => impl_OrderOk_n8 x1946 x1947) (fun e => some ((fun (t : Bool) => t) e)))

@[irreducible] def impl_OrderOk (x1946 : List Int) (x1947 : Int) : Option (Bool) :=
  impl_OrderOk_n9 x1946 x1947

def impl_placesIn_n1 (x2014 : List Int) : Option (((List Int))) :=
  (mk (IntKind.wrap .i64 ((((List.length x2014 : Nat) : Int)) + 1)) (IntKind.wrap .i64 ((((List.length x2014 : Nat) : Int)) + 1))).bind fun (v2017 : Nat) => some (List.replicate v2017 (0 : Int))

def impl_placesIn_n2 (x2014 : List Int) : Option (Int) :=
  some (((List.length x2014 : Nat) : Int))

def impl_placesIn_n3 (x2014 : List Int) (x2019 : Int) (x2033 : Int) (x2034 : List Int) : Option ((Int × (List Int)) ⊕ ((List Int))) :=
  cond (decide (x2033 < x2019)) ((idx x2014 x2033).bind fun (v2043 : Int) => (inb v2043 (List.length x2034)).bind fun (v2045 : Nat) => some (Sum.inl ((IntKind.wrap .i64 (x2033 + 1)), (x2034.set v2045 (IntKind.wrap .i64 (x2033 + 1)))))) (some (Sum.inr x2034))

def impl_placesIn_n4 (x2014 : List Int) (x2019 : Int) (x2018 : List Int) : Option (((List Int))) :=
  nloop (fun (s : Int × (List Int)) => ((impl_placesIn_n3 x2014 x2019 s.1 s.2).map (Sum.elim (fun (t : Int × (List Int)) => Sum.inl (t.1, t.2)) (fun (t : (List Int)) => Sum.inr t)) : Option ((Int × (List Int)) ⊕ (((List Int)))))) LL (0, x2018)

def impl_placesIn_n5 (x2014 : List Int) (x2019 : Int) (x2018 : List Int) : Option (((List Int))) :=
  (impl_placesIn_n4 x2014 x2019 x2018).map (fun (t : (List Int)) => t)

def impl_placesIn_n6 (x2014 : List Int) (x2018 : List Int) : Option (((List Int))) :=
  (impl_placesIn_n2 x2014).bind (fun (t : Int) => impl_placesIn_n5 x2014 t x2018)

def impl_placesIn_n7 (x2034 : List Int) : Option (((List Int))) :=
  some x2034

def impl_placesIn_n8 (x2014 : List Int) (x2018 : List Int) : Option (((List Int))) :=
  (impl_placesIn_n6 x2014 x2018).bind (fun (t : (List Int)) => impl_placesIn_n7 t)

def impl_placesIn_n9 (x2014 : List Int) : Option (((List Int))) :=
  (impl_placesIn_n1 x2014).bind (fun (t : (List Int)) => impl_placesIn_n8 x2014 t)

@[irreducible] def impl_placesIn (x2014 : List Int) : Option ((List Int)) :=
  impl_placesIn_n9 x2014

def impl_PutInOrder_1_n1 (x2068 : Int) (x2069 : List Int) : Option (Int) :=
  (inb x2068 (List.length x2069)).bind fun (v2072 : Nat) => (x2069[v2072]?).bind fun (v2073 : Int) => some v2073

@[irreducible] def impl_PutInOrder_1 (x2068 : Int) (x2069 : List Int) : Option (Int) :=
  impl_PutInOrder_1_n1 x2068 x2069

def impl_renamed_int_n1 (x2056 : List Int) : Option (((List Int))) :=
  (mk (((List.length x2056 : Nat) : Int)) (((List.length x2056 : Nat) : Int))).bind fun (v2059 : Nat) => some (List.replicate v2059 (0 : Int))

def impl_renamed_int_n2 (x2056 : List Int) : Option (Int) :=
  some (((List.length x2056 : Nat) : Int))

def impl_renamed_int_n3 (x2055 : List Int) (x2056 : List Int) (x2061 : Int) (x2085 : Int) (x2057 : List Int) (x2086 : List Int) : Option ((Int × (List Int)) ⊕ ((List Int))) :=
  cond (decide (x2085 < x2061)) ((idx x2056 x2085).bind fun (v2097 : Int) => (idx x2055 (IntKind.wrap .i64 (v2097 - 1))).bind fun (v2099 : Int) => (impl_PutInOrder_1 v2099 x2057).bind fun (v2100 : Int) => (inb x2085 (List.length x2086)).bind fun (v2101 : Nat) => some (Sum.inl ((IntKind.wrap .i64 (x2085 + 1)), (x2086.set v2101 v2100)))) (some (Sum.inr x2086))

def impl_renamed_int_n4 (x2055 : List Int) (x2056 : List Int) (x2061 : Int) (x2057 : List Int) (x2060 : List Int) : Option (((List Int))) :=
  nloop (fun (s : Int × (List Int)) => ((impl_renamed_int_n3 x2055 x2056 x2061 s.1 x2057 s.2).map (Sum.elim (fun (t : Int × (List Int)) => Sum.inl (t.1, t.2)) (fun (t : (List Int)) => Sum.inr t)) : Option ((Int × (List Int)) ⊕ (((List Int)))))) LL (0, x2060)

def impl_renamed_int_n5 (x2055 : List Int) (x2056 : List Int) (x2061 : Int) (x2057 : List Int) (x2060 : List Int) : Option (((List Int))) :=
  (impl_renamed_int_n4 x2055 x2056 x2061 x2057 x2060).map (fun (t : (List Int)) => t)

def impl_renamed_int_n6 (x2055 : List Int) (x2056 : List Int) (x2057 : List Int) (x2060 : List Int) : Option (((List Int))) :=
  (impl_renamed_int_n2 x2056).bind (fun (t : Int) => impl_renamed_int_n5 x2055 x2056 t x2057 x2060)

def impl_renamed_int_n7 (x2086 : List Int) : Option (((List Int))) :=
  some x2086

def impl_renamed_int_n8 (x2055 : List Int) (x2056 : List Int) (x2057 : List Int) (x2060 : List Int) : Option (((List Int))) :=
  (impl_renamed_int_n6 x2055 x2056 x2057 x2060).bind (fun (t : (List Int)) => impl_renamed_int_n7 t)

def impl_renamed_int_n9 (x2055 : List Int) (x2056 : List Int) (x2057 : List Int) : Option (((List Int))) :=
  (impl_renamed_int_n1 x2056).bind (fun (t : (List Int)) => impl_renamed_int_n8 x2055 x2056 x2057 t)

@[irreducible] def impl_renamed_int (x2055 : List Int) (x2056 : List Int) (x2057 : List Int) : Option ((List Int)) :=
  impl_renamed_int_n9 x2055 x2056 x2057

def impl_PutInOrder_n1 (x1941 : List Int) (x1942 : List Int) : Option ((Bool × (List Int))) :=
  (impl_TreeOk x1941).bind fun (v2105 : Bool) => cond (!v2105) (some (false, ([] : List Int))) ((impl_OrderOk x1942 (((List.length x1941 : Nat) : Int))).bind fun (v2108 : Bool) => cond (!v2108) (some (false, ([] : List Int))) ((impl_placesIn x1942).bind fun (v2110 : List Int) => (impl_renamed_int x1941 x1942 v2110).bind fun (v2111 : List Int) => some (true, v2111)))

@[irreducible] def impl_PutInOrder (x1941 : List Int) (x1942 : List Int) : Option (Bool × (List Int)) :=
  impl_PutInOrder_n1 x1941 x1942

def impl_MadeFlat_n1 (x1425 : List Int) : Option (((List Int))) :=
  (impl_FlatOrder x1425).bind fun (v2121 : List Int) => (impl_PutInOrder x1425 v2121).bind fun (v2122 : Bool × (List Int)) => some (v2122.2)

@[irreducible] def impl_MadeFlat (x1425 : List Int) : Option ((List Int)) :=
  impl_MadeFlat_n1 x1425

def spec_RootOf_n1 : Option (Unit) :=
  some ()

def spec_RootOf_n2 : Option (Unit) :=
  some ()

def spec_RootOf_n3 (x2136 : List Int) (x2153 : Int) : Option (Int ⊕ Int ⊕ Unit) :=
  cond (decide (x2153 < (((List.length x2136 : Nat) : Int)))) ((spec_TreeOk x2136).bind fun (v2165 : Bool) => cond v2165 ((idx x2136 x2153).bind fun (v2166 : Int) => cond (v2166 == 0) (some (Sum.inr (Sum.inl (IntKind.wrap .i64 (x2153 + 1))))) (some (Sum.inl (IntKind.wrap .i64 (x2153 + 1))))) (some (Sum.inr (Sum.inr ())))) (some (Sum.inr (Sum.inr ())))

def spec_RootOf_n4 (x2136 : List Int) : Option (Int ⊕ Unit) :=
  nloop (fun (s : Int) => ((spec_RootOf_n3 x2136 s).map (Sum.elim (fun (t : Int) => Sum.inl t) (Sum.elim (fun (t : Int) => Sum.inr (Sum.inl t)) (fun (t : Unit) => Sum.inr (Sum.inr t)))) : Option ((Int) ⊕ (Int ⊕ Unit)))) LL 0

def spec_RootOf_n5 (x2136 : List Int) : Option (Unit ⊕ Int) :=
  (spec_RootOf_n4 x2136).map (Sum.elim (fun (t : Int) => (Sum.inr t)) (fun (t : Unit) => (Sum.inl ())))

def spec_RootOf_n6 (x2136 : List Int) : Option (Unit ⊕ Int) :=
  (spec_RootOf_n2).bind (fun (t : Unit) => spec_RootOf_n5 x2136)

def spec_RootOf_n7 : Option (Int) :=
  some (-1)

def spec_RootOf_n8 (x2136 : List Int) : Option (Int) :=
  (spec_RootOf_n6 x2136).bind (Sum.elim (fun (t : Unit) => spec_RootOf_n7) (fun e => some ((fun (t : Int) => t) e)))

def spec_RootOf_n9 (x2136 : List Int) : Option (Int) :=
  (spec_RootOf_n1).bind (fun (t : Unit) => spec_RootOf_n8 x2136)

@[irreducible] def spec_RootOf (x2136 : List Int) : Option (Int) :=
  spec_RootOf_n9 x2136

def spec_l8Walk_n1 (R0 : (List Int) → Int → Option ((List Int))) : Option (Unit) :=
  some ()

def spec_l8Walk_n2 (R0 : (List Int) → Int → Option ((List Int))) : Option (Unit) :=
  some ()

def spec_l8Walk_n3 (R0 : (List Int) → Int → Option ((List Int))) (x2172 : List Int) (x2173 : Int) (x2248 : Int) (x2249 : List Int) : Option ((Int × (List Int)) ⊕ ((List Int))) :=
  cond (decide (x2248 < x2173)) ((idx x2172 (IntKind.wrap .i64 (x2248 - 1))).bind fun (v2261 : Int) => cond (v2261 == x2173) ((R0 x2172 x2248).bind fun (v2263 : List Int) => (room ((List.length x2249) + List.length v2263)).bind fun (v2265 : Unit) => some (Sum.inl ((IntKind.wrap .i64 (x2248 + 1)), (x2249 ++ v2263)))) (some (Sum.inl ((IntKind.wrap .i64 (x2248 + 1)), x2249)))) (some (Sum.inr x2249))

def spec_l8Walk_n4 (R0 : (List Int) → Int → Option ((List Int))) (x2172 : List Int) (x2173 : Int) : Option (((List Int))) :=
  nloop (fun (s : Int × (List Int)) => ((spec_l8Walk_n3 R0 x2172 x2173 s.1 s.2).map (Sum.elim (fun (t : Int × (List Int)) => Sum.inl (t.1, t.2)) (fun (t : (List Int)) => Sum.inr t)) : Option ((Int × (List Int)) ⊕ (((List Int)))))) LL (1, ([] : List Int))

def spec_l8Walk_n5 (R0 : (List Int) → Int → Option ((List Int))) (x2172 : List Int) (x2173 : Int) : Option (((List Int))) :=
  (spec_l8Walk_n4 R0 x2172 x2173).map (fun (t : (List Int)) => t)

def spec_l8Walk_n6 (R0 : (List Int) → Int → Option ((List Int))) (x2172 : List Int) (x2173 : Int) : Option (((List Int))) :=
  (spec_l8Walk_n2 R0).bind (fun (t : Unit) => spec_l8Walk_n5 R0 x2172 x2173)

def spec_l8Walk_n7 (R0 : (List Int) → Int → Option ((List Int))) (x2173 : Int) (x2249 : List Int) : Option (((List Int))) :=
  (room ((List.length x2249) + List.length ([x2173]))).bind fun (v2273 : Unit) => some (x2249 ++ ([x2173]))

def spec_l8Walk_n8 (R0 : (List Int) → Int → Option ((List Int))) (x2173 : Int) : Option (Int) :=
  some (IntKind.wrap .i64 (x2173 + 1))

def spec_l8Walk_n9 (R0 : (List Int) → Int → Option ((List Int))) (x2172 : List Int) (x2173 : Int) (x2300 : Int) (x2301 : List Int) : Option ((Int × (List Int)) ⊕ ((List Int))) :=
  cond (decide (x2300 ≤ (((List.length x2172 : Nat) : Int)))) ((idx x2172 (IntKind.wrap .i64 (x2300 - 1))).bind fun (v2316 : Int) => cond (v2316 == x2173) ((R0 x2172 x2300).bind fun (v2318 : List Int) => (room ((List.length x2301) + List.length v2318)).bind fun (v2320 : Unit) => some (Sum.inl ((IntKind.wrap .i64 (x2300 + 1)), (x2301 ++ v2318)))) (some (Sum.inl ((IntKind.wrap .i64 (x2300 + 1)), x2301)))) (some (Sum.inr x2301))

def spec_l8Walk_n10 (R0 : (List Int) → Int → Option ((List Int))) (x2172 : List Int) (x2173 : Int) (x2275 : Int) (x2274 : List Int) : Option (((List Int))) :=
  nloop (fun (s : Int × (List Int)) => ((spec_l8Walk_n9 R0 x2172 x2173 s.1 s.2).map (Sum.elim (fun (t : Int × (List Int)) => Sum.inl (t.1, t.2)) (fun (t : (List Int)) => Sum.inr t)) : Option ((Int × (List Int)) ⊕ (((List Int)))))) LL (x2275, x2274)

def spec_l8Walk_n11 (R0 : (List Int) → Int → Option ((List Int))) (x2172 : List Int) (x2173 : Int) (x2275 : Int) (x2274 : List Int) : Option (((List Int))) :=
  (spec_l8Walk_n10 R0 x2172 x2173 x2275 x2274).map (fun (t : (List Int)) => t)

def spec_l8Walk_n12 (R0 : (List Int) → Int → Option ((List Int))) (x2172 : List Int) (x2173 : Int) (x2274 : List Int) : Option (((List Int))) :=
  (spec_l8Walk_n8 R0 x2173).bind (fun (t : Int) => spec_l8Walk_n11 R0 x2172 x2173 t x2274)

def spec_l8Walk_n13 (R0 : (List Int) → Int → Option ((List Int))) (x2301 : List Int) : Option (((List Int))) :=
  some x2301

def spec_l8Walk_n14 (R0 : (List Int) → Int → Option ((List Int))) (x2172 : List Int) (x2173 : Int) (x2274 : List Int) : Option (((List Int))) :=
  (spec_l8Walk_n12 R0 x2172 x2173 x2274).bind (fun (t : (List Int)) => spec_l8Walk_n13 R0 t)

def spec_l8Walk_n15 (R0 : (List Int) → Int → Option ((List Int))) (x2172 : List Int) (x2173 : Int) (x2249 : List Int) : Option (((List Int))) :=
  (spec_l8Walk_n7 R0 x2173 x2249).bind (fun (t : (List Int)) => spec_l8Walk_n14 R0 x2172 x2173 t)

def spec_l8Walk_n16 (R0 : (List Int) → Int → Option ((List Int))) (x2172 : List Int) (x2173 : Int) : Option (((List Int))) :=
  (spec_l8Walk_n6 R0 x2172 x2173).bind (fun (t : (List Int)) => spec_l8Walk_n15 R0 x2172 x2173 t)

def spec_l8Walk_n17 (R0 : (List Int) → Int → Option ((List Int))) (x2172 : List Int) (x2173 : Int) : Option (((List Int))) :=
  (spec_l8Walk_n1 R0).bind (fun (t : Unit) => spec_l8Walk_n16 R0 x2172 x2173)

def spec_l8Walk_one (R0 : (List Int) → Int → Option ((List Int))) (x2172 : List Int) (x2173 : Int) : Option ((List Int)) :=
  spec_l8Walk_n17 R0 x2172 x2173

def spec_l8Walk_knot : Nat → ((List Int) → Int → Option ((List Int)))
  | 0 => (fun _ _ => none)
  | n + 1 => (fun y0 y1 => spec_l8Walk_one (spec_l8Walk_knot n) y0 y1)

def spec_l8Walk_fuel (n : Nat) : (List Int) → Int → Option ((List Int)) := (spec_l8Walk_knot n)

@[irreducible] def spec_l8Walk (x2172 : List Int) (x2173 : Int) : Option ((List Int)) := spec_l8Walk_fuel RR x2172 x2173

def spec_FlatOrder_n1 (x2131 : List Int) : Option (((List Int))) :=
  (spec_TreeOk x2131).bind fun (v2327 : Bool) => cond (!v2327) (some ([] : List Int)) ((spec_RootOf x2131).bind fun (v2329 : Int) => (spec_l8Walk x2131 v2329).bind fun (v2330 : List Int) => some v2330)

@[irreducible] def spec_FlatOrder (x2131 : List Int) : Option ((List Int)) :=
  spec_FlatOrder_n1 x2131

def spec_MadeFlat_n1 (x2130 : List Int) : Option (((List Int))) :=
  (spec_FlatOrder x2130).bind fun (v2340 : List Int) => (spec_PutInOrder x2130 v2340).bind fun (v2341 : Bool × (List Int)) => some (v2341.2)

@[irreducible] def spec_MadeFlat (x2130 : List Int) : Option ((List Int)) :=
  spec_MadeFlat_n1 x2130

def laws_sameInts_n1 (x2345 : List Int) (x2346 : List Int) : Option (Unit ⊕ Bool) :=
  cond ((((List.length x2345 : Nat) : Int)) != (((List.length x2346 : Nat) : Int))) (some (Sum.inr false)) (some (Sum.inl ()))

def laws_sameInts_n2 : Option (Unit) :=
  some ()

def laws_sameInts_n3 (x2345 : List Int) (x2346 : List Int) (x2363 : Int) : Option (Int ⊕ Bool ⊕ Unit) :=
  cond (decide (x2363 < (((List.length x2345 : Nat) : Int)))) ((idx x2345 x2363).bind fun (v2373 : Int) => (idx x2346 x2363).bind fun (v2374 : Int) => cond (v2373 != v2374) (some (Sum.inr (Sum.inl false))) (some (Sum.inl (IntKind.wrap .i64 (x2363 + 1))))) (some (Sum.inr (Sum.inr ())))

def laws_sameInts_n4 (x2345 : List Int) (x2346 : List Int) : Option (Bool ⊕ Unit) :=
  nloop (fun (s : Int) => ((laws_sameInts_n3 x2345 x2346 s).map (Sum.elim (fun (t : Int) => Sum.inl t) (Sum.elim (fun (t : Bool) => Sum.inr (Sum.inl t)) (fun (t : Unit) => Sum.inr (Sum.inr t)))) : Option ((Int) ⊕ (Bool ⊕ Unit)))) LL 0

def laws_sameInts_n5 (x2345 : List Int) (x2346 : List Int) : Option (Unit ⊕ Bool) :=
  (laws_sameInts_n4 x2345 x2346).map (Sum.elim (fun (t : Bool) => (Sum.inr t)) (fun (t : Unit) => (Sum.inl ())))

def laws_sameInts_n6 (x2345 : List Int) (x2346 : List Int) : Option (Unit ⊕ Bool) :=
  (laws_sameInts_n2).bind (fun (t : Unit) => laws_sameInts_n5 x2345 x2346)

def laws_sameInts_n7 : Option (Bool) :=
  some true

def laws_sameInts_n8 (x2345 : List Int) (x2346 : List Int) : Option (Bool) :=
  (laws_sameInts_n6 x2345 x2346).bind (Sum.elim (fun (t : Unit) => laws_sameInts_n7) (fun e => some ((fun (t : Bool) => t) e)))

def laws_sameInts_n9 (x2345 : List Int) (x2346 : List Int) : Option (Bool) :=
  (laws_sameInts_n1 x2345 x2346).bind (Sum.elim (fun (t : Unit) => laws_sameInts_n8 x2345 x2346) (fun e => some ((fun (t : Bool) => t) e)))

@[irreducible] def laws_sameInts (x2345 : List Int) (x2346 : List Int) : Option (Bool) :=
  laws_sameInts_n9 x2345 x2346

def laws_alive_n1 : Option (Bool) :=
  (impl_TreeOk ([0])).bind fun (v2397 : Bool) => cond v2397 ((impl_TreeOk ([1])).bind fun (v2399 : Bool) => some (!v2399)) (some false)

@[irreducible] def laws_alive : Option (Bool) :=
  laws_alive_n1

def impl_fillYields_n1 (R0 : (List Int) → Int → (List Int) → Option (Int × (List Int))) (x2429 : Int) : Option (Int) :=
  (impl_only x2429).bind fun (v2449 : Int) => some v2449

def impl_fillYields_n2 (R0 : (List Int) → Int → (List Int) → Option (Int × (List Int))) (x2428 : List Int) (x2429 : Int) : Option ((Int × (List Int))) :=
  (impl_dependents x2428 x2429).bind fun (v2450 : Int) => (impl_wordSet_list v2450).bind fun (v2451 : List Int) => some ((((List.length v2451 : Nat) : Int)), v2451)

def impl_fillYields_n3 (R0 : (List Int) → Int → (List Int) → Option (Int × (List Int))) (x2428 : List Int) (x2470 : Int) (x2452 : Int) (x2471 : Int) (x2472 : List Int) (x2451 : List Int) : Option ((Int × Int × (List Int)) ⊕ (Int × (List Int))) :=
  cond (decide (x2471 < x2452)) ((inb x2471 (List.length x2451)).bind fun (v2483 : Nat) => (x2451[v2483]?).bind fun (v2484 : Int) => (R0 x2428 v2484 x2472).bind fun (v2485 : Int × (List Int)) => some (Sum.inl ((ior .u64 x2470 (v2485.1)), (IntKind.wrap .i64 (x2471 + 1)), (v2485.2)))) (some (Sum.inr (x2470, x2472)))

def impl_fillYields_n4 (R0 : (List Int) → Int → (List Int) → Option (Int × (List Int))) (x2428 : List Int) (x2449 : Int) (x2452 : Int) (x2430 : List Int) (x2451 : List Int) : Option ((Int × (List Int))) :=
  nloop (fun (s : Int × Int × (List Int)) => ((impl_fillYields_n3 R0 x2428 s.1 x2452 s.2.1 s.2.2 x2451).map (Sum.elim (fun (t : Int × Int × (List Int)) => Sum.inl (t.1, t.2.1, t.2.2)) (fun (t : Int × (List Int)) => Sum.inr t)) : Option ((Int × Int × (List Int)) ⊕ ((Int × (List Int)))))) LL (x2449, 0, x2430)

def impl_fillYields_n5 (R0 : (List Int) → Int → (List Int) → Option (Int × (List Int))) (x2428 : List Int) (x2449 : Int) (x2452 : Int) (x2430 : List Int) (x2451 : List Int) : Option ((Int × (List Int))) :=
  (impl_fillYields_n4 R0 x2428 x2449 x2452 x2430 x2451).map (fun (t : Int × (List Int)) => (t.1, t.2))

def impl_fillYields_n6 (R0 : (List Int) → Int → (List Int) → Option (Int × (List Int))) (x2428 : List Int) (x2429 : Int) (x2449 : Int) (x2430 : List Int) : Option ((Int × (List Int))) :=
  (impl_fillYields_n2 R0 x2428 x2429).bind (fun (t : Int × (List Int)) => impl_fillYields_n5 R0 x2428 x2449 t.1 x2430 t.2)

def impl_fillYields_n7 (R0 : (List Int) → Int → (List Int) → Option (Int × (List Int))) (x2429 : Int) (x2470 : Int) (x2472 : List Int) : Option ((Int × (List Int))) :=
  (inb (IntKind.wrap .i64 (x2429 - 1)) (List.length x2472)).bind fun (v2497 : Nat) => some (x2470, (x2472.set v2497 x2470))

def impl_fillYields_n8 (R0 : (List Int) → Int → (List Int) → Option (Int × (List Int))) (x2428 : List Int) (x2429 : Int) (x2449 : Int) (x2430 : List Int) : Option ((Int × (List Int))) :=
  (impl_fillYields_n6 R0 x2428 x2429 x2449 x2430).bind (fun (t : Int × (List Int)) => impl_fillYields_n7 R0 x2429 t.1 t.2)

def impl_fillYields_n9 (R0 : (List Int) → Int → (List Int) → Option (Int × (List Int))) (x2428 : List Int) (x2429 : Int) (x2430 : List Int) : Option ((Int × (List Int))) :=
  (impl_fillYields_n1 R0 x2429).bind (fun (t : Int) => impl_fillYields_n8 R0 x2428 x2429 t x2430)

def impl_fillYields_one (R0 : (List Int) → Int → (List Int) → Option (Int × (List Int))) (x2428 : List Int) (x2429 : Int) (x2430 : List Int) : Option (Int × (List Int)) :=
  impl_fillYields_n9 R0 x2428 x2429 x2430

def impl_fillYields_knot : Nat → ((List Int) → Int → (List Int) → Option (Int × (List Int)))
  | 0 => (fun _ _ _ => none)
  | n + 1 => (fun y0 y1 y2 => impl_fillYields_one (impl_fillYields_knot n) y0 y1 y2)

def impl_fillYields_fuel (n : Nat) : (List Int) → Int → (List Int) → Option (Int × (List Int)) := (impl_fillYields_knot n)

@[irreducible] def impl_fillYields (x2428 : List Int) (x2429 : Int) (x2430 : List Int) : Option (Int × (List Int)) := impl_fillYields_fuel RR x2428 x2429 x2430

def impl_yieldsOf_n1 (x2420 : List Int) : Option (((List Int))) :=
  (mk (((List.length x2420 : Nat) : Int)) (((List.length x2420 : Nat) : Int))).bind fun (v2510 : Nat) => (impl_RootOf x2420).bind fun (v2512 : Int) => (impl_fillYields x2420 v2512 (List.replicate v2510 (0 : Int))).bind fun (v2513 : Int × (List Int)) => some (v2513.2)

@[irreducible] def impl_yieldsOf (x2420 : List Int) : Option ((List Int)) :=
  impl_yieldsOf_n1 x2420

def impl_wordSet_isRow_n1 (x2523 : Int) : Option (Bool) :=
  some ((iand .u64 x2523 (IntKind.wrap .u64 (x2523 + (iand .u64 x2523 (IntKind.wrap .u64 (0 - x2523)))))) == 0)

@[irreducible] def impl_wordSet_isRow (x2523 : Int) : Option (Bool) :=
  impl_wordSet_isRow_n1 x2523

def impl_FlatOk_n1 (x2417 : List Int) : Option (Unit ⊕ Bool) :=
  (impl_TreeOk x2417).bind fun (v2418 : Bool) => cond (!v2418) (some (Sum.inr false)) (some (Sum.inl ()))

def impl_FlatOk_n2 (x2417 : List Int) : Option ((Int × (List Int))) :=
  (impl_yieldsOf x2417).bind fun (v2516 : List Int) => some ((((List.length v2516 : Nat) : Int)), v2516)

def impl_FlatOk_n3 (x2517 : Int) (x2544 : Int) (x2516 : List Int) : Option (Int ⊕ Bool ⊕ Unit) :=
  cond (decide (x2544 < x2517)) ((inb x2544 (List.length x2516)).bind fun (v2553 : Nat) => (x2516[v2553]?).bind fun (v2554 : Int) => (impl_wordSet_isRow v2554).bind fun (v2555 : Bool) => cond (!v2555) (some (Sum.inr (Sum.inl false))) (some (Sum.inl (IntKind.wrap .i64 (x2544 + 1))))) (some (Sum.inr (Sum.inr ())))

def impl_FlatOk_n4 (x2517 : Int) (x2516 : List Int) : Option (Bool ⊕ Unit) :=
  nloop (fun (s : Int) => ((impl_FlatOk_n3 x2517 s x2516).map (Sum.elim (fun (t : Int) => Sum.inl t) (Sum.elim (fun (t : Bool) => Sum.inr (Sum.inl t)) (fun (t : Unit) => Sum.inr (Sum.inr t)))) : Option ((Int) ⊕ (Bool ⊕ Unit)))) LL 0

def impl_FlatOk_n5 (x2517 : Int) (x2516 : List Int) : Option (Unit ⊕ Bool) :=
  (impl_FlatOk_n4 x2517 x2516).map (Sum.elim (fun (t : Bool) => (Sum.inr t)) (fun (t : Unit) => (Sum.inl ())))

def impl_FlatOk_n6 (x2417 : List Int) : Option (Unit ⊕ Bool) :=
  (impl_FlatOk_n2 x2417).bind (fun (t : Int × (List Int)) => impl_FlatOk_n5 t.1 t.2)

def impl_FlatOk_n7 : Option (Bool) :=
  some true

def impl_FlatOk_n8 (x2417 : List Int) : Option (Bool) :=
  (impl_FlatOk_n6 x2417).bind (Sum.elim (fun (t : Unit) => impl_FlatOk_n7) (fun e => some ((fun (t : Bool) => t) e)))

def impl_FlatOk_n9 (x2417 : List Int) : Option (Bool) :=
  (impl_FlatOk_n1 x2417).bind (Sum.elim (fun (t : Unit) => impl_FlatOk_n8 x2417) (fun e => some ((fun (t : Bool) => t) e)))

@[irreducible] def impl_FlatOk (x2417 : List Int) : Option (Bool) :=
  impl_FlatOk_n9 x2417

def impl_newStackMachine_n1 (x2564 : Int) : Option (((List Int))) :=
  (mk x2564 x2564).bind fun (v2567 : Nat) => some (List.replicate v2567 (0 : Int))

@[irreducible] def impl_newStackMachine (x2564 : Int) : Option ((List Int)) :=
  impl_newStackMachine_n1 x2564

@[irreducible] def impl_stackMoves : Option (Unit) :=
  some ()

def impl_stackMachine_ruleFor_n1 : Option (Unit) :=
  some ()

@[irreducible] def impl_stackMachine_ruleFor (x2576 : List Int) (x2577 : Int) (x2578 : Int) (x2579 : List Int) : Option (Unit) :=
  impl_stackMachine_ruleFor_n1

def impl_stackMachine_upperTwo_n1 (x2607 : List Int) : Option ((Int × Int × Bool)) :=
  cond (decide ((((List.length x2607 : Nat) : Int)) < 2)) (some (0, 0, false)) ((inb (IntKind.wrap .i64 ((((List.length x2607 : Nat) : Int)) - 2)) (List.length x2607)).bind fun (v2622 : Nat) => (x2607[v2622]?).bind fun (v2623 : Int) => (inb (IntKind.wrap .i64 ((((List.length x2607 : Nat) : Int)) - 1)) (List.length x2607)).bind fun (v2625 : Nat) => (x2607[v2625]?).bind fun (v2626 : Int) => some (v2623, v2626, true))

@[irreducible] def impl_stackMachine_upperTwo (x2604 : Int) (x2605 : Int) (x2606 : List Int) (x2607 : List Int) : Option (Int × Int × Bool) :=
  impl_stackMachine_upperTwo_n1 x2607

def impl_stackMachine_ruleFor_1_n1 (x2638 : Int) (x2639 : Int) (x2640 : List Int) (x2643 : List Int) : Option (Bool) :=
  (idx x2640 (IntKind.wrap .i64 (x2638 - 1))).bind fun (v2652 : Int) => cond (v2652 == x2639) ((impl_dependents x2640 x2638).bind fun (v2654 : Int) => (impl_dependents x2643 x2638).bind fun (v2655 : Int) => some (v2654 == v2655)) (some false)

@[irreducible] def impl_stackMachine_ruleFor_1 (x2638 : Int) (x2639 : Int) (x2640 : List Int) (x2641 : Int) (x2642 : Int) (x2643 : List Int) (x2644 : List Int) : Option (Bool) :=
  impl_stackMachine_ruleFor_1_n1 x2638 x2639 x2640 x2643

def impl_stackMachine_ruleFor_2_n1 (x2902 : Int) (x2903 : Int) (x2904 : List Int) (x2905 : List Int) (x2906 : List Int) : Option (Int) :=
  (impl_stackMachine_upperTwo x2902 x2903 x2905 x2906).bind fun (v2925 : Int × Int × Bool) => cond (v2925.2.2) ((impl_stackMachine_ruleFor_1 (v2925.1) (v2925.2.1) x2904 x2902 x2903 x2905 x2906).bind fun (v2929 : Bool) => cond v2929 (some 76) (cond (v2925.2.2) ((impl_stackMachine_ruleFor_1 (v2925.2.1) (v2925.1) x2904 x2902 x2903 x2905 x2906).bind fun (v2930 : Bool) => cond v2930 (some 82) (some 83)) (some 83))) (cond (v2925.2.2) ((impl_stackMachine_ruleFor_1 (v2925.2.1) (v2925.1) x2904 x2902 x2903 x2905 x2906).bind fun (v2931 : Bool) => cond v2931 (some 82) (some 83)) (some 83))

@[irreducible] def impl_stackMachine_ruleFor_2 (x2902 : Int) (x2903 : Int) (x2904 : List Int) (x2905 : List Int) (x2906 : List Int) : Option (Int) :=
  impl_stackMachine_ruleFor_2_n1 x2902 x2903 x2904 x2905 x2906

def impl_stackMachine_putNext_n1 (x2681 : Int) (x2682 : Int) (x2683 : List Int) (x2684 : List Int) : Option ((Bool × Int × Int × (List Int))) :=
  cond (x2681 == (((List.length x2683 : Nat) : Int))) (some (false, x2681, x2682, x2684)) ((room ((List.length x2684) + List.length ([(IntKind.wrap .i64 (x2681 + 1))]))).bind fun (v2720 : Unit) => some (true, (IntKind.wrap .i64 (x2681 + 1)), (imax x2682 (((List.length (x2684 ++ ([(IntKind.wrap .i64 (x2681 + 1))])) : Nat) : Int))), (x2684 ++ ([(IntKind.wrap .i64 (x2681 + 1))]))))

@[irreducible] def impl_stackMachine_putNext (x2681 : Int) (x2682 : Int) (x2683 : List Int) (x2684 : List Int) : Option (Bool × Int × Int × (List Int)) :=
  impl_stackMachine_putNext_n1 x2681 x2682 x2683 x2684

def impl_stackMachine_join_n1 (x2750 : Int) (x2751 : Int) (x2754 : List Int) (x2755 : List Int) : Option (((List Int) × (List Int))) :=
  (inb (IntKind.wrap .i64 (x2750 - 1)) (List.length x2754)).bind fun (v2760 : Nat) => (inc (IntKind.wrap .i64 ((((List.length x2755 : Nat) : Int)) - 2)) (List.length x2755)).bind fun (v2765 : Nat) => (room ((v2765 - 0) + List.length ([x2751]))).bind fun (v2769 : Unit) => some ((x2754.set v2760 x2751), (((x2755.drop 0).take (v2765 - 0)) ++ ([x2751])))

@[irreducible] def impl_stackMachine_join (x2750 : Int) (x2751 : Int) (x2752 : Int) (x2753 : Int) (x2754 : List Int) (x2755 : List Int) : Option ((List Int) × (List Int)) :=
  (impl_stackMachine_join_n1 x2750 x2751 x2754 x2755).map (fun (t : (List Int) × (List Int)) => (t.1, t.2))

def impl_stackMachine_takeBelow_n1 (x2738 : Int) (x2739 : Int) (x2740 : List Int) (x2741 : List Int) : Option ((Bool × (List Int) × (List Int))) :=
  (impl_stackMachine_upperTwo x2738 x2739 x2740 x2741).bind fun (v2781 : Int × Int × Bool) => cond (v2781.2.2) ((impl_stackMachine_join (v2781.1) (v2781.2.1) x2738 x2739 x2740 x2741).bind fun (v2785 : (List Int) × (List Int)) => some ((v2781.2.2), (v2785.1), (v2785.2))) (some ((v2781.2.2), x2740, x2741))

@[irreducible] def impl_stackMachine_takeBelow (x2738 : Int) (x2739 : Int) (x2740 : List Int) (x2741 : List Int) : Option (Bool × (List Int) × (List Int)) :=
  impl_stackMachine_takeBelow_n1 x2738 x2739 x2740 x2741

def impl_stackMachine_takeUpper_n1 (x2799 : Int) (x2800 : Int) (x2801 : List Int) (x2802 : List Int) : Option ((Bool × (List Int) × (List Int))) :=
  (impl_stackMachine_upperTwo x2799 x2800 x2801 x2802).bind fun (v2821 : Int × Int × Bool) => cond (v2821.2.2) ((impl_stackMachine_join (v2821.2.1) (v2821.1) x2799 x2800 x2801 x2802).bind fun (v2825 : (List Int) × (List Int)) => some ((v2821.2.2), (v2825.1), (v2825.2))) (some ((v2821.2.2), x2801, x2802))

@[irreducible] def impl_stackMachine_takeUpper (x2799 : Int) (x2800 : Int) (x2801 : List Int) (x2802 : List Int) : Option (Bool × (List Int) × (List Int)) :=
  impl_stackMachine_takeUpper_n1 x2799 x2800 x2801 x2802

def impl_MovesFor_n1 (x2415 : List Int) : Option (((List Int)) ⊕ (ByteArray × Bool)) :=
  (impl_FlatOk x2415).bind fun (v3091 : Bool) => cond (!v3091) (some (Sum.inr (ByteArray.empty, false))) ((impl_newStackMachine (((List.length x2415 : Nat) : Int))).bind fun (v3094 : List Int) => (impl_stackMoves).bind fun (v3095 : Unit) => (impl_stackMachine_ruleFor x2415 0 0 v3094).bind fun (v3096 : Unit) => some (Sum.inl v3094))

def impl_MovesFor_n2 (x2415 : List Int) : Option (Int) :=
  some (IntKind.wrap .i64 ((IntKind.wrap .i64 (2 * (((List.length x2415 : Nat) : Int)))) - 1))

def impl_MovesFor_n3 (x3099 : Int) (x3171 : Int) (x3172 : Int) (x3173 : Int) (x3174 : List Int) (x3175 : List Int) (x3176 : List Int) (x2415 : List Int) : Option ((Int × Int × Int × (List Int) × (List Int) × (List Int)) ⊕ ((List Int))) :=
  cond (decide (x3171 < x3099)) ((impl_stackMachine_ruleFor_2 x3172 x3173 x2415 x3175 x3176).bind fun (v3210 : Int) => cond (v3210 == 83) ((impl_stackMachine_putNext x3172 x3173 x3175 x3176).bind fun (v3212 : Bool × Int × Int × (List Int)) => (room ((List.length x3174) + List.length ([v3210]))).bind fun (v3219 : Unit) => some (Sum.inl ((IntKind.wrap .i64 (x3171 + 1)), (v3212.2.1), (v3212.2.2.1), (x3174 ++ ([v3210])), x3175, (v3212.2.2.2)))) (cond (v3210 == 76) ((impl_stackMachine_takeBelow x3172 x3173 x3175 x3176).bind fun (v3223 : Bool × (List Int) × (List Int)) => (room ((List.length x3174) + List.length ([v3210]))).bind fun (v3229 : Unit) => some (Sum.inl ((IntKind.wrap .i64 (x3171 + 1)), x3172, x3173, (x3174 ++ ([v3210])), (v3223.2.1), (v3223.2.2)))) (cond (v3210 == 82) ((impl_stackMachine_takeUpper x3172 x3173 x3175 x3176).bind fun (v3233 : Bool × (List Int) × (List Int)) => (room ((List.length x3174) + List.length ([v3210]))).bind fun (v3239 : Unit) => some (Sum.inl ((IntKind.wrap .i64 (x3171 + 1)), x3172, x3173, (x3174 ++ ([v3210])), (v3233.2.1), (v3233.2.2)))) (none)))) (some (Sum.inr x3174))

def impl_MovesFor_n4 (x3099 : Int) (x3094 : List Int) (x2415 : List Int) : Option (((List Int))) :=
  nloop (fun (s : Int × Int × Int × (List Int) × (List Int) × (List Int)) => ((impl_MovesFor_n3 x3099 s.1 s.2.1 s.2.2.1 s.2.2.2.1 s.2.2.2.2.1 s.2.2.2.2.2 x2415).map (Sum.elim (fun (t : Int × Int × Int × (List Int) × (List Int) × (List Int)) => Sum.inl (t.1, t.2.1, t.2.2.1, t.2.2.2.1, t.2.2.2.2.1, t.2.2.2.2.2)) (fun (t : (List Int)) => Sum.inr t)) : Option ((Int × Int × Int × (List Int) × (List Int) × (List Int)) ⊕ (((List Int)))))) LL (0, 0, 0, ([] : List Int), x3094, ([] : List Int))

def impl_MovesFor_n5 (x3099 : Int) (x3094 : List Int) (x2415 : List Int) : Option (((List Int))) :=
  (impl_MovesFor_n4 x3099 x3094 x2415).map (fun (t : (List Int)) => t)

def impl_MovesFor_n6 (x2415 : List Int) (x3094 : List Int) : Option (((List Int))) :=
  (impl_MovesFor_n2 x2415).bind (fun (t : Int) => impl_MovesFor_n5 t x3094 x2415)

def impl_MovesFor_n7 (x3174 : List Int) : Option ((ByteArray × Bool)) :=
  some ((bytesOf x3174), true)

def impl_MovesFor_n8 (x2415 : List Int) (x3094 : List Int) : Option ((ByteArray × Bool)) :=
  (impl_MovesFor_n6 x2415 x3094).bind (fun (t : (List Int)) => impl_MovesFor_n7 t)

def impl_MovesFor_n9 (x2415 : List Int) : Option ((ByteArray × Bool)) :=
  (impl_MovesFor_n1 x2415).bind (Sum.elim (fun (t : (List Int)) => impl_MovesFor_n8 x2415 t) (fun e => some ((fun (t : ByteArray × Bool) => t) e)))

@[irreducible] def impl_MovesFor (x2415 : List Int) : Option (ByteArray × Bool) :=
  impl_MovesFor_n9 x2415

def impl_allDone_impl_stackMachine_n1 : Option (Unit) :=
  some ()

def impl_allDone_impl_stackMachine_n2 (x3284 : ByteArray) : Option (Int) :=
  some (((ByteArray.size x3284 : Nat) : Int))

def impl_allDone_impl_stackMachine_n3 (x3284 : ByteArray) (x3513 : Int) (x3566 : Int) (x3567 : Int) (x3568 : Int) (x3569 : List Int) (x3570 : List Int) : Option ((Int × Int × Int × (List Int) × (List Int)) ⊕ (Bool × Int × Int × (List Int) × (List Int)) ⊕ (Int × Int × (List Int) × (List Int))) :=
  cond (decide (x3566 < x3513)) ((bidx x3284 x3566).bind fun (v3595 : Int) => cond (v3595 == 83) ((impl_stackMachine_putNext x3567 x3568 x3569 x3570).bind fun (v3597 : Bool × Int × Int × (List Int)) => cond (!(v3597.1)) (some (Sum.inr (Sum.inl (false, (v3597.2.1), (v3597.2.2.1), x3569, (v3597.2.2.2))))) (some (Sum.inl ((IntKind.wrap .i64 (x3566 + 1)), (v3597.2.1), (v3597.2.2.1), x3569, (v3597.2.2.2))))) (cond (v3595 == 76) ((impl_stackMachine_takeBelow x3567 x3568 x3569 x3570).bind fun (v3605 : Bool × (List Int) × (List Int)) => cond (!(v3605.1)) (some (Sum.inr (Sum.inl (false, x3567, x3568, (v3605.2.1), (v3605.2.2))))) (some (Sum.inl ((IntKind.wrap .i64 (x3566 + 1)), x3567, x3568, (v3605.2.1), (v3605.2.2))))) (cond (v3595 == 82) ((impl_stackMachine_takeUpper x3567 x3568 x3569 x3570).bind fun (v3612 : Bool × (List Int) × (List Int)) => cond (!(v3612.1)) (some (Sum.inr (Sum.inl (false, x3567, x3568, (v3612.2.1), (v3612.2.2))))) (some (Sum.inl ((IntKind.wrap .i64 (x3566 + 1)), x3567, x3568, (v3612.2.1), (v3612.2.2))))) (some (Sum.inr (Sum.inl (false, x3567, x3568, x3569, x3570))))))) (some (Sum.inr (Sum.inr (x3567, x3568, x3569, x3570))))

def impl_allDone_impl_stackMachine_n4 (x3284 : ByteArray) (x3513 : Int) (x3285 : Int) (x3286 : Int) (x3287 : List Int) : Option ((Bool × Int × Int × (List Int) × (List Int)) ⊕ (Int × Int × (List Int) × (List Int))) :=
  nloop (fun (s : Int × Int × Int × (List Int) × (List Int)) => ((impl_allDone_impl_stackMachine_n3 x3284 x3513 s.1 s.2.1 s.2.2.1 s.2.2.2.1 s.2.2.2.2).map (Sum.elim (fun (t : Int × Int × Int × (List Int) × (List Int)) => Sum.inl (t.1, t.2.1, t.2.2.1, t.2.2.2.1, t.2.2.2.2)) (Sum.elim (fun (t : Bool × Int × Int × (List Int) × (List Int)) => Sum.inr (Sum.inl t)) (fun (t : Int × Int × (List Int) × (List Int)) => Sum.inr (Sum.inr t)))) : Option ((Int × Int × Int × (List Int) × (List Int)) ⊕ ((Bool × Int × Int × (List Int) × (List Int)) ⊕ (Int × Int × (List Int) × (List Int)))))) LL (0, x3285, x3286, x3287, ([] : List Int))

def impl_allDone_impl_stackMachine_n5 (x3284 : ByteArray) (x3513 : Int) (x3285 : Int) (x3286 : Int) (x3287 : List Int) : Option ((Int × Int × (List Int) × (List Int)) ⊕ (Bool × Int × Int × (List Int) × (List Int))) :=
  (impl_allDone_impl_stackMachine_n4 x3284 x3513 x3285 x3286 x3287).map (Sum.elim (fun (t : Bool × Int × Int × (List Int) × (List Int)) => (Sum.inr t)) (fun (t : Int × Int × (List Int) × (List Int)) => (Sum.inl (t.1, t.2.1, t.2.2.1, t.2.2.2))))

def impl_allDone_impl_stackMachine_n6 (x3284 : ByteArray) (x3285 : Int) (x3286 : Int) (x3287 : List Int) : Option ((Int × Int × (List Int) × (List Int)) ⊕ (Bool × Int × Int × (List Int) × (List Int))) :=
  (impl_allDone_impl_stackMachine_n2 x3284).bind (fun (t : Int) => impl_allDone_impl_stackMachine_n5 x3284 t x3285 x3286 x3287)

def impl_allDone_impl_stackMachine_n7 (x3567 : Int) (x3568 : Int) (x3569 : List Int) (x3570 : List Int) : Option ((Bool × Int × Int × (List Int) × (List Int))) :=
  some (true, x3567, x3568, x3569, x3570)

def impl_allDone_impl_stackMachine_n8 (x3284 : ByteArray) (x3285 : Int) (x3286 : Int) (x3287 : List Int) : Option ((Bool × Int × Int × (List Int) × (List Int))) :=
  (impl_allDone_impl_stackMachine_n6 x3284 x3285 x3286 x3287).bind (Sum.elim (fun (t : Int × Int × (List Int) × (List Int)) => impl_allDone_impl_stackMachine_n7 t.1 t.2.1 t.2.2.1 t.2.2.2) (fun e => some ((fun (t : Bool × Int × Int × (List Int) × (List Int)) => t) e)))

def impl_allDone_impl_stackMachine_n9 (x3284 : ByteArray) (x3285 : Int) (x3286 : Int) (x3287 : List Int) : Option ((Bool × Int × Int × (List Int) × (List Int))) :=
  (impl_allDone_impl_stackMachine_n1).bind (fun (t : Unit) => impl_allDone_impl_stackMachine_n8 x3284 x3285 x3286 x3287)

@[irreducible] def impl_allDone_impl_stackMachine (x3284 : ByteArray) (x3285 : Int) (x3286 : Int) (x3287 : List Int) : Option (Bool × Int × Int × (List Int) × (List Int)) :=
  impl_allDone_impl_stackMachine_n9 x3284 x3285 x3286 x3287

def impl_stackMachine_ended_n1 (x3635 : Int) (x3637 : List Int) (x3638 : List Int) : Option (Bool) :=
  cond (x3635 == (((List.length x3637 : Nat) : Int))) (some ((((List.length x3638 : Nat) : Int)) == 1)) (some false)

@[irreducible] def impl_stackMachine_ended (x3635 : Int) (x3636 : Int) (x3637 : List Int) (x3638 : List Int) : Option (Bool) :=
  impl_stackMachine_ended_n1 x3635 x3637 x3638

def impl_afterMoves_n1 (x3273 : Int) (x3274 : ByteArray) : Option ((Int × Int × (List Int) × (List Int)) ⊕ Unit) :=
  cond (decide (x3273 < 1)) (some (Sum.inr ())) (cond (decide (x3273 > 8)) (some (Sum.inr ())) ((impl_newStackMachine x3273).bind fun (v3709 : List Int) => (impl_stackMoves).bind fun (v3710 : Unit) => (impl_allDone_impl_stackMachine x3274 0 0 v3709).bind fun (v3711 : Bool × Int × Int × (List Int) × (List Int)) => cond (!(v3711.1)) (some (Sum.inr ())) ((impl_stackMachine_ended (v3711.2.1) (v3711.2.2.1) (v3711.2.2.2.1) (v3711.2.2.2.2)).bind fun (v3718 : Bool) => cond (!v3718) (some (Sum.inr ())) (some (Sum.inl ((v3711.2.1), (v3711.2.2.1), (v3711.2.2.2.1), (v3711.2.2.2.2)))))))

@[irreducible] def impl_afterMoves (x3273 : Int) (x3274 : ByteArray) : Option (Bool × Int × Int × (List Int) × (List Int)) :=
  (impl_afterMoves_n1 x3273 x3274).map (Sum.elim (fun (t : Int × Int × (List Int) × (List Int)) => (true, t.1, t.2.1, t.2.2.1, t.2.2.2)) (fun (t : Unit) => (false, 0, 0, [], [])))

def impl_RunStack_n1 (x3271 : Int) (x3272 : ByteArray) : Option ((Bool × (List Int))) :=
  (impl_afterMoves x3271 x3272).bind fun (v3739 : Bool × Int × Int × (List Int) × (List Int)) => cond (v3739.1) (some (true, (v3739.2.2.2.1))) (some (false, ([] : List Int)))

@[irreducible] def impl_RunStack (x3271 : Int) (x3272 : ByteArray) : Option (Bool × (List Int)) :=
  impl_RunStack_n1 x3271 x3272

def laws_FnMadeFlat_n1 (x2 : List Int) : Option (Bool) :=
  cond (decide ((((List.length x2 : Nat) : Int)) > 1048576)) (some true) ((spec_DrawMadeFlat x2).bind fun (v3778 : List Int) => (impl_MadeFlat v3778).bind fun (v3779 : List Int) => (spec_MadeFlat v3778).bind fun (v3780 : List Int) => (laws_sameInts v3779 v3780).bind fun (v3781 : Bool) => cond (!v3781) (some false) (cond ((((List.length v3779 : Nat) : Int)) == 0) ((impl_TreeOk v3778).bind fun (v3785 : Bool) => cond (!v3785) ((laws_alive).bind fun (v3787 : Bool) => some v3787) (some false)) ((impl_MovesFor v3779).bind fun (v3788 : ByteArray × Bool) => (impl_RunStack (((List.length v3779 : Nat) : Int)) (v3788.1)).bind fun (v3792 : Bool × (List Int)) => (impl_FlatOk v3779).bind fun (v3795 : Bool) => cond v3795 (cond (v3788.2) (cond (v3792.1) ((laws_sameInts (v3792.2) v3779).bind fun (v3796 : Bool) => cond v3796 ((impl_MadeFlat v3779).bind fun (v3797 : List Int) => (laws_sameInts v3797 v3779).bind fun (v3798 : Bool) => cond v3798 ((impl_FlatOk v3778).bind fun (v3799 : Bool) => cond (!v3799) (some true) ((laws_sameInts v3779 v3778).bind fun (v3801 : Bool) => some v3801)) (some false)) (some false)) (some false)) (some false)) (some false))))

@[irreducible] def laws_FnMadeFlat (x2 : List Int) : Option (Bool) :=
  laws_FnMadeFlat_n1 x2

def spec_l2Yield_n1 (R0 : (List Int) → Int → Option Int) (x3851 : Int) : Option (Int) :=
  (shl .i64 1 (IntKind.wrap .i64 (x3851 - 1))).bind fun (v3882 : Int) => some v3882

def spec_l2Yield_n2 (R0 : (List Int) → Int → Option Int) : Option (Unit) :=
  some ()

def spec_l2Yield_n3 (R0 : (List Int) → Int → Option Int) (x3850 : List Int) (x3851 : Int) (x3903 : Int) (x3904 : Int) : Option ((Int × Int) ⊕ Int) :=
  cond (decide (x3904 < (((List.length x3850 : Nat) : Int)))) ((idx x3850 x3904).bind fun (v3916 : Int) => cond (v3916 == x3851) ((R0 x3850 (IntKind.wrap .i64 (x3904 + 1))).bind fun (v3919 : Int) => some (Sum.inl ((ior .i64 x3903 v3919), (IntKind.wrap .i64 (x3904 + 1))))) (some (Sum.inl (x3903, (IntKind.wrap .i64 (x3904 + 1)))))) (some (Sum.inr x3903))

def spec_l2Yield_n4 (R0 : (List Int) → Int → Option Int) (x3850 : List Int) (x3851 : Int) (x3882 : Int) : Option (Int) :=
  nloop (fun (s : Int × Int) => ((spec_l2Yield_n3 R0 x3850 x3851 s.1 s.2).map (Sum.elim (fun (t : Int × Int) => Sum.inl (t.1, t.2)) (fun (t : Int) => Sum.inr t)) : Option ((Int × Int) ⊕ (Int)))) LL (x3882, 0)

def spec_l2Yield_n5 (R0 : (List Int) → Int → Option Int) (x3850 : List Int) (x3851 : Int) (x3882 : Int) : Option (Int) :=
  (spec_l2Yield_n4 R0 x3850 x3851 x3882).map (fun (t : Int) => t)

def spec_l2Yield_n6 (R0 : (List Int) → Int → Option Int) (x3850 : List Int) (x3851 : Int) (x3882 : Int) : Option (Int) :=
  (spec_l2Yield_n2 R0).bind (fun (t : Unit) => spec_l2Yield_n5 R0 x3850 x3851 x3882)

def spec_l2Yield_n7 (R0 : (List Int) → Int → Option Int) (x3903 : Int) : Option (Int) :=
  some x3903

def spec_l2Yield_n8 (R0 : (List Int) → Int → Option Int) (x3850 : List Int) (x3851 : Int) (x3882 : Int) : Option (Int) :=
  (spec_l2Yield_n6 R0 x3850 x3851 x3882).bind (fun (t : Int) => spec_l2Yield_n7 R0 t)

def spec_l2Yield_n9 (R0 : (List Int) → Int → Option Int) (x3850 : List Int) (x3851 : Int) : Option (Int) :=
  (spec_l2Yield_n1 R0 x3851).bind (fun (t : Int) => spec_l2Yield_n8 R0 x3850 x3851 t)

def spec_l2Yield_one (R0 : (List Int) → Int → Option Int) (x3850 : List Int) (x3851 : Int) : Option (Int) :=
  spec_l2Yield_n9 R0 x3850 x3851

def spec_l2Yield_knot : Nat → ((List Int) → Int → Option Int)
  | 0 => (fun _ _ => none)
  | n + 1 => (fun y0 y1 => spec_l2Yield_one (spec_l2Yield_knot n) y0 y1)

def spec_l2Yield_fuel (n : Nat) : (List Int) → Int → Option Int := (spec_l2Yield_knot n)

@[irreducible] def spec_l2Yield (x3850 : List Int) (x3851 : Int) : Option (Int) := spec_l2Yield_fuel RR x3850 x3851

def spec_l3Row_n1 : Option (Unit) :=
  some ()

def spec_l3Row_n2 (x3932 : Int) : Option (Int ⊕ Int) :=
  (rem x3932 2).bind fun (v3935 : Int) => cond (v3935 == 0) ((quo .i64 x3932 2).bind fun (v3937 : Int) => some (Sum.inl v3937)) (some (Sum.inr x3932))

def spec_l3Row_n3 (x3926 : Int) : Option (Int) :=
  nloop (fun (s : Int) => ((spec_l3Row_n2 s).map (Sum.elim (fun (t : Int) => Sum.inl t) (fun (t : Int) => Sum.inr t)) : Option ((Int) ⊕ (Int)))) LL x3926

def spec_l3Row_n4 (x3926 : Int) : Option (Int) :=
  (spec_l3Row_n3 x3926).map (fun (t : Int) => t)

def spec_l3Row_n5 (x3932 : Int) : Option (Bool) :=
  some ((iand .i64 x3932 (IntKind.wrap .i64 (x3932 + 1))) == 0)

def spec_l3Row_n6 (x3926 : Int) : Option (Bool) :=
  (spec_l3Row_n4 x3926).bind (fun (t : Int) => spec_l3Row_n5 t)

def spec_l3Row_n7 (x3926 : Int) : Option (Bool) :=
  (spec_l3Row_n1).bind (fun (t : Unit) => spec_l3Row_n6 x3926)

@[irreducible] def spec_l3Row (x3926 : Int) : Option (Bool) :=
  spec_l3Row_n7 x3926

def spec_FlatOk_n1 : Option (Unit) :=
  some ()

def spec_FlatOk_n2 : Option (Unit) :=
  some ()

def spec_FlatOk_n3 (x3843 : List Int) (x3953 : Int) : Option (Int ⊕ Bool ⊕ Unit) :=
  cond (decide (x3953 ≤ (((List.length x3843 : Nat) : Int)))) ((spec_TreeOk x3843).bind fun (v3965 : Bool) => cond v3965 ((spec_l2Yield x3843 x3953).bind fun (v3966 : Int) => (spec_l3Row v3966).bind fun (v3967 : Bool) => cond (!v3967) (some (Sum.inr (Sum.inl false))) (some (Sum.inl (IntKind.wrap .i64 (x3953 + 1))))) (some (Sum.inr (Sum.inr ())))) (some (Sum.inr (Sum.inr ())))

def spec_FlatOk_n4 (x3843 : List Int) : Option (Bool ⊕ Unit) :=
  nloop (fun (s : Int) => ((spec_FlatOk_n3 x3843 s).map (Sum.elim (fun (t : Int) => Sum.inl t) (Sum.elim (fun (t : Bool) => Sum.inr (Sum.inl t)) (fun (t : Unit) => Sum.inr (Sum.inr t)))) : Option ((Int) ⊕ (Bool ⊕ Unit)))) LL 1

def spec_FlatOk_n5 (x3843 : List Int) : Option (Unit ⊕ Bool) :=
  (spec_FlatOk_n4 x3843).map (Sum.elim (fun (t : Bool) => (Sum.inr t)) (fun (t : Unit) => (Sum.inl ())))

def spec_FlatOk_n6 (x3843 : List Int) : Option (Unit ⊕ Bool) :=
  (spec_FlatOk_n2).bind (fun (t : Unit) => spec_FlatOk_n5 x3843)

def spec_FlatOk_n7 (x3843 : List Int) : Option (Bool) :=
  (spec_TreeOk x3843).bind fun (v3971 : Bool) => some v3971

def spec_FlatOk_n8 (x3843 : List Int) : Option (Bool) :=
  (spec_FlatOk_n6 x3843).bind (Sum.elim (fun (t : Unit) => spec_FlatOk_n7 x3843) (fun e => some ((fun (t : Bool) => t) e)))

def spec_FlatOk_n9 (x3843 : List Int) : Option (Bool) :=
  (spec_FlatOk_n1).bind (fun (t : Unit) => spec_FlatOk_n8 x3843)

@[irreducible] def spec_FlatOk (x3843 : List Int) : Option (Bool) :=
  spec_FlatOk_n9 x3843

def spec_l6Free_n1 : Option (Unit) :=
  some ()

def spec_l6Free_n2 : Option (Unit) :=
  some ()

def spec_l6Free_n3 (x4015 : List Int) (x4016 : Int) (x4017 : List Bool) (x4035 : Int) : Option (Int ⊕ Bool ⊕ Unit) :=
  cond (decide (x4035 < (((List.length x4015 : Nat) : Int)))) ((idx x4015 x4035).bind fun (v4046 : Int) => cond (v4046 == x4016) ((idx x4017 x4035).bind fun (v4048 : Bool) => cond (!v4048) (some (Sum.inr (Sum.inl false))) (some (Sum.inl (IntKind.wrap .i64 (x4035 + 1))))) (some (Sum.inl (IntKind.wrap .i64 (x4035 + 1))))) (some (Sum.inr (Sum.inr ())))

def spec_l6Free_n4 (x4015 : List Int) (x4016 : Int) (x4017 : List Bool) : Option (Bool ⊕ Unit) :=
  nloop (fun (s : Int) => ((spec_l6Free_n3 x4015 x4016 x4017 s).map (Sum.elim (fun (t : Int) => Sum.inl t) (Sum.elim (fun (t : Bool) => Sum.inr (Sum.inl t)) (fun (t : Unit) => Sum.inr (Sum.inr t)))) : Option ((Int) ⊕ (Bool ⊕ Unit)))) LL 0

def spec_l6Free_n5 (x4015 : List Int) (x4016 : Int) (x4017 : List Bool) : Option (Unit ⊕ Bool) :=
  (spec_l6Free_n4 x4015 x4016 x4017).map (Sum.elim (fun (t : Bool) => (Sum.inr t)) (fun (t : Unit) => (Sum.inl ())))

def spec_l6Free_n6 (x4015 : List Int) (x4016 : Int) (x4017 : List Bool) : Option (Unit ⊕ Bool) :=
  (spec_l6Free_n2).bind (fun (t : Unit) => spec_l6Free_n5 x4015 x4016 x4017)

def spec_l6Free_n7 : Option (Bool) :=
  some true

def spec_l6Free_n8 (x4015 : List Int) (x4016 : Int) (x4017 : List Bool) : Option (Bool) :=
  (spec_l6Free_n6 x4015 x4016 x4017).bind (Sum.elim (fun (t : Unit) => spec_l6Free_n7) (fun e => some ((fun (t : Bool) => t) e)))

def spec_l6Free_n9 (x4015 : List Int) (x4016 : Int) (x4017 : List Bool) : Option (Bool) :=
  (spec_l6Free_n1).bind (fun (t : Unit) => spec_l6Free_n8 x4015 x4016 x4017)

@[irreducible] def spec_l6Free (x4015 : List Int) (x4016 : Int) (x4017 : List Bool) : Option (Bool) :=
  spec_l6Free_n9 x4015 x4016 x4017

def spec_MovesFor_n1 (x3842 : List Int) : Option (((List Bool)) ⊕ (ByteArray × Bool)) :=
  (spec_FlatOk x3842).bind fun (v4134 : Bool) => cond (!v4134) (some (Sum.inr (ByteArray.empty, false))) ((mk (((List.length x3842 : Nat) : Int)) (((List.length x3842 : Nat) : Int))).bind fun (v4137 : Nat) => some (Sum.inl (List.replicate v4137 false)))

def spec_MovesFor_n2 (x3842 : List Int) (x4538 : ByteArray) (x4539 : Int) (x4541 : List Int) : Option (Unit ⊕ ByteArray) :=
  cond (decide (x4539 ≤ (((List.length x3842 : Nat) : Int)))) (some (Sum.inl ())) (cond (decide ((((List.length x4541 : Nat) : Int)) > 1)) (some (Sum.inl ())) (some (Sum.inr x4538)))

def spec_MovesFor_n3 (x3842 : List Int) (x4538 : ByteArray) (x4539 : Int) (x4540 : List Bool) (x4541 : List Int) : Option ((ByteArray × Int × (List Bool) × (List Int))) :=
  cond (decide ((IntKind.wrap .i64 ((((List.length x4541 : Nat) : Int)) - 1)) ≥ 1)) ((inb (IntKind.wrap .i64 ((IntKind.wrap .i64 ((((List.length x4541 : Nat) : Int)) - 1)) - 1)) (List.length x4541)).bind fun (v4776 : Nat) => (x4541[v4776]?).bind fun (v4777 : Int) => (idx x3842 (IntKind.wrap .i64 (v4777 - 1))).bind fun (v4779 : Int) => (inb (IntKind.wrap .i64 ((((List.length x4541 : Nat) : Int)) - 1)) (List.length x4541)).bind fun (v4780 : Nat) => (x4541[v4780]?).bind fun (v4781 : Int) => cond (v4779 == v4781) ((inb (IntKind.wrap .i64 ((IntKind.wrap .i64 ((((List.length x4541 : Nat) : Int)) - 1)) - 1)) (List.length x4541)).bind fun (v4784 : Nat) => (x4541[v4784]?).bind fun (v4785 : Int) => (spec_l6Free x3842 v4785 x4540).bind fun (v4786 : Bool) => cond v4786 ((cat x4538 (ByteArray.mk #[76])).bind fun (v4787 : ByteArray) => (inb (IntKind.wrap .i64 ((IntKind.wrap .i64 ((((List.length x4541 : Nat) : Int)) - 1)) - 1)) (List.length x4541)).bind fun (v4789 : Nat) => (x4541[v4789]?).bind fun (v4790 : Int) => (inb (IntKind.wrap .i64 (v4790 - 1)) (List.length x4540)).bind fun (v4792 : Nat) => (inc (IntKind.wrap .i64 ((IntKind.wrap .i64 ((((List.length x4541 : Nat) : Int)) - 1)) - 1)) (List.length x4541)).bind fun (v4796 : Nat) => (inb (IntKind.wrap .i64 ((((List.length x4541 : Nat) : Int)) - 1)) (List.length x4541)).bind fun (v4798 : Nat) => (x4541[v4798]?).bind fun (v4799 : Int) => (room (List.length ((x4541.drop 0).take (v4796 - 0)))).bind fun (v4802 : Unit) => (room ((List.length ((x4541.drop 0).take (v4796 - 0))) + List.length ([v4799]))).bind fun (v4804 : Unit) => some (v4787, x4539, (x4540.set v4792 true), (((x4541.drop 0).take (v4796 - 0)) ++ ([v4799])))) (cond (decide ((IntKind.wrap .i64 ((((List.length x4541 : Nat) : Int)) - 1)) ≥ 1)) ((inb (IntKind.wrap .i64 ((((List.length x4541 : Nat) : Int)) - 1)) (List.length x4541)).bind fun (v4807 : Nat) => (x4541[v4807]?).bind fun (v4808 : Int) => (idx x3842 (IntKind.wrap .i64 (v4808 - 1))).bind fun (v4810 : Int) => (inb (IntKind.wrap .i64 ((IntKind.wrap .i64 ((((List.length x4541 : Nat) : Int)) - 1)) - 1)) (List.length x4541)).bind fun (v4812 : Nat) => (x4541[v4812]?).bind fun (v4813 : Int) => cond (v4810 == v4813) ((inb (IntKind.wrap .i64 ((((List.length x4541 : Nat) : Int)) - 1)) (List.length x4541)).bind fun (v4815 : Nat) => (x4541[v4815]?).bind fun (v4816 : Int) => (spec_l6Free x3842 v4816 x4540).bind fun (v4817 : Bool) => cond v4817 ((cat x4538 (ByteArray.mk #[82])).bind fun (v4818 : ByteArray) => (inb (IntKind.wrap .i64 ((((List.length x4541 : Nat) : Int)) - 1)) (List.length x4541)).bind fun (v4819 : Nat) => (x4541[v4819]?).bind fun (v4820 : Int) => (inb (IntKind.wrap .i64 (v4820 - 1)) (List.length x4540)).bind fun (v4822 : Nat) => (inc (IntKind.wrap .i64 ((((List.length x4541 : Nat) : Int)) - 1)) (List.length x4541)).bind fun (v4825 : Nat) => (room ((List.length ([] : List Int)) + List.length ((x4541.drop 0).take (v4825 - 0)))).bind fun (v4829 : Unit) => some (v4818, x4539, (x4540.set v4822 true), (([] : List Int) ++ ((x4541.drop 0).take (v4825 - 0))))) ((cat x4538 (ByteArray.mk #[83])).bind fun (v4831 : ByteArray) => (room ((List.length x4541) + List.length ([x4539]))).bind fun (v4834 : Unit) => some (v4831, (IntKind.wrap .i64 (x4539 + 1)), x4540, (x4541 ++ ([x4539]))))) ((cat x4538 (ByteArray.mk #[83])).bind fun (v4837 : ByteArray) => (room ((List.length x4541) + List.length ([x4539]))).bind fun (v4840 : Unit) => some (v4837, (IntKind.wrap .i64 (x4539 + 1)), x4540, (x4541 ++ ([x4539]))))) ((cat x4538 (ByteArray.mk #[83])).bind fun (v4843 : ByteArray) => (room ((List.length x4541) + List.length ([x4539]))).bind fun (v4846 : Unit) => some (v4843, (IntKind.wrap .i64 (x4539 + 1)), x4540, (x4541 ++ ([x4539])))))) (cond (decide ((IntKind.wrap .i64 ((((List.length x4541 : Nat) : Int)) - 1)) ≥ 1)) ((inb (IntKind.wrap .i64 ((((List.length x4541 : Nat) : Int)) - 1)) (List.length x4541)).bind fun (v4850 : Nat) => (x4541[v4850]?).bind fun (v4851 : Int) => (idx x3842 (IntKind.wrap .i64 (v4851 - 1))).bind fun (v4853 : Int) => (inb (IntKind.wrap .i64 ((IntKind.wrap .i64 ((((List.length x4541 : Nat) : Int)) - 1)) - 1)) (List.length x4541)).bind fun (v4855 : Nat) => (x4541[v4855]?).bind fun (v4856 : Int) => cond (v4853 == v4856) ((inb (IntKind.wrap .i64 ((((List.length x4541 : Nat) : Int)) - 1)) (List.length x4541)).bind fun (v4858 : Nat) => (x4541[v4858]?).bind fun (v4859 : Int) => (spec_l6Free x3842 v4859 x4540).bind fun (v4860 : Bool) => cond v4860 ((cat x4538 (ByteArray.mk #[82])).bind fun (v4861 : ByteArray) => (inb (IntKind.wrap .i64 ((((List.length x4541 : Nat) : Int)) - 1)) (List.length x4541)).bind fun (v4862 : Nat) => (x4541[v4862]?).bind fun (v4863 : Int) => (inb (IntKind.wrap .i64 (v4863 - 1)) (List.length x4540)).bind fun (v4865 : Nat) => (inc (IntKind.wrap .i64 ((((List.length x4541 : Nat) : Int)) - 1)) (List.length x4541)).bind fun (v4868 : Nat) => (room ((List.length ([] : List Int)) + List.length ((x4541.drop 0).take (v4868 - 0)))).bind fun (v4872 : Unit) => some (v4861, x4539, (x4540.set v4865 true), (([] : List Int) ++ ((x4541.drop 0).take (v4868 - 0))))) ((cat x4538 (ByteArray.mk #[83])).bind fun (v4874 : ByteArray) => (room ((List.length x4541) + List.length ([x4539]))).bind fun (v4877 : Unit) => some (v4874, (IntKind.wrap .i64 (x4539 + 1)), x4540, (x4541 ++ ([x4539]))))) ((cat x4538 (ByteArray.mk #[83])).bind fun (v4880 : ByteArray) => (room ((List.length x4541) + List.length ([x4539]))).bind fun (v4883 : Unit) => some (v4880, (IntKind.wrap .i64 (x4539 + 1)), x4540, (x4541 ++ ([x4539]))))) ((cat x4538 (ByteArray.mk #[83])).bind fun (v4886 : ByteArray) => (room ((List.length x4541) + List.length ([x4539]))).bind fun (v4889 : Unit) => some (v4886, (IntKind.wrap .i64 (x4539 + 1)), x4540, (x4541 ++ ([x4539])))))) (cond (decide ((IntKind.wrap .i64 ((((List.length x4541 : Nat) : Int)) - 1)) ≥ 1)) ((inb (IntKind.wrap .i64 ((((List.length x4541 : Nat) : Int)) - 1)) (List.length x4541)).bind fun (v4893 : Nat) => (x4541[v4893]?).bind fun (v4894 : Int) => (idx x3842 (IntKind.wrap .i64 (v4894 - 1))).bind fun (v4896 : Int) => (inb (IntKind.wrap .i64 ((IntKind.wrap .i64 ((((List.length x4541 : Nat) : Int)) - 1)) - 1)) (List.length x4541)).bind fun (v4898 : Nat) => (x4541[v4898]?).bind fun (v4899 : Int) => cond (v4896 == v4899) ((inb (IntKind.wrap .i64 ((((List.length x4541 : Nat) : Int)) - 1)) (List.length x4541)).bind fun (v4901 : Nat) => (x4541[v4901]?).bind fun (v4902 : Int) => (spec_l6Free x3842 v4902 x4540).bind fun (v4903 : Bool) => cond v4903 ((cat x4538 (ByteArray.mk #[82])).bind fun (v4904 : ByteArray) => (inb (IntKind.wrap .i64 ((((List.length x4541 : Nat) : Int)) - 1)) (List.length x4541)).bind fun (v4905 : Nat) => (x4541[v4905]?).bind fun (v4906 : Int) => (inb (IntKind.wrap .i64 (v4906 - 1)) (List.length x4540)).bind fun (v4908 : Nat) => (inc (IntKind.wrap .i64 ((((List.length x4541 : Nat) : Int)) - 1)) (List.length x4541)).bind fun (v4911 : Nat) => (room ((List.length ([] : List Int)) + List.length ((x4541.drop 0).take (v4911 - 0)))).bind fun (v4915 : Unit) => some (v4904, x4539, (x4540.set v4908 true), (([] : List Int) ++ ((x4541.drop 0).take (v4911 - 0))))) ((cat x4538 (ByteArray.mk #[83])).bind fun (v4917 : ByteArray) => (room ((List.length x4541) + List.length ([x4539]))).bind fun (v4920 : Unit) => some (v4917, (IntKind.wrap .i64 (x4539 + 1)), x4540, (x4541 ++ ([x4539]))))) ((cat x4538 (ByteArray.mk #[83])).bind fun (v4923 : ByteArray) => (room ((List.length x4541) + List.length ([x4539]))).bind fun (v4926 : Unit) => some (v4923, (IntKind.wrap .i64 (x4539 + 1)), x4540, (x4541 ++ ([x4539]))))) ((cat x4538 (ByteArray.mk #[83])).bind fun (v4929 : ByteArray) => (room ((List.length x4541) + List.length ([x4539]))).bind fun (v4932 : Unit) => some (v4929, (IntKind.wrap .i64 (x4539 + 1)), x4540, (x4541 ++ ([x4539])))))

def spec_MovesFor_n4 (x3842 : List Int) (x4538 : ByteArray) (x4539 : Int) (x4540 : List Bool) (x4541 : List Int) : Option ((ByteArray × Int × (List Bool) × (List Int)) ⊕ ByteArray) :=
  (spec_MovesFor_n2 x3842 x4538 x4539 x4541).bind (Sum.elim (fun (t : Unit) => (spec_MovesFor_n3 x3842 x4538 x4539 x4540 x4541).map (fun (t : ByteArray × Int × (List Bool) × (List Int)) => (Sum.inl (t.1, t.2.1, t.2.2.1, t.2.2.2)))) (fun e => some ((fun (t : ByteArray) => (Sum.inr t)) e)))

def spec_MovesFor_n5 (x3842 : List Int) (x4138 : List Bool) : Option (ByteArray) :=
  nloop (fun (s : ByteArray × Int × (List Bool) × (List Int)) => ((spec_MovesFor_n4 x3842 s.1 s.2.1 s.2.2.1 s.2.2.2).map (Sum.elim (fun (t : ByteArray × Int × (List Bool) × (List Int)) => Sum.inl (t.1, t.2.1, t.2.2.1, t.2.2.2)) (fun (t : ByteArray) => Sum.inr t)) : Option ((ByteArray × Int × (List Bool) × (List Int)) ⊕ (ByteArray)))) LL (ByteArray.empty, 1, x4138, ([] : List Int))

def spec_MovesFor_n6 (x3842 : List Int) (x4138 : List Bool) : Option (ByteArray) :=
  (spec_MovesFor_n5 x3842 x4138).map (fun (t : ByteArray) => t)

def spec_MovesFor_n7 (x4538 : ByteArray) : Option ((ByteArray × Bool)) :=
  some (x4538, true)

def spec_MovesFor_n8 (x3842 : List Int) (x4138 : List Bool) : Option ((ByteArray × Bool)) :=
  (spec_MovesFor_n6 x3842 x4138).bind (fun (t : ByteArray) => spec_MovesFor_n7 t)

def spec_MovesFor_n9 (x3842 : List Int) : Option ((ByteArray × Bool)) :=
  (spec_MovesFor_n1 x3842).bind (Sum.elim (fun (t : (List Bool)) => spec_MovesFor_n8 x3842 t) (fun e => some ((fun (t : ByteArray × Bool) => t) e)))

@[irreducible] def spec_MovesFor (x3842 : List Int) : Option (ByteArray × Bool) :=
  spec_MovesFor_n9 x3842

end Go.Rv
