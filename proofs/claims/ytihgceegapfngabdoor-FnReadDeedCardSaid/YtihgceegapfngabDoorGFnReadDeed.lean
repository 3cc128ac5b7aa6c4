/-
  Plain functions, written by program for functions of the checked code. Conditions: none.
-/
import Derived.Test.YtihgceegapfngabDoorFB
set_option linter.unusedVariables false
namespace Go.Rv
def spec_l20Open_n1 (x12 : List Int) : Option (((List Int))) :=
  cond (decide ((((List.length x12 : Nat) : Int)) > 2000)) ((inc 2000 (List.length x12)).bind fun (v28 : Nat) => some ((x12.take v28).drop 0)) (some x12)

@[irreducible] def spec_l20Open (x12 : List Int) : Option ((List Int)) :=
  spec_l20Open_n1 x12

def spec_l20Rd_pick_n1 (x41 : Int) (x42 : List Int) (x43 : Int) : Option ((Int × Int)) :=
  cond (decide (x41 < 1)) (some (0, (IntKind.wrap .i64 (x43 + 1)))) (cond ((((List.length x42 : Nat) : Int)) == 0) (some (0, (IntKind.wrap .i64 (x43 + 1)))) (cond (decide ((IntKind.wrap .i64 ((IntKind.wrap .i64 (x43 + 1)) - 1)) < (((List.length x42 : Nat) : Int)))) ((idx x42 (IntKind.wrap .i64 ((IntKind.wrap .i64 (x43 + 1)) - 1))).bind fun (v170 : Int) => (rem (IntKind.wrap .i64 v170) x41).bind fun (v172 : Int) => some (v172, (IntKind.wrap .i64 (x43 + 1)))) ((rem (IntKind.wrap .i64 ((IntKind.wrap .i64 (x43 + 1)) - 1)) (((List.length x42 : Nat) : Int))).bind fun (v174 : Int) => (idx x42 v174).bind fun (v175 : Int) => (rem (IntKind.wrap .i64 ((IntKind.wrap .i64 ((IntKind.wrap .i64 ((IntKind.wrap .i64 (x43 + 1)) - 1)) * 7)) + 3)) (((List.length x42 : Nat) : Int))).bind fun (v181 : Int) => (idx x42 v181).bind fun (v182 : Int) => (quo .i64 (IntKind.wrap .i64 ((IntKind.wrap .i64 (x43 + 1)) - 1)) (((List.length x42 : Nat) : Int))).bind fun (v189 : Int) => (quo .i64 (IntKind.wrap .i64 ((IntKind.wrap .i64 ((IntKind.wrap .i64 ((IntKind.wrap .i64 ((IntKind.wrap .i64 v175) * 131)) + (IntKind.wrap .i64 ((IntKind.wrap .i64 v182) * 1117)))) + (IntKind.wrap .i64 ((IntKind.wrap .i64 ((IntKind.wrap .i64 (x43 + 1)) - 1)) * 29)))) + (IntKind.wrap .i64 (v189 * 53)))) 64).bind fun (v192 : Int) => (rem (ixor .i64 (IntKind.wrap .i64 ((IntKind.wrap .i64 ((IntKind.wrap .i64 ((IntKind.wrap .i64 ((IntKind.wrap .i64 v175) * 131)) + (IntKind.wrap .i64 ((IntKind.wrap .i64 v182) * 1117)))) + (IntKind.wrap .i64 ((IntKind.wrap .i64 ((IntKind.wrap .i64 (x43 + 1)) - 1)) * 29)))) + (IntKind.wrap .i64 (v189 * 53)))) v192) x41).bind fun (v194 : Int) => some (v194, (IntKind.wrap .i64 (x43 + 1))))))

@[irreducible] def spec_l20Rd_pick (x41 : Int) (x42 : List Int) (x43 : Int) : Option (Int × Int) :=
  spec_l20Rd_pick_n1 x41 x42 x43

def spec_l20Order_n1 (x205 : List Int) (x206 : Int) : Option ((Int × Int)) :=
  (spec_l20Rd_pick 2 x205 x206).bind fun (v208 : Int × Int) => some ((v208.1), (v208.2))

def spec_l20Order_n2 : Option (Unit) :=
  some ()

def spec_l20Order_n3 (x204 : Int) (x209 : Int) (x352 : Int) (x205 : List Int) (x353 : Int) (x354 : List Int) : Option ((Int × Int × (List Int)) ⊕ (Int × (List Int))) :=
  cond (decide (x352 ≤ x204)) (cond (x209 == 0) ((spec_l20Rd_pick x352 x205 x353).bind fun (v426 : Int × Int) => (inc (v426.1) (List.length x354)).bind fun (v430 : Nat) => (room ((List.length ([] : List Int)) + List.length ((x354.drop 0).take (v430 - 0)))).bind fun (v434 : Unit) => (room ((List.length (([] : List Int) ++ ((x354.drop 0).take (v430 - 0)))) + List.length ([x352]))).bind fun (v438 : Unit) => (inc (v426.1) (List.length x354)).bind fun (v441 : Nat) => (room ((List.length ((([] : List Int) ++ ((x354.drop 0).take (v430 - 0))) ++ ([x352]))) + List.length ((x354.drop v441).take ((List.length x354) - v441)))).bind fun (v445 : Unit) => some (Sum.inl ((IntKind.wrap .i64 (x352 + 1)), (v426.2), (((([] : List Int) ++ ((x354.drop 0).take (v430 - 0))) ++ ([x352])) ++ ((x354.drop v441).take ((List.length x354) - v441)))))) ((spec_l20Rd_pick 3 x205 x353).bind fun (v448 : Int × Int) => cond ((v448.1) == 0) ((spec_l20Rd_pick x352 x205 (v448.2)).bind fun (v452 : Int × Int) => (inc (v452.1) (List.length x354)).bind fun (v456 : Nat) => (room ((List.length ([] : List Int)) + List.length ((x354.drop 0).take (v456 - 0)))).bind fun (v460 : Unit) => (room ((List.length (([] : List Int) ++ ((x354.drop 0).take (v456 - 0)))) + List.length ([x352]))).bind fun (v464 : Unit) => (inc (v452.1) (List.length x354)).bind fun (v467 : Nat) => (room ((List.length ((([] : List Int) ++ ((x354.drop 0).take (v456 - 0))) ++ ([x352]))) + List.length ((x354.drop v467).take ((List.length x354) - v467)))).bind fun (v471 : Unit) => some (Sum.inl ((IntKind.wrap .i64 (x352 + 1)), (v452.2), (((([] : List Int) ++ ((x354.drop 0).take (v456 - 0))) ++ ([x352])) ++ ((x354.drop v467).take ((List.length x354) - v467)))))) ((inc (((List.length x354 : Nat) : Int)) (List.length x354)).bind fun (v475 : Nat) => (room ((List.length ([] : List Int)) + List.length ((x354.drop 0).take (v475 - 0)))).bind fun (v479 : Unit) => (room ((List.length (([] : List Int) ++ ((x354.drop 0).take (v475 - 0)))) + List.length ([x352]))).bind fun (v483 : Unit) => (inc (((List.length x354 : Nat) : Int)) (List.length x354)).bind fun (v486 : Nat) => (room ((List.length ((([] : List Int) ++ ((x354.drop 0).take (v475 - 0))) ++ ([x352]))) + List.length ((x354.drop v486).take ((List.length x354) - v486)))).bind fun (v490 : Unit) => some (Sum.inl ((IntKind.wrap .i64 (x352 + 1)), (v448.2), (((([] : List Int) ++ ((x354.drop 0).take (v475 - 0))) ++ ([x352])) ++ ((x354.drop v486).take ((List.length x354) - v486)))))))) (some (Sum.inr (x353, x354)))

def spec_l20Order_n4 (x204 : Int) (x209 : Int) (x205 : List Int) (x210 : Int) : Option ((Int × (List Int))) :=
  nloop (fun (s : Int × Int × (List Int)) => ((spec_l20Order_n3 x204 x209 s.1 x205 s.2.1 s.2.2).map (Sum.elim (fun (t : Int × Int × (List Int)) => Sum.inl (t.1, t.2.1, t.2.2)) (fun (t : Int × (List Int)) => Sum.inr t)) : Option ((Int × Int × (List Int)) ⊕ ((Int × (List Int)))))) LL (1, x210, ([] : List Int))

def spec_l20Order_n5 (x204 : Int) (x209 : Int) (x205 : List Int) (x210 : Int) : Option ((Int × (List Int))) :=
  (spec_l20Order_n4 x204 x209 x205 x210).map (fun (t : Int × (List Int)) => (t.1, t.2))

def spec_l20Order_n6 (x204 : Int) (x209 : Int) (x205 : List Int) (x210 : Int) : Option ((Int × (List Int))) :=
  (spec_l20Order_n2).bind (fun (t : Unit) => spec_l20Order_n5 x204 x209 x205 x210)

def spec_l20Order_n7 (x353 : Int) (x354 : List Int) : Option ((Int × (List Int))) :=
  some (x353, x354)

def spec_l20Order_n8 (x204 : Int) (x209 : Int) (x205 : List Int) (x210 : Int) : Option ((Int × (List Int))) :=
  (spec_l20Order_n6 x204 x209 x205 x210).bind (fun (t : Int × (List Int)) => spec_l20Order_n7 t.1 t.2)

def spec_l20Order_n9 (x204 : Int) (x205 : List Int) (x206 : Int) : Option ((Int × (List Int))) :=
  (spec_l20Order_n1 x205 x206).bind (fun (t : Int × Int) => spec_l20Order_n8 x204 t.1 x205 t.2)

@[irreducible] def spec_l20Order (x204 : Int) (x205 : List Int) (x206 : Int) : Option (Int × (List Int)) :=
  spec_l20Order_n9 x204 x205 x206

def spec_l20Rd_odd_n1 (x661 : Int) (x662 : List Int) (x663 : Int) : Option ((Bool × Int)) :=
  cond (decide (x661 > 0)) ((spec_l20Rd_pick x661 x662 x663).bind fun (v671 : Int × Int) => some (((v671.1) == (IntKind.wrap .i64 (x661 - 1))), (v671.2))) (some (false, x663))

@[irreducible] def spec_l20Rd_odd (x661 : Int) (x662 : List Int) (x663 : Int) : Option (Bool × Int) :=
  spec_l20Rd_odd_n1 x661 x662 x663

def spec_l20Tree_n1 (x38 : List Int) (x39 : Int) : Option ((Int × Int × Int × (List Int) × (List Int))) :=
  (spec_l20Rd_pick 7 x38 x39).bind fun (v508 : Int × Int) => (spec_l20Order (IntKind.wrap .i64 (1 + (v508.1))) x38 (v508.2)).bind fun (v512 : Int × (List Int)) => (mk (IntKind.wrap .i64 (1 + (v508.1))) (IntKind.wrap .i64 (1 + (v508.1)))).bind fun (v515 : Nat) => (spec_l20Rd_pick 2 x38 (v512.1)).bind fun (v517 : Int × Int) => some ((IntKind.wrap .i64 (1 + (v508.1))), (v517.1), (v517.2), (v512.2), (List.replicate v515 (0 : Int)))

def spec_l20Tree_n2 : Option (Unit) :=
  some ()

def spec_l20Tree_n3 (x511 : Int) (x518 : Int) (x589 : Int) (x38 : List Int) (x590 : Int) (x514 : List Int) (x591 : List Int) : Option ((Int × Int × (List Int)) ⊕ (Int × (List Int))) :=
  cond (decide (x589 < x511)) ((spec_l20Rd_pick x589 x38 x590).bind fun (v625 : Int × Int) => cond (x518 == 1) ((spec_l20Rd_pick 2 x38 (v625.2)).bind fun (v629 : Int × Int) => cond ((v629.1) == 0) ((inb x589 (List.length x514)).bind fun (v634 : Nat) => (x514[v634]?).bind fun (v635 : Int) => (inb (IntKind.wrap .i64 (x589 - 1)) (List.length x514)).bind fun (v637 : Nat) => (x514[v637]?).bind fun (v638 : Int) => (inb (IntKind.wrap .i64 (v635 - 1)) (List.length x591)).bind fun (v639 : Nat) => some (Sum.inl ((IntKind.wrap .i64 (x589 + 1)), (v629.2), (x591.set v639 v638)))) ((inb x589 (List.length x514)).bind fun (v642 : Nat) => (x514[v642]?).bind fun (v643 : Int) => (inb (v625.1) (List.length x514)).bind fun (v645 : Nat) => (x514[v645]?).bind fun (v646 : Int) => (inb (IntKind.wrap .i64 (v643 - 1)) (List.length x591)).bind fun (v647 : Nat) => some (Sum.inl ((IntKind.wrap .i64 (x589 + 1)), (v629.2), (x591.set v647 v646))))) ((inb x589 (List.length x514)).bind fun (v650 : Nat) => (x514[v650]?).bind fun (v651 : Int) => (inb (v625.1) (List.length x514)).bind fun (v653 : Nat) => (x514[v653]?).bind fun (v654 : Int) => (inb (IntKind.wrap .i64 (v651 - 1)) (List.length x591)).bind fun (v655 : Nat) => some (Sum.inl ((IntKind.wrap .i64 (x589 + 1)), (v625.2), (x591.set v655 v654))))) (some (Sum.inr (x590, x591)))

def spec_l20Tree_n4 (x511 : Int) (x518 : Int) (x38 : List Int) (x519 : Int) (x514 : List Int) (x516 : List Int) : Option ((Int × (List Int))) :=
  nloop (fun (s : Int × Int × (List Int)) => ((spec_l20Tree_n3 x511 x518 s.1 x38 s.2.1 x514 s.2.2).map (Sum.elim (fun (t : Int × Int × (List Int)) => Sum.inl (t.1, t.2.1, t.2.2)) (fun (t : Int × (List Int)) => Sum.inr t)) : Option ((Int × Int × (List Int)) ⊕ ((Int × (List Int)))))) LL (1, x519, x516)

def spec_l20Tree_n5 (x511 : Int) (x518 : Int) (x38 : List Int) (x519 : Int) (x514 : List Int) (x516 : List Int) : Option ((Int × (List Int))) :=
  (spec_l20Tree_n4 x511 x518 x38 x519 x514 x516).map (fun (t : Int × (List Int)) => (t.1, t.2))

def spec_l20Tree_n6 (x511 : Int) (x518 : Int) (x38 : List Int) (x519 : Int) (x514 : List Int) (x516 : List Int) : Option ((Int × (List Int))) :=
  (spec_l20Tree_n2).bind (fun (t : Unit) => spec_l20Tree_n5 x511 x518 x38 x519 x514 x516)

def spec_l20Tree_n7 (x37 : Int) (x511 : Int) (x38 : List Int) (x590 : Int) (x591 : List Int) : Option ((Int × (List Int))) :=
  (spec_l20Rd_odd x37 x38 x590).bind fun (v736 : Bool × Int) => cond (v736.1) ((spec_l20Rd_pick 4 x38 (v736.2)).bind fun (v739 : Int × Int) => cond ((v739.1) == 0) (some ((v739.2), ([] : List Int))) (cond ((v739.1) == 1) (some ((v739.2), ([2, 1, 0]))) (cond ((v739.1) == 2) ((spec_l20Rd_pick x511 x38 (v739.2)).bind fun (v746 : Int × Int) => (inb (v746.1) (List.length x591)).bind fun (v749 : Nat) => (room ((List.length (x591.set v749 0)) + List.length ([0]))).bind fun (v753 : Unit) => some ((v746.2), ((x591.set v749 0) ++ ([0])))) ((spec_l20Rd_pick 3 x38 (v739.2)).bind fun (v757 : Int × Int) => (inb (v757.1) (List.length ([1, (IntKind.wrap .i64 (x511 + 1)), (-1)]))).bind fun (v760 : Nat) => (([1, (IntKind.wrap .i64 (x511 + 1)), (-1)])[v760]?).bind fun (v761 : Int) => (inb 0 (List.length x591)).bind fun (v762 : Nat) => some ((v757.2), (x591.set v762 v761)))))) (some ((v736.2), x591))

def spec_l20Tree_n8 (x37 : Int) (x511 : Int) (x518 : Int) (x38 : List Int) (x519 : Int) (x514 : List Int) (x516 : List Int) : Option ((Int × (List Int))) :=
  (spec_l20Tree_n6 x511 x518 x38 x519 x514 x516).bind (fun (t : Int × (List Int)) => spec_l20Tree_n7 x37 x511 x38 t.1 t.2)

def spec_l20Tree_n9 (x37 : Int) (x38 : List Int) (x39 : Int) : Option ((Int × (List Int))) :=
  (spec_l20Tree_n1 x38 x39).bind (fun (t : Int × Int × Int × (List Int) × (List Int)) => spec_l20Tree_n8 x37 t.1 t.2.1 x38 t.2.2.1 t.2.2.2.1 t.2.2.2.2)

@[irreducible] def spec_l20Tree (x37 : Int) (x38 : List Int) (x39 : Int) : Option (Int × (List Int)) :=
  spec_l20Tree_n9 x37 x38 x39

def spec_l1In_n1 (x780 : Int) (x781 : Int) (x782 : Int) : Option (Bool) :=
  cond (decide (x780 ≥ x781)) (some (decide (x780 ≤ x782))) (some false)

@[irreducible] def spec_l1In (x780 : Int) (x781 : Int) (x782 : Int) : Option (Bool) :=
  spec_l1In_n1 x780 x781 x782

def spec_TreeOk_n1 (x776 : List Int) : Option (Int ⊕ Bool) :=
  (spec_l1In (((List.length x776 : Nat) : Int)) 1 8).bind fun (v791 : Bool) => cond (!v791) (some (Sum.inr false)) (some (Sum.inl (((List.length x776 : Nat) : Int))))

def spec_TreeOk_n2 : Option (Unit) :=
  some ()

def spec_TreeOk_n3 (x790 : Int) (x857 : Int) (x858 : Int) : Option (Unit ⊕ Int) :=
  cond (decide (x858 < x790)) (some (Sum.inl ())) (some (Sum.inr x857))

def spec_TreeOk_n4 (x776 : List Int) (x790 : Int) (x857 : Int) (x858 : Int) : Option ((Int × Int) ⊕ Bool) :=
  (idx x776 x858).bind fun (v875 : Int) => (spec_l1In v875 0 x790).bind fun (v876 : Bool) => cond (!v876) (some (Sum.inr false)) ((idx x776 x858).bind fun (v878 : Int) => cond (v878 == (IntKind.wrap .i64 (x858 + 1))) (some (Sum.inr false)) ((idx x776 x858).bind fun (v881 : Int) => cond (v881 == 0) (some (Sum.inl ((IntKind.wrap .i64 (x857 + 1)), (IntKind.wrap .i64 (x858 + 1))))) (some (Sum.inl (x857, (IntKind.wrap .i64 (x858 + 1)))))))

def spec_TreeOk_n5 : Option (Unit) :=
  some ()

def spec_TreeOk_n6 (x776 : List Int) (x790 : Int) (x903 : Int) (x904 : Int) : Option ((Int × Int) ⊕ Bool ⊕ Int) :=
  cond (decide (x903 > 0)) (cond (decide (x904 < x790)) ((idx x776 (IntKind.wrap .i64 (x903 - 1))).bind fun (v916 : Int) => (spec_l1In v916 0 x790).bind fun (v917 : Bool) => cond (!v917) (some (Sum.inr (Sum.inl false))) (some (Sum.inl (v916, (IntKind.wrap .i64 (x904 + 1)))))) (some (Sum.inr (Sum.inr x903)))) (some (Sum.inr (Sum.inr x903)))

def spec_TreeOk_n7 (x776 : List Int) (x790 : Int) (x887 : Int) : Option (Bool ⊕ Int) :=
  nloop (fun (s : Int × Int) => ((spec_TreeOk_n6 x776 x790 s.1 s.2).map (Sum.elim (fun (t : Int × Int) => Sum.inl (t.1, t.2)) (Sum.elim (fun (t : Bool) => Sum.inr (Sum.inl t)) (fun (t : Int) => Sum.inr (Sum.inr t)))) : Option ((Int × Int) ⊕ (Bool ⊕ Int)))) LL (x887, 0)

def spec_TreeOk_n8 (x776 : List Int) (x790 : Int) (x887 : Int) : Option (Int ⊕ Bool) :=
  (spec_TreeOk_n7 x776 x790 x887).map (Sum.elim (fun (t : Bool) => (Sum.inr t)) (fun (t : Int) => (Sum.inl t)))

def spec_TreeOk_n9 (x776 : List Int) (x790 : Int) (x887 : Int) : Option (Int ⊕ Bool) :=
  (spec_TreeOk_n5).bind (fun (t : Unit) => spec_TreeOk_n8 x776 x790 x887)

def spec_TreeOk_n10 (x903 : Int) : Option (Unit ⊕ Bool) :=
  cond (decide (x903 > 0)) (some (Sum.inr false)) (some (Sum.inl ()))

def spec_TreeOk_n11 (x776 : List Int) (x790 : Int) (x887 : Int) : Option (Unit ⊕ Bool) :=
  (spec_TreeOk_n9 x776 x790 x887).bind (Sum.elim (fun (t : Int) => spec_TreeOk_n10 t) (fun e => some ((fun (t : Bool) => (Sum.inr t)) e)))

def spec_TreeOk_n12 (x776 : List Int) (x790 : Int) (x857 : Int) (x858 : Int) : Option (Int ⊕ Bool) :=
  (spec_TreeOk_n4 x776 x790 x857 x858).bind (Sum.elim (fun (t : Int × Int) => (spec_TreeOk_n11 x776 x790 t.2).map (Sum.elim (fun (u : Unit) => (Sum.inl t.1)) (fun (u : Bool) => (Sum.inr u)))) (fun e => some ((fun (t : Bool) => (Sum.inr t)) e)))

def spec_TreeOk_n13 (x776 : List Int) (x790 : Int) (x857 : Int) (x858 : Int) : Option (Int ⊕ Bool) :=
  (spec_TreeOk_n12 x776 x790 x857 x858).map (Sum.elim (fun (t : Int) => (Sum.inl t)) (fun (t : Bool) => (Sum.inr t)))

def spec_TreeOk_n14 (x858 : Int) : Option (Int) :=
  some (IntKind.wrap .i64 (x858 + 1))

def spec_TreeOk_n15 (x776 : List Int) (x790 : Int) (x857 : Int) (x858 : Int) : Option ((Int × Int) ⊕ Bool) :=
  (spec_TreeOk_n13 x776 x790 x857 x858).bind (Sum.elim (fun (t : Int) => (spec_TreeOk_n14 x858).map (fun (u : Int) => (Sum.inl (t, u)))) (fun e => some ((fun (t : Bool) => (Sum.inr t)) e)))

def spec_TreeOk_n16 (x776 : List Int) (x790 : Int) (x857 : Int) (x858 : Int) : Option ((Int × Int) ⊕ Bool ⊕ Int) :=
  (spec_TreeOk_n3 x790 x857 x858).bind (Sum.elim (fun (t : Unit) => (spec_TreeOk_n15 x776 x790 x857 x858).map (Sum.elim (fun (t : Int × Int) => (Sum.inl (t.1, t.2))) (fun (t : Bool) => (Sum.inr (Sum.inl t))))) (fun e => some ((fun (t : Int) => (Sum.inr (Sum.inr t))) e)))

def spec_TreeOk_n17 (x776 : List Int) (x790 : Int) : Option (Bool ⊕ Int) :=
  nloop (fun (s : Int × Int) => ((spec_TreeOk_n16 x776 x790 s.1 s.2).map (Sum.elim (fun (t : Int × Int) => Sum.inl (t.1, t.2)) (Sum.elim (fun (t : Bool) => Sum.inr (Sum.inl t)) (fun (t : Int) => Sum.inr (Sum.inr t)))) : Option ((Int × Int) ⊕ (Bool ⊕ Int)))) LL (0, 0)

def spec_TreeOk_n18 (x776 : List Int) (x790 : Int) : Option (Int ⊕ Bool) :=
  (spec_TreeOk_n17 x776 x790).map (Sum.elim (fun (t : Bool) => (Sum.inr t)) (fun (t : Int) => (Sum.inl t)))

def spec_TreeOk_n19 (x776 : List Int) (x790 : Int) : Option (Int ⊕ Bool) :=
  (spec_TreeOk_n2).bind (fun (t : Unit) => spec_TreeOk_n18 x776 x790)

def spec_TreeOk_n20 (x857 : Int) : Option (Bool) :=
  some (x857 == 1)

def spec_TreeOk_n21 (x776 : List Int) (x790 : Int) : Option (Bool) :=
  (spec_TreeOk_n19 x776 x790).bind (Sum.elim (fun (t : Int) => spec_TreeOk_n20 t) (fun e => some ((fun (t : Bool) => t) e)))

def spec_TreeOk_n22 (x776 : List Int) : Option (Bool) :=
  (spec_TreeOk_n1 x776).bind (Sum.elim (fun (t : Int) => spec_TreeOk_n21 x776 t) (fun e => some ((fun (t : Bool) => t) e)))

@[irreducible] def spec_TreeOk (x776 : List Int) : Option (Bool) :=
  spec_TreeOk_n22 x776

def spec_OrderOk_n1 : Option (Unit) :=
  some ()

def spec_OrderOk_n2 : Option (Unit) :=
  some ()

def spec_OrderOk_n3 (x936 : List Int) (x968 : Int) : Option (Unit ⊕ Unit) :=
  cond (decide (x968 < (((List.length x936 : Nat) : Int)))) (some (Sum.inl ())) (some (Sum.inr ()))

def spec_OrderOk_n4 (x936 : List Int) (x937 : Int) (x968 : Int) : Option (Unit ⊕ Bool) :=
  (idx x936 x968).bind fun (v974 : Int) => (spec_l1In v974 1 x937).bind fun (v975 : Bool) => cond (!v975) (some (Sum.inr false)) (some (Sum.inl ()))

def spec_OrderOk_n5 (x936 : List Int) (x968 : Int) (x987 : Int) : Option (Int ⊕ Bool ⊕ Unit) :=
  cond (decide (x987 < x968)) ((idx x936 x987).bind fun (v994 : Int) => (idx x936 x968).bind fun (v995 : Int) => cond (v994 == v995) (some (Sum.inr (Sum.inl false))) (some (Sum.inl (IntKind.wrap .i64 (x987 + 1))))) (some (Sum.inr (Sum.inr ())))

def spec_OrderOk_n6 (x936 : List Int) (x968 : Int) : Option (Bool ⊕ Unit) :=
  nloop (fun (s : Int) => ((spec_OrderOk_n5 x936 x968 s).map (Sum.elim (fun (t : Int) => Sum.inl t) (Sum.elim (fun (t : Bool) => Sum.inr (Sum.inl t)) (fun (t : Unit) => Sum.inr (Sum.inr t)))) : Option ((Int) ⊕ (Bool ⊕ Unit)))) LL 0

def spec_OrderOk_n7 (x936 : List Int) (x968 : Int) : Option (Unit ⊕ Bool) :=
  (spec_OrderOk_n6 x936 x968).map (Sum.elim (fun (t : Bool) => (Sum.inr t)) (fun (t : Unit) => (Sum.inl ())))

def spec_OrderOk_n8 (x936 : List Int) (x937 : Int) (x968 : Int) : Option (Unit ⊕ Bool) :=
  (spec_OrderOk_n4 x936 x937 x968).bind (Sum.elim (fun (t : Unit) => spec_OrderOk_n7 x936 x968) (fun e => some ((fun (t : Bool) => (Sum.inr t)) e)))

def spec_OrderOk_n9 (x936 : List Int) (x937 : Int) (x968 : Int) : Option (Unit ⊕ Bool) :=
  (spec_OrderOk_n8 x936 x937 x968).map (Sum.elim (fun (t : Unit) => (Sum.inl ())) (fun (t : Bool) => (Sum.inr t)))

def spec_OrderOk_n10 (x968 : Int) : Option (Int) :=
  some (IntKind.wrap .i64 (x968 + 1))

def spec_OrderOk_n11 (x936 : List Int) (x937 : Int) (x968 : Int) : Option (Int ⊕ Bool) :=
  (spec_OrderOk_n9 x936 x937 x968).bind (Sum.elim (fun (t : Unit) => (spec_OrderOk_n10 x968).map (fun (t : Int) => (Sum.inl t))) (fun e => some ((fun (t : Bool) => (Sum.inr t)) e)))

def spec_OrderOk_n12 (x936 : List Int) (x937 : Int) (x968 : Int) : Option (Int ⊕ Bool ⊕ Unit) :=
  (spec_OrderOk_n3 x936 x968).bind (Sum.elim (fun (t : Unit) => (spec_OrderOk_n11 x936 x937 x968).map (Sum.elim (fun (t : Int) => (Sum.inl t)) (fun (t : Bool) => (Sum.inr (Sum.inl t))))) (fun e => some ((fun (t : Unit) => (Sum.inr (Sum.inr t))) e)))

def spec_OrderOk_n13 (x936 : List Int) (x937 : Int) : Option (Bool ⊕ Unit) :=
  nloop (fun (s : Int) => ((spec_OrderOk_n12 x936 x937 s).map (Sum.elim (fun (t : Int) => Sum.inl t) (Sum.elim (fun (t : Bool) => Sum.inr (Sum.inl t)) (fun (t : Unit) => Sum.inr (Sum.inr t)))) : Option ((Int) ⊕ (Bool ⊕ Unit)))) LL 0

def spec_OrderOk_n14 (x936 : List Int) (x937 : Int) : Option (Unit ⊕ Bool) :=
  (spec_OrderOk_n13 x936 x937).map (Sum.elim (fun (t : Bool) => (Sum.inr t)) (fun (t : Unit) => (Sum.inl ())))

def spec_OrderOk_n15 (x936 : List Int) (x937 : Int) : Option (Unit ⊕ Bool) :=
  (spec_OrderOk_n2).bind (fun (t : Unit) => spec_OrderOk_n14 x936 x937)

def spec_OrderOk_n16 (x936 : List Int) (x937 : Int) : Option (Bool) :=
  (spec_l1In x937 1 8).bind fun (v1002 : Bool) => cond v1002 (some ((((List.length x936 : Nat) : Int)) == x937)) (some false)

def spec_OrderOk_n17 (x936 : List Int) (x937 : Int) : Option (Bool) :=
  (spec_OrderOk_n15 x936 x937).bind (Sum.elim (fun (t : Unit) => spec_OrderOk_n16 x936 x937) (fun e => some ((fun (t : Bool) => t) e)))

def spec_OrderOk_n18 (x936 : List Int) (x937 : Int) : Option (Bool) :=
  (spec_OrderOk_n1).bind (fun (t : Unit) => spec_OrderOk_n17 x936 x937)

@[irreducible] def spec_OrderOk (x936 : List Int) (x937 : Int) : Option (Bool) :=
  spec_OrderOk_n18 x936 x937

def spec_PutInOrder_n1 (x931 : List Int) (x932 : List Int) : Option (((List Int)) ⊕ (Bool × (List Int))) :=
  (spec_TreeOk x931).bind fun (v1008 : Bool) => cond (!v1008) (some (Sum.inr (false, ([] : List Int)))) ((spec_OrderOk x932 (((List.length x931 : Nat) : Int))).bind fun (v1011 : Bool) => cond (!v1011) (some (Sum.inr (false, ([] : List Int)))) ((mk (IntKind.wrap .i64 ((((List.length x931 : Nat) : Int)) + 1)) (IntKind.wrap .i64 ((((List.length x931 : Nat) : Int)) + 1))).bind fun (v1015 : Nat) => some (Sum.inl (List.replicate v1015 (0 : Int)))))

def spec_PutInOrder_n2 : Option (Unit) :=
  some ()

def spec_PutInOrder_n3 (x932 : List Int) (x1032 : Int) (x1033 : List Int) : Option ((Int × (List Int)) ⊕ ((List Int))) :=
  cond (decide (x1032 < (((List.length x932 : Nat) : Int)))) ((idx x932 x1032).bind fun (v1044 : Int) => (inb v1044 (List.length x1033)).bind fun (v1046 : Nat) => some (Sum.inl ((IntKind.wrap .i64 (x1032 + 1)), (x1033.set v1046 (IntKind.wrap .i64 (x1032 + 1)))))) (some (Sum.inr x1033))

def spec_PutInOrder_n4 (x932 : List Int) (x1016 : List Int) : Option (((List Int))) :=
  nloop (fun (s : Int × (List Int)) => ((spec_PutInOrder_n3 x932 s.1 s.2).map (Sum.elim (fun (t : Int × (List Int)) => Sum.inl (t.1, t.2)) (fun (t : (List Int)) => Sum.inr t)) : Option ((Int × (List Int)) ⊕ (((List Int)))))) LL (0, x1016)

def spec_PutInOrder_n5 (x932 : List Int) (x1016 : List Int) : Option (((List Int))) :=
  (spec_PutInOrder_n4 x932 x1016).map (fun (t : (List Int)) => t)

def spec_PutInOrder_n6 (x932 : List Int) (x1016 : List Int) : Option (((List Int))) :=
  (spec_PutInOrder_n2).bind (fun (t : Unit) => spec_PutInOrder_n5 x932 x1016)

def spec_PutInOrder_n7 : Option (Unit) :=
  some ()

def spec_PutInOrder_n8 : Option (Unit) :=
  some ()

def spec_PutInOrder_n9 (x931 : List Int) (x932 : List Int) (x1074 : Int) (x1033 : List Int) (x1075 : List Int) : Option ((Int × (List Int)) ⊕ ((List Int))) :=
  cond (decide (x1074 < (((List.length x932 : Nat) : Int)))) ((idx x932 x1074).bind fun (v1091 : Int) => (idx x931 (IntKind.wrap .i64 (v1091 - 1))).bind fun (v1093 : Int) => (inb v1093 (List.length x1033)).bind fun (v1094 : Nat) => (x1033[v1094]?).bind fun (v1095 : Int) => (room ((List.length x1075) + List.length ([v1095]))).bind fun (v1098 : Unit) => some (Sum.inl ((IntKind.wrap .i64 (x1074 + 1)), (x1075 ++ ([v1095]))))) (some (Sum.inr x1075))

def spec_PutInOrder_n10 (x931 : List Int) (x932 : List Int) (x1033 : List Int) : Option (((List Int))) :=
  nloop (fun (s : Int × (List Int)) => ((spec_PutInOrder_n9 x931 x932 s.1 x1033 s.2).map (Sum.elim (fun (t : Int × (List Int)) => Sum.inl (t.1, t.2)) (fun (t : (List Int)) => Sum.inr t)) : Option ((Int × (List Int)) ⊕ (((List Int)))))) LL (0, ([] : List Int))

def spec_PutInOrder_n11 (x931 : List Int) (x932 : List Int) (x1033 : List Int) : Option (((List Int))) :=
  (spec_PutInOrder_n10 x931 x932 x1033).map (fun (t : (List Int)) => t)

def spec_PutInOrder_n12 (x931 : List Int) (x932 : List Int) (x1033 : List Int) : Option (((List Int))) :=
  (spec_PutInOrder_n8).bind (fun (t : Unit) => spec_PutInOrder_n11 x931 x932 x1033)

def spec_PutInOrder_n13 (x1075 : List Int) : Option ((Bool × (List Int))) :=
  some (true, x1075)

def spec_PutInOrder_n14 (x931 : List Int) (x932 : List Int) (x1033 : List Int) : Option ((Bool × (List Int))) :=
  (spec_PutInOrder_n12 x931 x932 x1033).bind (fun (t : (List Int)) => spec_PutInOrder_n13 t)

def spec_PutInOrder_n15 (x931 : List Int) (x932 : List Int) (x1033 : List Int) : Option ((Bool × (List Int))) :=
  (spec_PutInOrder_n7).bind (fun (t : Unit) => spec_PutInOrder_n14 x931 x932 x1033)

def spec_PutInOrder_n16 (x931 : List Int) (x932 : List Int) (x1016 : List Int) : Option ((Bool × (List Int))) :=
  (spec_PutInOrder_n6 x932 x1016).bind (fun (t : (List Int)) => spec_PutInOrder_n15 x931 x932 t)

def spec_PutInOrder_n17 (x931 : List Int) (x932 : List Int) : Option ((Bool × (List Int))) :=
  (spec_PutInOrder_n1 x931 x932).bind (Sum.elim (fun (t : (List Int)) => spec_PutInOrder_n16 x931 x932 t) (fun e => some ((fun (t : Bool × (List Int)) => t) e)))

@[irreducible] def spec_PutInOrder (x931 : List Int) (x932 : List Int) : Option (Bool × (List Int)) :=
  spec_PutInOrder_n17 x931 x932

def spec_l20Fill_n1 (R0 : Int → Int → Int → (List Int) → Int → (List Int) → Option (Int × (List Int))) (x1172 : Int) (x1173 : Int) (x1174 : Int) (x1175 : List Int) (x1176 : Int) (x1177 : List Int) : Option ((Int × Int × (List Int)) ⊕ (Int × (List Int))) :=
  cond (decide (x1172 > x1173)) (some (Sum.inr (x1176, x1177))) ((spec_l20Rd_pick (IntKind.wrap .i64 ((IntKind.wrap .i64 (x1173 - x1172)) + 1)) x1175 x1176).bind fun (v1245 : Int × Int) => (inb (IntKind.wrap .i64 ((IntKind.wrap .i64 (x1172 + (v1245.1))) - 1)) (List.length x1177)).bind fun (v1250 : Nat) => some (Sum.inl ((IntKind.wrap .i64 (x1172 + (v1245.1))), (v1245.2), (x1177.set v1250 x1174))))

def spec_l20Fill_n2 (R0 : Int → Int → Int → (List Int) → Int → (List Int) → Option (Int × (List Int))) (x1248 : Int) (x1263 : Int) (x1175 : List Int) (x1264 : Int) (x1265 : List Int) : Option ((Int × Int × (List Int)) ⊕ (Int × (List Int))) :=
  cond (decide (x1263 < x1248)) ((spec_l20Rd_pick (IntKind.wrap .i64 (x1248 - x1263)) x1175 x1264).bind fun (v1269 : Int × Int) => (R0 x1263 (IntKind.wrap .i64 (x1263 + (v1269.1))) x1248 x1175 (v1269.2) x1265).bind fun (v1273 : Int × (List Int)) => some (Sum.inl ((IntKind.wrap .i64 ((IntKind.wrap .i64 (x1263 + (v1269.1))) + 1)), (v1273.1), (v1273.2)))) (some (Sum.inr (x1264, x1265)))

def spec_l20Fill_n3 (R0 : Int → Int → Int → (List Int) → Int → (List Int) → Option (Int × (List Int))) (x1248 : Int) (x1172 : Int) (x1175 : List Int) (x1247 : Int) (x1251 : List Int) : Option ((Int × (List Int))) :=
  nloop (fun (s : Int × Int × (List Int)) => ((spec_l20Fill_n2 R0 x1248 s.1 x1175 s.2.1 s.2.2).map (Sum.elim (fun (t : Int × Int × (List Int)) => Sum.inl (t.1, t.2.1, t.2.2)) (fun (t : Int × (List Int)) => Sum.inr t)) : Option ((Int × Int × (List Int)) ⊕ ((Int × (List Int)))))) LL (x1172, x1247, x1251)

def spec_l20Fill_n4 (R0 : Int → Int → Int → (List Int) → Int → (List Int) → Option (Int × (List Int))) (x1248 : Int) (x1172 : Int) (x1175 : List Int) (x1247 : Int) (x1251 : List Int) : Option ((Int × (List Int))) :=
  (spec_l20Fill_n3 R0 x1248 x1172 x1175 x1247 x1251).map (fun (t : Int × (List Int)) => (t.1, t.2))

def spec_l20Fill_n5 (R0 : Int → Int → Int → (List Int) → Int → (List Int) → Option (Int × (List Int))) (x1248 : Int) : Option (Int) :=
  some (IntKind.wrap .i64 (x1248 + 1))

def spec_l20Fill_n6 (R0 : Int → Int → Int → (List Int) → Int → (List Int) → Option (Int × (List Int))) (x1173 : Int) (x1248 : Int) (x1290 : Int) (x1175 : List Int) (x1291 : Int) (x1292 : List Int) : Option ((Int × Int × (List Int)) ⊕ (Int × (List Int))) :=
  cond (decide (x1290 ≤ x1173)) ((spec_l20Rd_pick (IntKind.wrap .i64 ((IntKind.wrap .i64 (x1173 - x1290)) + 1)) x1175 x1291).bind fun (v1297 : Int × Int) => (R0 x1290 (IntKind.wrap .i64 (x1290 + (v1297.1))) x1248 x1175 (v1297.2) x1292).bind fun (v1301 : Int × (List Int)) => some (Sum.inl ((IntKind.wrap .i64 ((IntKind.wrap .i64 (x1290 + (v1297.1))) + 1)), (v1301.1), (v1301.2)))) (some (Sum.inr (x1291, x1292)))

def spec_l20Fill_n7 (R0 : Int → Int → Int → (List Int) → Int → (List Int) → Option (Int × (List Int))) (x1173 : Int) (x1248 : Int) (x1277 : Int) (x1175 : List Int) (x1264 : Int) (x1265 : List Int) : Option ((Int × (List Int))) :=
  nloop (fun (s : Int × Int × (List Int)) => ((spec_l20Fill_n6 R0 x1173 x1248 s.1 x1175 s.2.1 s.2.2).map (Sum.elim (fun (t : Int × Int × (List Int)) => Sum.inl (t.1, t.2.1, t.2.2)) (fun (t : Int × (List Int)) => Sum.inr t)) : Option ((Int × Int × (List Int)) ⊕ ((Int × (List Int)))))) LL (x1277, x1264, x1265)

def spec_l20Fill_n8 (R0 : Int → Int → Int → (List Int) → Int → (List Int) → Option (Int × (List Int))) (x1173 : Int) (x1248 : Int) (x1277 : Int) (x1175 : List Int) (x1264 : Int) (x1265 : List Int) : Option ((Int × (List Int))) :=
  (spec_l20Fill_n7 R0 x1173 x1248 x1277 x1175 x1264 x1265).map (fun (t : Int × (List Int)) => (t.1, t.2))

def spec_l20Fill_n9 (R0 : Int → Int → Int → (List Int) → Int → (List Int) → Option (Int × (List Int))) (x1173 : Int) (x1248 : Int) (x1175 : List Int) (x1264 : Int) (x1265 : List Int) : Option ((Int × (List Int))) :=
  (spec_l20Fill_n5 R0 x1248).bind (fun (t : Int) => spec_l20Fill_n8 R0 x1173 x1248 t x1175 x1264 x1265)

def spec_l20Fill_n10 (R0 : Int → Int → Int → (List Int) → Int → (List Int) → Option (Int × (List Int))) (x1173 : Int) (x1248 : Int) (x1172 : Int) (x1175 : List Int) (x1247 : Int) (x1251 : List Int) : Option ((Int × (List Int))) :=
  (spec_l20Fill_n4 R0 x1248 x1172 x1175 x1247 x1251).bind (fun (t : Int × (List Int)) => spec_l20Fill_n9 R0 x1173 x1248 x1175 t.1 t.2)

def spec_l20Fill_n11 (R0 : Int → Int → Int → (List Int) → Int → (List Int) → Option (Int × (List Int))) (x1172 : Int) (x1173 : Int) (x1174 : Int) (x1175 : List Int) (x1176 : Int) (x1177 : List Int) : Option ((Int × (List Int)) ⊕ (Int × (List Int))) :=
  (spec_l20Fill_n1 R0 x1172 x1173 x1174 x1175 x1176 x1177).bind (Sum.elim (fun (t : Int × Int × (List Int)) => (spec_l20Fill_n10 R0 x1173 t.1 x1172 x1175 t.2.1 t.2.2).map (fun (u : Int × (List Int)) => (Sum.inl (u.1, u.2)))) (fun e => some ((fun (t : Int × (List Int)) => (Sum.inr t)) e)))

def spec_l20Fill_one (R0 : Int → Int → Int → (List Int) → Int → (List Int) → Option (Int × (List Int))) (x1172 : Int) (x1173 : Int) (x1174 : Int) (x1175 : List Int) (x1176 : Int) (x1177 : List Int) : Option (Int × (List Int)) :=
  (spec_l20Fill_n11 R0 x1172 x1173 x1174 x1175 x1176 x1177).map (Sum.elim (fun (t : Int × (List Int)) => (t.1, t.2)) (fun (t : Int × (List Int)) => t))

def spec_l20Fill_knot : Nat → (Int → Int → Int → (List Int) → Int → (List Int) → Option (Int × (List Int)))
  | 0 => (fun _ _ _ _ _ _ => none)
  | n + 1 => (fun y0 y1 y2 y3 y4 y5 => spec_l20Fill_one (spec_l20Fill_knot n) y0 y1 y2 y3 y4 y5)

def spec_l20Fill_fuel (n : Nat) : Int → Int → Int → (List Int) → Int → (List Int) → Option (Int × (List Int)) := (spec_l20Fill_knot n)

@[irreducible] def spec_l20Fill (x1172 : Int) (x1173 : Int) (x1174 : Int) (x1175 : List Int) (x1176 : Int) (x1177 : List Int) : Option (Int × (List Int)) := spec_l20Fill_fuel RR x1172 x1173 x1174 x1175 x1176 x1177

def spec_l20Flat_n1 (x1125 : Int) (x1126 : List Int) (x1127 : Int) : Option ((Int × (List Int))) :=
  (spec_l20Rd_pick 3 x1126 x1127).bind fun (v1326 : Int × Int) => cond ((v1326.1) == 0) ((spec_l20Tree x1125 x1126 (v1326.2)).bind fun (v1330 : Int × (List Int)) => some ((v1330.1), (v1330.2))) ((spec_l20Rd_pick 7 x1126 (v1326.2)).bind fun (v1333 : Int × Int) => (mk (IntKind.wrap .i64 (1 + (v1333.1))) (IntKind.wrap .i64 (1 + (v1333.1)))).bind fun (v1337 : Nat) => (spec_l20Fill 1 (IntKind.wrap .i64 (1 + (v1333.1))) 0 x1126 (v1333.2) (List.replicate v1337 (0 : Int))).bind fun (v1339 : Int × (List Int)) => some ((v1339.1), (v1339.2)))

@[irreducible] def spec_l20Flat (x1125 : Int) (x1126 : List Int) (x1127 : Int) : Option (Int × (List Int)) :=
  spec_l20Flat_n1 x1125 x1126 x1127

def spec_l20Wild_n1 (x33 : Int) (x34 : List Int) (x35 : Int) : Option ((Int × (List Int))) :=
  (spec_l20Tree x33 x34 x35).bind fun (v1383 : Int × (List Int)) => (spec_l20Rd_pick 2 x34 (v1383.1)).bind fun (v1386 : Int × Int) => cond ((v1386.1) == 0) ((spec_TreeOk (v1383.2)).bind fun (v1390 : Bool) => cond v1390 ((spec_l20Order (((List.length (v1383.2) : Nat) : Int)) x34 (v1386.2)).bind fun (v1392 : Int × (List Int)) => (spec_PutInOrder (v1383.2) (v1392.2)).bind fun (v1395 : Bool × (List Int)) => some ((v1392.1), (v1395.2))) ((spec_l20Rd_pick 3 x34 (v1386.2)).bind fun (v1398 : Int × Int) => cond ((v1398.1) == 0) ((spec_l20Flat x33 x34 (v1398.2)).bind fun (v1402 : Int × (List Int)) => some ((v1402.1), (v1402.2))) (some ((v1398.2), (v1383.2))))) ((spec_l20Rd_pick 3 x34 (v1386.2)).bind fun (v1405 : Int × Int) => cond ((v1405.1) == 0) ((spec_l20Flat x33 x34 (v1405.2)).bind fun (v1409 : Int × (List Int)) => some ((v1409.1), (v1409.2))) (some ((v1405.2), (v1383.2))))

@[irreducible] def spec_l20Wild (x33 : Int) (x34 : List Int) (x35 : Int) : Option (Int × (List Int)) :=
  spec_l20Wild_n1 x33 x34 x35

def spec_l20Deed_n1 (x1417 : List Int) (x1418 : List Int) (x1419 : Int) : Option ((Int × Int × Int × Int)) :=
  (spec_l20Rd_pick 8 x1418 x1419).bind fun (v1601 : Int × Int) => (idx ([0, 0, 1, 1, 2, 3, 4, 5]) (v1601.1)).bind fun (v1604 : Int) => (spec_l20Rd_pick 60 x1418 (v1601.2)).bind fun (v1605 : Int × Int) => (quo .i64 (v1605.1) 59).bind fun (v1608 : Int) => cond ((IntKind.wrap .i64 (v1604 + (IntKind.wrap .i64 (v1608 * 6)))) == 0) ((spec_l20Rd_pick (imax (((List.length x1417 : Nat) : Int)) 1) x1418 (v1605.2)).bind fun (v1614 : Int × Int) => (spec_l20Rd_pick (IntKind.wrap .i64 ((((List.length x1417 : Nat) : Int)) + 1)) x1418 (v1614.2)).bind fun (v1620 : Int × Int) => (spec_l20Rd_odd 40 x1418 (v1620.2)).bind fun (v1623 : Bool × Int) => cond (v1623.1) ((spec_l20Rd_pick 3 x1418 (v1623.2)).bind fun (v1627 : Int × Int) => (inb (v1627.1) (List.length ([(-1), 9, 100]))).bind fun (v1630 : Nat) => (([(-1), 9, 100])[v1630]?).bind fun (v1631 : Int) => some ((v1627.2), (IntKind.wrap .i64 (v1604 + (IntKind.wrap .i64 (v1608 * 6)))), (IntKind.wrap .i64 (1 + (v1614.1))), v1631)) (some ((v1623.2), (IntKind.wrap .i64 (v1604 + (IntKind.wrap .i64 (v1608 * 6)))), (IntKind.wrap .i64 (1 + (v1614.1))), (v1620.1)))) (cond ((IntKind.wrap .i64 (v1604 + (IntKind.wrap .i64 (v1608 * 6)))) == 1) ((spec_l20Rd_pick (IntKind.wrap .i64 ((((List.length x1417 : Nat) : Int)) + 1)) x1418 (v1605.2)).bind fun (v1635 : Int × Int) => (spec_l20Rd_pick 9 x1418 (v1635.2)).bind fun (v1638 : Int × Int) => (quo .i64 (v1638.1) 8).bind fun (v1641 : Int) => (spec_l20Rd_odd 40 x1418 (v1638.2)).bind fun (v1643 : Bool × Int) => cond (v1643.1) ((spec_l20Rd_pick 3 x1418 (v1643.2)).bind fun (v1647 : Int × Int) => (inb (v1647.1) (List.length ([(-1), 9, 100]))).bind fun (v1650 : Nat) => (([(-1), 9, 100])[v1650]?).bind fun (v1651 : Int) => some ((v1647.2), (IntKind.wrap .i64 (v1604 + (IntKind.wrap .i64 (v1608 * 6)))), (IntKind.wrap .i64 ((v1635.1) + v1641)), v1651)) (some ((v1643.2), (IntKind.wrap .i64 (v1604 + (IntKind.wrap .i64 (v1608 * 6)))), (IntKind.wrap .i64 ((v1635.1) + v1641)), 0))) ((spec_l20Rd_odd 40 x1418 (v1605.2)).bind fun (v1652 : Bool × Int) => cond (v1652.1) ((spec_l20Rd_pick 3 x1418 (v1652.2)).bind fun (v1656 : Int × Int) => (inb (v1656.1) (List.length ([(-1), 9, 100]))).bind fun (v1659 : Nat) => (([(-1), 9, 100])[v1659]?).bind fun (v1660 : Int) => some ((v1656.2), (IntKind.wrap .i64 (v1604 + (IntKind.wrap .i64 (v1608 * 6)))), 0, v1660)) (some ((v1652.2), (IntKind.wrap .i64 (v1604 + (IntKind.wrap .i64 (v1608 * 6)))), 0, 0))))

@[irreducible] def spec_l20Deed (x1417 : List Int) (x1418 : List Int) (x1419 : Int) : Option (Int × Int × Int × Int) :=
  spec_l20Deed_n1 x1417 x1418 x1419

def impl_numbersIn_n1 (x1705 : Int) : Option (Int) :=
  cond (x1705 == 0) (some 2) (cond (x1705 == 1) (some 1) (some 0))

@[irreducible] def impl_numbersIn (x1705 : Int) : Option (Int) :=
  impl_numbersIn_n1 x1705

def impl_Deed_restOk_n1 (x1702 : Int) (x1703 : Int) (x1704 : Int) : Option (Bool) :=
  (impl_numbersIn x1702).bind fun (v1721 : Int) => cond (decide (v1721 > 0)) (cond (decide (v1721 > 1)) (some true) (some (x1704 == 0))) (cond (x1703 == 0) (cond (decide (v1721 > 1)) (some true) (some (x1704 == 0))) (some false))

@[irreducible] def impl_Deed_restOk (x1702 : Int) (x1703 : Int) (x1704 : Int) : Option (Bool) :=
  impl_Deed_restOk_n1 x1702 x1703 x1704

def impl_Deed_inText_n1 (x1697 : Int) (x1698 : Int) (x1699 : Int) : Option (Bool) :=
  cond (decide (x1697 ≥ 0)) (cond (decide (x1697 < 6)) ((impl_Deed_restOk x1697 x1698 x1699).bind fun (v1737 : Bool) => cond v1737 (cond (decide (x1698 ≥ 0)) (cond (decide (x1698 ≤ 99)) (cond (decide (x1699 ≥ 0)) (some (decide (x1699 ≤ 99))) (some false)) (some false)) (some false)) (some false)) (some false)) (some false)

@[irreducible] def impl_Deed_inText (x1697 : Int) (x1698 : Int) (x1699 : Int) : Option (Bool) :=
  impl_Deed_inText_n1 x1697 x1698 x1699

def strconv_Itoa (x1 : Int) : Option (ByteArray) := itoaS x1

def impl_DeedText_n1 (x1693 : Int) (x1694 : Int) (x1695 : Int) : Option (ByteArray ⊕ ByteArray) :=
  (impl_Deed_inText x1693 x1694 x1695).bind fun (v1752 : Bool) => cond (!v1752) (some (Sum.inr ByteArray.empty)) ((same (List.length tabW) 6).bind fun (v1754 : Unit) => (idx tabW x1693).bind fun (v1755 : ByteArray) => some (Sum.inl v1755))

def impl_DeedText_n2 (x1693 : Int) (x1694 : Int) (x1695 : Int) : Option (((List Int) × Int)) :=
  (impl_numbersIn x1693).bind fun (v1757 : Int) => (inc v1757 (List.length ([x1694, x1695]))).bind fun (v1759 : Nat) => some (((([x1694, x1695]).take v1759).drop 0), (((List.length ((([x1694, x1695]).take v1759).drop 0) : Nat) : Int)))

def impl_DeedText_n3 (x1778 : ByteArray) (x1760 : List Int) (x1761 : Int) (x1779 : Int) : Option ((ByteArray × Int) ⊕ ByteArray) :=
  cond (decide (x1779 < x1761)) ((idx x1760 x1779).bind fun (v1788 : Int) => (strconv_Itoa v1788).bind fun (v1789 : ByteArray) => (cat (ByteArray.mk #[32]) v1789).bind fun (v1790 : ByteArray) => (cat x1778 v1790).bind fun (v1791 : ByteArray) => some (Sum.inl (v1791, (IntKind.wrap .i64 (x1779 + 1))))) (some (Sum.inr x1778))

def impl_DeedText_n4 (x1755 : ByteArray) (x1760 : List Int) (x1761 : Int) : Option (ByteArray) :=
  nloop (fun (s : ByteArray × Int) => ((impl_DeedText_n3 s.1 x1760 x1761 s.2).map (Sum.elim (fun (t : ByteArray × Int) => Sum.inl (t.1, t.2)) (fun (t : ByteArray) => Sum.inr t)) : Option ((ByteArray × Int) ⊕ (ByteArray)))) LL (x1755, 0)

def impl_DeedText_n5 (x1755 : ByteArray) (x1760 : List Int) (x1761 : Int) : Option (ByteArray) :=
  (impl_DeedText_n4 x1755 x1760 x1761).map (fun (t : ByteArray) => t)

def impl_DeedText_n6 (x1755 : ByteArray) (x1693 : Int) (x1694 : Int) (x1695 : Int) : Option (ByteArray) :=
  (impl_DeedText_n2 x1693 x1694 x1695).bind (fun (t : (List Int) × Int) => impl_DeedText_n5 x1755 t.1 t.2)

def impl_DeedText_n7 (x1778 : ByteArray) : Option (ByteArray) :=
  some x1778

def impl_DeedText_n8 (x1755 : ByteArray) (x1693 : Int) (x1694 : Int) (x1695 : Int) : Option (ByteArray) :=
  (impl_DeedText_n6 x1755 x1693 x1694 x1695).bind (fun (t : ByteArray) => impl_DeedText_n7 t)

def impl_DeedText_n9 (x1693 : Int) (x1694 : Int) (x1695 : Int) : Option (ByteArray) :=
  (impl_DeedText_n1 x1693 x1694 x1695).bind (Sum.elim (fun (t : ByteArray) => impl_DeedText_n8 t x1693 x1694 x1695) (fun e => some ((fun (t : ByteArray) => t) e)))

@[irreducible] def impl_DeedText (x1693 : Int) (x1694 : Int) (x1695 : Int) : Option (ByteArray) :=
  impl_DeedText_n9 x1693 x1694 x1695

def spec_l1Number_n1 (R0 : Int → Option ByteArray) (x1808 : Int) : Option (ByteArray) :=
  cond (decide (x1808 < 10)) (some (bytesOf ([(IntKind.wrap .u8 (IntKind.wrap .i64 (48 + (imax x1808 0))))]))) ((quo .i64 x1808 10).bind fun (v1872 : Int) => (rem x1808 10).bind fun (v1873 : Int) => (R0 v1872).bind fun (v1878 : ByteArray) => (cat v1878 (bytesOf ([(IntKind.wrap .u8 (IntKind.wrap .i64 (48 + v1873)))]))).bind fun (v1879 : ByteArray) => some v1879)

def spec_l1Number_one (R0 : Int → Option ByteArray) (x1808 : Int) : Option (ByteArray) :=
  spec_l1Number_n1 R0 x1808

def spec_l1Number_knot : Nat → (Int → Option ByteArray)
  | 0 => (fun _ => none)
  | n + 1 => (fun y0 => spec_l1Number_one (spec_l1Number_knot n) y0)

def spec_l1Number_fuel (n : Nat) : Int → Option ByteArray := (spec_l1Number_knot n)

@[irreducible] def spec_l1Number (x1808 : Int) : Option (ByteArray) := spec_l1Number_fuel RR x1808

def spec_DeedText_n1 : Option (Unit) :=
  some ()

def spec_DeedText_n2 (x1802 : Int) (x1803 : Int) (x1804 : Int) : Option (Bool) :=
  cond (x1802 == 0) ((spec_l1In x1803 0 99).bind fun (v1977 : Bool) => cond v1977 ((spec_l1In x1804 0 99).bind fun (v1978 : Bool) => some v1978) (some false)) (some false)

def spec_DeedText_n3 (x1803 : Int) (x1804 : Int) : Option (ByteArray) :=
  (spec_l1Number x1803).bind fun (v2074 : ByteArray) => (cat (ByteArray.mk #[104, 101, 97, 100, 32]) v2074).bind fun (v2075 : ByteArray) => (cat v2075 (ByteArray.mk #[32])).bind fun (v2076 : ByteArray) => (spec_l1Number x1804).bind fun (v2077 : ByteArray) => (cat v2076 v2077).bind fun (v2078 : ByteArray) => some v2078

def spec_DeedText_n4 (x1802 : Int) (x1803 : Int) (x1804 : Int) : Option (Bool) :=
  cond (x1802 == 1) ((spec_l1In x1803 0 99).bind fun (v2080 : Bool) => cond v2080 (some (x1804 == 0)) (some false)) (some false)

def spec_DeedText_n5 (x2123 : Bool) (x1802 : Int) (x1803 : Int) (x1804 : Int) : Option (Unit ⊕ ByteArray) :=
  cond x2123 ((spec_l1Number x1803).bind fun (v2124 : ByteArray) => (cat (ByteArray.mk #[97, 100, 100, 32]) v2124).bind fun (v2125 : ByteArray) => some (Sum.inr v2125)) (cond ((x1802 == 2) && ((x1803 == 0) && ((x1804 == 0) && true))) (some (Sum.inr (ByteArray.mk #[100, 114, 111, 112]))) (cond ((x1802 == 3) && ((x1803 == 0) && ((x1804 == 0) && true))) (some (Sum.inr (ByteArray.mk #[116, 117, 114, 110]))) (cond ((x1802 == 4) && ((x1803 == 0) && ((x1804 == 0) && true))) (some (Sum.inr (ByteArray.mk #[102, 108, 97, 116]))) (cond ((x1802 == 5) && ((x1803 == 0) && ((x1804 == 0) && true))) (some (Sum.inr (ByteArray.mk #[98, 97, 99, 107]))) (some (Sum.inl ()))))))

def spec_DeedText_n6 (x1802 : Int) (x1803 : Int) (x1804 : Int) : Option (Unit ⊕ ByteArray) :=
  (spec_DeedText_n4 x1802 x1803 x1804).bind (fun (t : Bool) => spec_DeedText_n5 t x1802 x1803 x1804)

def spec_DeedText_n7 (x2025 : Bool) (x1802 : Int) (x1803 : Int) (x1804 : Int) : Option (Unit ⊕ ByteArray) :=
  cond x2025 ((spec_DeedText_n3 x1803 x1804).map (fun (t : ByteArray) => (Sum.inr t))) (spec_DeedText_n6 x1802 x1803 x1804)

def spec_DeedText_n8 (x1802 : Int) (x1803 : Int) (x1804 : Int) : Option (Unit ⊕ ByteArray) :=
  (spec_DeedText_n2 x1802 x1803 x1804).bind (fun (t : Bool) => spec_DeedText_n7 t x1802 x1803 x1804)

def spec_DeedText_n9 (x1802 : Int) (x1803 : Int) (x1804 : Int) : Option (Unit ⊕ ByteArray) :=
  (spec_DeedText_n8 x1802 x1803 x1804).map (Sum.elim (fun (t : Unit) => (Sum.inl ())) (fun (t : ByteArray) => (Sum.inr t)))

def spec_DeedText_n10 : Option (ByteArray) :=
  some ByteArray.empty

def spec_DeedText_n11 (x1802 : Int) (x1803 : Int) (x1804 : Int) : Option (ByteArray) :=
  (spec_DeedText_n9 x1802 x1803 x1804).bind (Sum.elim (fun (t : Unit) => spec_DeedText_n10) (fun e => some ((fun (t : ByteArray) => t) e)))

def spec_DeedText_n12 (x1802 : Int) (x1803 : Int) (x1804 : Int) : Option (ByteArray) :=
  (spec_DeedText_n1).bind (fun (t : Unit) => spec_DeedText_n11 x1802 x1803 x1804)

@[irreducible] def spec_DeedText (x1802 : Int) (x1803 : Int) (x1804 : Int) : Option (ByteArray) :=
  spec_DeedText_n12 x1802 x1803 x1804

def impl_oneRoot_n1 : Option (Unit) :=
  some ()

def impl_oneRoot_n2 (x2157 : List Int) : Option (Int) :=
  some (((List.length x2157 : Nat) : Int))

def impl_oneRoot_n3 (x2157 : List Int) (x2179 : Int) (x2158 : Int) (x2180 : Int) : Option ((Int × Int) ⊕ Bool ⊕ Int) :=
  cond (decide (x2180 < x2158)) ((idx x2157 x2180).bind fun (v2191 : Int) => cond (decide (v2191 < 0)) (some (Sum.inr (Sum.inl false))) (cond (decide (v2191 > (((List.length x2157 : Nat) : Int)))) (some (Sum.inr (Sum.inl false))) (cond (v2191 == 0) (some (Sum.inl ((IntKind.wrap .i64 (x2179 + 1)), (IntKind.wrap .i64 (x2180 + 1))))) (some (Sum.inl (x2179, (IntKind.wrap .i64 (x2180 + 1)))))))) (some (Sum.inr (Sum.inr x2179)))

def impl_oneRoot_n4 (x2157 : List Int) (x2158 : Int) : Option (Bool ⊕ Int) :=
  nloop (fun (s : Int × Int) => ((impl_oneRoot_n3 x2157 s.1 x2158 s.2).map (Sum.elim (fun (t : Int × Int) => Sum.inl (t.1, t.2)) (Sum.elim (fun (t : Bool) => Sum.inr (Sum.inl t)) (fun (t : Int) => Sum.inr (Sum.inr t)))) : Option ((Int × Int) ⊕ (Bool ⊕ Int)))) LL (0, 0)

def impl_oneRoot_n5 (x2157 : List Int) (x2158 : Int) : Option (Int ⊕ Bool) :=
  (impl_oneRoot_n4 x2157 x2158).map (Sum.elim (fun (t : Bool) => (Sum.inr t)) (fun (t : Int) => (Sum.inl t)))

def impl_oneRoot_n6 (x2157 : List Int) : Option (Int ⊕ Bool) :=
  (impl_oneRoot_n2 x2157).bind (fun (t : Int) => impl_oneRoot_n5 x2157 t)

def impl_oneRoot_n7 (x2179 : Int) : Option (Bool) :=
  some (x2179 == 1)

def impl_oneRoot_n8 (x2157 : List Int) : Option (Bool) :=
  (impl_oneRoot_n6 x2157).bind (Sum.elim (fun (t : Int) => impl_oneRoot_n7 t) (fun e => some ((fun (t : Bool) => t) e)))

def impl_oneRoot_n9 (x2157 : List Int) : Option (Bool) :=
  (impl_oneRoot_n1).bind (fun (t : Unit) => impl_oneRoot_n8 x2157)

@[irreducible] def impl_oneRoot (x2157 : List Int) : Option (Bool) :=
  impl_oneRoot_n9 x2157

def impl_walker_up_n1 (x2213 : List Int) (x2214 : Int) (x2215 : Int) : Option ((Bool × Int × Int)) :=
  (idx x2213 (IntKind.wrap .i64 (x2214 - 1))).bind fun (v2233 : Int) => cond (v2233 == 0) (some (false, x2214, x2215)) (some (true, v2233, (IntKind.wrap .i64 (x2215 + 1))))

@[irreducible] def impl_walker_up (x2213 : List Int) (x2214 : Int) (x2215 : Int) : Option (Bool × Int × Int) :=
  impl_walker_up_n1 x2213 x2214 x2215

def impl_stepsToRoot_n1 : Option (Unit) :=
  some ()

def impl_stepsToRoot_n2 (x2211 : List Int) (x2249 : Int) (x2250 : Int) : Option ((Int × Int) ⊕ (Int × Bool) ⊕ (Int × Int)) :=
  (impl_walker_up x2211 x2249 x2250).bind fun (v2255 : Bool × Int × Int) => cond (v2255.1) (cond (decide ((v2255.2.2) ≥ (((List.length x2211 : Nat) : Int)))) (some (Sum.inr (Sum.inl (0, false)))) (some (Sum.inl ((v2255.2.1), (v2255.2.2))))) (some (Sum.inr (Sum.inr ((v2255.2.1), (v2255.2.2)))))

def impl_stepsToRoot_n3 (x2211 : List Int) (x2212 : Int) : Option ((Int × Bool) ⊕ (Int × Int)) :=
  nloop (fun (s : Int × Int) => ((impl_stepsToRoot_n2 x2211 s.1 s.2).map (Sum.elim (fun (t : Int × Int) => Sum.inl (t.1, t.2)) (Sum.elim (fun (t : Int × Bool) => Sum.inr (Sum.inl t)) (fun (t : Int × Int) => Sum.inr (Sum.inr t)))) : Option ((Int × Int) ⊕ ((Int × Bool) ⊕ (Int × Int))))) LL (x2212, 0)

def impl_stepsToRoot_n4 (x2211 : List Int) (x2212 : Int) : Option ((Int × Int) ⊕ (Int × Bool)) :=
  (impl_stepsToRoot_n3 x2211 x2212).map (Sum.elim (fun (t : Int × Bool) => (Sum.inr t)) (fun (t : Int × Int) => (Sum.inl (t.1, t.2))))

def impl_stepsToRoot_n5 (x2258 : Int) : Option ((Int × Bool)) :=
  some (x2258, true)

def impl_stepsToRoot_n6 (x2211 : List Int) (x2212 : Int) : Option ((Int × Bool)) :=
  (impl_stepsToRoot_n4 x2211 x2212).bind (Sum.elim (fun (t : Int × Int) => impl_stepsToRoot_n5 t.2) (fun e => some ((fun (t : Int × Bool) => t) e)))

def impl_stepsToRoot_n7 (x2211 : List Int) (x2212 : Int) : Option ((Int × Bool)) :=
  (impl_stepsToRoot_n1).bind (fun (t : Unit) => impl_stepsToRoot_n6 x2211 x2212)

@[irreducible] def impl_stepsToRoot (x2211 : List Int) (x2212 : Int) : Option (Int × Bool) :=
  impl_stepsToRoot_n7 x2211 x2212

def impl_TreeOk_n1 (x2152 : List Int) : Option (Unit ⊕ Bool) :=
  cond (decide ((((List.length x2152 : Nat) : Int)) < 1)) (some (Sum.inr false)) (cond (decide ((((List.length x2152 : Nat) : Int)) > 8)) (some (Sum.inr false)) ((impl_oneRoot x2152).bind fun (v2204 : Bool) => cond (!v2204) (some (Sum.inr false)) (some (Sum.inl ()))))

def impl_TreeOk_n2 (x2152 : List Int) : Option (Int) :=
  some (((List.length x2152 : Nat) : Int))

def impl_TreeOk_n3 (x2152 : List Int) (x2206 : Int) (x2274 : Int) : Option (Int ⊕ Bool ⊕ Unit) :=
  cond (decide (x2274 < x2206)) ((impl_stepsToRoot x2152 (IntKind.wrap .i64 (x2274 + 1))).bind fun (v2285 : Int × Bool) => cond (!(v2285.2)) (some (Sum.inr (Sum.inl false))) (some (Sum.inl (IntKind.wrap .i64 (x2274 + 1))))) (some (Sum.inr (Sum.inr ())))

def impl_TreeOk_n4 (x2152 : List Int) (x2206 : Int) : Option (Bool ⊕ Unit) :=
  nloop (fun (s : Int) => ((impl_TreeOk_n3 x2152 x2206 s).map (Sum.elim (fun (t : Int) => Sum.inl t) (Sum.elim (fun (t : Bool) => Sum.inr (Sum.inl t)) (fun (t : Unit) => Sum.inr (Sum.inr t)))) : Option ((Int) ⊕ (Bool ⊕ Unit)))) LL 0

def impl_TreeOk_n5 (x2152 : List Int) (x2206 : Int) : Option (Unit ⊕ Bool) :=
  (impl_TreeOk_n4 x2152 x2206).map (Sum.elim (fun (t : Bool) => (Sum.inr t)) (fun (t : Unit) => (Sum.inl ())))

def impl_TreeOk_n6 (x2152 : List Int) : Option (Unit ⊕ Bool) :=
  (impl_TreeOk_n2 x2152).bind (fun (t : Int) => impl_TreeOk_n5 x2152 t)

def impl_TreeOk_n7 : Option (Bool) :=
  some true

def impl_TreeOk_n8 (x2152 : List Int) : Option (Bool) :=
  (impl_TreeOk_n6 x2152).bind (Sum.elim (fun (t : Unit) => impl_TreeOk_n7) (fun e => some ((fun (t : Bool) => t) e)))

def impl_TreeOk_n9 (x2152 : List Int) : Option (Bool) :=
  (impl_TreeOk_n1 x2152).bind (Sum.elim (fun (t : Unit) => impl_TreeOk_n8 x2152) (fun e => some ((fun (t : Bool) => t) e)))

@[irreducible] def impl_TreeOk (x2152 : List Int) : Option (Bool) :=
  impl_TreeOk_n9 x2152

def laws_alive_n1 : Option (Bool) :=
  (impl_TreeOk ([0])).bind fun (v2296 : Bool) => cond v2296 ((impl_TreeOk ([1])).bind fun (v2298 : Bool) => some (!v2298)) (some false)

@[irreducible] def laws_alive : Option (Bool) :=
  laws_alive_n1

def internal_stringslite_Index (x1 : ByteArray) (x2 : ByteArray) : Option (Int) := sidx x1 x2

def strings_Index_n1 (x2362 : ByteArray) (x2363 : ByteArray) : Option (Int) :=
  (internal_stringslite_Index x2362 x2363).bind fun (v2368 : Int) => some v2368

@[irreducible] def strings_Index (x2362 : ByteArray) (x2363 : ByteArray) : Option (Int) :=
  strings_Index_n1 x2362 x2363

def strings_genSplit_n1 (x2318 : ByteArray) (x2319 : ByteArray) (x2321 : Int) : Option ((Int × (List ByteArray)) ⊕ (Nat × (List ByteArray))) :=
  cond (x2321 == 0) (some (Sum.inr ((List.length ([] : List ByteArray)), ([] : List ByteArray)))) (cond (seqs x2319 ByteArray.empty) (none) (cond (decide (x2321 < 0)) (none) ((mk (imin x2321 (IntKind.wrap .i64 ((((ByteArray.size x2318 : Nat) : Int)) + 1))) (imin x2321 (IntKind.wrap .i64 ((((ByteArray.size x2318 : Nat) : Int)) + 1)))).bind fun (v2458 : Nat) => some (Sum.inl ((IntKind.wrap .i64 ((imin x2321 (IntKind.wrap .i64 ((((ByteArray.size x2318 : Nat) : Int)) + 1))) - 1)), (List.replicate v2458 ByteArray.empty))))))

def strings_genSplit_n2 (x2477 : ByteArray) (x2319 : ByteArray) (x2320 : Int) (x2460 : Int) (x2478 : Int) (x2479 : List ByteArray) : Option ((ByteArray × Int × (List ByteArray)) ⊕ (ByteArray × Int × (List ByteArray))) :=
  cond (decide (x2478 < x2460)) ((strings_Index x2477 x2319).bind fun (v2482 : Int) => cond (decide (v2482 < 0)) (some (Sum.inr (x2477, x2478, x2479))) ((inc (IntKind.wrap .i64 (v2482 + x2320)) (ByteArray.size x2477)).bind fun (v2486 : Nat) => (inb x2478 (List.length x2479)).bind fun (v2488 : Nat) => (inc (IntKind.wrap .i64 (v2482 + (((ByteArray.size x2319 : Nat) : Int)))) (ByteArray.size x2477)).bind fun (v2493 : Nat) => some (Sum.inl ((x2477.extract v2493 (ByteArray.size x2477)), (IntKind.wrap .i64 (x2478 + 1)), (x2479.set v2488 (x2477.extract 0 v2486)))))) (some (Sum.inr (x2477, x2478, x2479)))

def strings_genSplit_n3 (x2318 : ByteArray) (x2319 : ByteArray) (x2320 : Int) (x2460 : Int) (x2459 : List ByteArray) : Option ((ByteArray × Int × (List ByteArray))) :=
  nloop (fun (s : ByteArray × Int × (List ByteArray)) => ((strings_genSplit_n2 s.1 x2319 x2320 x2460 s.2.1 s.2.2).map (Sum.elim (fun (t : ByteArray × Int × (List ByteArray)) => Sum.inl (t.1, t.2.1, t.2.2)) (fun (t : ByteArray × Int × (List ByteArray)) => Sum.inr t)) : Option ((ByteArray × Int × (List ByteArray)) ⊕ ((ByteArray × Int × (List ByteArray)))))) LL (x2318, 0, x2459)

def strings_genSplit_n4 (x2318 : ByteArray) (x2319 : ByteArray) (x2320 : Int) (x2460 : Int) (x2459 : List ByteArray) : Option ((ByteArray × Int × (List ByteArray))) :=
  (strings_genSplit_n3 x2318 x2319 x2320 x2460 x2459).map (fun (t : ByteArray × Int × (List ByteArray)) => (t.1, t.2.1, t.2.2))

def strings_genSplit_n5 (x2477 : ByteArray) (x2478 : Int) (x2479 : List ByteArray) : Option ((Nat × (List ByteArray))) :=
  (inb x2478 (List.length x2479)).bind fun (v2504 : Nat) => (inc (IntKind.wrap .i64 (x2478 + 1)) (List.length (x2479.set v2504 x2477))).bind fun (v2508 : Nat) => some ((v2508 - 0), (x2479.set v2504 x2477))

def strings_genSplit_n6 (x2318 : ByteArray) (x2319 : ByteArray) (x2320 : Int) (x2460 : Int) (x2459 : List ByteArray) : Option ((Nat × (List ByteArray))) :=
  (strings_genSplit_n4 x2318 x2319 x2320 x2460 x2459).bind (fun (t : ByteArray × Int × (List ByteArray)) => strings_genSplit_n5 t.1 t.2.1 t.2.2)

def strings_genSplit_n7 (x2318 : ByteArray) (x2319 : ByteArray) (x2320 : Int) (x2321 : Int) : Option ((Nat × (List ByteArray))) :=
  (strings_genSplit_n1 x2318 x2319 x2321).bind (Sum.elim (fun (t : Int × (List ByteArray)) => strings_genSplit_n6 x2318 x2319 x2320 t.1 t.2) (fun e => some ((fun (t : Nat × (List ByteArray)) => t) e)))

@[irreducible] def strings_genSplit (x2318 : ByteArray) (x2319 : ByteArray) (x2320 : Int) (x2321 : Int) : Option (Nat × (List ByteArray)) :=
  strings_genSplit_n7 x2318 x2319 x2320 x2321

def strings_SplitN_n1 (x2314 : ByteArray) (x2315 : ByteArray) (x2316 : Int) : Option ((Nat × (List ByteArray))) :=
  (strings_genSplit x2314 x2315 0 x2316).bind fun (v2515 : Nat × (List ByteArray)) => some ((v2515.1), (v2515.2))

@[irreducible] def strings_SplitN (x2314 : ByteArray) (x2315 : ByteArray) (x2316 : Int) : Option (Nat × (List ByteArray)) :=
  strings_SplitN_n1 x2314 x2315 x2316

def impl_kindFor_n1 : Option (Unit) :=
  some ()

def impl_kindFor_n2 : Option ((ByteArray × ByteArray × ByteArray × ByteArray × ByteArray × ByteArray)) :=
  (same (List.length tabW) 6).bind fun (v2528 : Unit) => some ((tabW.getD 0 ByteArray.empty), (tabW.getD 1 ByteArray.empty), (tabW.getD 2 ByteArray.empty), (tabW.getD 3 ByteArray.empty), (tabW.getD 4 ByteArray.empty), (tabW.getD 5 ByteArray.empty))

def impl_kindFor_n3 (x2527 : ByteArray) (x2529 : ByteArray) (x2530 : ByteArray) (x2531 : ByteArray) (x2532 : ByteArray) (x2533 : ByteArray) (x2534 : ByteArray) (x2544 : Int) : Option (Int ⊕ Int ⊕ Unit) :=
  cond (decide (x2544 < 6)) ((idx [x2529, x2530, x2531, x2532, x2533, x2534] x2544).bind fun (v2551 : ByteArray) => cond (seqs v2551 x2527) (some (Sum.inr (Sum.inl x2544))) (some (Sum.inl (IntKind.wrap .i64 (x2544 + 1))))) (some (Sum.inr (Sum.inr ())))

def impl_kindFor_n4 (x2527 : ByteArray) (x2529 : ByteArray) (x2530 : ByteArray) (x2531 : ByteArray) (x2532 : ByteArray) (x2533 : ByteArray) (x2534 : ByteArray) : Option (Int ⊕ Unit) :=
  nloop (fun (s : Int) => ((impl_kindFor_n3 x2527 x2529 x2530 x2531 x2532 x2533 x2534 s).map (Sum.elim (fun (t : Int) => Sum.inl t) (Sum.elim (fun (t : Int) => Sum.inr (Sum.inl t)) (fun (t : Unit) => Sum.inr (Sum.inr t)))) : Option ((Int) ⊕ (Int ⊕ Unit)))) LL 0

def impl_kindFor_n5 (x2527 : ByteArray) (x2529 : ByteArray) (x2530 : ByteArray) (x2531 : ByteArray) (x2532 : ByteArray) (x2533 : ByteArray) (x2534 : ByteArray) : Option (Unit ⊕ Int) :=
  (impl_kindFor_n4 x2527 x2529 x2530 x2531 x2532 x2533 x2534).map (Sum.elim (fun (t : Int) => (Sum.inr t)) (fun (t : Unit) => (Sum.inl ())))

def impl_kindFor_n6 (x2527 : ByteArray) : Option (Unit ⊕ Int) :=
  (impl_kindFor_n2).bind (fun (t : ByteArray × ByteArray × ByteArray × ByteArray × ByteArray × ByteArray) => impl_kindFor_n5 x2527 t.1 t.2.1 t.2.2.1 t.2.2.2.1 t.2.2.2.2.1 t.2.2.2.2.2)

def impl_kindFor_n7 : Option (Int) :=
  some (-1)

def impl_kindFor_n8 (x2527 : ByteArray) : Option (Int) :=
  (impl_kindFor_n6 x2527).bind (Sum.elim (fun (t : Unit) => impl_kindFor_n7) (fun e => some ((fun (t : Int) => t) e)))

def impl_kindFor_n9 (x2527 : ByteArray) : Option (Int) :=
  (impl_kindFor_n1).bind (fun (t : Unit) => impl_kindFor_n8 x2527)

@[irreducible] def impl_kindFor (x2527 : ByteArray) : Option (Int) :=
  impl_kindFor_n9 x2527

def strconv_Atoi (x1 : ByteArray) : Option (Int × Bool) := atoiS x1

def impl_ReadDeed_n1 (x2313 : ByteArray) : Option ((Bool × Int × Int × Int)) :=
  (strings_SplitN x2313 (ByteArray.mk #[32]) 3).bind fun (v2691 : Nat × (List ByteArray)) => (inb 0 (v2691.1)).bind fun (v2694 : Nat) => ((v2691.2)[(0 + v2694)]?).bind fun (v2696 : ByteArray) => (impl_kindFor v2696).bind fun (v2697 : Int) => cond (decide (((((v2691.1) : Nat) : Int)) > 1)) ((inb 1 (v2691.1)).bind fun (v2700 : Nat) => ((v2691.2)[(0 + v2700)]?).bind fun (v2702 : ByteArray) => (strconv_Atoi v2702).bind fun (v2703 : Int × Bool) => cond (decide (((((v2691.1) : Nat) : Int)) > 2)) ((inb 2 (v2691.1)).bind fun (v2708 : Nat) => ((v2691.2)[(0 + v2708)]?).bind fun (v2710 : ByteArray) => (strconv_Atoi v2710).bind fun (v2711 : Int × Bool) => cond (seqs x2313 ByteArray.empty) (some (false, 0, 0, 0)) ((impl_DeedText v2697 (v2703.1) (v2711.1)).bind fun (v2715 : ByteArray) => cond (!(seqs v2715 x2313)) (some (false, 0, 0, 0)) (some (true, v2697, (v2703.1), (v2711.1))))) (cond (seqs x2313 ByteArray.empty) (some (false, 0, 0, 0)) ((impl_DeedText v2697 (v2703.1) 0).bind fun (v2718 : ByteArray) => cond (!(seqs v2718 x2313)) (some (false, 0, 0, 0)) (some (true, v2697, (v2703.1), 0))))) (cond (decide (((((v2691.1) : Nat) : Int)) > 2)) ((inb 2 (v2691.1)).bind fun (v2722 : Nat) => ((v2691.2)[(0 + v2722)]?).bind fun (v2724 : ByteArray) => (strconv_Atoi v2724).bind fun (v2725 : Int × Bool) => cond (seqs x2313 ByteArray.empty) (some (false, 0, 0, 0)) ((impl_DeedText v2697 0 (v2725.1)).bind fun (v2729 : ByteArray) => cond (!(seqs v2729 x2313)) (some (false, 0, 0, 0)) (some (true, v2697, 0, (v2725.1))))) (cond (seqs x2313 ByteArray.empty) (some (false, 0, 0, 0)) ((impl_DeedText v2697 0 0).bind fun (v2732 : ByteArray) => cond (!(seqs v2732 x2313)) (some (false, 0, 0, 0)) (some (true, v2697, 0, 0)))))

@[irreducible] def impl_ReadDeed (x2313 : ByteArray) : Option (Bool × Int × Int × Int) :=
  impl_ReadDeed_n1 x2313

def spec_l20Spoil_n1 (x2819 : ByteArray) (x2820 : List Int) (x2821 : Int) : Option ((ByteArray × Int)) :=
  cond ((((ByteArray.size x2819 : Nat) : Int)) == 0) (some ((ByteArray.mk #[10]), x2821)) ((spec_l20Rd_pick (((ByteArray.size x2819 : Nat) : Int)) x2820 x2821).bind fun (v2906 : Int × Int) => (inc (v2906.1) (ByteArray.size x2819)).bind fun (v2910 : Nat) => (inc (IntKind.wrap .i64 ((v2906.1) + 1)) (ByteArray.size x2819)).bind fun (v2915 : Nat) => (spec_l20Rd_pick 6 x2820 (v2906.2)).bind fun (v2917 : Int × Int) => (idx ([ByteArray.empty, (ByteArray.mk #[48]), (ByteArray.mk #[32]), (ByteArray.mk #[10]), (ByteArray.mk #[45]), (ByteArray.mk #[98, 97, 99, 107])]) (v2917.1)).bind fun (v2920 : ByteArray) => (cat (x2819.extract 0 v2910) v2920).bind fun (v2921 : ByteArray) => (cat v2921 (x2819.extract v2915 (ByteArray.size x2819))).bind fun (v2922 : ByteArray) => some (v2922, (v2917.2)))

@[irreducible] def spec_l20Spoil (x2819 : ByteArray) (x2820 : List Int) (x2821 : Int) : Option (ByteArray × Int) :=
  spec_l20Spoil_n1 x2819 x2820 x2821

def spec_DrawReadDeed_n1 (x2788 : List Int) : Option (ByteArray) :=
  (spec_l20Open x2788).bind fun (v2945 : List Int) => (spec_l20Wild 0 v2945 0).bind fun (v2946 : Int × (List Int)) => (spec_l20Deed (v2946.2) v2945 (v2946.1)).bind fun (v2949 : Int × Int × Int × Int) => (spec_DeedText (v2949.2.1) (v2949.2.2.1) (v2949.2.2.2)).bind fun (v2954 : ByteArray) => (spec_l20Rd_pick 3 v2945 (v2949.1)).bind fun (v2955 : Int × Int) => cond ((v2955.1) == 0) ((spec_l20Spoil v2954 v2945 (v2955.2)).bind fun (v2959 : ByteArray × Int) => some (v2959.1)) (some v2954)

@[irreducible] def spec_DrawReadDeed (x2788 : List Int) : Option (ByteArray) :=
  spec_DrawReadDeed_n1 x2788

def spec_l1Cut_n1 : Option (Unit) :=
  some ()

def spec_l1Cut_n2 : Option (Unit) :=
  some ()

def spec_l1Cut_n3 (x2982 : ByteArray) (x2983 : Int) (x3017 : Int) (x3018 : Int) (x3019 : List ByteArray) : Option ((Int × Int × (List ByteArray)) ⊕ (Int × (List ByteArray))) :=
  cond (decide (x3018 < (((ByteArray.size x2982 : Nat) : Int)))) ((bidx x2982 x3018).bind fun (v3037 : Int) => cond (v3037 == x2983) ((inc x3018 (ByteArray.size x2982)).bind fun (v3040 : Nat) => (inc x3017 v3040).bind fun (v3041 : Nat) => (room ((List.length x3019) + List.length ([(x2982.extract v3041 v3040)]))).bind fun (v3045 : Unit) => some (Sum.inl ((IntKind.wrap .i64 (x3018 + 1)), (IntKind.wrap .i64 (x3018 + 1)), (x3019 ++ ([(x2982.extract v3041 v3040)]))))) (some (Sum.inl (x3017, (IntKind.wrap .i64 (x3018 + 1)), x3019)))) (some (Sum.inr (x3017, x3019)))

def spec_l1Cut_n4 (x2982 : ByteArray) (x2983 : Int) : Option ((Int × (List ByteArray))) :=
  nloop (fun (s : Int × Int × (List ByteArray)) => ((spec_l1Cut_n3 x2982 x2983 s.1 s.2.1 s.2.2).map (Sum.elim (fun (t : Int × Int × (List ByteArray)) => Sum.inl (t.1, t.2.1, t.2.2)) (fun (t : Int × (List ByteArray)) => Sum.inr t)) : Option ((Int × Int × (List ByteArray)) ⊕ ((Int × (List ByteArray)))))) LL (0, 0, ([] : List ByteArray))

def spec_l1Cut_n5 (x2982 : ByteArray) (x2983 : Int) : Option ((Int × (List ByteArray))) :=
  (spec_l1Cut_n4 x2982 x2983).map (fun (t : Int × (List ByteArray)) => (t.1, t.2))

def spec_l1Cut_n6 (x2982 : ByteArray) (x2983 : Int) : Option ((Int × (List ByteArray))) :=
  (spec_l1Cut_n2).bind (fun (t : Unit) => spec_l1Cut_n5 x2982 x2983)

def spec_l1Cut_n7 (x2982 : ByteArray) (x3017 : Int) (x3019 : List ByteArray) : Option (((List ByteArray))) :=
  (inc x3017 (ByteArray.size x2982)).bind fun (v3061 : Nat) => (room ((List.length x3019) + List.length ([(x2982.extract v3061 (ByteArray.size x2982))]))).bind fun (v3065 : Unit) => some (x3019 ++ ([(x2982.extract v3061 (ByteArray.size x2982))]))

def spec_l1Cut_n8 (x2982 : ByteArray) (x2983 : Int) : Option (((List ByteArray))) :=
  (spec_l1Cut_n6 x2982 x2983).bind (fun (t : Int × (List ByteArray)) => spec_l1Cut_n7 x2982 t.1 t.2)

def spec_l1Cut_n9 (x2982 : ByteArray) (x2983 : Int) : Option (((List ByteArray))) :=
  (spec_l1Cut_n1).bind (fun (t : Unit) => spec_l1Cut_n8 x2982 x2983)

@[irreducible] def spec_l1Cut (x2982 : ByteArray) (x2983 : Int) : Option ((List ByteArray)) :=
  spec_l1Cut_n9 x2982 x2983

def spec_l1Digits_n1 (x3103 : ByteArray) : Option (Unit ⊕ Int) :=
  (spec_l1In (((ByteArray.size x3103 : Nat) : Int)) 1 6).bind fun (v3112 : Bool) => cond (!v3112) (some (Sum.inr (-1))) (cond (decide ((((ByteArray.size x3103 : Nat) : Int)) > 1)) ((bidx x3103 0).bind fun (v3116 : Int) => cond (v3116 == 48) (some (Sum.inr (-1))) (some (Sum.inl ()))) (some (Sum.inl ())))

def spec_l1Digits_n2 : Option (Unit) :=
  some ()

def spec_l1Digits_n3 (x3103 : ByteArray) (x3144 : Int) (x3145 : Int) : Option ((Int × Int) ⊕ Int ⊕ Int) :=
  cond (decide (x3145 < (((ByteArray.size x3103 : Nat) : Int)))) ((bidx x3103 x3145).bind fun (v3161 : Int) => cond (decide (v3161 < 48)) (some (Sum.inr (Sum.inl (-1)))) ((bidx x3103 x3145).bind fun (v3163 : Int) => cond (decide (v3163 > 57)) (some (Sum.inr (Sum.inl (-1)))) ((bidx x3103 x3145).bind fun (v3166 : Int) => some (Sum.inl ((IntKind.wrap .i64 ((IntKind.wrap .i64 (10 * x3144)) + (IntKind.wrap .i64 (IntKind.wrap .u8 (v3166 - 48))))), (IntKind.wrap .i64 (x3145 + 1))))))) (some (Sum.inr (Sum.inr x3144)))

def spec_l1Digits_n4 (x3103 : ByteArray) : Option (Int ⊕ Int) :=
  nloop (fun (s : Int × Int) => ((spec_l1Digits_n3 x3103 s.1 s.2).map (Sum.elim (fun (t : Int × Int) => Sum.inl (t.1, t.2)) (Sum.elim (fun (t : Int) => Sum.inr (Sum.inl t)) (fun (t : Int) => Sum.inr (Sum.inr t)))) : Option ((Int × Int) ⊕ (Int ⊕ Int)))) LL (0, 0)

def spec_l1Digits_n5 (x3103 : ByteArray) : Option (Int ⊕ Int) :=
  (spec_l1Digits_n4 x3103).map (Sum.elim (fun (t : Int) => (Sum.inr t)) (fun (t : Int) => (Sum.inl t)))

def spec_l1Digits_n6 (x3103 : ByteArray) : Option (Int ⊕ Int) :=
  (spec_l1Digits_n2).bind (fun (t : Unit) => spec_l1Digits_n5 x3103)

def spec_l1Digits_n7 (x3144 : Int) : Option (Int) :=
  some x3144

def spec_l1Digits_n8 (x3103 : ByteArray) : Option (Int) :=
  (spec_l1Digits_n6 x3103).bind (Sum.elim (fun (t : Int) => spec_l1Digits_n7 t) (fun e => some ((fun (t : Int) => t) e)))

def spec_l1Digits_n9 (x3103 : ByteArray) : Option (Int) :=
  (spec_l1Digits_n1 x3103).bind (Sum.elim (fun (t : Unit) => spec_l1Digits_n8 x3103) (fun e => some ((fun (t : Int) => t) e)))

@[irreducible] def spec_l1Digits (x3103 : ByteArray) : Option (Int) :=
  spec_l1Digits_n9 x3103

def spec_ReadDeed_n1 (x2980 : ByteArray) : Option (((List ByteArray) × (List (Int × Int × Int × Unit)))) :=
  (spec_l1Cut x2980 32).bind fun (v3068 : List ByteArray) => some (v3068, ([(2, (0, (0, ()))), (3, (0, (0, ()))), (4, (0, (0, ()))), (5, (0, (0, ())))]))

def spec_ReadDeed_n2 (x3068 : List ByteArray) : Option (Bool) :=
  some ((((List.length x3068 : Nat) : Int)) == 3)

def spec_ReadDeed_n3 (x3068 : List ByteArray) (x3082 : List (Int × Int × Int × Unit)) : Option (((List (Int × Int × Int × Unit)))) :=
  (inb 1 (List.length x3068)).bind fun (v3226 : Nat) => (x3068[v3226]?).bind fun (v3227 : ByteArray) => (inb 2 (List.length x3068)).bind fun (v3228 : Nat) => (x3068[v3228]?).bind fun (v3229 : ByteArray) => (spec_l1Digits v3227).bind fun (v3230 : Int) => (spec_l1Digits v3229).bind fun (v3231 : Int) => (room ((List.length x3082) + List.length ([(0, (v3230, (v3231, ())))]))).bind fun (v3237 : Unit) => some (x3082 ++ ([(0, (v3230, (v3231, ())))]))

def spec_ReadDeed_n4 : Option (Unit) :=
  some ()

def spec_ReadDeed_n5 (x3197 : Bool) (x3068 : List ByteArray) (x3082 : List (Int × Int × Int × Unit)) : Option (((List (Int × Int × Int × Unit)))) :=
  cond x3197 ((spec_ReadDeed_n3 x3068 x3082).map (fun (t : (List (Int × Int × Int × Unit))) => t)) ((spec_ReadDeed_n4).map (fun (t : Unit) => x3082))

def spec_ReadDeed_n6 (x3068 : List ByteArray) (x3082 : List (Int × Int × Int × Unit)) : Option (((List (Int × Int × Int × Unit)))) :=
  (spec_ReadDeed_n2 x3068).bind (fun (t : Bool) => spec_ReadDeed_n5 t x3068 x3082)

def spec_ReadDeed_n7 (x3068 : List ByteArray) (x3239 : List (Int × Int × Int × Unit)) : Option (((List (Int × Int × Int × Unit)))) :=
  cond ((((List.length x3068 : Nat) : Int)) == 2) ((inb 1 (List.length x3068)).bind fun (v3242 : Nat) => (x3068[v3242]?).bind fun (v3243 : ByteArray) => (spec_l1Digits v3243).bind fun (v3244 : Int) => (room ((List.length x3239) + List.length ([(1, (v3244, (0, ())))]))).bind fun (v3250 : Unit) => some (x3239 ++ ([(1, (v3244, (0, ())))]))) (some x3239)

def spec_ReadDeed_n8 : Option (Unit) :=
  some ()

def spec_ReadDeed_n9 (x2980 : ByteArray) (x3300 : Int) (x3252 : List (Int × Int × Int × Unit)) : Option (Int ⊕ (Bool × Int × Int × Int) ⊕ Unit) :=
  cond (decide (x3300 < (((List.length x3252 : Nat) : Int)))) (cond (!(seqs x2980 ByteArray.empty)) ((inb x3300 (List.length x3252)).bind fun (v3327 : Nat) => (x3252[v3327]?).bind fun (v3328 : Int × Int × Int × Unit) => (spec_DeedText (v3328.1) ((v3328.2).1) (((v3328.2).2).1)).bind fun (v3335 : ByteArray) => cond (seqs v3335 x2980) ((inb x3300 (List.length x3252)).bind fun (v3337 : Nat) => (x3252[v3337]?).bind fun (v3338 : Int × Int × Int × Unit) => some (Sum.inr (Sum.inl (true, (v3338.1), ((v3338.2).1), (((v3338.2).2).1))))) (some (Sum.inl (IntKind.wrap .i64 (x3300 + 1))))) (some (Sum.inl (IntKind.wrap .i64 (x3300 + 1))))) (some (Sum.inr (Sum.inr ())))

def spec_ReadDeed_n10 (x2980 : ByteArray) (x3252 : List (Int × Int × Int × Unit)) : Option ((Bool × Int × Int × Int) ⊕ Unit) :=
  nloop (fun (s : Int) => ((spec_ReadDeed_n9 x2980 s x3252).map (Sum.elim (fun (t : Int) => Sum.inl t) (Sum.elim (fun (t : Bool × Int × Int × Int) => Sum.inr (Sum.inl t)) (fun (t : Unit) => Sum.inr (Sum.inr t)))) : Option ((Int) ⊕ ((Bool × Int × Int × Int) ⊕ Unit)))) LL 0

def spec_ReadDeed_n11 (x2980 : ByteArray) (x3252 : List (Int × Int × Int × Unit)) : Option (Unit ⊕ (Bool × Int × Int × Int)) :=
  (spec_ReadDeed_n10 x2980 x3252).map (Sum.elim (fun (t : Bool × Int × Int × Int) => (Sum.inr t)) (fun (t : Unit) => (Sum.inl ())))

def spec_ReadDeed_n12 (x2980 : ByteArray) (x3252 : List (Int × Int × Int × Unit)) : Option (Unit ⊕ (Bool × Int × Int × Int)) :=
  (spec_ReadDeed_n8).bind (fun (t : Unit) => spec_ReadDeed_n11 x2980 x3252)

def spec_ReadDeed_n13 : Option ((Bool × Int × Int × Int)) :=
  some (false, 0, 0, 0)

def spec_ReadDeed_n14 (x2980 : ByteArray) (x3252 : List (Int × Int × Int × Unit)) : Option ((Bool × Int × Int × Int)) :=
  (spec_ReadDeed_n12 x2980 x3252).bind (Sum.elim (fun (t : Unit) => spec_ReadDeed_n13) (fun e => some ((fun (t : Bool × Int × Int × Int) => t) e)))

def spec_ReadDeed_n15 (x2980 : ByteArray) (x3068 : List ByteArray) (x3239 : List (Int × Int × Int × Unit)) : Option ((Bool × Int × Int × Int)) :=
  (spec_ReadDeed_n7 x3068 x3239).bind (fun (t : (List (Int × Int × Int × Unit))) => spec_ReadDeed_n14 x2980 t)

def spec_ReadDeed_n16 (x2980 : ByteArray) (x3068 : List ByteArray) (x3082 : List (Int × Int × Int × Unit)) : Option ((Bool × Int × Int × Int)) :=
  (spec_ReadDeed_n6 x3068 x3082).bind (fun (t : (List (Int × Int × Int × Unit))) => spec_ReadDeed_n15 x2980 x3068 t)

def spec_ReadDeed_n17 (x2980 : ByteArray) : Option ((Bool × Int × Int × Int)) :=
  (spec_ReadDeed_n1 x2980).bind (fun (t : (List ByteArray) × (List (Int × Int × Int × Unit))) => spec_ReadDeed_n16 x2980 t.1 t.2)

@[irreducible] def spec_ReadDeed (x2980 : ByteArray) : Option (Bool × Int × Int × Int) :=
  spec_ReadDeed_n17 x2980

def laws_FnReadDeed_n1 (x2783 : List Int) : Option (Bool) :=
  cond (decide ((((List.length x2783 : Nat) : Int)) > 1048576)) (some true) ((spec_DrawReadDeed x2783).bind fun (v3461 : ByteArray) => (impl_ReadDeed v3461).bind fun (v3462 : Bool × Int × Int × Int) => (spec_ReadDeed v3461).bind fun (v3467 : Bool × Int × Int × Int) => cond (!(((v3462.2.1) == (v3467.2.1)) && (((v3462.2.2.1) == (v3467.2.2.1)) && (((v3462.2.2.2) == (v3467.2.2.2)) && true)))) (some false) (cond ((v3462.1) != (v3467.1)) (some false) (cond (!(v3462.1)) (cond (((v3462.2.1) == 0) && (((v3462.2.2.1) == 0) && (((v3462.2.2.2) == 0) && true))) ((laws_alive).bind fun (v3481 : Bool) => some v3481) (some false)) ((cat v3461 (ByteArray.mk #[32])).bind fun (v3482 : ByteArray) => (impl_ReadDeed v3482).bind fun (v3483 : Bool × Int × Int × Int) => (impl_DeedText (v3462.2.1) (v3462.2.2.1) (v3462.2.2.2)).bind fun (v3488 : ByteArray) => cond (seqs v3488 v3461) (some (!(v3483.1))) (some false)))))

@[irreducible] def laws_FnReadDeed (x2783 : List Int) : Option (Bool) :=
  laws_FnReadDeed_n1 x2783

end Go.Rv
