/-
  Plain functions, written by program for functions of the checked code. Conditions: none.
-/
import Derived.Test.YtcidinfpacpdaaaFB
set_option linter.unusedVariables false
namespace Go.Rv
def spec_l20Open_n1 (x12 : List Int) : Option (((List Int))) :=
  cond (decide ((((List.length x12 : Nat) : Int)) > 2000)) ((inc 2000 (List.length x12)).bind fun (v29 : Nat) => some ((x12.take v29).drop 0)) (some x12)

@[irreducible] def spec_l20Open (x12 : List Int) : Option ((List Int)) :=
  spec_l20Open_n1 x12

def spec_l20Rd_pick_n1 (x41 : Int) (x42 : List Int) (x43 : Int) : Option ((Int × Int)) :=
  cond (decide (x41 < 1)) (some (0, (IntKind.wrap .i64 (x43 + 1)))) (cond ((((List.length x42 : Nat) : Int)) == 0) (some (0, (IntKind.wrap .i64 (x43 + 1)))) (cond (decide ((IntKind.wrap .i64 ((IntKind.wrap .i64 (x43 + 1)) - 1)) < (((List.length x42 : Nat) : Int)))) ((idx x42 (IntKind.wrap .i64 ((IntKind.wrap .i64 (x43 + 1)) - 1))).bind fun (v170 : Int) => (rem (IntKind.wrap .i64 v170) x41).bind fun (v172 : Int) => some (v172, (IntKind.wrap .i64 (x43 + 1)))) ((rem (IntKind.wrap .i64 ((IntKind.wrap .i64 (x43 + 1)) - 1)) (((List.length x42 : Nat) : Int))).bind fun (v174 : Int) => (idx x42 v174).bind fun (v175 : Int) => (rem (IntKind.wrap .i64 ((IntKind.wrap .i64 ((IntKind.wrap .i64 ((IntKind.wrap .i64 (x43 + 1)) - 1)) * 7)) + 3)) (((List.length x42 : Nat) : Int))).bind fun (v181 : Int) => (idx x42 v181).bind fun (v182 : Int) => (quo .i64 (IntKind.wrap .i64 ((IntKind.wrap .i64 (x43 + 1)) - 1)) (((List.length x42 : Nat) : Int))).bind fun (v189 : Int) => (quo .i64 (IntKind.wrap .i64 ((IntKind.wrap .i64 ((IntKind.wrap .i64 ((IntKind.wrap .i64 ((IntKind.wrap .i64 v175) * 131)) + (IntKind.wrap .i64 ((IntKind.wrap .i64 v182) * 1117)))) + (IntKind.wrap .i64 ((IntKind.wrap .i64 ((IntKind.wrap .i64 (x43 + 1)) - 1)) * 29)))) + (IntKind.wrap .i64 (v189 * 53)))) 64).bind fun (v192 : Int) => (rem (ixor .i64 (IntKind.wrap .i64 ((IntKind.wrap .i64 ((IntKind.wrap .i64 ((IntKind.wrap .i64 ((IntKind.wrap .i64 v175) * 131)) + (IntKind.wrap .i64 ((IntKind.wrap .i64 v182) * 1117)))) + (IntKind.wrap .i64 ((IntKind.wrap .i64 ((IntKind.wrap .i64 (x43 + 1)) - 1)) * 29)))) + (IntKind.wrap .i64 (v189 * 53)))) v192) x41).bind fun (v194 : Int) => some (v194, (IntKind.wrap .i64 (x43 + 1))))))

@[irreducible] def spec_l20Rd_pick (x41 : Int) (x42 : List Int) (x43 : Int) : Option (Int × Int) :=
  spec_l20Rd_pick_n1 x41 x42 x43

def spec_l20Order_n1 (x205 : List Int) (x206 : Int) : Option ((Int × Int)) :=
  (spec_l20Rd_pick 2 x205 x206).bind fun (v208 : Int × Int) => some ((v208.1), (v208.2))

def spec_l20Order_n2 : Option (Unit) :=
  some ()

def spec_l20Order_n3 (x204 : Int) (x209 : Int) (x352 : Int) (x205 : List Int) (x353 : Int) (x354 : List Int) : Option ((Int × Int × (List Int)) ⊕ (Int × (List Int))) :=
  cond (decide (x352 ≤ x204)) (cond (x209 == 0) ((spec_l20Rd_pick x352 x205 x353).bind fun (v426 : Int × Int) => (inc (v426.1) (List.length x354)).bind fun (v430 : Nat) => (room ((List.length ([] : List Int)) + List.length ((x354.drop 0).take (v430 - 0)))).bind fun (v434 : Unit) => (room ((List.length (([] : List Int) ++ ((x354.drop 0).take (v430 - 0)))) + List.length ([x352]))).bind fun (v438 : Unit) => (inc (v426.1) (List.length x354)).bind fun (v441 : Nat) => (room ((List.length ((([] : List Int) ++ ((x354.drop 0).take (v430 - 0))) ++ ([x352]))) + List.length ((x354.drop v441).take ((List.length x354) - v441)))).bind fun (v445 : Unit) => some (Sum.inl ((IntKind.wrap .i64 (x352 + 1)), (v426.2), (((([] : List Int) ++ ((x354.drop 0).take (v430 - 0))) ++ ([x352])) ++ ((x354.drop v441).take ((List.length x354) - v441)))))) ((spec_l20Rd_pick 3 x205 x353).bind fun (v448 : Int × Int) => cond ((v448.1) == 0) ((spec_l20Rd_pick x352 x205 (v448.2)).bind fun (v452 : Int × Int) => (inc (v452.1) (List.length x354)).bind fun (v456 : Nat) => (room ((List.length ([] : List Int)) + List.length ((x354.drop 0).take (v456 - 0)))).bind fun (v460 : Unit) => (room ((List.length (([] : List Int) ++ ((x354.drop 0).take (v456 - 0)))) + List.length ([x352]))).bind fun (v464 : Unit) => (inc (v452.1) (List.length x354)).bind fun (v467 : Nat) => (room ((List.length ((([] : List Int) ++ ((x354.drop 0).take (v456 - 0))) ++ ([x352]))) + List.length ((x354.drop v467).take ((List.length x354) - v467)))).bind fun (v471 : Unit) => some (Sum.inl ((IntKind.wrap .i64 (x352 + 1)), (v452.2), (((([] : List Int) ++ ((x354.drop 0).take (v456 - 0))) ++ ([x352])) ++ ((x354.drop v467).take ((List.length x354) - v467)))))) ((inc (((List.length x354 : Nat) : Int)) (List.length x354)).bind fun (v475 : Nat) => (room ((List.length ([] : List Int)) + List.length ((x354.drop 0).take (v475 - 0)))).bind fun (v479 : Unit) => (room ((List.length (([] : List Int) ++ ((x354.drop 0).take (v475 - 0)))) + List.length ([x352]))).bind fun (v483 : Unit) => (inc (((List.length x354 : Nat) : Int)) (List.length x354)).bind fun (v486 : Nat) => (room ((List.length ((([] : List Int) ++ ((x354.drop 0).take (v475 - 0))) ++ ([x352]))) + List.length ((x354.drop v486).take ((List.length x354) - v486)))).bind fun (v490 : Unit) => some (Sum.inl ((IntKind.wrap .i64 (x352 + 1)), (v448.2), (((([] : List Int) ++ ((x354.drop 0).take (v475 - 0))) ++ ([x352])) ++ ((x354.drop v486).take ((List.length x354) - v486)))))))) (some (Sum.inr (x353, x354)))

def spec_l20Order_n4 (x204 : Int) (x209 : Int) (x205 : List Int) (x210 : Int) : Option ((Int × (List Int))) :=
  nloop (fun (s : Int × Int × (List Int)) => ((spec_l20Order_n3 x204 x209 s.1 x205 s.2.1 s.2.2).map (Sum.elim (fun (t : Int × Int × (List Int)) => Sum.inl (t.1, t.2.1, t.2.2)) (fun (t : Int × (List Int)) => Sum.inr t)) : Option ((Int × Int × (List Int)) ⊕ ((Int × (List Int)))))) LL (1, x210, ([] : List Int))

def spec_l20Order_n5 (x204 : Int) (x209 : Int) (x205 : List Int) (x210 : Int) : Option ((Int × (List Int))) :=
  (spec_l20Order_n4 x204 x209 x205 x210).map (fun (t : Int × (List Int)) => (t.1, t.2))

def spec_l20Order_n6 (x204 : Int) (x209 : Int) (x205 : List Int) (x210 : Int) : Option ((Int × (List Int))) :=
  (spec_l20Order_n2).bind (fun (t : Unit) => spec_l20Order_n5 x204 x209 x205 x210)

def spec_l20Order_n7 (x353 : Int) (x354 : List Int) : Option ((Int × (List Int))) :=
  some (x353, x354)

def spec_l20Order_n8 (x204 : Int) (x209 : Int) (x205 : List Int) (x210 : Int) : Option ((Int × (List Int))) :=
  (spec_l20Order_n6 x204 x209 x205 x210).bind (fun (t : Int × (List Int)) => spec_l20Order_n7 t.1 t.2)

def spec_l20Order_n9 (x204 : Int) (x205 : List Int) (x206 : Int) : Option ((Int × (List Int))) :=
  (spec_l20Order_n1 x205 x206).bind (fun (t : Int × Int) => spec_l20Order_n8 x204 t.1 x205 t.2)

@[irreducible] def spec_l20Order (x204 : Int) (x205 : List Int) (x206 : Int) : Option (Int × (List Int)) :=
  spec_l20Order_n9 x204 x205 x206

def spec_l20Rd_odd_n1 (x661 : Int) (x662 : List Int) (x663 : Int) : Option ((Bool × Int)) :=
  cond (decide (x661 > 0)) ((spec_l20Rd_pick x661 x662 x663).bind fun (v671 : Int × Int) => some (((v671.1) == (IntKind.wrap .i64 (x661 - 1))), (v671.2))) (some (false, x663))

@[irreducible] def spec_l20Rd_odd (x661 : Int) (x662 : List Int) (x663 : Int) : Option (Bool × Int) :=
  spec_l20Rd_odd_n1 x661 x662 x663

def spec_l20Tree_n1 (x38 : List Int) (x39 : Int) : Option ((Int × Int × Int × (List Int) × (List Int))) :=
  (spec_l20Rd_pick 7 x38 x39).bind fun (v508 : Int × Int) => (spec_l20Order (IntKind.wrap .i64 (1 + (v508.1))) x38 (v508.2)).bind fun (v512 : Int × (List Int)) => (mk (IntKind.wrap .i64 (1 + (v508.1))) (IntKind.wrap .i64 (1 + (v508.1)))).bind fun (v515 : Nat) => (spec_l20Rd_pick 2 x38 (v512.1)).bind fun (v517 : Int × Int) => some ((IntKind.wrap .i64 (1 + (v508.1))), (v517.1), (v517.2), (v512.2), (List.replicate v515 (0 : Int)))

def spec_l20Tree_n2 : Option (Unit) :=
  some ()

def spec_l20Tree_n3 (x511 : Int) (x518 : Int) (x589 : Int) (x38 : List Int) (x590 : Int) (x514 : List Int) (x591 : List Int) : Option ((Int × Int × (List Int)) ⊕ (Int × (List Int))) :=
  cond (decide (x589 < x511)) ((spec_l20Rd_pick x589 x38 x590).bind fun (v625 : Int × Int) => cond (x518 == 1) ((spec_l20Rd_pick 2 x38 (v625.2)).bind fun (v629 : Int × Int) => cond ((v629.1) == 0) ((inb x589 (List.length x514)).bind fun (v634 : Nat) => (x514[v634]?).bind fun (v635 : Int) => (inb (IntKind.wrap .i64 (x589 - 1)) (List.length x514)).bind fun (v637 : Nat) => (x514[v637]?).bind fun (v638 : Int) => (inb (IntKind.wrap .i64 (v635 - 1)) (List.length x591)).bind fun (v639 : Nat) => some (Sum.inl ((IntKind.wrap .i64 (x589 + 1)), (v629.2), (x591.set v639 v638)))) ((inb x589 (List.length x514)).bind fun (v642 : Nat) => (x514[v642]?).bind fun (v643 : Int) => (inb (v625.1) (List.length x514)).bind fun (v645 : Nat) => (x514[v645]?).bind fun (v646 : Int) => (inb (IntKind.wrap .i64 (v643 - 1)) (List.length x591)).bind fun (v647 : Nat) => some (Sum.inl ((IntKind.wrap .i64 (x589 + 1)), (v629.2), (x591.set v647 v646))))) ((inb x589 (List.length x514)).bind fun (v650 : Nat) => (x514[v650]?).bind fun (v651 : Int) => (inb (v625.1) (List.length x514)).bind fun (v653 : Nat) => (x514[v653]?).bind fun (v654 : Int) => (inb (IntKind.wrap .i64 (v651 - 1)) (List.length x591)).bind fun (v655 : Nat) => some (Sum.inl ((IntKind.wrap .i64 (x589 + 1)), (v625.2), (x591.set v655 v654))))) (some (Sum.inr (x590, x591)))

def spec_l20Tree_n4 (x511 : Int) (x518 : Int) (x38 : List Int) (x519 : Int) (x514 : List Int) (x516 : List Int) : Option ((Int × (List Int))) :=
  nloop (fun (s : Int × Int × (List Int)) => ((spec_l20Tree_n3 x511 x518 s.1 x38 s.2.1 x514 s.2.2).map (Sum.elim (fun (t : Int × Int × (List Int)) => Sum.inl (t.1, t.2.1, t.2.2)) (fun (t : Int × (List Int)) => Sum.inr t)) : Option ((Int × Int × (List Int)) ⊕ ((Int × (List Int)))))) LL (1, x519, x516)

def spec_l20Tree_n5 (x511 : Int) (x518 : Int) (x38 : List Int) (x519 : Int) (x514 : List Int) (x516 : List Int) : Option ((Int × (List Int))) :=
  (spec_l20Tree_n4 x511 x518 x38 x519 x514 x516).map (fun (t : Int × (List Int)) => (t.1, t.2))

def spec_l20Tree_n6 (x511 : Int) (x518 : Int) (x38 : List Int) (x519 : Int) (x514 : List Int) (x516 : List Int) : Option ((Int × (List Int))) :=
  (spec_l20Tree_n2).bind (fun (t : Unit) => spec_l20Tree_n5 x511 x518 x38 x519 x514 x516)

def spec_l20Tree_n7 (x37 : Int) (x511 : Int) (x38 : List Int) (x590 : Int) (x591 : List Int) : Option ((Int × (List Int))) :=
  (spec_l20Rd_odd x37 x38 x590).bind fun (v736 : Bool × Int) => cond (v736.1) ((spec_l20Rd_pick 4 x38 (v736.2)).bind fun (v739 : Int × Int) => cond ((v739.1) == 0) (some ((v739.2), ([] : List Int))) (cond ((v739.1) == 1) (some ((v739.2), ([2, 1, 0]))) (cond ((v739.1) == 2) ((spec_l20Rd_pick x511 x38 (v739.2)).bind fun (v746 : Int × Int) => (inb (v746.1) (List.length x591)).bind fun (v749 : Nat) => (room ((List.length (x591.set v749 0)) + List.length ([0]))).bind fun (v753 : Unit) => some ((v746.2), ((x591.set v749 0) ++ ([0])))) ((spec_l20Rd_pick 3 x38 (v739.2)).bind fun (v757 : Int × Int) => (inb (v757.1) (List.length ([1, (IntKind.wrap .i64 (x511 + 1)), (-1)]))).bind fun (v760 : Nat) => (([1, (IntKind.wrap .i64 (x511 + 1)), (-1)])[v760]?).bind fun (v761 : Int) => (inb 0 (List.length x591)).bind fun (v762 : Nat) => some ((v757.2), (x591.set v762 v761)))))) (some ((v736.2), x591))

def spec_l20Tree_n8 (x37 : Int) (x511 : Int) (x518 : Int) (x38 : List Int) (x519 : Int) (x514 : List Int) (x516 : List Int) : Option ((Int × (List Int))) :=
  (spec_l20Tree_n6 x511 x518 x38 x519 x514 x516).bind (fun (t : Int × (List Int)) => spec_l20Tree_n7 x37 x511 x38 t.1 t.2)

def spec_l20Tree_n9 (x37 : Int) (x38 : List Int) (x39 : Int) : Option ((Int × (List Int))) :=
  (spec_l20Tree_n1 x38 x39).bind (fun (t : Int × Int × Int × (List Int) × (List Int)) => spec_l20Tree_n8 x37 t.1 t.2.1 x38 t.2.2.1 t.2.2.2.1 t.2.2.2.2)

@[irreducible] def spec_l20Tree (x37 : Int) (x38 : List Int) (x39 : Int) : Option (Int × (List Int)) :=
  spec_l20Tree_n9 x37 x38 x39

def spec_l1In_n1 (x780 : Int) (x781 : Int) (x782 : Int) : Option (Bool) :=
  cond (decide (x780 ≥ x781)) (some (decide (x780 ≤ x782))) (some false)

@[irreducible] def spec_l1In (x780 : Int) (x781 : Int) (x782 : Int) : Option (Bool) :=
  spec_l1In_n1 x780 x781 x782

def spec_TreeOk_n1 (x776 : List Int) : Option (Int ⊕ Bool) :=
  (spec_l1In (((List.length x776 : Nat) : Int)) 1 8).bind fun (v791 : Bool) => cond (!v791) (some (Sum.inr false)) (some (Sum.inl (((List.length x776 : Nat) : Int))))

def spec_TreeOk_n2 : Option (Unit) :=
  some ()

def spec_TreeOk_n3 (x790 : Int) (x857 : Int) (x858 : Int) : Option (Unit ⊕ Int) :=
  cond (decide (x858 < x790)) (some (Sum.inl ())) (some (Sum.inr x857))

def spec_TreeOk_n4 (x776 : List Int) (x790 : Int) (x857 : Int) (x858 : Int) : Option ((Int × Int) ⊕ Bool) :=
  (idx x776 x858).bind fun (v875 : Int) => (spec_l1In v875 0 x790).bind fun (v876 : Bool) => cond (!v876) (some (Sum.inr false)) ((idx x776 x858).bind fun (v878 : Int) => cond (v878 == (IntKind.wrap .i64 (x858 + 1))) (some (Sum.inr false)) ((idx x776 x858).bind fun (v881 : Int) => cond (v881 == 0) (some (Sum.inl ((IntKind.wrap .i64 (x857 + 1)), (IntKind.wrap .i64 (x858 + 1))))) (some (Sum.inl (x857, (IntKind.wrap .i64 (x858 + 1)))))))

def spec_TreeOk_n5 : Option (Unit) :=
  some ()

def spec_TreeOk_n6 (x776 : List Int) (x790 : Int) (x903 : Int) (x904 : Int) : Option ((Int × Int) ⊕ Bool ⊕ Int) :=
  cond (decide (x903 > 0)) (cond (decide (x904 < x790)) ((idx x776 (IntKind.wrap .i64 (x903 - 1))).bind fun (v916 : Int) => (spec_l1In v916 0 x790).bind fun (v917 : Bool) => cond (!v917) (some (Sum.inr (Sum.inl false))) (some (Sum.inl (v916, (IntKind.wrap .i64 (x904 + 1)))))) (some (Sum.inr (Sum.inr x903)))) (some (Sum.inr (Sum.inr x903)))

def spec_TreeOk_n7 (x776 : List Int) (x790 : Int) (x887 : Int) : Option (Bool ⊕ Int) :=
  nloop (fun (s : Int × Int) => ((spec_TreeOk_n6 x776 x790 s.1 s.2).map (Sum.elim (fun (t : Int × Int) => Sum.inl (t.1, t.2)) (Sum.elim (fun (t : Bool) => Sum.inr (Sum.inl t)) (fun (t : Int) => Sum.inr (Sum.inr t)))) : Option ((Int × Int) ⊕ (Bool ⊕ Int)))) LL (x887, 0)

def spec_TreeOk_n8 (x776 : List Int) (x790 : Int) (x887 : Int) : Option (Int ⊕ Bool) :=
  (spec_TreeOk_n7 x776 x790 x887).map (Sum.elim (fun (t : Bool) => (Sum.inr t)) (fun (t : Int) => (Sum.inl t)))

def spec_TreeOk_n9 (x776 : List Int) (x790 : Int) (x887 : Int) : Option (Int ⊕ Bool) :=
  (spec_TreeOk_n5).bind (fun (t : Unit) => spec_TreeOk_n8 x776 x790 x887)

def spec_TreeOk_n10 (x903 : Int) : Option (Unit ⊕ Bool) :=
  cond (decide (x903 > 0)) (some (Sum.inr false)) (some (Sum.inl ()))

def spec_TreeOk_n11 (x776 : List Int) (x790 : Int) (x887 : Int) : Option (Unit ⊕ Bool) :=
  (spec_TreeOk_n9 x776 x790 x887).bind (Sum.elim (fun (t : Int) => spec_TreeOk_n10 t) (fun e => some ((fun (t : Bool) => (Sum.inr t)) e)))

def spec_TreeOk_n12 (x776 : List Int) (x790 : Int) (x857 : Int) (x858 : Int) : Option (Int ⊕ Bool) :=
  (spec_TreeOk_n4 x776 x790 x857 x858).bind (Sum.elim (fun (t : Int × Int) => (spec_TreeOk_n11 x776 x790 t.2).map (Sum.elim (fun (u : Unit) => (Sum.inl t.1)) (fun (u : Bool) => (Sum.inr u)))) (fun e => some ((fun (t : Bool) => (Sum.inr t)) e)))

def spec_TreeOk_n13 (x776 : List Int) (x790 : Int) (x857 : Int) (x858 : Int) : Option (Int ⊕ Bool) :=
  (spec_TreeOk_n12 x776 x790 x857 x858).map (Sum.elim (fun (t : Int) => (Sum.inl t)) (fun (t : Bool) => (Sum.inr t)))

def spec_TreeOk_n14 (x858 : Int) : Option (Int) :=
  some (IntKind.wrap .i64 (x858 + 1))

def spec_TreeOk_n15 (x776 : List Int) (x790 : Int) (x857 : Int) (x858 : Int) : Option ((Int × Int) ⊕ Bool) :=
  (spec_TreeOk_n13 x776 x790 x857 x858).bind (Sum.elim (fun (t : Int) => (spec_TreeOk_n14 x858).map (fun (u : Int) => (Sum.inl (t, u)))) (fun e => some ((fun (t : Bool) => (Sum.inr t)) e)))

def spec_TreeOk_n16 (x776 : List Int) (x790 : Int) (x857 : Int) (x858 : Int) : Option ((Int × Int) ⊕ Bool ⊕ Int) :=
  (spec_TreeOk_n3 x790 x857 x858).bind (Sum.elim (fun (t : Unit) => (spec_TreeOk_n15 x776 x790 x857 x858).map (Sum.elim (fun (t : Int × Int) => (Sum.inl (t.1, t.2))) (fun (t : Bool) => (Sum.inr (Sum.inl t))))) (fun e => some ((fun (t : Int) => (Sum.inr (Sum.inr t))) e)))

def spec_TreeOk_n17 (x776 : List Int) (x790 : Int) : Option (Bool ⊕ Int) :=
  nloop (fun (s : Int × Int) => ((spec_TreeOk_n16 x776 x790 s.1 s.2).map (Sum.elim (fun (t : Int × Int) => Sum.inl (t.1, t.2)) (Sum.elim (fun (t : Bool) => Sum.inr (Sum.inl t)) (fun (t : Int) => Sum.inr (Sum.inr t)))) : Option ((Int × Int) ⊕ (Bool ⊕ Int)))) LL (0, 0)

def spec_TreeOk_n18 (x776 : List Int) (x790 : Int) : Option (Int ⊕ Bool) :=
  (spec_TreeOk_n17 x776 x790).map (Sum.elim (fun (t : Bool) => (Sum.inr t)) (fun (t : Int) => (Sum.inl t)))

def spec_TreeOk_n19 (x776 : List Int) (x790 : Int) : Option (Int ⊕ Bool) :=
  (spec_TreeOk_n2).bind (fun (t : Unit) => spec_TreeOk_n18 x776 x790)

def spec_TreeOk_n20 (x857 : Int) : Option (Bool) :=
  some (x857 == 1)

def spec_TreeOk_n21 (x776 : List Int) (x790 : Int) : Option (Bool) :=
  (spec_TreeOk_n19 x776 x790).bind (Sum.elim (fun (t : Int) => spec_TreeOk_n20 t) (fun e => some ((fun (t : Bool) => t) e)))

def spec_TreeOk_n22 (x776 : List Int) : Option (Bool) :=
  (spec_TreeOk_n1 x776).bind (Sum.elim (fun (t : Int) => spec_TreeOk_n21 x776 t) (fun e => some ((fun (t : Bool) => t) e)))

@[irreducible] def spec_TreeOk (x776 : List Int) : Option (Bool) :=
  spec_TreeOk_n22 x776

def spec_OrderOk_n1 : Option (Unit) :=
  some ()

def spec_OrderOk_n2 : Option (Unit) :=
  some ()

def spec_OrderOk_n3 (x936 : List Int) (x968 : Int) : Option (Unit ⊕ Unit) :=
  cond (decide (x968 < (((List.length x936 : Nat) : Int)))) (some (Sum.inl ())) (some (Sum.inr ()))

def spec_OrderOk_n4 (x936 : List Int) (x937 : Int) (x968 : Int) : Option (Unit ⊕ Bool) :=
  (idx x936 x968).bind fun (v974 : Int) => (spec_l1In v974 1 x937).bind fun (v975 : Bool) => cond (!v975) (some (Sum.inr false)) (some (Sum.inl ()))

def spec_OrderOk_n5 (x936 : List Int) (x968 : Int) (x987 : Int) : Option (Int ⊕ Bool ⊕ Unit) :=
  cond (decide (x987 < x968)) ((idx x936 x987).bind fun (v994 : Int) => (idx x936 x968).bind fun (v995 : Int) => cond (v994 == v995) (some (Sum.inr (Sum.inl false))) (some (Sum.inl (IntKind.wrap .i64 (x987 + 1))))) (some (Sum.inr (Sum.inr ())))

def spec_OrderOk_n6 (x936 : List Int) (x968 : Int) : Option (Bool ⊕ Unit) :=
  nloop (fun (s : Int) => ((spec_OrderOk_n5 x936 x968 s).map (Sum.elim (fun (t : Int) => Sum.inl t) (Sum.elim (fun (t : Bool) => Sum.inr (Sum.inl t)) (fun (t : Unit) => Sum.inr (Sum.inr t)))) : Option ((Int) ⊕ (Bool ⊕ Unit)))) LL 0

def spec_OrderOk_n7 (x936 : List Int) (x968 : Int) : Option (Unit ⊕ Bool) :=
  (spec_OrderOk_n6 x936 x968).map (Sum.elim (fun (t : Bool) => (Sum.inr t)) (fun (t : Unit) => (Sum.inl ())))

def spec_OrderOk_n8 (x936 : List Int) (x937 : Int) (x968 : Int) : Option (Unit ⊕ Bool) :=
  (spec_OrderOk_n4 x936 x937 x968).bind (Sum.elim (fun (t : Unit) => spec_OrderOk_n7 x936 x968) (fun e => some ((fun (t : Bool) => (Sum.inr t)) e)))

def spec_OrderOk_n9 (x936 : List Int) (x937 : Int) (x968 : Int) : Option (Unit ⊕ Bool) :=
  (spec_OrderOk_n8 x936 x937 x968).map (Sum.elim (fun (t : Unit) => (Sum.inl ())) (fun (t : Bool) => (Sum.inr t)))

def spec_OrderOk_n10 (x968 : Int) : Option (Int) :=
  some (IntKind.wrap .i64 (x968 + 1))

def spec_OrderOk_n11 (x936 : List Int) (x937 : Int) (x968 : Int) : Option (Int ⊕ Bool) :=
  (spec_OrderOk_n9 x936 x937 x968).bind (Sum.elim (fun (t : Unit) => (spec_OrderOk_n10 x968).map (fun (t : Int) => (Sum.inl t))) (fun e => some ((fun (t : Bool) => (Sum.inr t)) e)))

def spec_OrderOk_n12 (x936 : List Int) (x937 : Int) (x968 : Int) : Option (Int ⊕ Bool ⊕ Unit) :=
  (spec_OrderOk_n3 x936 x968).bind (Sum.elim (fun (t : Unit) => (spec_OrderOk_n11 x936 x937 x968).map (Sum.elim (fun (t : Int) => (Sum.inl t)) (fun (t : Bool) => (Sum.inr (Sum.inl t))))) (fun e => some ((fun (t : Unit) => (Sum.inr (Sum.inr t))) e)))

def spec_OrderOk_n13 (x936 : List Int) (x937 : Int) : Option (Bool ⊕ Unit) :=
  nloop (fun (s : Int) => ((spec_OrderOk_n12 x936 x937 s).map (Sum.elim (fun (t : Int) => Sum.inl t) (Sum.elim (fun (t : Bool) => Sum.inr (Sum.inl t)) (fun (t : Unit) => Sum.inr (Sum.inr t)))) : Option ((Int) ⊕ (Bool ⊕ Unit)))) LL 0

def spec_OrderOk_n14 (x936 : List Int) (x937 : Int) : Option (Unit ⊕ Bool) :=
  (spec_OrderOk_n13 x936 x937).map (Sum.elim (fun (t : Bool) => (Sum.inr t)) (fun (t : Unit) => (Sum.inl ())))

def spec_OrderOk_n15 (x936 : List Int) (x937 : Int) : Option (Unit ⊕ Bool) :=
  (spec_OrderOk_n2).bind (fun (t : Unit) => spec_OrderOk_n14 x936 x937)

def spec_OrderOk_n16 (x936 : List Int) (x937 : Int) : Option (Bool) :=
  (spec_l1In x937 1 8).bind fun (v1002 : Bool) => cond v1002 (some ((((List.length x936 : Nat) : Int)) == x937)) (some false)

def spec_OrderOk_n17 (x936 : List Int) (x937 : Int) : Option (Bool) :=
  (spec_OrderOk_n15 x936 x937).bind (Sum.elim (fun (t : Unit) => spec_OrderOk_n16 x936 x937) (fun e => some ((fun (t : Bool) => t) e)))

def spec_OrderOk_n18 (x936 : List Int) (x937 : Int) : Option (Bool) :=
  (spec_OrderOk_n1).bind (fun (t : Unit) => spec_OrderOk_n17 x936 x937)

@[irreducible] def spec_OrderOk (x936 : List Int) (x937 : Int) : Option (Bool) :=
  spec_OrderOk_n18 x936 x937

def spec_PutInOrder_n1 (x931 : List Int) (x932 : List Int) : Option (((List Int)) ⊕ (Bool × (List Int))) :=
  (spec_TreeOk x931).bind fun (v1008 : Bool) => cond (!v1008) (some (Sum.inr (false, ([] : List Int)))) ((spec_OrderOk x932 (((List.length x931 : Nat) : Int))).bind fun (v1011 : Bool) => cond (!v1011) (some (Sum.inr (false, ([] : List Int)))) ((mk (IntKind.wrap .i64 ((((List.length x931 : Nat) : Int)) + 1)) (IntKind.wrap .i64 ((((List.length x931 : Nat) : Int)) + 1))).bind fun (v1015 : Nat) => some (Sum.inl (List.replicate v1015 (0 : Int)))))

def spec_PutInOrder_n2 : Option (Unit) :=
  some ()

def spec_PutInOrder_n3 (x932 : List Int) (x1032 : Int) (x1033 : List Int) : Option ((Int × (List Int)) ⊕ ((List Int))) :=
  cond (decide (x1032 < (((List.length x932 : Nat) : Int)))) ((idx x932 x1032).bind fun (v1044 : Int) => (inb v1044 (List.length x1033)).bind fun (v1046 : Nat) => some (Sum.inl ((IntKind.wrap .i64 (x1032 + 1)), (x1033.set v1046 (IntKind.wrap .i64 (x1032 + 1)))))) (some (Sum.inr x1033))

def spec_PutInOrder_n4 (x932 : List Int) (x1016 : List Int) : Option (((List Int))) :=
  nloop (fun (s : Int × (List Int)) => ((spec_PutInOrder_n3 x932 s.1 s.2).map (Sum.elim (fun (t : Int × (List Int)) => Sum.inl (t.1, t.2)) (fun (t : (List Int)) => Sum.inr t)) : Option ((Int × (List Int)) ⊕ (((List Int)))))) LL (0, x1016)

def spec_PutInOrder_n5 (x932 : List Int) (x1016 : List Int) : Option (((List Int))) :=
  (spec_PutInOrder_n4 x932 x1016).map (fun (t : (List Int)) => t)

def spec_PutInOrder_n6 (x932 : List Int) (x1016 : List Int) : Option (((List Int))) :=
  (spec_PutInOrder_n2).bind (fun (t : Unit) => spec_PutInOrder_n5 x932 x1016)

def spec_PutInOrder_n7 : Option (Unit) :=
  some ()

def spec_PutInOrder_n8 : Option (Unit) :=
  some ()

def spec_PutInOrder_n9 (x931 : List Int) (x932 : List Int) (x1074 : Int) (x1033 : List Int) (x1075 : List Int) : Option ((Int × (List Int)) ⊕ ((List Int))) :=
  cond (decide (x1074 < (((List.length x932 : Nat) : Int)))) ((idx x932 x1074).bind fun (v1091 : Int) => (idx x931 (IntKind.wrap .i64 (v1091 - 1))).bind fun (v1093 : Int) => (inb v1093 (List.length x1033)).bind fun (v1094 : Nat) => (x1033[v1094]?).bind fun (v1095 : Int) => (room ((List.length x1075) + List.length ([v1095]))).bind fun (v1098 : Unit) => some (Sum.inl ((IntKind.wrap .i64 (x1074 + 1)), (x1075 ++ ([v1095]))))) (some (Sum.inr x1075))

def spec_PutInOrder_n10 (x931 : List Int) (x932 : List Int) (x1033 : List Int) : Option (((List Int))) :=
  nloop (fun (s : Int × (List Int)) => ((spec_PutInOrder_n9 x931 x932 s.1 x1033 s.2).map (Sum.elim (fun (t : Int × (List Int)) => Sum.inl (t.1, t.2)) (fun (t : (List Int)) => Sum.inr t)) : Option ((Int × (List Int)) ⊕ (((List Int)))))) LL (0, ([] : List Int))

def spec_PutInOrder_n11 (x931 : List Int) (x932 : List Int) (x1033 : List Int) : Option (((List Int))) :=
  (spec_PutInOrder_n10 x931 x932 x1033).map (fun (t : (List Int)) => t)

def spec_PutInOrder_n12 (x931 : List Int) (x932 : List Int) (x1033 : List Int) : Option (((List Int))) :=
  (spec_PutInOrder_n8).bind (fun (t : Unit) => spec_PutInOrder_n11 x931 x932 x1033)

def spec_PutInOrder_n13 (x1075 : List Int) : Option ((Bool × (List Int))) :=
  some (true, x1075)

def spec_PutInOrder_n14 (x931 : List Int) (x932 : List Int) (x1033 : List Int) : Option ((Bool × (List Int))) :=
  (spec_PutInOrder_n12 x931 x932 x1033).bind (fun (t : (List Int)) => spec_PutInOrder_n13 t)

def spec_PutInOrder_n15 (x931 : List Int) (x932 : List Int) (x1033 : List Int) : Option ((Bool × (List Int))) :=
  (spec_PutInOrder_n7).bind (fun (t : Unit) => spec_PutInOrder_n14 x931 x932 x1033)

def spec_PutInOrder_n16 (x931 : List Int) (x932 : List Int) (x1016 : List Int) : Option ((Bool × (List Int))) :=
  (spec_PutInOrder_n6 x932 x1016).bind (fun (t : (List Int)) => spec_PutInOrder_n15 x931 x932 t)

def spec_PutInOrder_n17 (x931 : List Int) (x932 : List Int) : Option ((Bool × (List Int))) :=
  (spec_PutInOrder_n1 x931 x932).bind (Sum.elim (fun (t : (List Int)) => spec_PutInOrder_n16 x931 x932 t) (fun e => some ((fun (t : Bool × (List Int)) => t) e)))

@[irreducible] def spec_PutInOrder (x931 : List Int) (x932 : List Int) : Option (Bool × (List Int)) :=
  spec_PutInOrder_n17 x931 x932

def spec_l20Fill_n1 (R0 : Int → Int → Int → (List Int) → Int → (List Int) → Option (Int × (List Int))) (x1172 : Int) (x1173 : Int) (x1174 : Int) (x1175 : List Int) (x1176 : Int) (x1177 : List Int) : Option ((Int × Int × (List Int)) ⊕ (Int × (List Int))) :=
  cond (decide (x1172 > x1173)) (some (Sum.inr (x1176, x1177))) ((spec_l20Rd_pick (IntKind.wrap .i64 ((IntKind.wrap .i64 (x1173 - x1172)) + 1)) x1175 x1176).bind fun (v1245 : Int × Int) => (inb (IntKind.wrap .i64 ((IntKind.wrap .i64 (x1172 + (v1245.1))) - 1)) (List.length x1177)).bind fun (v1250 : Nat) => some (Sum.inl ((IntKind.wrap .i64 (x1172 + (v1245.1))), (v1245.2), (x1177.set v1250 x1174))))

def spec_l20Fill_n2 (R0 : Int → Int → Int → (List Int) → Int → (List Int) → Option (Int × (List Int))) (x1248 : Int) (x1263 : Int) (x1175 : List Int) (x1264 : Int) (x1265 : List Int) : Option ((Int × Int × (List Int)) ⊕ (Int × (List Int))) :=
  cond (decide (x1263 < x1248)) ((spec_l20Rd_pick (IntKind.wrap .i64 (x1248 - x1263)) x1175 x1264).bind fun (v1269 : Int × Int) => (R0 x1263 (IntKind.wrap .i64 (x1263 + (v1269.1))) x1248 x1175 (v1269.2) x1265).bind fun (v1273 : Int × (List Int)) => some (Sum.inl ((IntKind.wrap .i64 ((IntKind.wrap .i64 (x1263 + (v1269.1))) + 1)), (v1273.1), (v1273.2)))) (some (Sum.inr (x1264, x1265)))

def spec_l20Fill_n3 (R0 : Int → Int → Int → (List Int) → Int → (List Int) → Option (Int × (List Int))) (x1248 : Int) (x1172 : Int) (x1175 : List Int) (x1247 : Int) (x1251 : List Int) : Option ((Int × (List Int))) :=
  nloop (fun (s : Int × Int × (List Int)) => ((spec_l20Fill_n2 R0 x1248 s.1 x1175 s.2.1 s.2.2).map (Sum.elim (fun (t : Int × Int × (List Int)) => Sum.inl (t.1, t.2.1, t.2.2)) (fun (t : Int × (List Int)) => Sum.inr t)) : Option ((Int × Int × (List Int)) ⊕ ((Int × (List Int)))))) LL (x1172, x1247, x1251)

def spec_l20Fill_n4 (R0 : Int → Int → Int → (List Int) → Int → (List Int) → Option (Int × (List Int))) (x1248 : Int) (x1172 : Int) (x1175 : List Int) (x1247 : Int) (x1251 : List Int) : Option ((Int × (List Int))) :=
  (spec_l20Fill_n3 R0 x1248 x1172 x1175 x1247 x1251).map (fun (t : Int × (List Int)) => (t.1, t.2))

def spec_l20Fill_n5 (R0 : Int → Int → Int → (List Int) → Int → (List Int) → Option (Int × (List Int))) (x1248 : Int) : Option (Int) :=
  some (IntKind.wrap .i64 (x1248 + 1))

def spec_l20Fill_n6 (R0 : Int → Int → Int → (List Int) → Int → (List Int) → Option (Int × (List Int))) (x1173 : Int) (x1248 : Int) (x1290 : Int) (x1175 : List Int) (x1291 : Int) (x1292 : List Int) : Option ((Int × Int × (List Int)) ⊕ (Int × (List Int))) :=
  cond (decide (x1290 ≤ x1173)) ((spec_l20Rd_pick (IntKind.wrap .i64 ((IntKind.wrap .i64 (x1173 - x1290)) + 1)) x1175 x1291).bind fun (v1297 : Int × Int) => (R0 x1290 (IntKind.wrap .i64 (x1290 + (v1297.1))) x1248 x1175 (v1297.2) x1292).bind fun (v1301 : Int × (List Int)) => some (Sum.inl ((IntKind.wrap .i64 ((IntKind.wrap .i64 (x1290 + (v1297.1))) + 1)), (v1301.1), (v1301.2)))) (some (Sum.inr (x1291, x1292)))

def spec_l20Fill_n7 (R0 : Int → Int → Int → (List Int) → Int → (List Int) → Option (Int × (List Int))) (x1173 : Int) (x1248 : Int) (x1277 : Int) (x1175 : List Int) (x1264 : Int) (x1265 : List Int) : Option ((Int × (List Int))) :=
  nloop (fun (s : Int × Int × (List Int)) => ((spec_l20Fill_n6 R0 x1173 x1248 s.1 x1175 s.2.1 s.2.2).map (Sum.elim (fun (t : Int × Int × (List Int)) => Sum.inl (t.1, t.2.1, t.2.2)) (fun (t : Int × (List Int)) => Sum.inr t)) : Option ((Int × Int × (List Int)) ⊕ ((Int × (List Int)))))) LL (x1277, x1264, x1265)

def spec_l20Fill_n8 (R0 : Int → Int → Int → (List Int) → Int → (List Int) → Option (Int × (List Int))) (x1173 : Int) (x1248 : Int) (x1277 : Int) (x1175 : List Int) (x1264 : Int) (x1265 : List Int) : Option ((Int × (List Int))) :=
  (spec_l20Fill_n7 R0 x1173 x1248 x1277 x1175 x1264 x1265).map (fun (t : Int × (List Int)) => (t.1, t.2))

def spec_l20Fill_n9 (R0 : Int → Int → Int → (List Int) → Int → (List Int) → Option (Int × (List Int))) (x1173 : Int) (x1248 : Int) (x1175 : List Int) (x1264 : Int) (x1265 : List Int) : Option ((Int × (List Int))) :=
  (spec_l20Fill_n5 R0 x1248).bind (fun (t : Int) => spec_l20Fill_n8 R0 x1173 x1248 t x1175 x1264 x1265)

def spec_l20Fill_n10 (R0 : Int → Int → Int → (List Int) → Int → (List Int) → Option (Int × (List Int))) (x1173 : Int) (x1248 : Int) (x1172 : Int) (x1175 : List Int) (x1247 : Int) (x1251 : List Int) : Option ((Int × (List Int))) :=
  (spec_l20Fill_n4 R0 x1248 x1172 x1175 x1247 x1251).bind (fun (t : Int × (List Int)) => spec_l20Fill_n9 R0 x1173 x1248 x1175 t.1 t.2)

def spec_l20Fill_n11 (R0 : Int → Int → Int → (List Int) → Int → (List Int) → Option (Int × (List Int))) (x1172 : Int) (x1173 : Int) (x1174 : Int) (x1175 : List Int) (x1176 : Int) (x1177 : List Int) : Option ((Int × (List Int)) ⊕ (Int × (List Int))) :=
  (spec_l20Fill_n1 R0 x1172 x1173 x1174 x1175 x1176 x1177).bind (Sum.elim (fun (t : Int × Int × (List Int)) => (spec_l20Fill_n10 R0 x1173 t.1 x1172 x1175 t.2.1 t.2.2).map (fun (u : Int × (List Int)) => (Sum.inl (u.1, u.2)))) (fun e => some ((fun (t : Int × (List Int)) => (Sum.inr t)) e)))

def spec_l20Fill_one (R0 : Int → Int → Int → (List Int) → Int → (List Int) → Option (Int × (List Int))) (x1172 : Int) (x1173 : Int) (x1174 : Int) (x1175 : List Int) (x1176 : Int) (x1177 : List Int) : Option (Int × (List Int)) :=
  (spec_l20Fill_n11 R0 x1172 x1173 x1174 x1175 x1176 x1177).map (Sum.elim (fun (t : Int × (List Int)) => (t.1, t.2)) (fun (t : Int × (List Int)) => t))

def spec_l20Fill_knot : Nat → (Int → Int → Int → (List Int) → Int → (List Int) → Option (Int × (List Int)))
  | 0 => (fun _ _ _ _ _ _ => none)
  | n + 1 => (fun y0 y1 y2 y3 y4 y5 => spec_l20Fill_one (spec_l20Fill_knot n) y0 y1 y2 y3 y4 y5)

def spec_l20Fill_fuel (n : Nat) : Int → Int → Int → (List Int) → Int → (List Int) → Option (Int × (List Int)) := (spec_l20Fill_knot n)

@[irreducible] def spec_l20Fill (x1172 : Int) (x1173 : Int) (x1174 : Int) (x1175 : List Int) (x1176 : Int) (x1177 : List Int) : Option (Int × (List Int)) := spec_l20Fill_fuel RR x1172 x1173 x1174 x1175 x1176 x1177

def spec_l20Flat_n1 (x1125 : Int) (x1126 : List Int) (x1127 : Int) : Option ((Int × (List Int))) :=
  (spec_l20Rd_pick 3 x1126 x1127).bind fun (v1326 : Int × Int) => cond ((v1326.1) == 0) ((spec_l20Tree x1125 x1126 (v1326.2)).bind fun (v1330 : Int × (List Int)) => some ((v1330.1), (v1330.2))) ((spec_l20Rd_pick 7 x1126 (v1326.2)).bind fun (v1333 : Int × Int) => (mk (IntKind.wrap .i64 (1 + (v1333.1))) (IntKind.wrap .i64 (1 + (v1333.1)))).bind fun (v1337 : Nat) => (spec_l20Fill 1 (IntKind.wrap .i64 (1 + (v1333.1))) 0 x1126 (v1333.2) (List.replicate v1337 (0 : Int))).bind fun (v1339 : Int × (List Int)) => some ((v1339.1), (v1339.2)))

@[irreducible] def spec_l20Flat (x1125 : Int) (x1126 : List Int) (x1127 : Int) : Option (Int × (List Int)) :=
  spec_l20Flat_n1 x1125 x1126 x1127

def spec_l20Wild_n1 (x34 : Int) (x35 : List Int) (x36 : Int) : Option ((Int × (List Int))) :=
  (spec_l20Tree x34 x35 x36).bind fun (v1383 : Int × (List Int)) => (spec_l20Rd_pick 2 x35 (v1383.1)).bind fun (v1386 : Int × Int) => cond ((v1386.1) == 0) ((spec_TreeOk (v1383.2)).bind fun (v1390 : Bool) => cond v1390 ((spec_l20Order (((List.length (v1383.2) : Nat) : Int)) x35 (v1386.2)).bind fun (v1392 : Int × (List Int)) => (spec_PutInOrder (v1383.2) (v1392.2)).bind fun (v1395 : Bool × (List Int)) => some ((v1392.1), (v1395.2))) ((spec_l20Rd_pick 3 x35 (v1386.2)).bind fun (v1398 : Int × Int) => cond ((v1398.1) == 0) ((spec_l20Flat x34 x35 (v1398.2)).bind fun (v1402 : Int × (List Int)) => some ((v1402.1), (v1402.2))) (some ((v1398.2), (v1383.2))))) ((spec_l20Rd_pick 3 x35 (v1386.2)).bind fun (v1405 : Int × Int) => cond ((v1405.1) == 0) ((spec_l20Flat x34 x35 (v1405.2)).bind fun (v1409 : Int × (List Int)) => some ((v1409.1), (v1409.2))) (some ((v1405.2), (v1383.2))))

@[irreducible] def spec_l20Wild (x34 : Int) (x35 : List Int) (x36 : Int) : Option (Int × (List Int)) :=
  spec_l20Wild_n1 x34 x35 x36

def impl_oneRoot_n1 : Option (Unit) :=
  some ()

def impl_oneRoot_n2 (x1431 : List Int) : Option (Int) :=
  some (((List.length x1431 : Nat) : Int))

def impl_oneRoot_n3 (x1431 : List Int) (x1453 : Int) (x1432 : Int) (x1454 : Int) : Option ((Int × Int) ⊕ Bool ⊕ Int) :=
  cond (decide (x1454 < x1432)) ((idx x1431 x1454).bind fun (v1465 : Int) => cond (decide (v1465 < 0)) (some (Sum.inr (Sum.inl false))) (cond (decide (v1465 > (((List.length x1431 : Nat) : Int)))) (some (Sum.inr (Sum.inl false))) (cond (v1465 == 0) (some (Sum.inl ((IntKind.wrap .i64 (x1453 + 1)), (IntKind.wrap .i64 (x1454 + 1))))) (some (Sum.inl (x1453, (IntKind.wrap .i64 (x1454 + 1)))))))) (some (Sum.inr (Sum.inr x1453)))

def impl_oneRoot_n4 (x1431 : List Int) (x1432 : Int) : Option (Bool ⊕ Int) :=
  nloop (fun (s : Int × Int) => ((impl_oneRoot_n3 x1431 s.1 x1432 s.2).map (Sum.elim (fun (t : Int × Int) => Sum.inl (t.1, t.2)) (Sum.elim (fun (t : Bool) => Sum.inr (Sum.inl t)) (fun (t : Int) => Sum.inr (Sum.inr t)))) : Option ((Int × Int) ⊕ (Bool ⊕ Int)))) LL (0, 0)

def impl_oneRoot_n5 (x1431 : List Int) (x1432 : Int) : Option (Int ⊕ Bool) :=
  (impl_oneRoot_n4 x1431 x1432).map (Sum.elim (fun (t : Bool) => (Sum.inr t)) (fun (t : Int) => (Sum.inl t)))

def impl_oneRoot_n6 (x1431 : List Int) : Option (Int ⊕ Bool) :=
  (impl_oneRoot_n2 x1431).bind (fun (t : Int) => impl_oneRoot_n5 x1431 t)

def impl_oneRoot_n7 (x1453 : Int) : Option (Bool) :=
  some (x1453 == 1)

def impl_oneRoot_n8 (x1431 : List Int) : Option (Bool) :=
  (impl_oneRoot_n6 x1431).bind (Sum.elim (fun (t : Int) => impl_oneRoot_n7 t) (fun e => some ((fun (t : Bool) => t) e)))

def impl_oneRoot_n9 (x1431 : List Int) : Option (Bool) :=
  (impl_oneRoot_n1).bind (fun (t : Unit) => impl_oneRoot_n8 x1431)

@[irreducible] def impl_oneRoot (x1431 : List Int) : Option (Bool) :=
  impl_oneRoot_n9 x1431

def impl_walker_up_n1 (x1487 : List Int) (x1488 : Int) (x1489 : Int) : Option ((Bool × Int × Int)) :=
  (idx x1487 (IntKind.wrap .i64 (x1488 - 1))).bind fun (v1507 : Int) => cond (v1507 == 0) (some (false, x1488, x1489)) (some (true, v1507, (IntKind.wrap .i64 (x1489 + 1))))

@[irreducible] def impl_walker_up (x1487 : List Int) (x1488 : Int) (x1489 : Int) : Option (Bool × Int × Int) :=
  impl_walker_up_n1 x1487 x1488 x1489

def impl_stepsToRoot_n1 : Option (Unit) :=
  some ()

def impl_stepsToRoot_n2 (x1485 : List Int) (x1523 : Int) (x1524 : Int) : Option ((Int × Int) ⊕ (Int × Bool) ⊕ (Int × Int)) :=
  (impl_walker_up x1485 x1523 x1524).bind fun (v1529 : Bool × Int × Int) => cond (v1529.1) (cond (decide ((v1529.2.2) ≥ (((List.length x1485 : Nat) : Int)))) (some (Sum.inr (Sum.inl (0, false)))) (some (Sum.inl ((v1529.2.1), (v1529.2.2))))) (some (Sum.inr (Sum.inr ((v1529.2.1), (v1529.2.2)))))

def impl_stepsToRoot_n3 (x1485 : List Int) (x1486 : Int) : Option ((Int × Bool) ⊕ (Int × Int)) :=
  nloop (fun (s : Int × Int) => ((impl_stepsToRoot_n2 x1485 s.1 s.2).map (Sum.elim (fun (t : Int × Int) => Sum.inl (t.1, t.2)) (Sum.elim (fun (t : Int × Bool) => Sum.inr (Sum.inl t)) (fun (t : Int × Int) => Sum.inr (Sum.inr t)))) : Option ((Int × Int) ⊕ ((Int × Bool) ⊕ (Int × Int))))) LL (x1486, 0)

def impl_stepsToRoot_n4 (x1485 : List Int) (x1486 : Int) : Option ((Int × Int) ⊕ (Int × Bool)) :=
  (impl_stepsToRoot_n3 x1485 x1486).map (Sum.elim (fun (t : Int × Bool) => (Sum.inr t)) (fun (t : Int × Int) => (Sum.inl (t.1, t.2))))

def impl_stepsToRoot_n5 (x1532 : Int) : Option ((Int × Bool)) :=
  some (x1532, true)

def impl_stepsToRoot_n6 (x1485 : List Int) (x1486 : Int) : Option ((Int × Bool)) :=
  (impl_stepsToRoot_n4 x1485 x1486).bind (Sum.elim (fun (t : Int × Int) => impl_stepsToRoot_n5 t.2) (fun e => some ((fun (t : Int × Bool) => t) e)))

def impl_stepsToRoot_n7 (x1485 : List Int) (x1486 : Int) : Option ((Int × Bool)) :=
  (impl_stepsToRoot_n1).bind (fun (t : Unit) => impl_stepsToRoot_n6 x1485 x1486)

@[irreducible] def impl_stepsToRoot (x1485 : List Int) (x1486 : Int) : Option (Int × Bool) :=
  impl_stepsToRoot_n7 x1485 x1486

def impl_TreeOk_n1 (x1426 : List Int) : Option (Unit ⊕ Bool) :=
  cond (decide ((((List.length x1426 : Nat) : Int)) < 1)) (some (Sum.inr false)) (cond (decide ((((List.length x1426 : Nat) : Int)) > 8)) (some (Sum.inr false)) ((impl_oneRoot x1426).bind fun (v1478 : Bool) => cond (!v1478) (some (Sum.inr false)) (some (Sum.inl ()))))

def impl_TreeOk_n2 (x1426 : List Int) : Option (Int) :=
  some (((List.length x1426 : Nat) : Int))

def impl_TreeOk_n3 (x1426 : List Int) (x1480 : Int) (x1548 : Int) : Option (Int ⊕ Bool ⊕ Unit) :=
  cond (decide (x1548 < x1480)) ((impl_stepsToRoot x1426 (IntKind.wrap .i64 (x1548 + 1))).bind fun (v1559 : Int × Bool) => cond (!(v1559.2)) (some (Sum.inr (Sum.inl false))) (some (Sum.inl (IntKind.wrap .i64 (x1548 + 1))))) (some (Sum.inr (Sum.inr ())))

def impl_TreeOk_n4 (x1426 : List Int) (x1480 : Int) : Option (Bool ⊕ Unit) :=
  nloop (fun (s : Int) => ((impl_TreeOk_n3 x1426 x1480 s).map (Sum.elim (fun (t : Int) => Sum.inl t) (Sum.elim (fun (t : Bool) => Sum.inr (Sum.inl t)) (fun (t : Unit) => Sum.inr (Sum.inr t)))) : Option ((Int) ⊕ (Bool ⊕ Unit)))) LL 0

def impl_TreeOk_n5 (x1426 : List Int) (x1480 : Int) : Option (Unit ⊕ Bool) :=
  (impl_TreeOk_n4 x1426 x1480).map (Sum.elim (fun (t : Bool) => (Sum.inr t)) (fun (t : Unit) => (Sum.inl ())))

def impl_TreeOk_n6 (x1426 : List Int) : Option (Unit ⊕ Bool) :=
  (impl_TreeOk_n2 x1426).bind (fun (t : Int) => impl_TreeOk_n5 x1426 t)

def impl_TreeOk_n7 : Option (Bool) :=
  some true

def impl_TreeOk_n8 (x1426 : List Int) : Option (Bool) :=
  (impl_TreeOk_n6 x1426).bind (Sum.elim (fun (t : Unit) => impl_TreeOk_n7) (fun e => some ((fun (t : Bool) => t) e)))

def impl_TreeOk_n9 (x1426 : List Int) : Option (Bool) :=
  (impl_TreeOk_n1 x1426).bind (Sum.elim (fun (t : Unit) => impl_TreeOk_n8 x1426) (fun e => some ((fun (t : Bool) => t) e)))

@[irreducible] def impl_TreeOk (x1426 : List Int) : Option (Bool) :=
  impl_TreeOk_n9 x1426

def impl_arcBetween_n1 (x1580 : Int) (x1581 : Int) : Option ((Bool × Int × Int)) :=
  cond (decide (x1580 < 1)) (some (false, 0, 0)) (cond (decide (x1581 < 1)) (some (false, 0, 0)) (cond (x1580 == x1581) (some (false, 0, 0)) (some (true, (imin x1580 x1581), (imax x1580 x1581)))))

@[irreducible] def impl_arcBetween (x1580 : Int) (x1581 : Int) : Option (Bool × Int × Int) :=
  impl_arcBetween_n1 x1580 x1581

def impl_arcsOf_n1 (x1569 : List Int) : Option (((List (Int × Int × Unit)))) :=
  (mk 0 (((List.length x1569 : Nat) : Int))).bind fun (v1572 : Nat) => some (List.replicate v1572 ((0 : Int), ((0 : Int), ())))

def impl_arcsOf_n2 (x1569 : List Int) : Option (Int) :=
  some (((List.length x1569 : Nat) : Int))

def impl_arcsOf_n3 (x1569 : List Int) (x1574 : Int) (x1626 : Int) (x1627 : List (Int × Int × Unit)) : Option ((Int × (List (Int × Int × Unit))) ⊕ ((List (Int × Int × Unit)))) :=
  cond (decide (x1626 < x1574)) ((idx x1569 x1626).bind fun (v1644 : Int) => (impl_arcBetween (IntKind.wrap .i64 (x1626 + 1)) v1644).bind fun (v1646 : Bool × Int × Int) => cond (v1646.1) ((room ((List.length x1627) + List.length ([((v1646.2.1), ((v1646.2.2), ()))]))).bind fun (v1654 : Unit) => some (Sum.inl ((IntKind.wrap .i64 (x1626 + 1)), (x1627 ++ ([((v1646.2.1), ((v1646.2.2), ()))]))))) (some (Sum.inl ((IntKind.wrap .i64 (x1626 + 1)), x1627)))) (some (Sum.inr x1627))

def impl_arcsOf_n4 (x1569 : List Int) (x1574 : Int) (x1573 : List (Int × Int × Unit)) : Option (((List (Int × Int × Unit)))) :=
  nloop (fun (s : Int × (List (Int × Int × Unit))) => ((impl_arcsOf_n3 x1569 x1574 s.1 s.2).map (Sum.elim (fun (t : Int × (List (Int × Int × Unit))) => Sum.inl (t.1, t.2)) (fun (t : (List (Int × Int × Unit))) => Sum.inr t)) : Option ((Int × (List (Int × Int × Unit))) ⊕ (((List (Int × Int × Unit))))))) LL (0, x1573)

def impl_arcsOf_n5 (x1569 : List Int) (x1574 : Int) (x1573 : List (Int × Int × Unit)) : Option (((List (Int × Int × Unit)))) :=
  (impl_arcsOf_n4 x1569 x1574 x1573).map (fun (t : (List (Int × Int × Unit))) => t)

def impl_arcsOf_n6 (x1569 : List Int) (x1573 : List (Int × Int × Unit)) : Option (((List (Int × Int × Unit)))) :=
  (impl_arcsOf_n2 x1569).bind (fun (t : Int) => impl_arcsOf_n5 x1569 t x1573)

def impl_arcsOf_n7 (x1627 : List (Int × Int × Unit)) : Option (((List (Int × Int × Unit)))) :=
  some x1627

def impl_arcsOf_n8 (x1569 : List Int) (x1573 : List (Int × Int × Unit)) : Option (((List (Int × Int × Unit)))) :=
  (impl_arcsOf_n6 x1569 x1573).bind (fun (t : (List (Int × Int × Unit))) => impl_arcsOf_n7 t)

def impl_arcsOf_n9 (x1569 : List Int) : Option (((List (Int × Int × Unit)))) :=
  (impl_arcsOf_n1 x1569).bind (fun (t : (List (Int × Int × Unit))) => impl_arcsOf_n8 x1569 t)

@[irreducible] def impl_arcsOf (x1569 : List Int) : Option ((List (Int × Int × Unit))) :=
  impl_arcsOf_n9 x1569

def impl_countEnds_n1 : Option (Unit) :=
  some ()

def impl_countEnds_n2 (x1661 : List (Int × Int × Unit)) : Option (Int) :=
  some (((List.length x1661 : Nat) : Int))

def impl_countEnds_n3 (x1661 : List (Int × Int × Unit)) (x1663 : Int) (x1707 : Int) (x1708 : List Int) : Option ((Int × (List Int)) ⊕ ((List Int))) :=
  cond (decide (x1707 < x1663)) ((idx x1661 x1707).bind fun (v1732 : Int × Int × Unit) => (same (List.length x1708) 9).bind fun (v1737 : Unit) => (inb (v1732.1) 9).bind fun (v1738 : Nat) => (x1708[v1738]?).bind fun (v1739 : Int) => (same (List.length x1708) 9).bind fun (v1741 : Unit) => (inb (v1732.1) 9).bind fun (v1742 : Nat) => (same (List.length (x1708.set v1742 (IntKind.wrap .i64 (v1739 + 1)))) 9).bind fun (v1744 : Unit) => (inb ((v1732.2).1) 9).bind fun (v1745 : Nat) => ((x1708.set v1742 (IntKind.wrap .i64 (v1739 + 1)))[v1745]?).bind fun (v1746 : Int) => (same (List.length (x1708.set v1742 (IntKind.wrap .i64 (v1739 + 1)))) 9).bind fun (v1748 : Unit) => (inb ((v1732.2).1) 9).bind fun (v1749 : Nat) => some (Sum.inl ((IntKind.wrap .i64 (x1707 + 1)), ((x1708.set v1742 (IntKind.wrap .i64 (v1739 + 1))).set v1749 (IntKind.wrap .i64 (v1746 + 1)))))) (some (Sum.inr x1708))

def impl_countEnds_n4 (x1661 : List (Int × Int × Unit)) (x1663 : Int) : Option (((List Int))) :=
  nloop (fun (s : Int × (List Int)) => ((impl_countEnds_n3 x1661 x1663 s.1 s.2).map (Sum.elim (fun (t : Int × (List Int)) => Sum.inl (t.1, t.2)) (fun (t : (List Int)) => Sum.inr t)) : Option ((Int × (List Int)) ⊕ (((List Int)))))) LL (0, (List.replicate 9 (0 : Int)))

def impl_countEnds_n5 (x1661 : List (Int × Int × Unit)) (x1663 : Int) : Option (((List Int))) :=
  (impl_countEnds_n4 x1661 x1663).map (fun (t : (List Int)) => t)

def impl_countEnds_n6 (x1661 : List (Int × Int × Unit)) : Option (((List Int))) :=
  (impl_countEnds_n2 x1661).bind (fun (t : Int) => impl_countEnds_n5 x1661 t)

def impl_countEnds_n7 (x1708 : List Int) : Option ((Int × Int × Int × Int × Int × Int × Int × Int × Int)) :=
  (same (List.length x1708) 9).bind fun (v1763 : Unit) => (same (List.length (List.replicate 9 (0 : Int))) 9).bind fun (v1773 : Unit) => some ((x1708.getD 0 (0 : Int)), (x1708.getD 1 (0 : Int)), (x1708.getD 2 (0 : Int)), (x1708.getD 3 (0 : Int)), (x1708.getD 4 (0 : Int)), (x1708.getD 5 (0 : Int)), (x1708.getD 6 (0 : Int)), (x1708.getD 7 (0 : Int)), (x1708.getD 8 (0 : Int)))

def impl_countEnds_n8 (x1661 : List (Int × Int × Unit)) : Option ((Int × Int × Int × Int × Int × Int × Int × Int × Int)) :=
  (impl_countEnds_n6 x1661).bind (fun (t : (List Int)) => impl_countEnds_n7 t)

def impl_countEnds_n9 (x1661 : List (Int × Int × Unit)) : Option ((Int × Int × Int × Int × Int × Int × Int × Int × Int)) :=
  (impl_countEnds_n1).bind (fun (t : Unit) => impl_countEnds_n8 x1661)

@[irreducible] def impl_countEnds (x1661 : List (Int × Int × Unit)) : Option (Int × Int × Int × Int × Int × Int × Int × Int × Int) :=
  impl_countEnds_n9 x1661

def spec_EndsOf_n1 : Option (Unit) :=
  some ()

def spec_EndsOf_n2 : Option (Unit) :=
  some ()

def spec_EndsOf_n3 (x1883 : List Int) (x1933 : Int) (x1934 : List Int) : Option (Unit ⊕ ((List Int))) :=
  cond (decide (x1933 < (((List.length x1883 : Nat) : Int)))) ((spec_TreeOk x1883).bind fun (v1937 : Bool) => cond v1937 (some (Sum.inl ())) (some (Sum.inr x1934))) (some (Sum.inr x1934))

def spec_EndsOf_n4 (x1883 : List Int) (x1933 : Int) : Option (Int) :=
  (idx x1883 x1933).bind fun (v1938 : Int) => cond (decide (v1938 > 0)) (some 1) (some 0)

def spec_EndsOf_n5 : Option (Unit) :=
  some ()

def spec_EndsOf_n6 (x1883 : List Int) (x1933 : Int) (x1959 : Int) (x1960 : Int) : Option ((Int × Int) ⊕ Int) :=
  cond (decide (x1960 < (((List.length x1883 : Nat) : Int)))) ((idx x1883 x1960).bind fun (v1971 : Int) => cond (v1971 == (IntKind.wrap .i64 (x1933 + 1))) (some (Sum.inl ((IntKind.wrap .i64 (x1959 + 1)), (IntKind.wrap .i64 (x1960 + 1))))) (some (Sum.inl (x1959, (IntKind.wrap .i64 (x1960 + 1)))))) (some (Sum.inr x1959))

def spec_EndsOf_n7 (x1883 : List Int) (x1933 : Int) (x1940 : Int) : Option (Int) :=
  nloop (fun (s : Int × Int) => ((spec_EndsOf_n6 x1883 x1933 s.1 s.2).map (Sum.elim (fun (t : Int × Int) => Sum.inl (t.1, t.2)) (fun (t : Int) => Sum.inr t)) : Option ((Int × Int) ⊕ (Int)))) LL (x1940, 0)

def spec_EndsOf_n8 (x1883 : List Int) (x1933 : Int) (x1940 : Int) : Option (Int) :=
  (spec_EndsOf_n7 x1883 x1933 x1940).map (fun (t : Int) => t)

def spec_EndsOf_n9 (x1883 : List Int) (x1933 : Int) (x1940 : Int) : Option (Int) :=
  (spec_EndsOf_n5).bind (fun (t : Unit) => spec_EndsOf_n8 x1883 x1933 x1940)

def spec_EndsOf_n10 (x1959 : Int) (x1934 : List Int) : Option (((List Int))) :=
  (room ((List.length x1934) + List.length ([x1959]))).bind fun (v1981 : Unit) => some (x1934 ++ ([x1959]))

def spec_EndsOf_n11 (x1883 : List Int) (x1933 : Int) (x1940 : Int) (x1934 : List Int) : Option (((List Int))) :=
  (spec_EndsOf_n9 x1883 x1933 x1940).bind (fun (t : Int) => spec_EndsOf_n10 t x1934)

def spec_EndsOf_n12 (x1883 : List Int) (x1933 : Int) (x1934 : List Int) : Option (((List Int))) :=
  (spec_EndsOf_n4 x1883 x1933).bind (fun (t : Int) => spec_EndsOf_n11 x1883 x1933 t x1934)

def spec_EndsOf_n13 (x1883 : List Int) (x1933 : Int) (x1934 : List Int) : Option (((List Int))) :=
  (spec_EndsOf_n12 x1883 x1933 x1934).map (fun (t : (List Int)) => t)

def spec_EndsOf_n14 (x1933 : Int) : Option (Int) :=
  some (IntKind.wrap .i64 (x1933 + 1))

def spec_EndsOf_n15 (x1883 : List Int) (x1933 : Int) (x1934 : List Int) : Option ((Int × (List Int))) :=
  (spec_EndsOf_n13 x1883 x1933 x1934).bind (fun (t : (List Int)) => (spec_EndsOf_n14 x1933).map (fun (u : Int) => (u, t)))

def spec_EndsOf_n16 (x1883 : List Int) (x1933 : Int) (x1934 : List Int) : Option ((Int × (List Int)) ⊕ ((List Int))) :=
  (spec_EndsOf_n3 x1883 x1933 x1934).bind (Sum.elim (fun (t : Unit) => (spec_EndsOf_n15 x1883 x1933 x1934).map (fun (t : Int × (List Int)) => (Sum.inl (t.1, t.2)))) (fun e => some ((fun (t : (List Int)) => (Sum.inr t)) e)))

def spec_EndsOf_n17 (x1883 : List Int) : Option (((List Int))) :=
  nloop (fun (s : Int × (List Int)) => ((spec_EndsOf_n16 x1883 s.1 s.2).map (Sum.elim (fun (t : Int × (List Int)) => Sum.inl (t.1, t.2)) (fun (t : (List Int)) => Sum.inr t)) : Option ((Int × (List Int)) ⊕ (((List Int)))))) LL (0, ([] : List Int))

def spec_EndsOf_n18 (x1883 : List Int) : Option (((List Int))) :=
  (spec_EndsOf_n17 x1883).map (fun (t : (List Int)) => t)

def spec_EndsOf_n19 (x1883 : List Int) : Option (((List Int))) :=
  (spec_EndsOf_n2).bind (fun (t : Unit) => spec_EndsOf_n18 x1883)

def spec_EndsOf_n20 (x1934 : List Int) : Option (((List Int))) :=
  some x1934

def spec_EndsOf_n21 (x1883 : List Int) : Option (((List Int))) :=
  (spec_EndsOf_n19 x1883).bind (fun (t : (List Int)) => spec_EndsOf_n20 t)

def spec_EndsOf_n22 (x1883 : List Int) : Option (((List Int))) :=
  (spec_EndsOf_n1).bind (fun (t : Unit) => spec_EndsOf_n21 x1883)

@[irreducible] def spec_EndsOf (x1883 : List Int) : Option ((List Int)) :=
  spec_EndsOf_n22 x1883

def laws_alive_n1 : Option (Bool) :=
  (impl_TreeOk ([0])).bind fun (v2037 : Bool) => cond v2037 ((impl_TreeOk ([1])).bind fun (v2039 : Bool) => some (!v2039)) (some false)

@[irreducible] def laws_alive : Option (Bool) :=
  laws_alive_n1

def impl_lastToFirst_n1 (x2061 : Int) : Option (((List Int))) :=
  (mk x2061 x2061).bind fun (v2062 : Nat) => some (List.replicate v2062 (0 : Int))

def impl_lastToFirst_n2 (x2063 : List Int) : Option (Int) :=
  some (((List.length x2063 : Nat) : Int))

def impl_lastToFirst_n3 (x2061 : Int) (x2064 : Int) (x2076 : Int) (x2077 : List Int) : Option ((Int × (List Int)) ⊕ ((List Int))) :=
  cond (decide (x2076 < x2064)) ((inb x2076 (List.length x2077)).bind fun (v2086 : Nat) => some (Sum.inl ((IntKind.wrap .i64 (x2076 + 1)), (x2077.set v2086 (IntKind.wrap .i64 (x2061 - x2076)))))) (some (Sum.inr x2077))

def impl_lastToFirst_n4 (x2061 : Int) (x2064 : Int) (x2063 : List Int) : Option (((List Int))) :=
  nloop (fun (s : Int × (List Int)) => ((impl_lastToFirst_n3 x2061 x2064 s.1 s.2).map (Sum.elim (fun (t : Int × (List Int)) => Sum.inl (t.1, t.2)) (fun (t : (List Int)) => Sum.inr t)) : Option ((Int × (List Int)) ⊕ (((List Int)))))) LL (0, x2063)

def impl_lastToFirst_n5 (x2061 : Int) (x2064 : Int) (x2063 : List Int) : Option (((List Int))) :=
  (impl_lastToFirst_n4 x2061 x2064 x2063).map (fun (t : (List Int)) => t)

def impl_lastToFirst_n6 (x2061 : Int) (x2063 : List Int) : Option (((List Int))) :=
  (impl_lastToFirst_n2 x2063).bind (fun (t : Int) => impl_lastToFirst_n5 x2061 t x2063)

def impl_lastToFirst_n7 (x2077 : List Int) : Option (((List Int))) :=
  some x2077

def impl_lastToFirst_n8 (x2061 : Int) (x2063 : List Int) : Option (((List Int))) :=
  (impl_lastToFirst_n6 x2061 x2063).bind (fun (t : (List Int)) => impl_lastToFirst_n7 t)

def impl_lastToFirst_n9 (x2061 : Int) : Option (((List Int))) :=
  (impl_lastToFirst_n1 x2061).bind (fun (t : (List Int)) => impl_lastToFirst_n8 x2061 t)

@[irreducible] def impl_lastToFirst (x2061 : Int) : Option ((List Int)) :=
  impl_lastToFirst_n9 x2061

def impl_OrderOk_n1 (x2095 : List Int) (x2096 : Int) : Option (Unit ⊕ Bool) :=
  cond (decide (x2096 < 1)) (some (Sum.inr false)) (cond (decide (x2096 > 8)) (some (Sum.inr false)) (cond ((((List.length x2095 : Nat) : Int)) != x2096) (some (Sum.inr false)) (some (Sum.inl ()))))

def impl_OrderOk_n2 (x2095 : List Int) : Option (Int) :=
  some (((List.length x2095 : Nat) : Int))

def impl_OrderOk_n3 (x2096 : Int) (x2095 : List Int) (x2106 : Int) (x2130 : Int) (x2131 : List Bool) : Option ((Int × (List Bool)) ⊕ Bool ⊕ Unit) :=
  cond (decide (x2130 < x2106)) ((idx x2095 x2130).bind fun (v2145 : Int) => cond (decide (v2145 < 1)) (some (Sum.inr (Sum.inl false))) (cond (decide (v2145 > x2096)) (some (Sum.inr (Sum.inl false))) ((same (List.length x2131) 9).bind fun (v2148 : Unit) => (inb v2145 9).bind fun (v2149 : Nat) => (x2131[v2149]?).bind fun (v2150 : Bool) => cond v2150 (some (Sum.inr (Sum.inl false))) ((same (List.length x2131) 9).bind fun (v2151 : Unit) => (inb v2145 9).bind fun (v2152 : Nat) => some (Sum.inl ((IntKind.wrap .i64 (x2130 + 1)), (x2131.set v2152 true))))))) (some (Sum.inr (Sum.inr ())))

def impl_OrderOk_n4 (x2096 : Int) (x2095 : List Int) (x2106 : Int) : Option (Bool ⊕ Unit) :=
  nloop (fun (s : Int × (List Bool)) => ((impl_OrderOk_n3 x2096 x2095 x2106 s.1 s.2).map (Sum.elim (fun (t : Int × (List Bool)) => Sum.inl (t.1, t.2)) (Sum.elim (fun (t : Bool) => Sum.inr (Sum.inl t)) (fun (t : Unit) => Sum.inr (Sum.inr t)))) : Option ((Int × (List Bool)) ⊕ (Bool ⊕ Unit)))) LL (0, (List.replicate 9 false))

def impl_OrderOk_n5 (x2096 : Int) (x2095 : List Int) (x2106 : Int) : Option (Unit ⊕ Bool) :=
  (impl_OrderOk_n4 x2096 x2095 x2106).map (Sum.elim (fun (t : Bool) => (Sum.inr t)) (fun (t : Unit) => (Sum.inl ())))

def impl_OrderOk_n6 (x2095 : List Int) (x2096 : Int) : Option (Unit ⊕ Bool) :=
  (impl_OrderOk_n2 x2095).bind (fun (t : Int) => impl_OrderOk_n5 x2096 x2095 t)

def impl_OrderOk_n7 : Option (Bool) :=
  some true

def impl_OrderOk_n8 (x2095 : List Int) (x2096 : Int) : Option (Bool) :=
  (impl_OrderOk_n6 x2095 x2096).bind (Sum.elim (fun (t : Unit) => impl_OrderOk_n7) (fun e => some ((fun (t : Bool) => t) e)))

def impl_OrderOk_n9 (x2095 : List Int) (x2096 : Int) : Option (Bool) :=
  (impl_OrderOk_n1 x2095 x2096).bind (Sum.elim (fun (t : Unit) => impl_OrderOk_n8 x2095 x2096) (fun e => some ((fun (t : Bool) => t) e)))

@[irreducible] def impl_OrderOk (x2095 : List Int) (x2096 : Int) : Option (Bool) :=
  impl_OrderOk_n9 x2095 x2096

def impl_placesIn_n1 (x2163 : List Int) : Option (((List Int))) :=
  (mk (IntKind.wrap .i64 ((((List.length x2163 : Nat) : Int)) + 1)) (IntKind.wrap .i64 ((((List.length x2163 : Nat) : Int)) + 1))).bind fun (v2166 : Nat) => some (List.replicate v2166 (0 : Int))

def impl_placesIn_n2 (x2163 : List Int) : Option (Int) :=
  some (((List.length x2163 : Nat) : Int))

def impl_placesIn_n3 (x2163 : List Int) (x2168 : Int) (x2182 : Int) (x2183 : List Int) : Option ((Int × (List Int)) ⊕ ((List Int))) :=
  cond (decide (x2182 < x2168)) ((idx x2163 x2182).bind fun (v2192 : Int) => (inb v2192 (List.length x2183)).bind fun (v2194 : Nat) => some (Sum.inl ((IntKind.wrap .i64 (x2182 + 1)), (x2183.set v2194 (IntKind.wrap .i64 (x2182 + 1)))))) (some (Sum.inr x2183))

def impl_placesIn_n4 (x2163 : List Int) (x2168 : Int) (x2167 : List Int) : Option (((List Int))) :=
  nloop (fun (s : Int × (List Int)) => ((impl_placesIn_n3 x2163 x2168 s.1 s.2).map (Sum.elim (fun (t : Int × (List Int)) => Sum.inl (t.1, t.2)) (fun (t : (List Int)) => Sum.inr t)) : Option ((Int × (List Int)) ⊕ (((List Int)))))) LL (0, x2167)

def impl_placesIn_n5 (x2163 : List Int) (x2168 : Int) (x2167 : List Int) : Option (((List Int))) :=
  (impl_placesIn_n4 x2163 x2168 x2167).map (fun (t : (List Int)) => t)

def impl_placesIn_n6 (x2163 : List Int) (x2167 : List Int) : Option (((List Int))) :=
  (impl_placesIn_n2 x2163).bind (fun (t : Int) => impl_placesIn_n5 x2163 t x2167)

def impl_placesIn_n7 (x2183 : List Int) : Option (((List Int))) :=
  some x2183

def impl_placesIn_n8 (x2163 : List Int) (x2167 : List Int) : Option (((List Int))) :=
  (impl_placesIn_n6 x2163 x2167).bind (fun (t : (List Int)) => impl_placesIn_n7 t)

def impl_placesIn_n9 (x2163 : List Int) : Option (((List Int))) :=
  (impl_placesIn_n1 x2163).bind (fun (t : (List Int)) => impl_placesIn_n8 x2163 t)

@[irreducible] def impl_placesIn (x2163 : List Int) : Option ((List Int)) :=
  impl_placesIn_n9 x2163

def impl_PutInOrder_1_n1 (x2217 : Int) (x2218 : List Int) : Option (Int) :=
  (inb x2217 (List.length x2218)).bind fun (v2221 : Nat) => (x2218[v2221]?).bind fun (v2222 : Int) => some v2222

@[irreducible] def impl_PutInOrder_1 (x2217 : Int) (x2218 : List Int) : Option (Int) :=
  impl_PutInOrder_1_n1 x2217 x2218

def impl_renamed_int_n1 (x2205 : List Int) : Option (((List Int))) :=
  (mk (((List.length x2205 : Nat) : Int)) (((List.length x2205 : Nat) : Int))).bind fun (v2208 : Nat) => some (List.replicate v2208 (0 : Int))

def impl_renamed_int_n2 (x2205 : List Int) : Option (Int) :=
  some (((List.length x2205 : Nat) : Int))

def impl_renamed_int_n3 (x2204 : List Int) (x2205 : List Int) (x2210 : Int) (x2234 : Int) (x2206 : List Int) (x2235 : List Int) : Option ((Int × (List Int)) ⊕ ((List Int))) :=
  cond (decide (x2234 < x2210)) ((idx x2205 x2234).bind fun (v2246 : Int) => (idx x2204 (IntKind.wrap .i64 (v2246 - 1))).bind fun (v2248 : Int) => (impl_PutInOrder_1 v2248 x2206).bind fun (v2249 : Int) => (inb x2234 (List.length x2235)).bind fun (v2250 : Nat) => some (Sum.inl ((IntKind.wrap .i64 (x2234 + 1)), (x2235.set v2250 v2249)))) (some (Sum.inr x2235))

def impl_renamed_int_n4 (x2204 : List Int) (x2205 : List Int) (x2210 : Int) (x2206 : List Int) (x2209 : List Int) : Option (((List Int))) :=
  nloop (fun (s : Int × (List Int)) => ((impl_renamed_int_n3 x2204 x2205 x2210 s.1 x2206 s.2).map (Sum.elim (fun (t : Int × (List Int)) => Sum.inl (t.1, t.2)) (fun (t : (List Int)) => Sum.inr t)) : Option ((Int × (List Int)) ⊕ (((List Int)))))) LL (0, x2209)

def impl_renamed_int_n5 (x2204 : List Int) (x2205 : List Int) (x2210 : Int) (x2206 : List Int) (x2209 : List Int) : Option (((List Int))) :=
  (impl_renamed_int_n4 x2204 x2205 x2210 x2206 x2209).map (fun (t : (List Int)) => t)

def impl_renamed_int_n6 (x2204 : List Int) (x2205 : List Int) (x2206 : List Int) (x2209 : List Int) : Option (((List Int))) :=
  (impl_renamed_int_n2 x2205).bind (fun (t : Int) => impl_renamed_int_n5 x2204 x2205 t x2206 x2209)

def impl_renamed_int_n7 (x2235 : List Int) : Option (((List Int))) :=
  some x2235

def impl_renamed_int_n8 (x2204 : List Int) (x2205 : List Int) (x2206 : List Int) (x2209 : List Int) : Option (((List Int))) :=
  (impl_renamed_int_n6 x2204 x2205 x2206 x2209).bind (fun (t : (List Int)) => impl_renamed_int_n7 t)

def impl_renamed_int_n9 (x2204 : List Int) (x2205 : List Int) (x2206 : List Int) : Option (((List Int))) :=
  (impl_renamed_int_n1 x2205).bind (fun (t : (List Int)) => impl_renamed_int_n8 x2204 x2205 x2206 t)

@[irreducible] def impl_renamed_int (x2204 : List Int) (x2205 : List Int) (x2206 : List Int) : Option ((List Int)) :=
  impl_renamed_int_n9 x2204 x2205 x2206

def impl_PutInOrder_n1 (x2090 : List Int) (x2091 : List Int) : Option ((Bool × (List Int))) :=
  (impl_TreeOk x2090).bind fun (v2254 : Bool) => cond (!v2254) (some (false, ([] : List Int))) ((impl_OrderOk x2091 (((List.length x2090 : Nat) : Int))).bind fun (v2257 : Bool) => cond (!v2257) (some (false, ([] : List Int))) ((impl_placesIn x2091).bind fun (v2259 : List Int) => (impl_renamed_int x2090 x2091 v2259).bind fun (v2260 : List Int) => some (true, v2260)))

@[irreducible] def impl_PutInOrder (x2090 : List Int) (x2091 : List Int) : Option (Bool × (List Int)) :=
  impl_PutInOrder_n1 x2090 x2091

def impl_BackOf_n1 (x2055 : List Int) : Option (((List Int))) :=
  (impl_TreeOk x2055).bind fun (v2273 : Bool) => cond (!v2273) (some ([] : List Int)) ((impl_lastToFirst (((List.length x2055 : Nat) : Int))).bind fun (v2276 : List Int) => (impl_PutInOrder x2055 v2276).bind fun (v2277 : Bool × (List Int)) => some (v2277.2))

@[irreducible] def impl_BackOf (x2055 : List Int) : Option ((List Int)) :=
  impl_BackOf_n1 x2055

def impl_pairsAmong_n1 (x2485 : Int) : Option (Int) :=
  (quo .i64 (IntKind.wrap .i64 (x2485 * (IntKind.wrap .i64 (x2485 - 1)))) 2).bind fun (v2491 : Int) => some v2491

@[irreducible] def impl_pairsAmong (x2485 : Int) : Option (Int) :=
  impl_pairsAmong_n1 x2485

def impl_PairsApart_n1 (x2475 : List Int) : Option ((Int × (List (Int × Int × Unit))) ⊕ Int) :=
  (impl_TreeOk x2475).bind fun (v2481 : Bool) => cond (!v2481) (some (Sum.inr (-1))) ((impl_arcsOf x2475).bind fun (v2483 : List (Int × Int × Unit)) => (impl_pairsAmong (((List.length v2483 : Nat) : Int))).bind fun (v2492 : Int) => some (Sum.inl (v2492, v2483)))

def impl_PairsApart_n2 (x2483 : List (Int × Int × Unit)) : Option ((Int × Int × Int × Int × Int × Int × Int × Int × Int)) :=
  (impl_countEnds x2483).bind fun (v2493 : Int × Int × Int × Int × Int × Int × Int × Int × Int) => some ((v2493.1), (v2493.2.1), (v2493.2.2.1), (v2493.2.2.2.1), (v2493.2.2.2.2.1), (v2493.2.2.2.2.2.1), (v2493.2.2.2.2.2.2.1), (v2493.2.2.2.2.2.2.2.1), (v2493.2.2.2.2.2.2.2.2))

def impl_PairsApart_n3 (x2514 : Int) (x2494 : Int) (x2495 : Int) (x2496 : Int) (x2497 : Int) (x2498 : Int) (x2499 : Int) (x2500 : Int) (x2501 : Int) (x2502 : Int) (x2515 : Int) : Option ((Int × Int) ⊕ Int) :=
  cond (decide (x2515 < 9)) ((idx [x2494, x2495, x2496, x2497, x2498, x2499, x2500, x2501, x2502] x2515).bind fun (v2523 : Int) => (impl_pairsAmong v2523).bind fun (v2524 : Int) => some (Sum.inl ((IntKind.wrap .i64 (x2514 - v2524)), (IntKind.wrap .i64 (x2515 + 1))))) (some (Sum.inr x2514))

def impl_PairsApart_n4 (x2492 : Int) (x2494 : Int) (x2495 : Int) (x2496 : Int) (x2497 : Int) (x2498 : Int) (x2499 : Int) (x2500 : Int) (x2501 : Int) (x2502 : Int) : Option (Int) :=
  nloop (fun (s : Int × Int) => ((impl_PairsApart_n3 s.1 x2494 x2495 x2496 x2497 x2498 x2499 x2500 x2501 x2502 s.2).map (Sum.elim (fun (t : Int × Int) => Sum.inl (t.1, t.2)) (fun (t : Int) => Sum.inr t)) : Option ((Int × Int) ⊕ (Int)))) LL (x2492, 0)

def impl_PairsApart_n5 (x2492 : Int) (x2494 : Int) (x2495 : Int) (x2496 : Int) (x2497 : Int) (x2498 : Int) (x2499 : Int) (x2500 : Int) (x2501 : Int) (x2502 : Int) : Option (Int) :=
  (impl_PairsApart_n4 x2492 x2494 x2495 x2496 x2497 x2498 x2499 x2500 x2501 x2502).map (fun (t : Int) => t)

def impl_PairsApart_n6 (x2492 : Int) (x2483 : List (Int × Int × Unit)) : Option (Int) :=
  (impl_PairsApart_n2 x2483).bind (fun (t : Int × Int × Int × Int × Int × Int × Int × Int × Int) => impl_PairsApart_n5 x2492 t.1 t.2.1 t.2.2.1 t.2.2.2.1 t.2.2.2.2.1 t.2.2.2.2.2.1 t.2.2.2.2.2.2.1 t.2.2.2.2.2.2.2.1 t.2.2.2.2.2.2.2.2)

def impl_PairsApart_n7 (x2514 : Int) : Option (Int) :=
  some x2514

def impl_PairsApart_n8 (x2492 : Int) (x2483 : List (Int × Int × Unit)) : Option (Int) :=
  (impl_PairsApart_n6 x2492 x2483).bind (fun (t : Int) => impl_PairsApart_n7 t)

def impl_PairsApart_n9 (x2475 : List Int) : Option (Int) :=
  (impl_PairsApart_n1 x2475).bind (Sum.elim (fun (t : Int × (List (Int × Int × Unit))) => impl_PairsApart_n8 t.1 t.2) (fun e => some ((fun (t : Int) => t) e)))

@[irreducible] def impl_PairsApart (x2475 : List Int) : Option (Int) :=
  impl_PairsApart_n9 x2475

def spec_PairsApart_n1 (x2533 : List Int) : Option ((Int × (List Int)) ⊕ Int) :=
  (spec_TreeOk x2533).bind fun (v2544 : Bool) => cond (!v2544) (some (Sum.inr (-1))) ((quo .i64 (IntKind.wrap .i64 ((IntKind.wrap .i64 ((((List.length x2533 : Nat) : Int)) - 1)) * (IntKind.wrap .i64 ((((List.length x2533 : Nat) : Int)) - 2)))) 2).bind fun (v2551 : Int) => (spec_EndsOf x2533).bind fun (v2552 : List Int) => some (Sum.inl (v2551, v2552)))

def spec_PairsApart_n2 : Option (Unit) :=
  some ()

def spec_PairsApart_n3 (x2576 : Int) (x2577 : Int) (x2552 : List Int) : Option ((Int × Int) ⊕ Int) :=
  cond (decide (x2577 < (((List.length x2552 : Nat) : Int)))) ((inb x2577 (List.length x2552)).bind fun (v2592 : Nat) => (x2552[v2592]?).bind fun (v2593 : Int) => (inb x2577 (List.length x2552)).bind fun (v2594 : Nat) => (x2552[v2594]?).bind fun (v2595 : Int) => (quo .i64 (IntKind.wrap .i64 (v2593 * (IntKind.wrap .i64 (v2595 - 1)))) 2).bind fun (v2598 : Int) => some (Sum.inl ((IntKind.wrap .i64 (x2576 - v2598)), (IntKind.wrap .i64 (x2577 + 1))))) (some (Sum.inr x2576))

def spec_PairsApart_n4 (x2551 : Int) (x2552 : List Int) : Option (Int) :=
  nloop (fun (s : Int × Int) => ((spec_PairsApart_n3 s.1 s.2 x2552).map (Sum.elim (fun (t : Int × Int) => Sum.inl (t.1, t.2)) (fun (t : Int) => Sum.inr t)) : Option ((Int × Int) ⊕ (Int)))) LL (x2551, 0)

def spec_PairsApart_n5 (x2551 : Int) (x2552 : List Int) : Option (Int) :=
  (spec_PairsApart_n4 x2551 x2552).map (fun (t : Int) => t)

def spec_PairsApart_n6 (x2551 : Int) (x2552 : List Int) : Option (Int) :=
  (spec_PairsApart_n2).bind (fun (t : Unit) => spec_PairsApart_n5 x2551 x2552)

def spec_PairsApart_n7 (x2576 : Int) : Option (Int) :=
  some x2576

def spec_PairsApart_n8 (x2551 : Int) (x2552 : List Int) : Option (Int) :=
  (spec_PairsApart_n6 x2551 x2552).bind (fun (t : Int) => spec_PairsApart_n7 t)

def spec_PairsApart_n9 (x2533 : List Int) : Option (Int) :=
  (spec_PairsApart_n1 x2533).bind (Sum.elim (fun (t : Int × (List Int)) => spec_PairsApart_n8 t.1 t.2) (fun e => some ((fun (t : Int) => t) e)))

@[irreducible] def spec_PairsApart (x2533 : List Int) : Option (Int) :=
  spec_PairsApart_n9 x2533

def impl_arc_covers_n1 (x2663 : Int) (x2664 : Int) (x2665 : Int) : Option (Bool) :=
  cond (decide (x2663 < x2665)) (some (decide (x2665 < x2664))) (some false)

@[irreducible] def impl_arc_covers (x2663 : Int) (x2664 : Int) (x2665 : Int) : Option (Bool) :=
  impl_arc_covers_n1 x2663 x2664 x2665

def impl_arc_leavesOut_n1 (x2672 : Int) (x2673 : Int) (x2674 : Int) : Option (Bool) :=
  cond (decide (x2674 < x2672)) (some true) (some (decide (x2673 < x2674)))

@[irreducible] def impl_arc_leavesOut (x2672 : Int) (x2673 : Int) (x2674 : Int) : Option (Bool) :=
  impl_arc_leavesOut_n1 x2672 x2673 x2674

def impl_arc_crosses_n1 (x2659 : Int) (x2660 : Int) (x2661 : Int) (x2662 : Int) : Option (Bool) :=
  (impl_arc_covers x2659 x2660 x2661).bind fun (v2685 : Bool) => cond v2685 ((impl_arc_leavesOut x2659 x2660 x2662).bind fun (v2686 : Bool) => cond v2686 (some true) ((impl_arc_covers x2659 x2660 x2662).bind fun (v2687 : Bool) => cond v2687 ((impl_arc_leavesOut x2659 x2660 x2661).bind fun (v2688 : Bool) => some v2688) (some false))) ((impl_arc_covers x2659 x2660 x2662).bind fun (v2689 : Bool) => cond v2689 ((impl_arc_leavesOut x2659 x2660 x2661).bind fun (v2690 : Bool) => some v2690) (some false))

@[irreducible] def impl_arc_crosses (x2659 : Int) (x2660 : Int) (x2661 : Int) (x2662 : Int) : Option (Bool) :=
  impl_arc_crosses_n1 x2659 x2660 x2661 x2662

def impl_countPairs_impl_arc_n1 : Option (Unit) :=
  some ()

def impl_countPairs_impl_arc_n2 (x2632 : List (Int × Int × Unit)) : Option (Int) :=
  some (((List.length x2632 : Nat) : Int))

def impl_countPairs_impl_arc_n3 (x2731 : Int) (x2633 : Int) (x2732 : Int) : Option (Unit ⊕ Int) :=
  cond (decide (x2732 < x2633)) (some (Sum.inl ())) (some (Sum.inr x2731))

def impl_countPairs_impl_arc_n4 (x2632 : List (Int × Int × Unit)) (x2732 : Int) : Option (((List (Int × Int × Unit)) × Int × Int × Int)) :=
  (idx x2632 x2732).bind fun (v2740 : Int × Int × Unit) => (inc (IntKind.wrap .i64 (x2732 + 1)) (List.length x2632)).bind fun (v2747 : Nat) => some (((x2632.take (List.length x2632)).drop v2747), (((List.length ((x2632.take (List.length x2632)).drop v2747) : Nat) : Int)), (v2740.1), ((v2740.2).1))

def impl_countPairs_impl_arc_n5 (x2772 : Int) (x2748 : List (Int × Int × Unit)) (x2749 : Int) (x2773 : Int) (x2741 : Int) (x2743 : Int) : Option ((Int × Int) ⊕ Int) :=
  cond (decide (x2773 < x2749)) ((idx x2748 x2773).bind fun (v2785 : Int × Int × Unit) => (impl_arc_crosses x2741 x2743 (v2785.1) ((v2785.2).1)).bind fun (v2790 : Bool) => cond v2790 (some (Sum.inl ((IntKind.wrap .i64 (x2772 + 1)), (IntKind.wrap .i64 (x2773 + 1))))) (some (Sum.inl (x2772, (IntKind.wrap .i64 (x2773 + 1)))))) (some (Sum.inr x2772))

def impl_countPairs_impl_arc_n6 (x2731 : Int) (x2748 : List (Int × Int × Unit)) (x2749 : Int) (x2741 : Int) (x2743 : Int) : Option (Int) :=
  nloop (fun (s : Int × Int) => ((impl_countPairs_impl_arc_n5 s.1 x2748 x2749 s.2 x2741 x2743).map (Sum.elim (fun (t : Int × Int) => Sum.inl (t.1, t.2)) (fun (t : Int) => Sum.inr t)) : Option ((Int × Int) ⊕ (Int)))) LL (x2731, 0)

def impl_countPairs_impl_arc_n7 (x2731 : Int) (x2748 : List (Int × Int × Unit)) (x2749 : Int) (x2741 : Int) (x2743 : Int) : Option (Int) :=
  (impl_countPairs_impl_arc_n6 x2731 x2748 x2749 x2741 x2743).map (fun (t : Int) => t)

def impl_countPairs_impl_arc_n8 (x2632 : List (Int × Int × Unit)) (x2731 : Int) (x2732 : Int) : Option (Int) :=
  (impl_countPairs_impl_arc_n4 x2632 x2732).bind (fun (t : (List (Int × Int × Unit)) × Int × Int × Int) => impl_countPairs_impl_arc_n7 x2731 t.1 t.2.1 t.2.2.1 t.2.2.2)

def impl_countPairs_impl_arc_n9 (x2632 : List (Int × Int × Unit)) (x2731 : Int) (x2732 : Int) : Option (Int) :=
  (impl_countPairs_impl_arc_n8 x2632 x2731 x2732).map (fun (t : Int) => t)

def impl_countPairs_impl_arc_n10 (x2732 : Int) : Option (Int) :=
  some (IntKind.wrap .i64 (x2732 + 1))

def impl_countPairs_impl_arc_n11 (x2632 : List (Int × Int × Unit)) (x2731 : Int) (x2732 : Int) : Option ((Int × Int)) :=
  (impl_countPairs_impl_arc_n9 x2632 x2731 x2732).bind (fun (t : Int) => (impl_countPairs_impl_arc_n10 x2732).map (fun (u : Int) => (t, u)))

def impl_countPairs_impl_arc_n12 (x2632 : List (Int × Int × Unit)) (x2731 : Int) (x2633 : Int) (x2732 : Int) : Option ((Int × Int) ⊕ Int) :=
  (impl_countPairs_impl_arc_n3 x2731 x2633 x2732).bind (Sum.elim (fun (t : Unit) => (impl_countPairs_impl_arc_n11 x2632 x2731 x2732).map (fun (t : Int × Int) => (Sum.inl (t.1, t.2)))) (fun e => some ((fun (t : Int) => (Sum.inr t)) e)))

def impl_countPairs_impl_arc_n13 (x2632 : List (Int × Int × Unit)) (x2633 : Int) : Option (Int) :=
  nloop (fun (s : Int × Int) => ((impl_countPairs_impl_arc_n12 x2632 s.1 x2633 s.2).map (Sum.elim (fun (t : Int × Int) => Sum.inl (t.1, t.2)) (fun (t : Int) => Sum.inr t)) : Option ((Int × Int) ⊕ (Int)))) LL (0, 0)

def impl_countPairs_impl_arc_n14 (x2632 : List (Int × Int × Unit)) (x2633 : Int) : Option (Int) :=
  (impl_countPairs_impl_arc_n13 x2632 x2633).map (fun (t : Int) => t)

def impl_countPairs_impl_arc_n15 (x2632 : List (Int × Int × Unit)) : Option (Int) :=
  (impl_countPairs_impl_arc_n2 x2632).bind (fun (t : Int) => impl_countPairs_impl_arc_n14 x2632 t)

def impl_countPairs_impl_arc_n16 (x2731 : Int) : Option (Int) :=
  some x2731

def impl_countPairs_impl_arc_n17 (x2632 : List (Int × Int × Unit)) : Option (Int) :=
  (impl_countPairs_impl_arc_n15 x2632).bind (fun (t : Int) => impl_countPairs_impl_arc_n16 t)

def impl_countPairs_impl_arc_n18 (x2632 : List (Int × Int × Unit)) : Option (Int) :=
  (impl_countPairs_impl_arc_n1).bind (fun (t : Unit) => impl_countPairs_impl_arc_n17 x2632)

@[irreducible] def impl_countPairs_impl_arc (x2632 : List (Int × Int × Unit)) : Option (Int) :=
  impl_countPairs_impl_arc_n18 x2632

def impl_CrossingsOf_n1 (x2626 : List Int) : Option (Int) :=
  (impl_TreeOk x2626).bind fun (v2798 : Bool) => cond (!v2798) (some (-1)) ((impl_arcsOf x2626).bind fun (v2800 : List (Int × Int × Unit)) => (impl_countPairs_impl_arc v2800).bind fun (v2801 : Int) => some v2801)

@[irreducible] def impl_CrossingsOf (x2626 : List Int) : Option (Int) :=
  impl_CrossingsOf_n1 x2626

def spec_DrawCrossingsSum_n1 (x2875 : List Int) : Option (((List Int))) :=
  (spec_l20Open x2875).bind fun (v2880 : List Int) => (spec_l20Wild 9 v2880 0).bind fun (v2881 : Int × (List Int)) => some (v2881.2)

@[irreducible] def spec_DrawCrossingsSum (x2875 : List Int) : Option ((List Int)) :=
  spec_DrawCrossingsSum_n1 x2875

def impl_countOrders_n1 : Option (Unit) :=
  some ()

def impl_countOrders_n2 : Option (Unit) :=
  some ()

def impl_countOrders_n3 (x2894 : Int) (x2901 : Int) (x2902 : Int) : Option ((Int × Int) ⊕ Int) :=
  cond (decide (x2902 ≤ x2894)) (some (Sum.inl ((IntKind.wrap .i64 (x2901 * x2902)), (IntKind.wrap .i64 (x2902 + 1))))) (some (Sum.inr x2901))

def impl_countOrders_n4 (x2894 : Int) : Option (Int) :=
  nloop (fun (s : Int × Int) => ((impl_countOrders_n3 x2894 s.1 s.2).map (Sum.elim (fun (t : Int × Int) => Sum.inl (t.1, t.2)) (fun (t : Int) => Sum.inr t)) : Option ((Int × Int) ⊕ (Int)))) LL (1, 2)

def impl_countOrders_n5 (x2894 : Int) : Option (Int) :=
  (impl_countOrders_n4 x2894).map (fun (t : Int) => t)

def impl_countOrders_n6 (x2894 : Int) : Option (Int) :=
  (impl_countOrders_n2).bind (fun (t : Unit) => impl_countOrders_n5 x2894)

def impl_countOrders_n7 (x2901 : Int) : Option (Int) :=
  some x2901

def impl_countOrders_n8 (x2894 : Int) : Option (Int) :=
  (impl_countOrders_n6 x2894).bind (fun (t : Int) => impl_countOrders_n7 t)

def impl_countOrders_n9 (x2894 : Int) : Option (Int) :=
  (impl_countOrders_n1).bind (fun (t : Unit) => impl_countOrders_n8 x2894)

@[irreducible] def impl_countOrders (x2894 : Int) : Option (Int) :=
  impl_countOrders_n9 x2894

def impl_CrossingsSum_n1 (x2888 : List Int) : Option (Int) :=
  (impl_TreeOk x2888).bind fun (v2913 : Bool) => cond (!v2913) (some (-1)) ((impl_countOrders (((List.length x2888 : Nat) : Int))).bind fun (v2916 : Int) => (impl_PairsApart x2888).bind fun (v2917 : Int) => (quo .i64 (IntKind.wrap .i64 (v2916 * v2917)) 3).bind fun (v2919 : Int) => some v2919)

@[irreducible] def impl_CrossingsSum (x2888 : List Int) : Option (Int) :=
  impl_CrossingsSum_n1 x2888

def spec_CrossingsSum_n1 (x2926 : List Int) : Option (Unit ⊕ Int) :=
  (spec_TreeOk x2926).bind fun (v2929 : Bool) => cond (!v2929) (some (Sum.inr (-1))) (some (Sum.inl ()))

def spec_CrossingsSum_n2 : Option (Unit) :=
  some ()

def spec_CrossingsSum_n3 (x2926 : List Int) (x2940 : Int) (x2941 : Int) : Option ((Int × Int) ⊕ Int) :=
  cond (decide (x2941 ≤ (((List.length x2926 : Nat) : Int)))) (some (Sum.inl ((IntKind.wrap .i64 (x2940 * x2941)), (IntKind.wrap .i64 (x2941 + 1))))) (some (Sum.inr x2940))

def spec_CrossingsSum_n4 (x2926 : List Int) : Option (Int) :=
  nloop (fun (s : Int × Int) => ((spec_CrossingsSum_n3 x2926 s.1 s.2).map (Sum.elim (fun (t : Int × Int) => Sum.inl (t.1, t.2)) (fun (t : Int) => Sum.inr t)) : Option ((Int × Int) ⊕ (Int)))) LL (1, 2)

def spec_CrossingsSum_n5 (x2926 : List Int) : Option (Int) :=
  (spec_CrossingsSum_n4 x2926).map (fun (t : Int) => t)

def spec_CrossingsSum_n6 (x2926 : List Int) : Option (Int) :=
  (spec_CrossingsSum_n2).bind (fun (t : Unit) => spec_CrossingsSum_n5 x2926)

def spec_CrossingsSum_n7 (x2926 : List Int) (x2940 : Int) : Option (Int) :=
  (spec_PairsApart x2926).bind fun (v2954 : Int) => (quo .i64 (IntKind.wrap .i64 (x2940 * v2954)) 3).bind fun (v2956 : Int) => some v2956

def spec_CrossingsSum_n8 (x2926 : List Int) : Option (Int) :=
  (spec_CrossingsSum_n6 x2926).bind (fun (t : Int) => spec_CrossingsSum_n7 x2926 t)

def spec_CrossingsSum_n9 (x2926 : List Int) : Option (Int) :=
  (spec_CrossingsSum_n1 x2926).bind (Sum.elim (fun (t : Unit) => spec_CrossingsSum_n8 x2926) (fun e => some ((fun (t : Int) => t) e)))

@[irreducible] def spec_CrossingsSum (x2926 : List Int) : Option (Int) :=
  spec_CrossingsSum_n9 x2926

def laws_FnCrossingsSum_n1 (x2870 : List Int) : Option ((Int × Int × (List Int)) ⊕ Bool) :=
  cond (decide ((((List.length x2870 : Nat) : Int)) > 1048576)) (some (Sum.inr true)) ((spec_DrawCrossingsSum x2870).bind fun (v3003 : List Int) => (impl_CrossingsSum v3003).bind fun (v3004 : Int) => (spec_CrossingsSum v3003).bind fun (v3005 : Int) => cond (v3004 != v3005) (some (Sum.inr false)) (cond (decide (v3004 < 0)) (cond (v3004 == (-1)) ((impl_TreeOk v3003).bind fun (v3009 : Bool) => cond (!v3009) ((laws_alive).bind fun (v3011 : Bool) => some (Sum.inr v3011)) (some (Sum.inr false))) (some (Sum.inr false))) (cond (decide ((((List.length v3003 : Nat) : Int)) > 5)) (cond (decide (v3004 ≥ 0)) ((impl_BackOf v3003).bind fun (v3015 : List Int) => (impl_CrossingsSum v3015).bind fun (v3016 : Int) => some (Sum.inr (v3016 == v3004))) (some (Sum.inr false))) (some (Sum.inl (v3004, (((List.length v3003 : Nat) : Int)), v3003))))))

def laws_FnCrossingsSum_n2 : Option (Unit) :=
  some ()

def laws_FnCrossingsSum_n3 (x3012 : Int) (x3024 : Int) (x3025 : Int) : Option ((Int × Int) ⊕ Int) :=
  cond (decide (x3025 ≤ x3012)) (some (Sum.inl ((IntKind.wrap .i64 (x3024 * x3025)), (IntKind.wrap .i64 (x3025 + 1))))) (some (Sum.inr x3024))

def laws_FnCrossingsSum_n4 (x3012 : Int) : Option (Int) :=
  nloop (fun (s : Int × Int) => ((laws_FnCrossingsSum_n3 x3012 s.1 s.2).map (Sum.elim (fun (t : Int × Int) => Sum.inl (t.1, t.2)) (fun (t : Int) => Sum.inr t)) : Option ((Int × Int) ⊕ (Int)))) LL (1, 2)

def laws_FnCrossingsSum_n5 (x3012 : Int) : Option (Int) :=
  (laws_FnCrossingsSum_n4 x3012).map (fun (t : Int) => t)

def laws_FnCrossingsSum_n6 (x3012 : Int) : Option (Int) :=
  (laws_FnCrossingsSum_n2).bind (fun (t : Unit) => laws_FnCrossingsSum_n5 x3012)

def laws_FnCrossingsSum_n7 : Option (Unit) :=
  some ()

def laws_FnCrossingsSum_n8 : Option (Unit) :=
  some ()

def laws_FnCrossingsSum_n9 (x3024 : Int) (x3142 : Int) (x3143 : Int) : Option (Unit ⊕ Int) :=
  cond (decide (x3143 < x3024)) (some (Sum.inl ())) (some (Sum.inr x3142))

def laws_FnCrossingsSum_n10 : Option (Unit) :=
  some ()

def laws_FnCrossingsSum_n11 : Option (Unit) :=
  some ()

def laws_FnCrossingsSum_n12 (x3012 : Int) (x3189 : Int) (x3190 : Int) (x3191 : List Int) : Option ((Int × Int × (List Int)) ⊕ ((List Int))) :=
  cond (decide (x3190 ≤ x3012)) ((rem x3189 x3190).bind fun (v3215 : Int) => (quo .i64 x3189 x3190).bind fun (v3216 : Int) => (inc v3215 (List.length x3191)).bind fun (v3218 : Nat) => (room ((List.length ([] : List Int)) + List.length ((x3191.drop 0).take (v3218 - 0)))).bind fun (v3222 : Unit) => (room ((List.length (([] : List Int) ++ ((x3191.drop 0).take (v3218 - 0)))) + List.length ([x3190]))).bind fun (v3226 : Unit) => (inc v3215 (List.length x3191)).bind fun (v3229 : Nat) => (room ((List.length ((([] : List Int) ++ ((x3191.drop 0).take (v3218 - 0))) ++ ([x3190]))) + List.length ((x3191.drop v3229).take ((List.length x3191) - v3229)))).bind fun (v3233 : Unit) => some (Sum.inl (v3216, (IntKind.wrap .i64 (x3190 + 1)), (((([] : List Int) ++ ((x3191.drop 0).take (v3218 - 0))) ++ ([x3190])) ++ ((x3191.drop v3229).take ((List.length x3191) - v3229)))))) (some (Sum.inr x3191))

def laws_FnCrossingsSum_n13 (x3012 : Int) (x3143 : Int) : Option (((List Int))) :=
  nloop (fun (s : Int × Int × (List Int)) => ((laws_FnCrossingsSum_n12 x3012 s.1 s.2.1 s.2.2).map (Sum.elim (fun (t : Int × Int × (List Int)) => Sum.inl (t.1, t.2.1, t.2.2)) (fun (t : (List Int)) => Sum.inr t)) : Option ((Int × Int × (List Int)) ⊕ (((List Int)))))) LL (x3143, 1, ([] : List Int))

def laws_FnCrossingsSum_n14 (x3012 : Int) (x3143 : Int) : Option (((List Int))) :=
  (laws_FnCrossingsSum_n13 x3012 x3143).map (fun (t : (List Int)) => t)

def laws_FnCrossingsSum_n15 (x3012 : Int) (x3143 : Int) : Option (((List Int))) :=
  (laws_FnCrossingsSum_n11).bind (fun (t : Unit) => laws_FnCrossingsSum_n14 x3012 x3143)

def laws_FnCrossingsSum_n16 (x3004 : Int) (x3142 : Int) (x3003 : List Int) (x3191 : List Int) : Option (Int ⊕ Bool) :=
  (impl_PutInOrder x3003 x3191).bind fun (v3245 : Bool × (List Int)) => cond (!(v3245.1)) (some (Sum.inr false)) ((impl_CrossingsSum (v3245.2)).bind fun (v3249 : Int) => cond (v3249 != x3004) (some (Sum.inr false)) ((impl_CrossingsOf (v3245.2)).bind fun (v3251 : Int) => some (Sum.inl (IntKind.wrap .i64 (x3142 + v3251)))))

def laws_FnCrossingsSum_n17 (x3004 : Int) (x3012 : Int) (x3142 : Int) (x3143 : Int) (x3003 : List Int) : Option (Int ⊕ Bool) :=
  (laws_FnCrossingsSum_n15 x3012 x3143).bind (fun (t : (List Int)) => laws_FnCrossingsSum_n16 x3004 x3142 x3003 t)

def laws_FnCrossingsSum_n18 (x3004 : Int) (x3012 : Int) (x3142 : Int) (x3143 : Int) (x3003 : List Int) : Option (Int ⊕ Bool) :=
  (laws_FnCrossingsSum_n10).bind (fun (t : Unit) => laws_FnCrossingsSum_n17 x3004 x3012 x3142 x3143 x3003)

def laws_FnCrossingsSum_n19 (x3004 : Int) (x3012 : Int) (x3142 : Int) (x3143 : Int) (x3003 : List Int) : Option (Int ⊕ Bool) :=
  (laws_FnCrossingsSum_n18 x3004 x3012 x3142 x3143 x3003).map (Sum.elim (fun (t : Int) => (Sum.inl t)) (fun (t : Bool) => (Sum.inr t)))

def laws_FnCrossingsSum_n20 (x3143 : Int) : Option (Int) :=
  some (IntKind.wrap .i64 (x3143 + 1))

def laws_FnCrossingsSum_n21 (x3004 : Int) (x3012 : Int) (x3142 : Int) (x3143 : Int) (x3003 : List Int) : Option ((Int × Int) ⊕ Bool) :=
  (laws_FnCrossingsSum_n19 x3004 x3012 x3142 x3143 x3003).bind (Sum.elim (fun (t : Int) => (laws_FnCrossingsSum_n20 x3143).map (fun (u : Int) => (Sum.inl (t, u)))) (fun e => some ((fun (t : Bool) => (Sum.inr t)) e)))

def laws_FnCrossingsSum_n22 (x3004 : Int) (x3012 : Int) (x3024 : Int) (x3142 : Int) (x3143 : Int) (x3003 : List Int) : Option ((Int × Int) ⊕ Bool ⊕ Int) :=
  (laws_FnCrossingsSum_n9 x3024 x3142 x3143).bind (Sum.elim (fun (t : Unit) => (laws_FnCrossingsSum_n21 x3004 x3012 x3142 x3143 x3003).map (Sum.elim (fun (t : Int × Int) => (Sum.inl (t.1, t.2))) (fun (t : Bool) => (Sum.inr (Sum.inl t))))) (fun e => some ((fun (t : Int) => (Sum.inr (Sum.inr t))) e)))

def laws_FnCrossingsSum_n23 (x3004 : Int) (x3012 : Int) (x3024 : Int) (x3003 : List Int) : Option (Bool ⊕ Int) :=
  nloop (fun (s : Int × Int) => ((laws_FnCrossingsSum_n22 x3004 x3012 x3024 s.1 s.2 x3003).map (Sum.elim (fun (t : Int × Int) => Sum.inl (t.1, t.2)) (Sum.elim (fun (t : Bool) => Sum.inr (Sum.inl t)) (fun (t : Int) => Sum.inr (Sum.inr t)))) : Option ((Int × Int) ⊕ (Bool ⊕ Int)))) LL (0, 0)

def laws_FnCrossingsSum_n24 (x3004 : Int) (x3012 : Int) (x3024 : Int) (x3003 : List Int) : Option (Int ⊕ Bool) :=
  (laws_FnCrossingsSum_n23 x3004 x3012 x3024 x3003).map (Sum.elim (fun (t : Bool) => (Sum.inr t)) (fun (t : Int) => (Sum.inl t)))

def laws_FnCrossingsSum_n25 (x3004 : Int) (x3012 : Int) (x3024 : Int) (x3003 : List Int) : Option (Int ⊕ Bool) :=
  (laws_FnCrossingsSum_n8).bind (fun (t : Unit) => laws_FnCrossingsSum_n24 x3004 x3012 x3024 x3003)

def laws_FnCrossingsSum_n26 (x3004 : Int) (x3142 : Int) : Option (Bool) :=
  some (x3142 == x3004)

def laws_FnCrossingsSum_n27 (x3004 : Int) (x3012 : Int) (x3024 : Int) (x3003 : List Int) : Option (Bool) :=
  (laws_FnCrossingsSum_n25 x3004 x3012 x3024 x3003).bind (Sum.elim (fun (t : Int) => laws_FnCrossingsSum_n26 x3004 t) (fun e => some ((fun (t : Bool) => t) e)))

def laws_FnCrossingsSum_n28 (x3004 : Int) (x3012 : Int) (x3024 : Int) (x3003 : List Int) : Option (Bool) :=
  (laws_FnCrossingsSum_n7).bind (fun (t : Unit) => laws_FnCrossingsSum_n27 x3004 x3012 x3024 x3003)

def laws_FnCrossingsSum_n29 (x3004 : Int) (x3012 : Int) (x3003 : List Int) : Option (Bool) :=
  (laws_FnCrossingsSum_n6 x3012).bind (fun (t : Int) => laws_FnCrossingsSum_n28 x3004 x3012 t x3003)

def laws_FnCrossingsSum_n30 (x2870 : List Int) : Option (Bool) :=
  (laws_FnCrossingsSum_n1 x2870).bind (Sum.elim (fun (t : Int × Int × (List Int)) => laws_FnCrossingsSum_n29 t.1 t.2.1 t.2.2) (fun e => some ((fun (t : Bool) => t) e)))

@[irreducible] def laws_FnCrossingsSum (x2870 : List Int) : Option (Bool) :=
  laws_FnCrossingsSum_n30 x2870

end Go.Rv
