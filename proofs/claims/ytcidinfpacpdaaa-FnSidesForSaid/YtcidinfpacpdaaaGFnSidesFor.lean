/-
  Plain functions, written by program for functions of the checked code. Conditions: none.
-/
import Derived.Test.YtcidinfpacpdaaaFB
set_option linter.unusedVariables false
namespace Go.Rv
def spec_l20Open_n1 (x12 : List Int) : Option (((List Int))) :=
  cond (decide ((((List.length x12 : Nat) : Int)) > 2000)) ((inc 2000 (List.length x12)).bind fun (v29 : Nat) => some ((x12.take v29).drop 0)) (some x12)

@[irreducible] def spec_l20Open (x12 : List Int) : Option ((List Int)) :=
  spec_l20Open_n1 x12

def spec_l20Rd_pick_n1 (x41 : Int) (x42 : List Int) (x43 : Int) : Option ((Int × Int)) :=
  cond (decide (x41 < 1)) (some (0, (IntKind.wrap .i64 (x43 + 1)))) (cond ((((List.length x42 : Nat) : Int)) == 0) (some (0, (IntKind.wrap .i64 (x43 + 1)))) (cond (decide ((IntKind.wrap .i64 ((IntKind.wrap .i64 (x43 + 1)) - 1)) < (((List.length x42 : Nat) : Int)))) ((idx x42 (IntKind.wrap .i64 ((IntKind.wrap .i64 (x43 + 1)) - 1))).bind fun (v170 : Int) => (rem (IntKind.wrap .i64 v170) x41).bind fun (v172 : Int) => some (v172, (IntKind.wrap .i64 (x43 + 1)))) ((rem (IntKind.wrap .i64 ((IntKind.wrap .i64 (x43 + 1)) - 1)) (((List.length x42 : Nat) : Int))).bind fun (v174 : Int) => (idx x42 v174).bind fun (v175 : Int) => (rem (IntKind.wrap .i64 ((IntKind.wrap .i64 ((IntKind.wrap .i64 ((IntKind.wrap .i64 (x43 + 1)) - 1)) * 7)) + 3)) (((List.length x42 : Nat) : Int))).bind fun (v181 : Int) => (idx x42 v181).bind fun (v182 : Int) => (quo .i64 (IntKind.wrap .i64 ((IntKind.wrap .i64 (x43 + 1)) - 1)) (((List.length x42 : Nat) : Int))).bind fun (v189 : Int) => (quo .i64 (IntKind.wrap .i64 ((IntKind.wrap .i64 ((IntKind.wrap .i64 ((IntKind.wrap .i64 ((IntKind.wrap .i64 v175) * 131)) + (IntKind.wrap .i64 ((IntKind.wrap .i64 v182) * 1117)))) + (IntKind.wrap .i64 ((IntKind.wrap .i64 ((IntKind.wrap .i64 (x43 + 1)) - 1)) * 29)))) + (IntKind.wrap .i64 (v189 * 53)))) 64).bind fun (v192 : Int) => (rem (ixor .i64 (IntKind.wrap .i64 ((IntKind.wrap .i64 ((IntKind.wrap .i64 ((IntKind.wrap .i64 ((IntKind.wrap .i64 v175) * 131)) + (IntKind.wrap .i64 ((IntKind.wrap .i64 v182) * 1117)))) + (IntKind.wrap .i64 ((IntKind.wrap .i64 ((IntKind.wrap .i64 (x43 + 1)) - 1)) * 29)))) + (IntKind.wrap .i64 (v189 * 53)))) v192) x41).bind fun (v194 : Int) => some (v194, (IntKind.wrap .i64 (x43 + 1))))))

@[irreducible] def spec_l20Rd_pick (x41 : Int) (x42 : List Int) (x43 : Int) : Option (Int × Int) :=
  spec_l20Rd_pick_n1 x41 x42 x43

def spec_l20Order_n1 (x205 : List Int) (x206 : Int) : Option ((Int × Int)) :=
  (spec_l20Rd_pick 2 x205 x206).bind fun (v208 : Int × Int) => some ((v208.1), (v208.2))

def spec_l20Order_n2 : Option (Unit) :=
  some ()

def spec_l20Order_n3 (x204 : Int) (x209 : Int) (x352 : Int) (x205 : List Int) (x353 : Int) (x354 : List Int) : Option ((Int × Int × (List Int)) ⊕ (Int × (List Int))) :=
  cond (decide (x352 ≤ x204)) (cond (x209 == 0) ((spec_l20Rd_pick x352 x205 x353).bind fun (v426 : Int × Int) => (inc (v426.1) (List.length x354)).bind fun (v430 : Nat) => (room ((List.length ([] : List Int)) + List.length ((x354.drop 0).take (v430 - 0)))).bind fun (v434 : Unit) => (room ((List.length (([] : List Int) ++ ((x354.drop 0).take (v430 - 0)))) + List.length ([x352]))).bind fun (v438 : Unit) => (inc (v426.1) (List.length x354)).bind fun (v441 : Nat) => (room ((List.length ((([] : List Int) ++ ((x354.drop 0).take (v430 - 0))) ++ ([x352]))) + List.length ((x354.drop v441).take ((List.length x354) - v441)))).bind fun (v445 : Unit) => some (Sum.inl ((IntKind.wrap .i64 (x352 + 1)), (v426.2), (((([] : List Int) ++ ((x354.drop 0).take (v430 - 0))) ++ ([x352])) ++ ((x354.drop v441).take ((List.length x354) - v441)))))) ((spec_l20Rd_pick 3 x205 x353).bind fun (v448 : Int × Int) => cond ((v448.1) == 0) ((spec_l20Rd_pick x352 x205 (v448.2)).bind fun (v452 : Int × Int) => (inc (v452.1) (List.length x354)).bind fun (v456 : Nat) => (room ((List.length ([] : List Int)) + List.length ((x354.drop 0).take (v456 - 0)))).bind fun (v460 : Unit) => (room ((List.length (([] : List Int) ++ ((x354.drop 0).take (v456 - 0)))) + List.length ([x352]))).bind fun (v464 : Unit) => (inc (v452.1) (List.length x354)).bind fun (v467 : Nat) => (room ((List.length ((([] : List Int) ++ ((x354.drop 0).take (v456 - 0))) ++ ([x352]))) + List.length ((x354.drop v467).take ((List.length x354) - v467)))).bind fun (v471 : Unit) => some (Sum.inl ((IntKind.wrap .i64 (x352 + 1)), (v452.2), (((([] : List Int) ++ ((x354.drop 0).take (v456 - 0))) ++ ([x352])) ++ ((x354.drop v467).take ((List.length x354) - v467)))))) ((inc (((List.length x354 : Nat) : Int)) (List.length x354)).bind fun (v475 : Nat) => (room ((List.length ([] : List Int)) + List.length ((x354.drop 0).take (v475 - 0)))).bind fun (v479 : Unit) => (room ((List.length (([] : List Int) ++ ((x354.drop 0).take (v475 - 0)))) + List.length ([x352]))).bind fun (v483 : Unit) => (inc (((List.length x354 : Nat) : Int)) (List.length x354)).bind fun (v486 : Nat) => (room ((List.length ((([] : List Int) ++ ((x354.drop 0).take (v475 - 0))) ++ ([x352]))) + List.length ((x354.drop v486).take ((List.length x354) - v486)))).bind fun (v490 : Unit) => some (Sum.inl ((IntKind.wrap .i64 (x352 + 1)), (v448.2), (((([] : List Int) ++ ((x354.drop 0).take (v475 - 0))) ++ ([x352])) ++ ((x354.drop v486).take ((List.length x354) - v486)))))))) (some (Sum.inr (x353, x354)))

def spec_l20Order_n4 (x204 : Int) (x209 : Int) (x205 : List Int) (x210 : Int) : Option ((Int × (List Int))) :=
  nloop (fun (s : Int × Int × (List Int)) => ((spec_l20Order_n3 x204 x209 s.1 x205 s.2.1 s.2.2).map (Sum.elim (fun (t : Int × Int × (List Int)) => Sum.inl (t.1, t.2.1, t.2.2)) (fun (t : Int × (List Int)) => Sum.inr t)) : Option ((Int × Int × (List Int)) ⊕ ((Int × (List Int)))))) LL (1, x210, ([] : List Int))

def spec_l20Order_n5 (x204 : Int) (x209 : Int) (x205 : List Int) (x210 : Int) : Option ((Int × (List Int))) :=
  (spec_l20Order_n4 x204 x209 x205 x210).map (fun (t : Int × (List Int)) => (t.1, t.2))

def spec_l20Order_n6 (x204 : Int) (x209 : Int) (x205 : List Int) (x210 : Int) : Option ((Int × (List Int))) :=
  (spec_l20Order_n2).bind (fun (t : Unit) => spec_l20Order_n5 x204 x209 x205 x210)

def spec_l20Order_n7 (x353 : Int) (x354 : List Int) : Option ((Int × (List Int))) :=
  some (x353, x354)

def spec_l20Order_n8 (x204 : Int) (x209 : Int) (x205 : List Int) (x210 : Int) : Option ((Int × (List Int))) :=
  (spec_l20Order_n6 x204 x209 x205 x210).bind (fun (t : Int × (List Int)) => spec_l20Order_n7 t.1 t.2)

def spec_l20Order_n9 (x204 : Int) (x205 : List Int) (x206 : Int) : Option ((Int × (List Int))) :=
  (spec_l20Order_n1 x205 x206).bind (fun (t : Int × Int) => spec_l20Order_n8 x204 t.1 x205 t.2)

@[irreducible] def spec_l20Order (x204 : Int) (x205 : List Int) (x206 : Int) : Option (Int × (List Int)) :=
  spec_l20Order_n9 x204 x205 x206

def spec_l20Rd_odd_n1 (x661 : Int) (x662 : List Int) (x663 : Int) : Option ((Bool × Int)) :=
  cond (decide (x661 > 0)) ((spec_l20Rd_pick x661 x662 x663).bind fun (v671 : Int × Int) => some (((v671.1) == (IntKind.wrap .i64 (x661 - 1))), (v671.2))) (some (false, x663))

@[irreducible] def spec_l20Rd_odd (x661 : Int) (x662 : List Int) (x663 : Int) : Option (Bool × Int) :=
  spec_l20Rd_odd_n1 x661 x662 x663

def spec_l20Tree_n1 (x38 : List Int) (x39 : Int) : Option ((Int × Int × Int × (List Int) × (List Int))) :=
  (spec_l20Rd_pick 7 x38 x39).bind fun (v508 : Int × Int) => (spec_l20Order (IntKind.wrap .i64 (1 + (v508.1))) x38 (v508.2)).bind fun (v512 : Int × (List Int)) => (mk (IntKind.wrap .i64 (1 + (v508.1))) (IntKind.wrap .i64 (1 + (v508.1)))).bind fun (v515 : Nat) => (spec_l20Rd_pick 2 x38 (v512.1)).bind fun (v517 : Int × Int) => some ((IntKind.wrap .i64 (1 + (v508.1))), (v517.1), (v517.2), (v512.2), (List.replicate v515 (0 : Int)))

def spec_l20Tree_n2 : Option (Unit) :=
  some ()

def spec_l20Tree_n3 (x511 : Int) (x518 : Int) (x589 : Int) (x38 : List Int) (x590 : Int) (x514 : List Int) (x591 : List Int) : Option ((Int × Int × (List Int)) ⊕ (Int × (List Int))) :=
  cond (decide (x589 < x511)) ((spec_l20Rd_pick x589 x38 x590).bind fun (v625 : Int × Int) => cond (x518 == 1) ((spec_l20Rd_pick 2 x38 (v625.2)).bind fun (v629 : Int × Int) => cond ((v629.1) == 0) ((inb x589 (List.length x514)).bind fun (v634 : Nat) => (x514[v634]?).bind fun (v635 : Int) => (inb (IntKind.wrap .i64 (x589 - 1)) (List.length x514)).bind fun (v637 : Nat) => (x514[v637]?).bind fun (v638 : Int) => (inb (IntKind.wrap .i64 (v635 - 1)) (List.length x591)).bind fun (v639 : Nat) => some (Sum.inl ((IntKind.wrap .i64 (x589 + 1)), (v629.2), (x591.set v639 v638)))) ((inb x589 (List.length x514)).bind fun (v642 : Nat) => (x514[v642]?).bind fun (v643 : Int) => (inb (v625.1) (List.length x514)).bind fun (v645 : Nat) => (x514[v645]?).bind fun (v646 : Int) => (inb (IntKind.wrap .i64 (v643 - 1)) (List.length x591)).bind fun (v647 : Nat) => some (Sum.inl ((IntKind.wrap .i64 (x589 + 1)), (v629.2), (x591.set v647 v646))))) ((inb x589 (List.length x514)).bind fun (v650 : Nat) => (x514[v650]?).bind fun (v651 : Int) => (inb (v625.1) (List.length x514)).bind fun (v653 : Nat) => (x514[v653]?).bind fun (v654 : Int) => (inb (IntKind.wrap .i64 (v651 - 1)) (List.length x591)).bind fun (v655 : Nat) => some (Sum.inl ((IntKind.wrap .i64 (x589 + 1)), (v625.2), (x591.set v655 v654))))) (some (Sum.inr (x590, x591)))

def spec_l20Tree_n4 (x511 : Int) (x518 : Int) (x38 : List Int) (x519 : Int) (x514 : List Int) (x516 : List Int) : Option ((Int × (List Int))) :=
  nloop (fun (s : Int × Int × (List Int)) => ((spec_l20Tree_n3 x511 x518 s.1 x38 s.2.1 x514 s.2.2).map (Sum.elim (fun (t : Int × Int × (List Int)) => Sum.inl (t.1, t.2.1, t.2.2)) (fun (t : Int × (List Int)) => Sum.inr t)) : Option ((Int × Int × (List Int)) ⊕ ((Int × (List Int)))))) LL (1, x519, x516)

def spec_l20Tree_n5 (x511 : Int) (x518 : Int) (x38 : List Int) (x519 : Int) (x514 : List Int) (x516 : List Int) : Option ((Int × (List Int))) :=
  (spec_l20Tree_n4 x511 x518 x38 x519 x514 x516).map (fun (t : Int × (List Int)) => (t.1, t.2))

def spec_l20Tree_n6 (x511 : Int) (x518 : Int) (x38 : List Int) (x519 : Int) (x514 : List Int) (x516 : List Int) : Option ((Int × (List Int))) :=
  (spec_l20Tree_n2).bind (fun (t : Unit) => spec_l20Tree_n5 x511 x518 x38 x519 x514 x516)

def spec_l20Tree_n7 (x37 : Int) (x511 : Int) (x38 : List Int) (x590 : Int) (x591 : List Int) : Option ((Int × (List Int))) :=
  (spec_l20Rd_odd x37 x38 x590).bind fun (v736 : Bool × Int) => cond (v736.1) ((spec_l20Rd_pick 4 x38 (v736.2)).bind fun (v739 : Int × Int) => cond ((v739.1) == 0) (some ((v739.2), ([] : List Int))) (cond ((v739.1) == 1) (some ((v739.2), ([2, 1, 0]))) (cond ((v739.1) == 2) ((spec_l20Rd_pick x511 x38 (v739.2)).bind fun (v746 : Int × Int) => (inb (v746.1) (List.length x591)).bind fun (v749 : Nat) => (room ((List.length (x591.set v749 0)) + List.length ([0]))).bind fun (v753 : Unit) => some ((v746.2), ((x591.set v749 0) ++ ([0])))) ((spec_l20Rd_pick 3 x38 (v739.2)).bind fun (v757 : Int × Int) => (inb (v757.1) (List.length ([1, (IntKind.wrap .i64 (x511 + 1)), (-1)]))).bind fun (v760 : Nat) => (([1, (IntKind.wrap .i64 (x511 + 1)), (-1)])[v760]?).bind fun (v761 : Int) => (inb 0 (List.length x591)).bind fun (v762 : Nat) => some ((v757.2), (x591.set v762 v761)))))) (some ((v736.2), x591))

def spec_l20Tree_n8 (x37 : Int) (x511 : Int) (x518 : Int) (x38 : List Int) (x519 : Int) (x514 : List Int) (x516 : List Int) : Option ((Int × (List Int))) :=
  (spec_l20Tree_n6 x511 x518 x38 x519 x514 x516).bind (fun (t : Int × (List Int)) => spec_l20Tree_n7 x37 x511 x38 t.1 t.2)

def spec_l20Tree_n9 (x37 : Int) (x38 : List Int) (x39 : Int) : Option ((Int × (List Int))) :=
  (spec_l20Tree_n1 x38 x39).bind (fun (t : Int × Int × Int × (List Int) × (List Int)) => spec_l20Tree_n8 x37 t.1 t.2.1 x38 t.2.2.1 t.2.2.2.1 t.2.2.2.2)

@[irreducible] def spec_l20Tree (x37 : Int) (x38 : List Int) (x39 : Int) : Option (Int × (List Int)) :=
  spec_l20Tree_n9 x37 x38 x39

def spec_l1In_n1 (x780 : Int) (x781 : Int) (x782 : Int) : Option (Bool) :=
  cond (decide (x780 ≥ x781)) (some (decide (x780 ≤ x782))) (some false)

@[irreducible] def spec_l1In (x780 : Int) (x781 : Int) (x782 : Int) : Option (Bool) :=
  spec_l1In_n1 x780 x781 x782

def spec_TreeOk_n1 (x776 : List Int) : Option (Int ⊕ Bool) :=
  (spec_l1In (((List.length x776 : Nat) : Int)) 1 8).bind fun (v791 : Bool) => cond (!v791) (some (Sum.inr false)) (some (Sum.inl (((List.length x776 : Nat) : Int))))

def spec_TreeOk_n2 : Option (Unit) :=
  some ()

def spec_TreeOk_n3 (x790 : Int) (x857 : Int) (x858 : Int) : Option (Unit ⊕ Int) :=
  cond (decide (x858 < x790)) (some (Sum.inl ())) (some (Sum.inr x857))

def spec_TreeOk_n4 (x776 : List Int) (x790 : Int) (x857 : Int) (x858 : Int) : Option ((Int × Int) ⊕ Bool) :=
  (idx x776 x858).bind fun (v875 : Int) => (spec_l1In v875 0 x790).bind fun (v876 : Bool) => cond (!v876) (some (Sum.inr false)) ((idx x776 x858).bind fun (v878 : Int) => cond (v878 == (IntKind.wrap .i64 (x858 + 1))) (some (Sum.inr false)) ((idx x776 x858).bind fun (v881 : Int) => cond (v881 == 0) (some (Sum.inl ((IntKind.wrap .i64 (x857 + 1)), (IntKind.wrap .i64 (x858 + 1))))) (some (Sum.inl (x857, (IntKind.wrap .i64 (x858 + 1)))))))

def spec_TreeOk_n5 : Option (Unit) :=
  some ()

def spec_TreeOk_n6 (x776 : List Int) (x790 : Int) (x903 : Int) (x904 : Int) : Option ((Int × Int) ⊕ Bool ⊕ Int) :=
  cond (decide (x903 > 0)) (cond (decide (x904 < x790)) ((idx x776 (IntKind.wrap .i64 (x903 - 1))).bind fun (v916 : Int) => (spec_l1In v916 0 x790).bind fun (v917 : Bool) => cond (!v917) (some (Sum.inr (Sum.inl false))) (some (Sum.inl (v916, (IntKind.wrap .i64 (x904 + 1)))))) (some (Sum.inr (Sum.inr x903)))) (some (Sum.inr (Sum.inr x903)))

def spec_TreeOk_n7 (x776 : List Int) (x790 : Int) (x887 : Int) : Option (Bool ⊕ Int) :=
  nloop (fun (s : Int × Int) => ((spec_TreeOk_n6 x776 x790 s.1 s.2).map (Sum.elim (fun (t : Int × Int) => Sum.inl (t.1, t.2)) (Sum.elim (fun (t : Bool) => Sum.inr (Sum.inl t)) (fun (t : Int) => Sum.inr (Sum.inr t)))) : Option ((Int × Int) ⊕ (Bool ⊕ Int)))) LL (x887, 0)

def spec_TreeOk_n8 (x776 : List Int) (x790 : Int) (x887 : Int) : Option (Int ⊕ Bool) :=
  (spec_TreeOk_n7 x776 x790 x887).map (Sum.elim (fun (t : Bool) => (Sum.inr t)) (fun (t : Int) => (Sum.inl t)))

def spec_TreeOk_n9 (x776 : List Int) (x790 : Int) (x887 : Int) : Option (Int ⊕ Bool) :=
  (spec_TreeOk_n5).bind (fun (t : Unit) => spec_TreeOk_n8 x776 x790 x887)

def spec_TreeOk_n10 (x903 : Int) : Option (Unit ⊕ Bool) :=
  cond (decide (x903 > 0)) (some (Sum.inr false)) (some (Sum.inl ()))

def spec_TreeOk_n11 (x776 : List Int) (x790 : Int) (x887 : Int) : Option (Unit ⊕ Bool) :=
  (spec_TreeOk_n9 x776 x790 x887).bind (Sum.elim (fun (t : Int) => spec_TreeOk_n10 t) (fun e => some ((fun (t : Bool) => (Sum.inr t)) e)))

def spec_TreeOk_n12 (x776 : List Int) (x790 : Int) (x857 : Int) (x858 : Int) : Option (Int ⊕ Bool) :=
  (spec_TreeOk_n4 x776 x790 x857 x858).bind (Sum.elim (fun (t : Int × Int) => (spec_TreeOk_n11 x776 x790 t.2).map (Sum.elim (fun (u : Unit) => (Sum.inl t.1)) (fun (u : Bool) => (Sum.inr u)))) (fun e => some ((fun (t : Bool) => (Sum.inr t)) e)))

def spec_TreeOk_n13 (x776 : List Int) (x790 : Int) (x857 : Int) (x858 : Int) : Option (Int ⊕ Bool) :=
  (spec_TreeOk_n12 x776 x790 x857 x858).map (Sum.elim (fun (t : Int) => (Sum.inl t)) (fun (t : Bool) => (Sum.inr t)))

def spec_TreeOk_n14 (x858 : Int) : Option (Int) :=
  some (IntKind.wrap .i64 (x858 + 1))

def spec_TreeOk_n15 (x776 : List Int) (x790 : Int) (x857 : Int) (x858 : Int) : Option ((Int × Int) ⊕ Bool) :=
  (spec_TreeOk_n13 x776 x790 x857 x858).bind (Sum.elim (fun (t : Int) => (spec_TreeOk_n14 x858).map (fun (u : Int) => (Sum.inl (t, u)))) (fun e => some ((fun (t : Bool) => (Sum.inr t)) e)))

def spec_TreeOk_n16 (x776 : List Int) (x790 : Int) (x857 : Int) (x858 : Int) : Option ((Int × Int) ⊕ Bool ⊕ Int) :=
  (spec_TreeOk_n3 x790 x857 x858).bind (Sum.elim (fun (t : Unit) => (spec_TreeOk_n15 x776 x790 x857 x858).map (Sum.elim (fun (t : Int × Int) => (Sum.inl (t.1, t.2))) (fun (t : Bool) => (Sum.inr (Sum.inl t))))) (fun e => some ((fun (t : Int) => (Sum.inr (Sum.inr t))) e)))

def spec_TreeOk_n17 (x776 : List Int) (x790 : Int) : Option (Bool ⊕ Int) :=
  nloop (fun (s : Int × Int) => ((spec_TreeOk_n16 x776 x790 s.1 s.2).map (Sum.elim (fun (t : Int × Int) => Sum.inl (t.1, t.2)) (Sum.elim (fun (t : Bool) => Sum.inr (Sum.inl t)) (fun (t : Int) => Sum.inr (Sum.inr t)))) : Option ((Int × Int) ⊕ (Bool ⊕ Int)))) LL (0, 0)

def spec_TreeOk_n18 (x776 : List Int) (x790 : Int) : Option (Int ⊕ Bool) :=
  (spec_TreeOk_n17 x776 x790).map (Sum.elim (fun (t : Bool) => (Sum.inr t)) (fun (t : Int) => (Sum.inl t)))

def spec_TreeOk_n19 (x776 : List Int) (x790 : Int) : Option (Int ⊕ Bool) :=
  (spec_TreeOk_n2).bind (fun (t : Unit) => spec_TreeOk_n18 x776 x790)

def spec_TreeOk_n20 (x857 : Int) : Option (Bool) :=
  some (x857 == 1)

def spec_TreeOk_n21 (x776 : List Int) (x790 : Int) : Option (Bool) :=
  (spec_TreeOk_n19 x776 x790).bind (Sum.elim (fun (t : Int) => spec_TreeOk_n20 t) (fun e => some ((fun (t : Bool) => t) e)))

def spec_TreeOk_n22 (x776 : List Int) : Option (Bool) :=
  (spec_TreeOk_n1 x776).bind (Sum.elim (fun (t : Int) => spec_TreeOk_n21 x776 t) (fun e => some ((fun (t : Bool) => t) e)))

@[irreducible] def spec_TreeOk (x776 : List Int) : Option (Bool) :=
  spec_TreeOk_n22 x776

def spec_OrderOk_n1 : Option (Unit) :=
  some ()

def spec_OrderOk_n2 : Option (Unit) :=
  some ()

def spec_OrderOk_n3 (x936 : List Int) (x968 : Int) : Option (Unit ⊕ Unit) :=
  cond (decide (x968 < (((List.length x936 : Nat) : Int)))) (some (Sum.inl ())) (some (Sum.inr ()))

def spec_OrderOk_n4 (x936 : List Int) (x937 : Int) (x968 : Int) : Option (Unit ⊕ Bool) :=
  (idx x936 x968).bind fun (v974 : Int) => (spec_l1In v974 1 x937).bind fun (v975 : Bool) => cond (!v975) (some (Sum.inr false)) (some (Sum.inl ()))

def spec_OrderOk_n5 (x936 : List Int) (x968 : Int) (x987 : Int) : Option (Int ⊕ Bool ⊕ Unit) :=
  cond (decide (x987 < x968)) ((idx x936 x987).bind fun (v994 : Int) => (idx x936 x968).bind fun (v995 : Int) => cond (v994 == v995) (some (Sum.inr (Sum.inl false))) (some (Sum.inl (IntKind.wrap .i64 (x987 + 1))))) (some (Sum.inr (Sum.inr ())))

def spec_OrderOk_n6 (x936 : List Int) (x968 : Int) : Option (Bool ⊕ Unit) :=
  nloop (fun (s : Int) => ((spec_OrderOk_n5 x936 x968 s).map (Sum.elim (fun (t : Int) => Sum.inl t) (Sum.elim (fun (t : Bool) => Sum.inr (Sum.inl t)) (fun (t : Unit) => Sum.inr (Sum.inr t)))) : Option ((Int) ⊕ (Bool ⊕ Unit)))) LL 0

def spec_OrderOk_n7 (x936 : List Int) (x968 : Int) : Option (Unit ⊕ Bool) :=
  (spec_OrderOk_n6 x936 x968).map (Sum.elim (fun (t : Bool) => (Sum.inr t)) (fun (t : Unit) => (Sum.inl ())))

def spec_OrderOk_n8 (x936 : List Int) (x937 : Int) (x968 : Int) : Option (Unit ⊕ Bool) :=
  (spec_OrderOk_n4 x936 x937 x968).bind (Sum.elim (fun (t : Unit) => spec_OrderOk_n7 x936 x968) (fun e => some ((fun (t : Bool) => (Sum.inr t)) e)))

def spec_OrderOk_n9 (x936 : List Int) (x937 : Int) (x968 : Int) : Option (Unit ⊕ Bool) :=
  (spec_OrderOk_n8 x936 x937 x968).map (Sum.elim (fun (t : Unit) => (Sum.inl ())) (fun (t : Bool) => (Sum.inr t)))

def spec_OrderOk_n10 (x968 : Int) : Option (Int) :=
  some (IntKind.wrap .i64 (x968 + 1))

def spec_OrderOk_n11 (x936 : List Int) (x937 : Int) (x968 : Int) : Option (Int ⊕ Bool) :=
  (spec_OrderOk_n9 x936 x937 x968).bind (Sum.elim (fun (t : Unit) => (spec_OrderOk_n10 x968).map (fun (t : Int) => (Sum.inl t))) (fun e => some ((fun (t : Bool) => (Sum.inr t)) e)))

def spec_OrderOk_n12 (x936 : List Int) (x937 : Int) (x968 : Int) : Option (Int ⊕ Bool ⊕ Unit) :=
  (spec_OrderOk_n3 x936 x968).bind (Sum.elim (fun (t : Unit) => (spec_OrderOk_n11 x936 x937 x968).map (Sum.elim (fun (t : Int) => (Sum.inl t)) (fun (t : Bool) => (Sum.inr (Sum.inl t))))) (fun e => some ((fun (t : Unit) => (Sum.inr (Sum.inr t))) e)))

def spec_OrderOk_n13 (x936 : List Int) (x937 : Int) : Option (Bool ⊕ Unit) :=
  nloop (fun (s : Int) => ((spec_OrderOk_n12 x936 x937 s).map (Sum.elim (fun (t : Int) => Sum.inl t) (Sum.elim (fun (t : Bool) => Sum.inr (Sum.inl t)) (fun (t : Unit) => Sum.inr (Sum.inr t)))) : Option ((Int) ⊕ (Bool ⊕ Unit)))) LL 0

def spec_OrderOk_n14 (x936 : List Int) (x937 : Int) : Option (Unit ⊕ Bool) :=
  (spec_OrderOk_n13 x936 x937).map (Sum.elim (fun (t : Bool) => (Sum.inr t)) (fun (t : Unit) => (Sum.inl ())))

def spec_OrderOk_n15 (x936 : List Int) (x937 : Int) : Option (Unit ⊕ Bool) :=
  (spec_OrderOk_n2).bind (fun (t : Unit) => spec_OrderOk_n14 x936 x937)

def spec_OrderOk_n16 (x936 : List Int) (x937 : Int) : Option (Bool) :=
  (spec_l1In x937 1 8).bind fun (v1002 : Bool) => cond v1002 (some ((((List.length x936 : Nat) : Int)) == x937)) (some false)

def spec_OrderOk_n17 (x936 : List Int) (x937 : Int) : Option (Bool) :=
  (spec_OrderOk_n15 x936 x937).bind (Sum.elim (fun (t : Unit) => spec_OrderOk_n16 x936 x937) (fun e => some ((fun (t : Bool) => t) e)))

def spec_OrderOk_n18 (x936 : List Int) (x937 : Int) : Option (Bool) :=
  (spec_OrderOk_n1).bind (fun (t : Unit) => spec_OrderOk_n17 x936 x937)

@[irreducible] def spec_OrderOk (x936 : List Int) (x937 : Int) : Option (Bool) :=
  spec_OrderOk_n18 x936 x937

def spec_PutInOrder_n1 (x931 : List Int) (x932 : List Int) : Option (((List Int)) ⊕ (Bool × (List Int))) :=
  (spec_TreeOk x931).bind fun (v1008 : Bool) => cond (!v1008) (some (Sum.inr (false, ([] : List Int)))) ((spec_OrderOk x932 (((List.length x931 : Nat) : Int))).bind fun (v1011 : Bool) => cond (!v1011) (some (Sum.inr (false, ([] : List Int)))) ((mk (IntKind.wrap .i64 ((((List.length x931 : Nat) : Int)) + 1)) (IntKind.wrap .i64 ((((List.length x931 : Nat) : Int)) + 1))).bind fun (v1015 : Nat) => some (Sum.inl (List.replicate v1015 (0 : Int)))))

def spec_PutInOrder_n2 : Option (Unit) :=
  some ()

def spec_PutInOrder_n3 (x932 : List Int) (x1032 : Int) (x1033 : List Int) : Option ((Int × (List Int)) ⊕ ((List Int))) :=
  cond (decide (x1032 < (((List.length x932 : Nat) : Int)))) ((idx x932 x1032).bind fun (v1044 : Int) => (inb v1044 (List.length x1033)).bind fun (v1046 : Nat) => some (Sum.inl ((IntKind.wrap .i64 (x1032 + 1)), (x1033.set v1046 (IntKind.wrap .i64 (x1032 + 1)))))) (some (Sum.inr x1033))

def spec_PutInOrder_n4 (x932 : List Int) (x1016 : List Int) : Option (((List Int))) :=
  nloop (fun (s : Int × (List Int)) => ((spec_PutInOrder_n3 x932 s.1 s.2).map (Sum.elim (fun (t : Int × (List Int)) => Sum.inl (t.1, t.2)) (fun (t : (List Int)) => Sum.inr t)) : Option ((Int × (List Int)) ⊕ (((List Int)))))) LL (0, x1016)

def spec_PutInOrder_n5 (x932 : List Int) (x1016 : List Int) : Option (((List Int))) :=
  (spec_PutInOrder_n4 x932 x1016).map (fun (t : (List Int)) => t)

def spec_PutInOrder_n6 (x932 : List Int) (x1016 : List Int) : Option (((List Int))) :=
  (spec_PutInOrder_n2).bind (fun (t : Unit) => spec_PutInOrder_n5 x932 x1016)

def spec_PutInOrder_n7 : Option (Unit) :=
  some ()

def spec_PutInOrder_n8 : Option (Unit) :=
  some ()

def spec_PutInOrder_n9 (x931 : List Int) (x932 : List Int) (x1074 : Int) (x1033 : List Int) (x1075 : List Int) : Option ((Int × (List Int)) ⊕ ((List Int))) :=
  cond (decide (x1074 < (((List.length x932 : Nat) : Int)))) ((idx x932 x1074).bind fun (v1091 : Int) => (idx x931 (IntKind.wrap .i64 (v1091 - 1))).bind fun (v1093 : Int) => (inb v1093 (List.length x1033)).bind fun (v1094 : Nat) => (x1033[v1094]?).bind fun (v1095 : Int) => (room ((List.length x1075) + List.length ([v1095]))).bind fun (v1098 : Unit) => some (Sum.inl ((IntKind.wrap .i64 (x1074 + 1)), (x1075 ++ ([v1095]))))) (some (Sum.inr x1075))

def spec_PutInOrder_n10 (x931 : List Int) (x932 : List Int) (x1033 : List Int) : Option (((List Int))) :=
  nloop (fun (s : Int × (List Int)) => ((spec_PutInOrder_n9 x931 x932 s.1 x1033 s.2).map (Sum.elim (fun (t : Int × (List Int)) => Sum.inl (t.1, t.2)) (fun (t : (List Int)) => Sum.inr t)) : Option ((Int × (List Int)) ⊕ (((List Int)))))) LL (0, ([] : List Int))

def spec_PutInOrder_n11 (x931 : List Int) (x932 : List Int) (x1033 : List Int) : Option (((List Int))) :=
  (spec_PutInOrder_n10 x931 x932 x1033).map (fun (t : (List Int)) => t)

def spec_PutInOrder_n12 (x931 : List Int) (x932 : List Int) (x1033 : List Int) : Option (((List Int))) :=
  (spec_PutInOrder_n8).bind (fun (t : Unit) => spec_PutInOrder_n11 x931 x932 x1033)

def spec_PutInOrder_n13 (x1075 : List Int) : Option ((Bool × (List Int))) :=
  some (true, x1075)

def spec_PutInOrder_n14 (x931 : List Int) (x932 : List Int) (x1033 : List Int) : Option ((Bool × (List Int))) :=
  (spec_PutInOrder_n12 x931 x932 x1033).bind (fun (t : (List Int)) => spec_PutInOrder_n13 t)

def spec_PutInOrder_n15 (x931 : List Int) (x932 : List Int) (x1033 : List Int) : Option ((Bool × (List Int))) :=
  (spec_PutInOrder_n7).bind (fun (t : Unit) => spec_PutInOrder_n14 x931 x932 x1033)

def spec_PutInOrder_n16 (x931 : List Int) (x932 : List Int) (x1016 : List Int) : Option ((Bool × (List Int))) :=
  (spec_PutInOrder_n6 x932 x1016).bind (fun (t : (List Int)) => spec_PutInOrder_n15 x931 x932 t)

def spec_PutInOrder_n17 (x931 : List Int) (x932 : List Int) : Option ((Bool × (List Int))) :=
  (spec_PutInOrder_n1 x931 x932).bind (Sum.elim (fun (t : (List Int)) => spec_PutInOrder_n16 x931 x932 t) (fun e => some ((fun (t : Bool × (List Int)) => t) e)))

@[irreducible] def spec_PutInOrder (x931 : List Int) (x932 : List Int) : Option (Bool × (List Int)) :=
  spec_PutInOrder_n17 x931 x932

def spec_l20Fill_n1 (R0 : Int → Int → Int → (List Int) → Int → (List Int) → Option (Int × (List Int))) (x1172 : Int) (x1173 : Int) (x1174 : Int) (x1175 : List Int) (x1176 : Int) (x1177 : List Int) : Option ((Int × Int × (List Int)) ⊕ (Int × (List Int))) :=
  cond (decide (x1172 > x1173)) (some (Sum.inr (x1176, x1177))) ((spec_l20Rd_pick (IntKind.wrap .i64 ((IntKind.wrap .i64 (x1173 - x1172)) + 1)) x1175 x1176).bind fun (v1245 : Int × Int) => (inb (IntKind.wrap .i64 ((IntKind.wrap .i64 (x1172 + (v1245.1))) - 1)) (List.length x1177)).bind fun (v1250 : Nat) => some (Sum.inl ((IntKind.wrap .i64 (x1172 + (v1245.1))), (v1245.2), (x1177.set v1250 x1174))))

def spec_l20Fill_n2 (R0 : Int → Int → Int → (List Int) → Int → (List Int) → Option (Int × (List Int))) (x1248 : Int) (x1263 : Int) (x1175 : List Int) (x1264 : Int) (x1265 : List Int) : Option ((Int × Int × (List Int)) ⊕ (Int × (List Int))) :=
  cond (decide (x1263 < x1248)) ((spec_l20Rd_pick (IntKind.wrap .i64 (x1248 - x1263)) x1175 x1264).bind fun (v1269 : Int × Int) => (R0 x1263 (IntKind.wrap .i64 (x1263 + (v1269.1))) x1248 x1175 (v1269.2) x1265).bind fun (v1273 : Int × (List Int)) => some (Sum.inl ((IntKind.wrap .i64 ((IntKind.wrap .i64 (x1263 + (v1269.1))) + 1)), (v1273.1), (v1273.2)))) (some (Sum.inr (x1264, x1265)))

def spec_l20Fill_n3 (R0 : Int → Int → Int → (List Int) → Int → (List Int) → Option (Int × (List Int))) (x1248 : Int) (x1172 : Int) (x1175 : List Int) (x1247 : Int) (x1251 : List Int) : Option ((Int × (List Int))) :=
  nloop (fun (s : Int × Int × (List Int)) => ((spec_l20Fill_n2 R0 x1248 s.1 x1175 s.2.1 s.2.2).map (Sum.elim (fun (t : Int × Int × (List Int)) => Sum.inl (t.1, t.2.1, t.2.2)) (fun (t : Int × (List Int)) => Sum.inr t)) : Option ((Int × Int × (List Int)) ⊕ ((Int × (List Int)))))) LL (x1172, x1247, x1251)

def spec_l20Fill_n4 (R0 : Int → Int → Int → (List Int) → Int → (List Int) → Option (Int × (List Int))) (x1248 : Int) (x1172 : Int) (x1175 : List Int) (x1247 : Int) (x1251 : List Int) : Option ((Int × (List Int))) :=
  (spec_l20Fill_n3 R0 x1248 x1172 x1175 x1247 x1251).map (fun (t : Int × (List Int)) => (t.1, t.2))

def spec_l20Fill_n5 (R0 : Int → Int → Int → (List Int) → Int → (List Int) → Option (Int × (List Int))) (x1248 : Int) : Option (Int) :=
  some (IntKind.wrap .i64 (x1248 + 1))

def spec_l20Fill_n6 (R0 : Int → Int → Int → (List Int) → Int → (List Int) → Option (Int × (List Int))) (x1173 : Int) (x1248 : Int) (x1290 : Int) (x1175 : List Int) (x1291 : Int) (x1292 : List Int) : Option ((Int × Int × (List Int)) ⊕ (Int × (List Int))) :=
  cond (decide (x1290 ≤ x1173)) ((spec_l20Rd_pick (IntKind.wrap .i64 ((IntKind.wrap .i64 (x1173 - x1290)) + 1)) x1175 x1291).bind fun (v1297 : Int × Int) => (R0 x1290 (IntKind.wrap .i64 (x1290 + (v1297.1))) x1248 x1175 (v1297.2) x1292).bind fun (v1301 : Int × (List Int)) => some (Sum.inl ((IntKind.wrap .i64 ((IntKind.wrap .i64 (x1290 + (v1297.1))) + 1)), (v1301.1), (v1301.2)))) (some (Sum.inr (x1291, x1292)))

def spec_l20Fill_n7 (R0 : Int → Int → Int → (List Int) → Int → (List Int) → Option (Int × (List Int))) (x1173 : Int) (x1248 : Int) (x1277 : Int) (x1175 : List Int) (x1264 : Int) (x1265 : List Int) : Option ((Int × (List Int))) :=
  nloop (fun (s : Int × Int × (List Int)) => ((spec_l20Fill_n6 R0 x1173 x1248 s.1 x1175 s.2.1 s.2.2).map (Sum.elim (fun (t : Int × Int × (List Int)) => Sum.inl (t.1, t.2.1, t.2.2)) (fun (t : Int × (List Int)) => Sum.inr t)) : Option ((Int × Int × (List Int)) ⊕ ((Int × (List Int)))))) LL (x1277, x1264, x1265)

def spec_l20Fill_n8 (R0 : Int → Int → Int → (List Int) → Int → (List Int) → Option (Int × (List Int))) (x1173 : Int) (x1248 : Int) (x1277 : Int) (x1175 : List Int) (x1264 : Int) (x1265 : List Int) : Option ((Int × (List Int))) :=
  (spec_l20Fill_n7 R0 x1173 x1248 x1277 x1175 x1264 x1265).map (fun (t : Int × (List Int)) => (t.1, t.2))

def spec_l20Fill_n9 (R0 : Int → Int → Int → (List Int) → Int → (List Int) → Option (Int × (List Int))) (x1173 : Int) (x1248 : Int) (x1175 : List Int) (x1264 : Int) (x1265 : List Int) : Option ((Int × (List Int))) :=
  (spec_l20Fill_n5 R0 x1248).bind (fun (t : Int) => spec_l20Fill_n8 R0 x1173 x1248 t x1175 x1264 x1265)

def spec_l20Fill_n10 (R0 : Int → Int → Int → (List Int) → Int → (List Int) → Option (Int × (List Int))) (x1173 : Int) (x1248 : Int) (x1172 : Int) (x1175 : List Int) (x1247 : Int) (x1251 : List Int) : Option ((Int × (List Int))) :=
  (spec_l20Fill_n4 R0 x1248 x1172 x1175 x1247 x1251).bind (fun (t : Int × (List Int)) => spec_l20Fill_n9 R0 x1173 x1248 x1175 t.1 t.2)

def spec_l20Fill_n11 (R0 : Int → Int → Int → (List Int) → Int → (List Int) → Option (Int × (List Int))) (x1172 : Int) (x1173 : Int) (x1174 : Int) (x1175 : List Int) (x1176 : Int) (x1177 : List Int) : Option ((Int × (List Int)) ⊕ (Int × (List Int))) :=
  (spec_l20Fill_n1 R0 x1172 x1173 x1174 x1175 x1176 x1177).bind (Sum.elim (fun (t : Int × Int × (List Int)) => (spec_l20Fill_n10 R0 x1173 t.1 x1172 x1175 t.2.1 t.2.2).map (fun (u : Int × (List Int)) => (Sum.inl (u.1, u.2)))) (fun e => some ((fun (t : Int × (List Int)) => (Sum.inr t)) e)))

def spec_l20Fill_one (R0 : Int → Int → Int → (List Int) → Int → (List Int) → Option (Int × (List Int))) (x1172 : Int) (x1173 : Int) (x1174 : Int) (x1175 : List Int) (x1176 : Int) (x1177 : List Int) : Option (Int × (List Int)) :=
  (spec_l20Fill_n11 R0 x1172 x1173 x1174 x1175 x1176 x1177).map (Sum.elim (fun (t : Int × (List Int)) => (t.1, t.2)) (fun (t : Int × (List Int)) => t))

def spec_l20Fill_knot : Nat → (Int → Int → Int → (List Int) → Int → (List Int) → Option (Int × (List Int)))
  | 0 => (fun _ _ _ _ _ _ => none)
  | n + 1 => (fun y0 y1 y2 y3 y4 y5 => spec_l20Fill_one (spec_l20Fill_knot n) y0 y1 y2 y3 y4 y5)

def spec_l20Fill_fuel (n : Nat) : Int → Int → Int → (List Int) → Int → (List Int) → Option (Int × (List Int)) := (spec_l20Fill_knot n)

@[irreducible] def spec_l20Fill (x1172 : Int) (x1173 : Int) (x1174 : Int) (x1175 : List Int) (x1176 : Int) (x1177 : List Int) : Option (Int × (List Int)) := spec_l20Fill_fuel RR x1172 x1173 x1174 x1175 x1176 x1177

def spec_l20Flat_n1 (x1125 : Int) (x1126 : List Int) (x1127 : Int) : Option ((Int × (List Int))) :=
  (spec_l20Rd_pick 3 x1126 x1127).bind fun (v1326 : Int × Int) => cond ((v1326.1) == 0) ((spec_l20Tree x1125 x1126 (v1326.2)).bind fun (v1330 : Int × (List Int)) => some ((v1330.1), (v1330.2))) ((spec_l20Rd_pick 7 x1126 (v1326.2)).bind fun (v1333 : Int × Int) => (mk (IntKind.wrap .i64 (1 + (v1333.1))) (IntKind.wrap .i64 (1 + (v1333.1)))).bind fun (v1337 : Nat) => (spec_l20Fill 1 (IntKind.wrap .i64 (1 + (v1333.1))) 0 x1126 (v1333.2) (List.replicate v1337 (0 : Int))).bind fun (v1339 : Int × (List Int)) => some ((v1339.1), (v1339.2)))

@[irreducible] def spec_l20Flat (x1125 : Int) (x1126 : List Int) (x1127 : Int) : Option (Int × (List Int)) :=
  spec_l20Flat_n1 x1125 x1126 x1127

def spec_l20Wild_n1 (x34 : Int) (x35 : List Int) (x36 : Int) : Option ((Int × (List Int))) :=
  (spec_l20Tree x34 x35 x36).bind fun (v1383 : Int × (List Int)) => (spec_l20Rd_pick 2 x35 (v1383.1)).bind fun (v1386 : Int × Int) => cond ((v1386.1) == 0) ((spec_TreeOk (v1383.2)).bind fun (v1390 : Bool) => cond v1390 ((spec_l20Order (((List.length (v1383.2) : Nat) : Int)) x35 (v1386.2)).bind fun (v1392 : Int × (List Int)) => (spec_PutInOrder (v1383.2) (v1392.2)).bind fun (v1395 : Bool × (List Int)) => some ((v1392.1), (v1395.2))) ((spec_l20Rd_pick 3 x35 (v1386.2)).bind fun (v1398 : Int × Int) => cond ((v1398.1) == 0) ((spec_l20Flat x34 x35 (v1398.2)).bind fun (v1402 : Int × (List Int)) => some ((v1402.1), (v1402.2))) (some ((v1398.2), (v1383.2))))) ((spec_l20Rd_pick 3 x35 (v1386.2)).bind fun (v1405 : Int × Int) => cond ((v1405.1) == 0) ((spec_l20Flat x34 x35 (v1405.2)).bind fun (v1409 : Int × (List Int)) => some ((v1409.1), (v1409.2))) (some ((v1405.2), (v1383.2))))

@[irreducible] def spec_l20Wild (x34 : Int) (x35 : List Int) (x36 : Int) : Option (Int × (List Int)) :=
  spec_l20Wild_n1 x34 x35 x36

def impl_oneRoot_n1 : Option (Unit) :=
  some ()

def impl_oneRoot_n2 (x1431 : List Int) : Option (Int) :=
  some (((List.length x1431 : Nat) : Int))

def impl_oneRoot_n3 (x1431 : List Int) (x1453 : Int) (x1432 : Int) (x1454 : Int) : Option ((Int × Int) ⊕ Bool ⊕ Int) :=
  cond (decide (x1454 < x1432)) ((idx x1431 x1454).bind fun (v1465 : Int) => cond (decide (v1465 < 0)) (some (Sum.inr (Sum.inl false))) (cond (decide (v1465 > (((List.length x1431 : Nat) : Int)))) (some (Sum.inr (Sum.inl false))) (cond (v1465 == 0) (some (Sum.inl ((IntKind.wrap .i64 (x1453 + 1)), (IntKind.wrap .i64 (x1454 + 1))))) (some (Sum.inl (x1453, (IntKind.wrap .i64 (x1454 + 1)))))))) (some (Sum.inr (Sum.inr x1453)))

def impl_oneRoot_n4 (x1431 : List Int) (x1432 : Int) : Option (Bool ⊕ Int) :=
  nloop (fun (s : Int × Int) => ((impl_oneRoot_n3 x1431 s.1 x1432 s.2).map (Sum.elim (fun (t : Int × Int) => Sum.inl (t.1, t.2)) (Sum.elim (fun (t : Bool) => Sum.inr (Sum.inl t)) (fun (t : Int) => Sum.inr (Sum.inr t)))) : Option ((Int × Int) ⊕ (Bool ⊕ Int)))) LL (0, 0)

def impl_oneRoot_n5 (x1431 : List Int) (x1432 : Int) : Option (Int ⊕ Bool) :=
  (impl_oneRoot_n4 x1431 x1432).map (Sum.elim (fun (t : Bool) => (Sum.inr t)) (fun (t : Int) => (Sum.inl t)))

def impl_oneRoot_n6 (x1431 : List Int) : Option (Int ⊕ Bool) :=
  (impl_oneRoot_n2 x1431).bind (fun (t : Int) => impl_oneRoot_n5 x1431 t)

def impl_oneRoot_n7 (x1453 : Int) : Option (Bool) :=
  some (x1453 == 1)

def impl_oneRoot_n8 (x1431 : List Int) : Option (Bool) :=
  (impl_oneRoot_n6 x1431).bind (Sum.elim (fun (t : Int) => impl_oneRoot_n7 t) (fun e => some ((fun (t : Bool) => t) e)))

def impl_oneRoot_n9 (x1431 : List Int) : Option (Bool) :=
  (impl_oneRoot_n1).bind (fun (t : Unit) => impl_oneRoot_n8 x1431)

@[irreducible] def impl_oneRoot (x1431 : List Int) : Option (Bool) :=
  impl_oneRoot_n9 x1431

def impl_walker_up_n1 (x1487 : List Int) (x1488 : Int) (x1489 : Int) : Option ((Bool × Int × Int)) :=
  (idx x1487 (IntKind.wrap .i64 (x1488 - 1))).bind fun (v1507 : Int) => cond (v1507 == 0) (some (false, x1488, x1489)) (some (true, v1507, (IntKind.wrap .i64 (x1489 + 1))))

@[irreducible] def impl_walker_up (x1487 : List Int) (x1488 : Int) (x1489 : Int) : Option (Bool × Int × Int) :=
  impl_walker_up_n1 x1487 x1488 x1489

def impl_stepsToRoot_n1 : Option (Unit) :=
  some ()

def impl_stepsToRoot_n2 (x1485 : List Int) (x1523 : Int) (x1524 : Int) : Option ((Int × Int) ⊕ (Int × Bool) ⊕ (Int × Int)) :=
  (impl_walker_up x1485 x1523 x1524).bind fun (v1529 : Bool × Int × Int) => cond (v1529.1) (cond (decide ((v1529.2.2) ≥ (((List.length x1485 : Nat) : Int)))) (some (Sum.inr (Sum.inl (0, false)))) (some (Sum.inl ((v1529.2.1), (v1529.2.2))))) (some (Sum.inr (Sum.inr ((v1529.2.1), (v1529.2.2)))))

def impl_stepsToRoot_n3 (x1485 : List Int) (x1486 : Int) : Option ((Int × Bool) ⊕ (Int × Int)) :=
  nloop (fun (s : Int × Int) => ((impl_stepsToRoot_n2 x1485 s.1 s.2).map (Sum.elim (fun (t : Int × Int) => Sum.inl (t.1, t.2)) (Sum.elim (fun (t : Int × Bool) => Sum.inr (Sum.inl t)) (fun (t : Int × Int) => Sum.inr (Sum.inr t)))) : Option ((Int × Int) ⊕ ((Int × Bool) ⊕ (Int × Int))))) LL (x1486, 0)

def impl_stepsToRoot_n4 (x1485 : List Int) (x1486 : Int) : Option ((Int × Int) ⊕ (Int × Bool)) :=
  (impl_stepsToRoot_n3 x1485 x1486).map (Sum.elim (fun (t : Int × Bool) => (Sum.inr t)) (fun (t : Int × Int) => (Sum.inl (t.1, t.2))))

def impl_stepsToRoot_n5 (x1532 : Int) : Option ((Int × Bool)) :=
  some (x1532, true)

def impl_stepsToRoot_n6 (x1485 : List Int) (x1486 : Int) : Option ((Int × Bool)) :=
  (impl_stepsToRoot_n4 x1485 x1486).bind (Sum.elim (fun (t : Int × Int) => impl_stepsToRoot_n5 t.2) (fun e => some ((fun (t : Int × Bool) => t) e)))

def impl_stepsToRoot_n7 (x1485 : List Int) (x1486 : Int) : Option ((Int × Bool)) :=
  (impl_stepsToRoot_n1).bind (fun (t : Unit) => impl_stepsToRoot_n6 x1485 x1486)

@[irreducible] def impl_stepsToRoot (x1485 : List Int) (x1486 : Int) : Option (Int × Bool) :=
  impl_stepsToRoot_n7 x1485 x1486

def impl_TreeOk_n1 (x1426 : List Int) : Option (Unit ⊕ Bool) :=
  cond (decide ((((List.length x1426 : Nat) : Int)) < 1)) (some (Sum.inr false)) (cond (decide ((((List.length x1426 : Nat) : Int)) > 8)) (some (Sum.inr false)) ((impl_oneRoot x1426).bind fun (v1478 : Bool) => cond (!v1478) (some (Sum.inr false)) (some (Sum.inl ()))))

def impl_TreeOk_n2 (x1426 : List Int) : Option (Int) :=
  some (((List.length x1426 : Nat) : Int))

def impl_TreeOk_n3 (x1426 : List Int) (x1480 : Int) (x1548 : Int) : Option (Int ⊕ Bool ⊕ Unit) :=
  cond (decide (x1548 < x1480)) ((impl_stepsToRoot x1426 (IntKind.wrap .i64 (x1548 + 1))).bind fun (v1559 : Int × Bool) => cond (!(v1559.2)) (some (Sum.inr (Sum.inl false))) (some (Sum.inl (IntKind.wrap .i64 (x1548 + 1))))) (some (Sum.inr (Sum.inr ())))

def impl_TreeOk_n4 (x1426 : List Int) (x1480 : Int) : Option (Bool ⊕ Unit) :=
  nloop (fun (s : Int) => ((impl_TreeOk_n3 x1426 x1480 s).map (Sum.elim (fun (t : Int) => Sum.inl t) (Sum.elim (fun (t : Bool) => Sum.inr (Sum.inl t)) (fun (t : Unit) => Sum.inr (Sum.inr t)))) : Option ((Int) ⊕ (Bool ⊕ Unit)))) LL 0

def impl_TreeOk_n5 (x1426 : List Int) (x1480 : Int) : Option (Unit ⊕ Bool) :=
  (impl_TreeOk_n4 x1426 x1480).map (Sum.elim (fun (t : Bool) => (Sum.inr t)) (fun (t : Unit) => (Sum.inl ())))

def impl_TreeOk_n6 (x1426 : List Int) : Option (Unit ⊕ Bool) :=
  (impl_TreeOk_n2 x1426).bind (fun (t : Int) => impl_TreeOk_n5 x1426 t)

def impl_TreeOk_n7 : Option (Bool) :=
  some true

def impl_TreeOk_n8 (x1426 : List Int) : Option (Bool) :=
  (impl_TreeOk_n6 x1426).bind (Sum.elim (fun (t : Unit) => impl_TreeOk_n7) (fun e => some ((fun (t : Bool) => t) e)))

def impl_TreeOk_n9 (x1426 : List Int) : Option (Bool) :=
  (impl_TreeOk_n1 x1426).bind (Sum.elim (fun (t : Unit) => impl_TreeOk_n8 x1426) (fun e => some ((fun (t : Bool) => t) e)))

@[irreducible] def impl_TreeOk (x1426 : List Int) : Option (Bool) :=
  impl_TreeOk_n9 x1426

def impl_arcBetween_n1 (x1580 : Int) (x1581 : Int) : Option ((Bool × Int × Int)) :=
  cond (decide (x1580 < 1)) (some (false, 0, 0)) (cond (decide (x1581 < 1)) (some (false, 0, 0)) (cond (x1580 == x1581) (some (false, 0, 0)) (some (true, (imin x1580 x1581), (imax x1580 x1581)))))

@[irreducible] def impl_arcBetween (x1580 : Int) (x1581 : Int) : Option (Bool × Int × Int) :=
  impl_arcBetween_n1 x1580 x1581

def impl_arcsOf_n1 (x1569 : List Int) : Option (((List (Int × Int × Unit)))) :=
  (mk 0 (((List.length x1569 : Nat) : Int))).bind fun (v1572 : Nat) => some (List.replicate v1572 ((0 : Int), ((0 : Int), ())))

def impl_arcsOf_n2 (x1569 : List Int) : Option (Int) :=
  some (((List.length x1569 : Nat) : Int))

def impl_arcsOf_n3 (x1569 : List Int) (x1574 : Int) (x1626 : Int) (x1627 : List (Int × Int × Unit)) : Option ((Int × (List (Int × Int × Unit))) ⊕ ((List (Int × Int × Unit)))) :=
  cond (decide (x1626 < x1574)) ((idx x1569 x1626).bind fun (v1644 : Int) => (impl_arcBetween (IntKind.wrap .i64 (x1626 + 1)) v1644).bind fun (v1646 : Bool × Int × Int) => cond (v1646.1) ((room ((List.length x1627) + List.length ([((v1646.2.1), ((v1646.2.2), ()))]))).bind fun (v1654 : Unit) => some (Sum.inl ((IntKind.wrap .i64 (x1626 + 1)), (x1627 ++ ([((v1646.2.1), ((v1646.2.2), ()))]))))) (some (Sum.inl ((IntKind.wrap .i64 (x1626 + 1)), x1627)))) (some (Sum.inr x1627))

def impl_arcsOf_n4 (x1569 : List Int) (x1574 : Int) (x1573 : List (Int × Int × Unit)) : Option (((List (Int × Int × Unit)))) :=
  nloop (fun (s : Int × (List (Int × Int × Unit))) => ((impl_arcsOf_n3 x1569 x1574 s.1 s.2).map (Sum.elim (fun (t : Int × (List (Int × Int × Unit))) => Sum.inl (t.1, t.2)) (fun (t : (List (Int × Int × Unit))) => Sum.inr t)) : Option ((Int × (List (Int × Int × Unit))) ⊕ (((List (Int × Int × Unit))))))) LL (0, x1573)

def impl_arcsOf_n5 (x1569 : List Int) (x1574 : Int) (x1573 : List (Int × Int × Unit)) : Option (((List (Int × Int × Unit)))) :=
  (impl_arcsOf_n4 x1569 x1574 x1573).map (fun (t : (List (Int × Int × Unit))) => t)

def impl_arcsOf_n6 (x1569 : List Int) (x1573 : List (Int × Int × Unit)) : Option (((List (Int × Int × Unit)))) :=
  (impl_arcsOf_n2 x1569).bind (fun (t : Int) => impl_arcsOf_n5 x1569 t x1573)

def impl_arcsOf_n7 (x1627 : List (Int × Int × Unit)) : Option (((List (Int × Int × Unit)))) :=
  some x1627

def impl_arcsOf_n8 (x1569 : List Int) (x1573 : List (Int × Int × Unit)) : Option (((List (Int × Int × Unit)))) :=
  (impl_arcsOf_n6 x1569 x1573).bind (fun (t : (List (Int × Int × Unit))) => impl_arcsOf_n7 t)

def impl_arcsOf_n9 (x1569 : List Int) : Option (((List (Int × Int × Unit)))) :=
  (impl_arcsOf_n1 x1569).bind (fun (t : (List (Int × Int × Unit))) => impl_arcsOf_n8 x1569 t)

@[irreducible] def impl_arcsOf (x1569 : List Int) : Option ((List (Int × Int × Unit))) :=
  impl_arcsOf_n9 x1569

def laws_sameInts_n1 (x1985 : List Int) (x1986 : List Int) : Option (Unit ⊕ Bool) :=
  cond ((((List.length x1985 : Nat) : Int)) != (((List.length x1986 : Nat) : Int))) (some (Sum.inr false)) (some (Sum.inl ()))

def laws_sameInts_n2 : Option (Unit) :=
  some ()

def laws_sameInts_n3 (x1985 : List Int) (x1986 : List Int) (x2003 : Int) : Option (Int ⊕ Bool ⊕ Unit) :=
  cond (decide (x2003 < (((List.length x1985 : Nat) : Int)))) ((idx x1985 x2003).bind fun (v2013 : Int) => (idx x1986 x2003).bind fun (v2014 : Int) => cond (v2013 != v2014) (some (Sum.inr (Sum.inl false))) (some (Sum.inl (IntKind.wrap .i64 (x2003 + 1))))) (some (Sum.inr (Sum.inr ())))

def laws_sameInts_n4 (x1985 : List Int) (x1986 : List Int) : Option (Bool ⊕ Unit) :=
  nloop (fun (s : Int) => ((laws_sameInts_n3 x1985 x1986 s).map (Sum.elim (fun (t : Int) => Sum.inl t) (Sum.elim (fun (t : Bool) => Sum.inr (Sum.inl t)) (fun (t : Unit) => Sum.inr (Sum.inr t)))) : Option ((Int) ⊕ (Bool ⊕ Unit)))) LL 0

def laws_sameInts_n5 (x1985 : List Int) (x1986 : List Int) : Option (Unit ⊕ Bool) :=
  (laws_sameInts_n4 x1985 x1986).map (Sum.elim (fun (t : Bool) => (Sum.inr t)) (fun (t : Unit) => (Sum.inl ())))

def laws_sameInts_n6 (x1985 : List Int) (x1986 : List Int) : Option (Unit ⊕ Bool) :=
  (laws_sameInts_n2).bind (fun (t : Unit) => laws_sameInts_n5 x1985 x1986)

def laws_sameInts_n7 : Option (Bool) :=
  some true

def laws_sameInts_n8 (x1985 : List Int) (x1986 : List Int) : Option (Bool) :=
  (laws_sameInts_n6 x1985 x1986).bind (Sum.elim (fun (t : Unit) => laws_sameInts_n7) (fun e => some ((fun (t : Bool) => t) e)))

def laws_sameInts_n9 (x1985 : List Int) (x1986 : List Int) : Option (Bool) :=
  (laws_sameInts_n1 x1985 x1986).bind (Sum.elim (fun (t : Unit) => laws_sameInts_n8 x1985 x1986) (fun e => some ((fun (t : Bool) => t) e)))

@[irreducible] def laws_sameInts (x1985 : List Int) (x1986 : List Int) : Option (Bool) :=
  laws_sameInts_n9 x1985 x1986

def laws_alive_n1 : Option (Bool) :=
  (impl_TreeOk ([0])).bind fun (v2037 : Bool) => cond v2037 ((impl_TreeOk ([1])).bind fun (v2039 : Bool) => some (!v2039)) (some false)

@[irreducible] def laws_alive : Option (Bool) :=
  laws_alive_n1

def impl_placesIn_n3 (x2163 : List Int) (x2168 : Int) (x2182 : Int) (x2183 : List Int) : Option ((Int × (List Int)) ⊕ ((List Int))) :=
  cond (decide (x2182 < x2168)) ((idx x2163 x2182).bind fun (v2192 : Int) => (inb v2192 (List.length x2183)).bind fun (v2194 : Nat) => some (Sum.inl ((IntKind.wrap .i64 (x2182 + 1)), (x2183.set v2194 (IntKind.wrap .i64 (x2182 + 1)))))) (some (Sum.inr x2183))

def impl_arc_covers_n1 (x2663 : Int) (x2664 : Int) (x2665 : Int) : Option (Bool) :=
  cond (decide (x2663 < x2665)) (some (decide (x2665 < x2664))) (some false)

@[irreducible] def impl_arc_covers (x2663 : Int) (x2664 : Int) (x2665 : Int) : Option (Bool) :=
  impl_arc_covers_n1 x2663 x2664 x2665

def impl_arc_leavesOut_n1 (x2672 : Int) (x2673 : Int) (x2674 : Int) : Option (Bool) :=
  cond (decide (x2674 < x2672)) (some true) (some (decide (x2673 < x2674)))

@[irreducible] def impl_arc_leavesOut (x2672 : Int) (x2673 : Int) (x2674 : Int) : Option (Bool) :=
  impl_arc_leavesOut_n1 x2672 x2673 x2674

def impl_arc_crosses_n1 (x2659 : Int) (x2660 : Int) (x2661 : Int) (x2662 : Int) : Option (Bool) :=
  (impl_arc_covers x2659 x2660 x2661).bind fun (v2685 : Bool) => cond v2685 ((impl_arc_leavesOut x2659 x2660 x2662).bind fun (v2686 : Bool) => cond v2686 (some true) ((impl_arc_covers x2659 x2660 x2662).bind fun (v2687 : Bool) => cond v2687 ((impl_arc_leavesOut x2659 x2660 x2661).bind fun (v2688 : Bool) => some v2688) (some false))) ((impl_arc_covers x2659 x2660 x2662).bind fun (v2689 : Bool) => cond v2689 ((impl_arc_leavesOut x2659 x2660 x2661).bind fun (v2690 : Bool) => some v2690) (some false))

@[irreducible] def impl_arc_crosses (x2659 : Int) (x2660 : Int) (x2661 : Int) (x2662 : Int) : Option (Bool) :=
  impl_arc_crosses_n1 x2659 x2660 x2661 x2662

def impl_countPairs_impl_arc_n1 : Option (Unit) :=
  some ()

def impl_countPairs_impl_arc_n2 (x2632 : List (Int × Int × Unit)) : Option (Int) :=
  some (((List.length x2632 : Nat) : Int))

def impl_countPairs_impl_arc_n3 (x2731 : Int) (x2633 : Int) (x2732 : Int) : Option (Unit ⊕ Int) :=
  cond (decide (x2732 < x2633)) (some (Sum.inl ())) (some (Sum.inr x2731))

def impl_countPairs_impl_arc_n4 (x2632 : List (Int × Int × Unit)) (x2732 : Int) : Option (((List (Int × Int × Unit)) × Int × Int × Int)) :=
  (idx x2632 x2732).bind fun (v2740 : Int × Int × Unit) => (inc (IntKind.wrap .i64 (x2732 + 1)) (List.length x2632)).bind fun (v2747 : Nat) => some (((x2632.take (List.length x2632)).drop v2747), (((List.length ((x2632.take (List.length x2632)).drop v2747) : Nat) : Int)), (v2740.1), ((v2740.2).1))

def impl_countPairs_impl_arc_n5 (x2772 : Int) (x2748 : List (Int × Int × Unit)) (x2749 : Int) (x2773 : Int) (x2741 : Int) (x2743 : Int) : Option ((Int × Int) ⊕ Int) :=
  cond (decide (x2773 < x2749)) ((idx x2748 x2773).bind fun (v2785 : Int × Int × Unit) => (impl_arc_crosses x2741 x2743 (v2785.1) ((v2785.2).1)).bind fun (v2790 : Bool) => cond v2790 (some (Sum.inl ((IntKind.wrap .i64 (x2772 + 1)), (IntKind.wrap .i64 (x2773 + 1))))) (some (Sum.inl (x2772, (IntKind.wrap .i64 (x2773 + 1)))))) (some (Sum.inr x2772))

def impl_countPairs_impl_arc_n6 (x2731 : Int) (x2748 : List (Int × Int × Unit)) (x2749 : Int) (x2741 : Int) (x2743 : Int) : Option (Int) :=
  nloop (fun (s : Int × Int) => ((impl_countPairs_impl_arc_n5 s.1 x2748 x2749 s.2 x2741 x2743).map (Sum.elim (fun (t : Int × Int) => Sum.inl (t.1, t.2)) (fun (t : Int) => Sum.inr t)) : Option ((Int × Int) ⊕ (Int)))) LL (x2731, 0)

def impl_countPairs_impl_arc_n7 (x2731 : Int) (x2748 : List (Int × Int × Unit)) (x2749 : Int) (x2741 : Int) (x2743 : Int) : Option (Int) :=
  (impl_countPairs_impl_arc_n6 x2731 x2748 x2749 x2741 x2743).map (fun (t : Int) => t)

def impl_countPairs_impl_arc_n8 (x2632 : List (Int × Int × Unit)) (x2731 : Int) (x2732 : Int) : Option (Int) :=
  (impl_countPairs_impl_arc_n4 x2632 x2732).bind (fun (t : (List (Int × Int × Unit)) × Int × Int × Int) => impl_countPairs_impl_arc_n7 x2731 t.1 t.2.1 t.2.2.1 t.2.2.2)

def impl_countPairs_impl_arc_n9 (x2632 : List (Int × Int × Unit)) (x2731 : Int) (x2732 : Int) : Option (Int) :=
  (impl_countPairs_impl_arc_n8 x2632 x2731 x2732).map (fun (t : Int) => t)

def impl_countPairs_impl_arc_n10 (x2732 : Int) : Option (Int) :=
  some (IntKind.wrap .i64 (x2732 + 1))

def impl_countPairs_impl_arc_n11 (x2632 : List (Int × Int × Unit)) (x2731 : Int) (x2732 : Int) : Option ((Int × Int)) :=
  (impl_countPairs_impl_arc_n9 x2632 x2731 x2732).bind (fun (t : Int) => (impl_countPairs_impl_arc_n10 x2732).map (fun (u : Int) => (t, u)))

def impl_countPairs_impl_arc_n12 (x2632 : List (Int × Int × Unit)) (x2731 : Int) (x2633 : Int) (x2732 : Int) : Option ((Int × Int) ⊕ Int) :=
  (impl_countPairs_impl_arc_n3 x2731 x2633 x2732).bind (Sum.elim (fun (t : Unit) => (impl_countPairs_impl_arc_n11 x2632 x2731 x2732).map (fun (t : Int × Int) => (Sum.inl (t.1, t.2)))) (fun e => some ((fun (t : Int) => (Sum.inr t)) e)))

def impl_countPairs_impl_arc_n13 (x2632 : List (Int × Int × Unit)) (x2633 : Int) : Option (Int) :=
  nloop (fun (s : Int × Int) => ((impl_countPairs_impl_arc_n12 x2632 s.1 x2633 s.2).map (Sum.elim (fun (t : Int × Int) => Sum.inl (t.1, t.2)) (fun (t : Int) => Sum.inr t)) : Option ((Int × Int) ⊕ (Int)))) LL (0, 0)

def impl_countPairs_impl_arc_n14 (x2632 : List (Int × Int × Unit)) (x2633 : Int) : Option (Int) :=
  (impl_countPairs_impl_arc_n13 x2632 x2633).map (fun (t : Int) => t)

def impl_countPairs_impl_arc_n15 (x2632 : List (Int × Int × Unit)) : Option (Int) :=
  (impl_countPairs_impl_arc_n2 x2632).bind (fun (t : Int) => impl_countPairs_impl_arc_n14 x2632 t)

def impl_countPairs_impl_arc_n16 (x2731 : Int) : Option (Int) :=
  some x2731

def impl_countPairs_impl_arc_n17 (x2632 : List (Int × Int × Unit)) : Option (Int) :=
  (impl_countPairs_impl_arc_n15 x2632).bind (fun (t : Int) => impl_countPairs_impl_arc_n16 t)

def impl_countPairs_impl_arc_n18 (x2632 : List (Int × Int × Unit)) : Option (Int) :=
  (impl_countPairs_impl_arc_n1).bind (fun (t : Unit) => impl_countPairs_impl_arc_n17 x2632)

@[irreducible] def impl_countPairs_impl_arc (x2632 : List (Int × Int × Unit)) : Option (Int) :=
  impl_countPairs_impl_arc_n18 x2632

def impl_CrossingsOf_n1 (x2626 : List Int) : Option (Int) :=
  (impl_TreeOk x2626).bind fun (v2798 : Bool) => cond (!v2798) (some (-1)) ((impl_arcsOf x2626).bind fun (v2800 : List (Int × Int × Unit)) => (impl_countPairs_impl_arc v2800).bind fun (v2801 : Int) => some v2801)

@[irreducible] def impl_CrossingsOf (x2626 : List Int) : Option (Int) :=
  impl_CrossingsOf_n1 x2626

def spec_DrawSidesFor_n1 (x3263 : List Int) : Option (((List Int))) :=
  (spec_l20Open x3263).bind fun (v3268 : List Int) => (spec_l20Wild 9 v3268 0).bind fun (v3269 : Int × (List Int)) => some (v3269.2)

@[irreducible] def spec_DrawSidesFor (x3263 : List Int) : Option ((List Int)) :=
  spec_DrawSidesFor_n1 x3263

def math_bits_Mul64_n1 (x3294 : Int) (x3295 : Int) : Option ((Int × Int × Int × Int)) :=
  (shr .u64 x3294 32).bind fun (v3314 : Int) => (shr .u64 x3295 32).bind fun (v3316 : Int) => (shr .u64 (IntKind.wrap .u64 ((iand .u64 x3294 4294967295) * (iand .u64 x3295 4294967295))) 32).bind fun (v3319 : Int) => some ((iand .u64 x3294 4294967295), v3314, v3316, (IntKind.wrap .u64 ((IntKind.wrap .u64 (v3314 * (iand .u64 x3295 4294967295))) + v3319)))

def math_bits_Mul64_n2 (x3320 : Int) : Option (Int) :=
  some (iand .u64 x3320 4294967295)

def math_bits_Mul64_n3 (x3320 : Int) : Option (Int) :=
  (shr .u64 x3320 32).bind fun (v3333 : Int) => some v3333

def math_bits_Mul64_n4 (x3313 : Int) (x3316 : Int) (x3331 : Int) : Option (Int) :=
  some (IntKind.wrap .u64 (x3331 + (IntKind.wrap .u64 (x3313 * x3316))))

def math_bits_Mul64_n5 (x3294 : Int) (x3295 : Int) (x3314 : Int) (x3316 : Int) (x3337 : Int) (x3333 : Int) : Option ((Int × Int)) :=
  (shr .u64 x3337 32).bind fun (v3349 : Int) => some ((IntKind.wrap .u64 ((IntKind.wrap .u64 ((IntKind.wrap .u64 (x3314 * x3316)) + x3333)) + v3349)), (IntKind.wrap .u64 (x3294 * x3295)))

def math_bits_Mul64_n6 (x3294 : Int) (x3295 : Int) (x3313 : Int) (x3314 : Int) (x3316 : Int) (x3331 : Int) (x3333 : Int) : Option ((Int × Int)) :=
  (math_bits_Mul64_n4 x3313 x3316 x3331).bind (fun (t : Int) => math_bits_Mul64_n5 x3294 x3295 x3314 x3316 t x3333)

def math_bits_Mul64_n7 (x3294 : Int) (x3295 : Int) (x3313 : Int) (x3314 : Int) (x3316 : Int) (x3320 : Int) (x3331 : Int) : Option ((Int × Int)) :=
  (math_bits_Mul64_n3 x3320).bind (fun (t : Int) => math_bits_Mul64_n6 x3294 x3295 x3313 x3314 x3316 x3331 t)

def math_bits_Mul64_n8 (x3294 : Int) (x3295 : Int) (x3313 : Int) (x3314 : Int) (x3316 : Int) (x3320 : Int) : Option ((Int × Int)) :=
  (math_bits_Mul64_n2 x3320).bind (fun (t : Int) => math_bits_Mul64_n7 x3294 x3295 x3313 x3314 x3316 x3320 t)

def math_bits_Mul64_n9 (x3294 : Int) (x3295 : Int) : Option ((Int × Int)) :=
  (math_bits_Mul64_n1 x3294 x3295).bind (fun (t : Int × Int × Int × Int) => math_bits_Mul64_n8 x3294 x3295 t.1 t.2.1 t.2.2.1 t.2.2.2)

@[irreducible] def math_bits_Mul64 (x3294 : Int) (x3295 : Int) : Option (Int × Int) :=
  math_bits_Mul64_n9 x3294 x3295

def math_bits_Mul_n1 (x3292 : Int) (x3293 : Int) : Option ((Int × Int)) :=
  (math_bits_Mul64 x3292 x3293).bind fun (v3358 : Int × Int) => some ((v3358.1), (v3358.2))

@[irreducible] def math_bits_Mul (x3292 : Int) (x3293 : Int) : Option (Int × Int) :=
  math_bits_Mul_n1 x3292 x3293

def slices_Repeat_int_int_n1 (x3285 : List Int) (x3286 : Int) : Option ((Int × (List Int))) :=
  cond (decide (x3286 < 0)) (none) ((math_bits_Mul (IntKind.wrap .u64 (((List.length x3285 : Nat) : Int))) (IntKind.wrap .u64 x3286)).bind fun (v3390 : Int × Int) => cond (decide ((v3390.1) > 0)) (none) (cond (decide ((v3390.2) > 9223372036854775807)) (none) ((mk (IntKind.wrap .i64 (v3390.2)) (IntKind.wrap .i64 (v3390.2))).bind fun (v3396 : Nat) => some ((((min (List.length x3285) (List.length (List.replicate v3396 (0 : Int))) : Nat) : Int)), (overL (List.replicate v3396 (0 : Int)) 0 (x3285.take (List.length (List.replicate v3396 (0 : Int)))))))))

def slices_Repeat_int_int_n2 (x3435 : Int) (x3436 : List Int) : Option ((Int × (List Int)) ⊕ ((List Int))) :=
  cond (decide (x3435 < (((List.length x3436 : Nat) : Int)))) ((inc x3435 (List.length x3436)).bind fun (v3442 : Nat) => (inc x3435 (List.length x3436)).bind fun (v3445 : Nat) => some (Sum.inl ((IntKind.wrap .i64 (x3435 + (((min (List.length ((x3436.drop 0).take (v3445 - 0))) ((List.length x3436) - v3442) : Nat) : Int)))), (overL x3436 v3442 (((x3436.drop 0).take (v3445 - 0)).take ((List.length x3436) - v3442)))))) (some (Sum.inr x3436))

def slices_Repeat_int_int_n3 (x3400 : Int) (x3399 : List Int) : Option (((List Int))) :=
  nloop (fun (s : Int × (List Int)) => ((slices_Repeat_int_int_n2 s.1 s.2).map (Sum.elim (fun (t : Int × (List Int)) => Sum.inl (t.1, t.2)) (fun (t : (List Int)) => Sum.inr t)) : Option ((Int × (List Int)) ⊕ (((List Int)))))) LL (x3400, x3399)

def slices_Repeat_int_int_n4 (x3400 : Int) (x3399 : List Int) : Option (((List Int))) :=
  (slices_Repeat_int_int_n3 x3400 x3399).map (fun (t : (List Int)) => t)

def slices_Repeat_int_int_n5 (x3436 : List Int) : Option (((List Int))) :=
  some x3436

def slices_Repeat_int_int_n6 (x3400 : Int) (x3399 : List Int) : Option (((List Int))) :=
  (slices_Repeat_int_int_n4 x3400 x3399).bind (fun (t : (List Int)) => slices_Repeat_int_int_n5 t)

def slices_Repeat_int_int_n7 (x3285 : List Int) (x3286 : Int) : Option (((List Int))) :=
  (slices_Repeat_int_int_n1 x3285 x3286).bind (fun (t : Int × (List Int)) => slices_Repeat_int_int_n6 t.1 t.2)

@[irreducible] def slices_Repeat_int_int (x3285 : List Int) (x3286 : Int) : Option ((List Int)) :=
  slices_Repeat_int_int_n7 x3285 x3286

def impl_newDrawing_n1 (x3282 : List (Int × Int × Unit)) : Option (((List Int))) :=
  (slices_Repeat_int_int ([(-1)]) (((List.length x3282 : Nat) : Int))).bind fun (v3454 : List Int) => some v3454

@[irreducible] def impl_newDrawing (x3282 : List (Int × Int × Unit)) : Option ((List Int)) :=
  impl_newDrawing_n1 x3282

def impl_opposite_n1 (x3507 : Int) : Option (Int) :=
  some (IntKind.wrap .i64 (1 - x3507))

@[irreducible] def impl_opposite (x3507 : Int) : Option (Int) :=
  impl_opposite_n1 x3507

def impl_drawing_draw_n1 (R0 : Int → Int → (List (Int × Int × Unit)) → (List Int) → Option (Bool × (List Int))) (x3474 : Int) (x3475 : Int) (x3477 : List Int) : Option (((List Int)) ⊕ (Bool × (List Int))) :=
  (inb x3474 (List.length x3477)).bind fun (v3593 : Nat) => (x3477[v3593]?).bind fun (v3594 : Int) => cond (v3594 != (-1)) ((inb x3474 (List.length x3477)).bind fun (v3596 : Nat) => (x3477[v3596]?).bind fun (v3597 : Int) => some (Sum.inr ((v3597 == x3475), x3477))) ((inb x3474 (List.length x3477)).bind fun (v3599 : Nat) => some (Sum.inl (x3477.set v3599 x3475)))

def impl_drawing_draw_n2 (R0 : Int → Int → (List (Int × Int × Unit)) → (List Int) → Option (Bool × (List Int))) (x3476 : List (Int × Int × Unit)) : Option (Int) :=
  some (((List.length x3476 : Nat) : Int))

def impl_drawing_draw_n3 (R0 : Int → Int → (List (Int × Int × Unit)) → (List Int) → Option (Bool × (List Int))) (x3474 : Int) (x3475 : Int) (x3476 : List (Int × Int × Unit)) (x3601 : Int) (x3642 : Int) (x3643 : List Int) : Option ((Int × (List Int)) ⊕ (Bool × (List Int)) ⊕ ((List Int))) :=
  cond (decide (x3642 < x3601)) ((idx x3476 x3642).bind fun (v3664 : Int × Int × Unit) => (idx x3476 x3474).bind fun (v3669 : Int × Int × Unit) => (impl_arc_crosses (v3669.1) ((v3669.2).1) (v3664.1) ((v3664.2).1)).bind fun (v3674 : Bool) => cond v3674 ((impl_opposite x3475).bind fun (v3675 : Int) => (R0 x3642 v3675 x3476 x3643).bind fun (v3676 : Bool × (List Int)) => cond (!(v3676.1)) (some (Sum.inr (Sum.inl (false, (v3676.2))))) (some (Sum.inl ((IntKind.wrap .i64 (x3642 + 1)), (v3676.2))))) (some (Sum.inl ((IntKind.wrap .i64 (x3642 + 1)), x3643)))) (some (Sum.inr (Sum.inr x3643)))

def impl_drawing_draw_n4 (R0 : Int → Int → (List (Int × Int × Unit)) → (List Int) → Option (Bool × (List Int))) (x3474 : Int) (x3475 : Int) (x3476 : List (Int × Int × Unit)) (x3601 : Int) (x3600 : List Int) : Option ((Bool × (List Int)) ⊕ ((List Int))) :=
  nloop (fun (s : Int × (List Int)) => ((impl_drawing_draw_n3 R0 x3474 x3475 x3476 x3601 s.1 s.2).map (Sum.elim (fun (t : Int × (List Int)) => Sum.inl (t.1, t.2)) (Sum.elim (fun (t : Bool × (List Int)) => Sum.inr (Sum.inl t)) (fun (t : (List Int)) => Sum.inr (Sum.inr t)))) : Option ((Int × (List Int)) ⊕ ((Bool × (List Int)) ⊕ ((List Int)))))) LL (0, x3600)

def impl_drawing_draw_n5 (R0 : Int → Int → (List (Int × Int × Unit)) → (List Int) → Option (Bool × (List Int))) (x3474 : Int) (x3475 : Int) (x3476 : List (Int × Int × Unit)) (x3601 : Int) (x3600 : List Int) : Option (((List Int)) ⊕ (Bool × (List Int))) :=
  (impl_drawing_draw_n4 R0 x3474 x3475 x3476 x3601 x3600).map (Sum.elim (fun (t : Bool × (List Int)) => (Sum.inr t)) (fun (t : (List Int)) => (Sum.inl t)))

def impl_drawing_draw_n6 (R0 : Int → Int → (List (Int × Int × Unit)) → (List Int) → Option (Bool × (List Int))) (x3474 : Int) (x3475 : Int) (x3476 : List (Int × Int × Unit)) (x3600 : List Int) : Option (((List Int)) ⊕ (Bool × (List Int))) :=
  (impl_drawing_draw_n2 R0 x3476).bind (fun (t : Int) => impl_drawing_draw_n5 R0 x3474 x3475 x3476 t x3600)

def impl_drawing_draw_n7 (R0 : Int → Int → (List (Int × Int × Unit)) → (List Int) → Option (Bool × (List Int))) (x3643 : List Int) : Option ((Bool × (List Int))) :=
  some (true, x3643)

def impl_drawing_draw_n8 (R0 : Int → Int → (List (Int × Int × Unit)) → (List Int) → Option (Bool × (List Int))) (x3474 : Int) (x3475 : Int) (x3476 : List (Int × Int × Unit)) (x3600 : List Int) : Option ((Bool × (List Int))) :=
  (impl_drawing_draw_n6 R0 x3474 x3475 x3476 x3600).bind (Sum.elim (fun (t : (List Int)) => impl_drawing_draw_n7 R0 t) (fun e => some ((fun (t : Bool × (List Int)) => t) e)))

def impl_drawing_draw_n9 (R0 : Int → Int → (List (Int × Int × Unit)) → (List Int) → Option (Bool × (List Int))) (x3474 : Int) (x3475 : Int) (x3476 : List (Int × Int × Unit)) (x3477 : List Int) : Option ((Bool × (List Int))) :=
  (impl_drawing_draw_n1 R0 x3474 x3475 x3477).bind (Sum.elim (fun (t : (List Int)) => impl_drawing_draw_n8 R0 x3474 x3475 x3476 t) (fun e => some ((fun (t : Bool × (List Int)) => t) e)))

def impl_drawing_draw_one (R0 : Int → Int → (List (Int × Int × Unit)) → (List Int) → Option (Bool × (List Int))) (x3474 : Int) (x3475 : Int) (x3476 : List (Int × Int × Unit)) (x3477 : List Int) : Option (Bool × (List Int)) :=
  impl_drawing_draw_n9 R0 x3474 x3475 x3476 x3477

def impl_drawing_draw_knot : Nat → (Int → Int → (List (Int × Int × Unit)) → (List Int) → Option (Bool × (List Int)))
  | 0 => (fun _ _ _ _ => none)
  | n + 1 => (fun y0 y1 y2 y3 => impl_drawing_draw_one (impl_drawing_draw_knot n) y0 y1 y2 y3)

def impl_drawing_draw_fuel (n : Nat) : Int → Int → (List (Int × Int × Unit)) → (List Int) → Option (Bool × (List Int)) := (impl_drawing_draw_knot n)

@[irreducible] def impl_drawing_draw (x3474 : Int) (x3475 : Int) (x3476 : List (Int × Int × Unit)) (x3477 : List Int) : Option (Bool × (List Int)) := impl_drawing_draw_fuel RR x3474 x3475 x3476 x3477

def impl_drawing_drawAll_n1 : Option (Unit) :=
  some ()

def impl_drawing_drawAll_n2 (x3465 : List (Int × Int × Unit)) : Option (Int) :=
  some (((List.length x3465 : Nat) : Int))

def impl_drawing_drawAll_n3 (x3467 : Int) (x3702 : Int) (x3465 : List (Int × Int × Unit)) (x3703 : List Int) : Option ((Int × (List Int)) ⊕ (Bool × (List Int)) ⊕ ((List Int))) :=
  cond (decide (x3702 < x3467)) ((inb x3702 (List.length x3703)).bind fun (v3715 : Nat) => (x3703[v3715]?).bind fun (v3716 : Int) => cond (v3716 == (-1)) ((impl_drawing_draw x3702 0 x3465 x3703).bind fun (v3718 : Bool × (List Int)) => cond (!(v3718.1)) (some (Sum.inr (Sum.inl (false, (v3718.2))))) (some (Sum.inl ((IntKind.wrap .i64 (x3702 + 1)), (v3718.2))))) (some (Sum.inl ((IntKind.wrap .i64 (x3702 + 1)), x3703)))) (some (Sum.inr (Sum.inr x3703)))

def impl_drawing_drawAll_n4 (x3467 : Int) (x3465 : List (Int × Int × Unit)) (x3466 : List Int) : Option ((Bool × (List Int)) ⊕ ((List Int))) :=
  nloop (fun (s : Int × (List Int)) => ((impl_drawing_drawAll_n3 x3467 s.1 x3465 s.2).map (Sum.elim (fun (t : Int × (List Int)) => Sum.inl (t.1, t.2)) (Sum.elim (fun (t : Bool × (List Int)) => Sum.inr (Sum.inl t)) (fun (t : (List Int)) => Sum.inr (Sum.inr t)))) : Option ((Int × (List Int)) ⊕ ((Bool × (List Int)) ⊕ ((List Int)))))) LL (0, x3466)

def impl_drawing_drawAll_n5 (x3467 : Int) (x3465 : List (Int × Int × Unit)) (x3466 : List Int) : Option (((List Int)) ⊕ (Bool × (List Int))) :=
  (impl_drawing_drawAll_n4 x3467 x3465 x3466).map (Sum.elim (fun (t : Bool × (List Int)) => (Sum.inr t)) (fun (t : (List Int)) => (Sum.inl t)))

def impl_drawing_drawAll_n6 (x3465 : List (Int × Int × Unit)) (x3466 : List Int) : Option (((List Int)) ⊕ (Bool × (List Int))) :=
  (impl_drawing_drawAll_n2 x3465).bind (fun (t : Int) => impl_drawing_drawAll_n5 t x3465 x3466)

def impl_drawing_drawAll_n7 (x3703 : List Int) : Option ((Bool × (List Int))) :=
  some (true, x3703)

def impl_drawing_drawAll_n8 (x3465 : List (Int × Int × Unit)) (x3466 : List Int) : Option ((Bool × (List Int))) :=
  (impl_drawing_drawAll_n6 x3465 x3466).bind (Sum.elim (fun (t : (List Int)) => impl_drawing_drawAll_n7 t) (fun e => some ((fun (t : Bool × (List Int)) => t) e)))

def impl_drawing_drawAll_n9 (x3465 : List (Int × Int × Unit)) (x3466 : List Int) : Option ((Bool × (List Int))) :=
  (impl_drawing_drawAll_n1).bind (fun (t : Unit) => impl_drawing_drawAll_n8 x3465 x3466)

@[irreducible] def impl_drawing_drawAll (x3465 : List (Int × Int × Unit)) (x3466 : List Int) : Option (Bool × (List Int)) :=
  impl_drawing_drawAll_n9 x3465 x3466

def impl_SidesFor_n1 (x3276 : List Int) : Option ((Bool × (List Int))) :=
  (impl_TreeOk x3276).bind fun (v3740 : Bool) => cond (!v3740) (some (false, ([] : List Int))) ((impl_arcsOf x3276).bind fun (v3742 : List (Int × Int × Unit)) => (impl_newDrawing v3742).bind fun (v3743 : List Int) => (impl_drawing_drawAll v3742 v3743).bind fun (v3744 : Bool × (List Int)) => cond (!(v3744.1)) (some (false, ([] : List Int))) (some (true, (v3744.2))))

@[irreducible] def impl_SidesFor (x3276 : List Int) : Option (Bool × (List Int)) :=
  impl_SidesFor_n1 x3276

def spec_l3Arcs_n1 : Option (Unit) :=
  some ()

def spec_l3Arcs_n2 : Option (Unit) :=
  some ()

def spec_l3Arcs_n3 (x3764 : List Int) (x3815 : Int) (x3816 : List (List Int)) : Option ((Int × (List (List Int))) ⊕ ((List (List Int)))) :=
  cond (decide (x3815 < (((List.length x3764 : Nat) : Int)))) ((idx x3764 x3815).bind fun (v3836 : Int) => cond (decide (v3836 > 0)) ((idx x3764 x3815).bind fun (v3839 : Int) => (idx x3764 x3815).bind fun (v3842 : Int) => (room ((List.length x3816) + List.length ([([(imin (IntKind.wrap .i64 (x3815 + 1)) v3839), (imax (IntKind.wrap .i64 (x3815 + 1)) v3842)])]))).bind fun (v3847 : Unit) => some (Sum.inl ((IntKind.wrap .i64 (x3815 + 1)), (x3816 ++ ([([(imin (IntKind.wrap .i64 (x3815 + 1)) v3839), (imax (IntKind.wrap .i64 (x3815 + 1)) v3842)])]))))) (some (Sum.inl ((IntKind.wrap .i64 (x3815 + 1)), x3816)))) (some (Sum.inr x3816))

def spec_l3Arcs_n4 (x3764 : List Int) : Option (((List (List Int)))) :=
  nloop (fun (s : Int × (List (List Int))) => ((spec_l3Arcs_n3 x3764 s.1 s.2).map (Sum.elim (fun (t : Int × (List (List Int))) => Sum.inl (t.1, t.2)) (fun (t : (List (List Int))) => Sum.inr t)) : Option ((Int × (List (List Int))) ⊕ (((List (List Int))))))) LL (0, ([] : List (List Int)))

def spec_l3Arcs_n5 (x3764 : List Int) : Option (((List (List Int)))) :=
  (spec_l3Arcs_n4 x3764).map (fun (t : (List (List Int))) => t)

def spec_l3Arcs_n6 (x3764 : List Int) : Option (((List (List Int)))) :=
  (spec_l3Arcs_n2).bind (fun (t : Unit) => spec_l3Arcs_n5 x3764)

def spec_l3Arcs_n7 (x3816 : List (List Int)) : Option (((List (List Int)))) :=
  some x3816

def spec_l3Arcs_n8 (x3764 : List Int) : Option (((List (List Int)))) :=
  (spec_l3Arcs_n6 x3764).bind (fun (t : (List (List Int))) => spec_l3Arcs_n7 t)

def spec_l3Arcs_n9 (x3764 : List Int) : Option (((List (List Int)))) :=
  (spec_l3Arcs_n1).bind (fun (t : Unit) => spec_l3Arcs_n8 x3764)

@[irreducible] def spec_l3Arcs (x3764 : List Int) : Option ((List (List Int))) :=
  spec_l3Arcs_n9 x3764

def spec_CrossOk_n1 (x3929 : Int) (x3930 : Int) (x3931 : Int) (x3932 : Int) : Option ((Int × Int × Int × Int) ⊕ Bool) :=
  cond (decide (x3929 < 1)) (some (Sum.inr false)) (cond (decide (x3930 < 1)) (some (Sum.inr false)) (cond (decide (x3931 < 1)) (some (Sum.inr false)) (cond (decide (x3932 < 1)) (some (Sum.inr false)) (cond (x3929 == x3930) (some (Sum.inr false)) (cond (x3931 == x3932) (some (Sum.inr false)) (some (Sum.inl ((imin x3929 x3930), (imax x3929 x3930), (imin x3931 x3932), (imax x3931 x3932)))))))))

def spec_CrossOk_n2 (x3969 : Int) (x3970 : Int) (x3971 : Int) (x3972 : Int) : Option (Bool) :=
  cond (decide (x3969 < x3971)) (cond (decide (x3971 < x3970)) (cond (decide (x3970 < x3972)) (some true) (cond (decide (x3971 < x3969)) (cond (decide (x3969 < x3972)) (some (decide (x3972 < x3970))) (some false)) (some false))) (cond (decide (x3971 < x3969)) (cond (decide (x3969 < x3972)) (some (decide (x3972 < x3970))) (some false)) (some false))) (cond (decide (x3971 < x3969)) (cond (decide (x3969 < x3972)) (some (decide (x3972 < x3970))) (some false)) (some false))

def spec_CrossOk_n3 (x3929 : Int) (x3930 : Int) (x3931 : Int) (x3932 : Int) : Option (Bool) :=
  (spec_CrossOk_n1 x3929 x3930 x3931 x3932).bind (Sum.elim (fun (t : Int × Int × Int × Int) => spec_CrossOk_n2 t.1 t.2.1 t.2.2.1 t.2.2.2) (fun e => some ((fun (t : Bool) => t) e)))

@[irreducible] def spec_CrossOk (x3929 : Int) (x3930 : Int) (x3931 : Int) (x3932 : Int) : Option (Bool) :=
  spec_CrossOk_n3 x3929 x3930 x3931 x3932

def spec_l11Sides_n1 : Option (Unit) :=
  some ()

def spec_l11Sides_n2 : Option (Unit) :=
  some ()

def spec_l11Sides_n3 (x3854 : List (List Int)) (x4291 : Int) (x4292 : List Int) : Option ((Int × (List Int)) ⊕ ((List Int))) :=
  cond (decide (x4291 < (((List.length x3854 : Nat) : Int)))) ((room ((List.length x4292) + List.length ([(-1)]))).bind fun (v4305 : Unit) => some (Sum.inl ((IntKind.wrap .i64 (x4291 + 1)), (x4292 ++ ([(-1)]))))) (some (Sum.inr x4292))

def spec_l11Sides_n4 (x3854 : List (List Int)) : Option (((List Int))) :=
  nloop (fun (s : Int × (List Int)) => ((spec_l11Sides_n3 x3854 s.1 s.2).map (Sum.elim (fun (t : Int × (List Int)) => Sum.inl (t.1, t.2)) (fun (t : (List Int)) => Sum.inr t)) : Option ((Int × (List Int)) ⊕ (((List Int)))))) LL (0, ([] : List Int))

def spec_l11Sides_n5 (x3854 : List (List Int)) : Option (((List Int))) :=
  (spec_l11Sides_n4 x3854).map (fun (t : (List Int)) => t)

def spec_l11Sides_n6 (x3854 : List (List Int)) : Option (((List Int))) :=
  (spec_l11Sides_n2).bind (fun (t : Unit) => spec_l11Sides_n5 x3854)

def spec_l11Sides_n7 : Option (Unit) :=
  some ()

def spec_l11Sides_n8 (x3854 : List (List Int)) (x4651 : Int) (x4652 : List Int) : Option (Unit ⊕ ((List Int))) :=
  cond (decide (x4651 < (((List.length x3854 : Nat) : Int)))) (some (Sum.inl ())) (some (Sum.inr x4652))

def spec_l11Sides_n9 (x4651 : Int) (x4652 : List Int) : Option ((Nat × (List Int) × (List Int)) ⊕ Unit) :=
  (inb x4651 (List.length x4652)).bind fun (v4663 : Nat) => (x4652[v4663]?).bind fun (v4664 : Int) => cond (decide (v4664 ≥ 0)) (some (Sum.inr ())) ((inb x4651 (List.length x4652)).bind fun (v4666 : Nat) => some (Sum.inl ((List.length ([x4651])), (x4652.set v4666 0), ([x4651]))))

def spec_l11Sides_n10 (x4831 : Nat) (x4832 : List Int) : Option (Unit ⊕ ((List Int))) :=
  cond (decide ((((x4831 : Nat) : Int)) > 0)) (some (Sum.inl ())) (some (Sum.inr x4832))

def spec_l11Sides_n11 (x4830 : Nat) (x4831 : Nat) (x4833 : List Int) : Option ((Nat × Nat × Int)) :=
  (inb 0 x4831).bind fun (v4845 : Nat) => (x4833[(x4830 + v4845)]?).bind fun (v4847 : Int) => (inc 1 x4831).bind fun (v4848 : Nat) => some ((x4830 + v4848), (x4831 - v4848), v4847)

def spec_l11Sides_n12 (x3854 : List (List Int)) (x4920 : Nat) (x4921 : Nat) (x4847 : Int) (x4922 : Int) (x4923 : List Int) (x4924 : List Int) : Option ((Nat × Nat × Int × (List Int) × (List Int)) ⊕ (Bool × (List Int)) ⊕ (Nat × Nat × (List Int) × (List Int))) :=
  cond (decide (x4922 < (((List.length x3854 : Nat) : Int)))) ((idx x3854 x4847).bind fun (v4958 : List Int) => (idx v4958 0).bind fun (v4959 : Int) => (idx x3854 x4847).bind fun (v4960 : List Int) => (idx v4960 1).bind fun (v4961 : Int) => (idx x3854 x4922).bind fun (v4962 : List Int) => (idx v4962 0).bind fun (v4963 : Int) => (idx x3854 x4922).bind fun (v4964 : List Int) => (idx v4964 1).bind fun (v4965 : Int) => (spec_CrossOk v4959 v4961 v4963 v4965).bind fun (v4966 : Bool) => cond (!v4966) (some (Sum.inl (x4920, x4921, (IntKind.wrap .i64 (x4922 + 1)), x4923, x4924))) ((inb x4922 (List.length x4923)).bind fun (v4969 : Nat) => (x4923[v4969]?).bind fun (v4970 : Int) => (inb x4847 (List.length x4923)).bind fun (v4971 : Nat) => (x4923[v4971]?).bind fun (v4972 : Int) => cond (v4970 == v4972) (some (Sum.inr (Sum.inl (false, ([] : List Int))))) ((inb x4922 (List.length x4923)).bind fun (v4974 : Nat) => (x4923[v4974]?).bind fun (v4975 : Int) => cond (decide (v4975 < 0)) ((inb x4847 (List.length x4923)).bind fun (v4977 : Nat) => (x4923[v4977]?).bind fun (v4978 : Int) => (inb x4922 (List.length x4923)).bind fun (v4980 : Nat) => (room (x4921 + List.length ([x4922]))).bind fun (v4984 : Unit) => some (Sum.inl (0, (List.length (((x4924.drop x4920).take x4921) ++ ([x4922]))), (IntKind.wrap .i64 (x4922 + 1)), (x4923.set v4980 (IntKind.wrap .i64 (1 - v4978))), (((x4924.drop x4920).take x4921) ++ ([x4922]))))) (some (Sum.inl (x4920, x4921, (IntKind.wrap .i64 (x4922 + 1)), x4923, x4924)))))) (some (Sum.inr (Sum.inr (x4920, x4921, x4923, x4924))))

def spec_l11Sides_n13 (x3854 : List (List Int)) (x4849 : Nat) (x4850 : Nat) (x4847 : Int) (x4832 : List Int) (x4833 : List Int) : Option ((Bool × (List Int)) ⊕ (Nat × Nat × (List Int) × (List Int))) :=
  nloop (fun (s : Nat × Nat × Int × (List Int) × (List Int)) => ((spec_l11Sides_n12 x3854 s.1 s.2.1 x4847 s.2.2.1 s.2.2.2.1 s.2.2.2.2).map (Sum.elim (fun (t : Nat × Nat × Int × (List Int) × (List Int)) => Sum.inl (t.1, t.2.1, t.2.2.1, t.2.2.2.1, t.2.2.2.2)) (Sum.elim (fun (t : Bool × (List Int)) => Sum.inr (Sum.inl t)) (fun (t : Nat × Nat × (List Int) × (List Int)) => Sum.inr (Sum.inr t)))) : Option ((Nat × Nat × Int × (List Int) × (List Int)) ⊕ ((Bool × (List Int)) ⊕ (Nat × Nat × (List Int) × (List Int)))))) LL (x4849, x4850, 0, x4832, x4833)

def spec_l11Sides_n14 (x3854 : List (List Int)) (x4849 : Nat) (x4850 : Nat) (x4847 : Int) (x4832 : List Int) (x4833 : List Int) : Option ((Nat × Nat × (List Int) × (List Int)) ⊕ (Bool × (List Int))) :=
  (spec_l11Sides_n13 x3854 x4849 x4850 x4847 x4832 x4833).map (Sum.elim (fun (t : Bool × (List Int)) => (Sum.inr t)) (fun (t : Nat × Nat × (List Int) × (List Int)) => (Sum.inl (t.1, t.2.1, t.2.2.1, t.2.2.2))))

def spec_l11Sides_n15 (x3854 : List (List Int)) (x4830 : Nat) (x4831 : Nat) (x4832 : List Int) (x4833 : List Int) : Option ((Nat × Nat × (List Int) × (List Int)) ⊕ (Bool × (List Int))) :=
  (spec_l11Sides_n11 x4830 x4831 x4833).bind (fun (t : Nat × Nat × Int) => spec_l11Sides_n14 x3854 t.1 t.2.1 t.2.2 x4832 x4833)

def spec_l11Sides_n16 (x3854 : List (List Int)) (x4830 : Nat) (x4831 : Nat) (x4832 : List Int) (x4833 : List Int) : Option ((Nat × Nat × (List Int) × (List Int)) ⊕ (Bool × (List Int))) :=
  (spec_l11Sides_n15 x3854 x4830 x4831 x4832 x4833).map (Sum.elim (fun (t : Nat × Nat × (List Int) × (List Int)) => (Sum.inl (t.1, t.2.1, t.2.2.1, t.2.2.2))) (fun (t : Bool × (List Int)) => (Sum.inr t)))

def spec_l11Sides_n17 (x3854 : List (List Int)) (x4830 : Nat) (x4831 : Nat) (x4832 : List Int) (x4833 : List Int) : Option ((Nat × Nat × (List Int) × (List Int)) ⊕ (Bool × (List Int)) ⊕ ((List Int))) :=
  (spec_l11Sides_n10 x4831 x4832).bind (Sum.elim (fun (t : Unit) => (spec_l11Sides_n16 x3854 x4830 x4831 x4832 x4833).map (Sum.elim (fun (t : Nat × Nat × (List Int) × (List Int)) => (Sum.inl (t.1, t.2.1, t.2.2.1, t.2.2.2))) (fun (t : Bool × (List Int)) => (Sum.inr (Sum.inl t))))) (fun e => some ((fun (t : (List Int)) => (Sum.inr (Sum.inr t))) e)))

def spec_l11Sides_n18 (x3854 : List (List Int)) (x4669 : Nat) (x4667 : List Int) (x4668 : List Int) : Option ((Bool × (List Int)) ⊕ ((List Int))) :=
  nloop (fun (s : Nat × Nat × (List Int) × (List Int)) => ((spec_l11Sides_n17 x3854 s.1 s.2.1 s.2.2.1 s.2.2.2).map (Sum.elim (fun (t : Nat × Nat × (List Int) × (List Int)) => Sum.inl (t.1, t.2.1, t.2.2.1, t.2.2.2)) (Sum.elim (fun (t : Bool × (List Int)) => Sum.inr (Sum.inl t)) (fun (t : (List Int)) => Sum.inr (Sum.inr t)))) : Option ((Nat × Nat × (List Int) × (List Int)) ⊕ ((Bool × (List Int)) ⊕ ((List Int)))))) LL (0, x4669, x4667, x4668)

def spec_l11Sides_n19 (x3854 : List (List Int)) (x4669 : Nat) (x4667 : List Int) (x4668 : List Int) : Option (((List Int)) ⊕ (Bool × (List Int))) :=
  (spec_l11Sides_n18 x3854 x4669 x4667 x4668).map (Sum.elim (fun (t : Bool × (List Int)) => (Sum.inr t)) (fun (t : (List Int)) => (Sum.inl t)))

def spec_l11Sides_n20 (x3854 : List (List Int)) (x4651 : Int) (x4652 : List Int) : Option (((List Int)) ⊕ (Bool × (List Int)) ⊕ Unit) :=
  (spec_l11Sides_n9 x4651 x4652).bind (Sum.elim (fun (t : Nat × (List Int) × (List Int)) => (spec_l11Sides_n19 x3854 t.1 t.2.1 t.2.2).map (Sum.elim (fun (u : (List Int)) => (Sum.inl u)) (fun (u : Bool × (List Int)) => (Sum.inr (Sum.inl u))))) (fun e => some ((fun (t : Unit) => (Sum.inr (Sum.inr t))) e)))

def spec_l11Sides_n21 (x3854 : List (List Int)) (x4651 : Int) (x4652 : List Int) : Option (((List Int)) ⊕ (Bool × (List Int))) :=
  (spec_l11Sides_n20 x3854 x4651 x4652).map (Sum.elim (fun (t : (List Int)) => (Sum.inl t)) (Sum.elim (fun (t : Bool × (List Int)) => (Sum.inr t)) (fun (t : Unit) => (Sum.inl x4652))))

def spec_l11Sides_n22 (x4651 : Int) : Option (Int) :=
  some (IntKind.wrap .i64 (x4651 + 1))

def spec_l11Sides_n23 (x3854 : List (List Int)) (x4651 : Int) (x4652 : List Int) : Option ((Int × (List Int)) ⊕ (Bool × (List Int))) :=
  (spec_l11Sides_n21 x3854 x4651 x4652).bind (Sum.elim (fun (t : (List Int)) => (spec_l11Sides_n22 x4651).map (fun (u : Int) => (Sum.inl (u, t)))) (fun e => some ((fun (t : Bool × (List Int)) => (Sum.inr t)) e)))

def spec_l11Sides_n24 (x3854 : List (List Int)) (x4651 : Int) (x4652 : List Int) : Option ((Int × (List Int)) ⊕ (Bool × (List Int)) ⊕ ((List Int))) :=
  (spec_l11Sides_n8 x3854 x4651 x4652).bind (Sum.elim (fun (t : Unit) => (spec_l11Sides_n23 x3854 x4651 x4652).map (Sum.elim (fun (t : Int × (List Int)) => (Sum.inl (t.1, t.2))) (fun (t : Bool × (List Int)) => (Sum.inr (Sum.inl t))))) (fun e => some ((fun (t : (List Int)) => (Sum.inr (Sum.inr t))) e)))

def spec_l11Sides_n25 (x3854 : List (List Int)) (x4292 : List Int) : Option ((Bool × (List Int)) ⊕ ((List Int))) :=
  nloop (fun (s : Int × (List Int)) => ((spec_l11Sides_n24 x3854 s.1 s.2).map (Sum.elim (fun (t : Int × (List Int)) => Sum.inl (t.1, t.2)) (Sum.elim (fun (t : Bool × (List Int)) => Sum.inr (Sum.inl t)) (fun (t : (List Int)) => Sum.inr (Sum.inr t)))) : Option ((Int × (List Int)) ⊕ ((Bool × (List Int)) ⊕ ((List Int)))))) LL (0, x4292)

def spec_l11Sides_n26 (x3854 : List (List Int)) (x4292 : List Int) : Option (((List Int)) ⊕ (Bool × (List Int))) :=
  (spec_l11Sides_n25 x3854 x4292).map (Sum.elim (fun (t : Bool × (List Int)) => (Sum.inr t)) (fun (t : (List Int)) => (Sum.inl t)))

def spec_l11Sides_n27 (x3854 : List (List Int)) (x4292 : List Int) : Option (((List Int)) ⊕ (Bool × (List Int))) :=
  (spec_l11Sides_n7).bind (fun (t : Unit) => spec_l11Sides_n26 x3854 x4292)

def spec_l11Sides_n28 (x4652 : List Int) : Option ((Bool × (List Int))) :=
  some (true, x4652)

def spec_l11Sides_n29 (x3854 : List (List Int)) (x4292 : List Int) : Option ((Bool × (List Int))) :=
  (spec_l11Sides_n27 x3854 x4292).bind (Sum.elim (fun (t : (List Int)) => spec_l11Sides_n28 t) (fun e => some ((fun (t : Bool × (List Int)) => t) e)))

def spec_l11Sides_n30 (x3854 : List (List Int)) : Option ((Bool × (List Int))) :=
  (spec_l11Sides_n6 x3854).bind (fun (t : (List Int)) => spec_l11Sides_n29 x3854 t)

def spec_l11Sides_n31 (x3854 : List (List Int)) : Option ((Bool × (List Int))) :=
  (spec_l11Sides_n1).bind (fun (t : Unit) => spec_l11Sides_n30 x3854)

@[irreducible] def spec_l11Sides (x3854 : List (List Int)) : Option (Bool × (List Int)) :=
  spec_l11Sides_n31 x3854

def spec_SidesFor_n1 (x3759 : List Int) : Option ((Bool × (List Int))) :=
  (spec_TreeOk x3759).bind fun (v5001 : Bool) => cond (!v5001) (some (false, ([] : List Int))) ((spec_l3Arcs x3759).bind fun (v5003 : List (List Int)) => (spec_l11Sides v5003).bind fun (v5004 : Bool × (List Int)) => some ((v5004.1), (v5004.2)))

@[irreducible] def spec_SidesFor (x3759 : List Int) : Option (Bool × (List Int)) :=
  spec_SidesFor_n1 x3759

def impl_CrossOk_n1 (x5119 : Int) (x5120 : Int) (x5121 : Int) (x5122 : Int) : Option (Bool) :=
  (impl_arcBetween x5119 x5120).bind fun (v5144 : Bool × Int × Int) => (impl_arcBetween x5121 x5122).bind fun (v5148 : Bool × Int × Int) => cond (v5144.1) (cond (v5148.1) ((impl_arc_crosses (v5144.2.1) (v5144.2.2) (v5148.2.1) (v5148.2.2)).bind fun (v5152 : Bool) => some v5152) (some false)) (some false)

@[irreducible] def impl_CrossOk (x5119 : Int) (x5120 : Int) (x5121 : Int) (x5122 : Int) : Option (Bool) :=
  impl_CrossOk_n1 x5119 x5120 x5121 x5122

def laws_FnSidesFor_n1 (x3258 : List Int) : Option (((List Int) × (List Int)) ⊕ Bool) :=
  cond (decide ((((List.length x3258 : Nat) : Int)) > 1048576)) (some (Sum.inr true)) ((spec_DrawSidesFor x3258).bind fun (v5072 : List Int) => (impl_SidesFor v5072).bind fun (v5073 : Bool × (List Int)) => (spec_SidesFor v5072).bind fun (v5076 : Bool × (List Int)) => (laws_sameInts (v5073.2) (v5076.2)).bind fun (v5079 : Bool) => cond (!v5079) (some (Sum.inr false)) (cond ((v5073.1) != (v5076.1)) (some (Sum.inr false)) (cond (!(v5073.1)) (cond ((((List.length (v5073.2) : Nat) : Int)) == 0) ((impl_TreeOk v5072).bind fun (v5085 : Bool) => cond (!v5085) ((laws_alive).bind fun (v5087 : Bool) => some (Sum.inr v5087)) ((impl_CrossingsOf v5072).bind fun (v5088 : Int) => cond (decide (v5088 > 2)) ((laws_alive).bind fun (v5090 : Bool) => some (Sum.inr v5090)) (some (Sum.inr false)))) (some (Sum.inr false))) (cond ((((List.length (v5073.2) : Nat) : Int)) != (IntKind.wrap .i64 ((((List.length v5072 : Nat) : Int)) - 1))) (some (Sum.inr false)) (some (Sum.inl (v5072, (v5073.2))))))))

def laws_FnSidesFor_n2 : Option (Unit) :=
  some ()

def laws_FnSidesFor_n3 (x5252 : Int) (x5072 : List Int) : Option (Unit ⊕ Unit) :=
  cond (decide (x5252 < (((List.length x5072 : Nat) : Int)))) (some (Sum.inl ())) (some (Sum.inr ()))

def laws_FnSidesFor_n4 (x5252 : Int) (x5072 : List Int) : Option (Unit ⊕ Unit) :=
  (inb x5252 (List.length x5072)).bind fun (v5258 : Nat) => (x5072[v5258]?).bind fun (v5259 : Int) => cond (v5259 == 0) (some (Sum.inr ())) (some (Sum.inl ()))

def laws_FnSidesFor_n5 : Option (Unit) :=
  some ()

def laws_FnSidesFor_n6 (x5251 : Int) (x5252 : Int) (x5303 : Int) (x5304 : Int) (x5072 : List Int) (x5075 : List Int) : Option ((Int × Int) ⊕ Bool ⊕ Unit) :=
  cond (decide (x5304 < x5252)) ((inb x5304 (List.length x5072)).bind fun (v5325 : Nat) => (x5072[v5325]?).bind fun (v5326 : Int) => cond (v5326 == 0) (some (Sum.inl (x5303, (IntKind.wrap .i64 (x5304 + 1))))) ((inb x5251 (List.length x5075)).bind fun (v5329 : Nat) => (x5075[v5329]?).bind fun (v5330 : Int) => (inb x5303 (List.length x5075)).bind fun (v5331 : Nat) => (x5075[v5331]?).bind fun (v5332 : Int) => cond (v5330 == v5332) ((inb x5304 (List.length x5072)).bind fun (v5335 : Nat) => (x5072[v5335]?).bind fun (v5336 : Int) => (inb x5252 (List.length x5072)).bind fun (v5338 : Nat) => (x5072[v5338]?).bind fun (v5339 : Int) => (impl_CrossOk (IntKind.wrap .i64 (x5304 + 1)) v5336 (IntKind.wrap .i64 (x5252 + 1)) v5339).bind fun (v5340 : Bool) => cond v5340 (some (Sum.inr (Sum.inl false))) (some (Sum.inl ((IntKind.wrap .i64 (x5303 + 1)), (IntKind.wrap .i64 (x5304 + 1)))))) (some (Sum.inl ((IntKind.wrap .i64 (x5303 + 1)), (IntKind.wrap .i64 (x5304 + 1))))))) (some (Sum.inr (Sum.inr ())))

def laws_FnSidesFor_n7 (x5251 : Int) (x5252 : Int) (x5072 : List Int) (x5075 : List Int) : Option (Bool ⊕ Unit) :=
  nloop (fun (s : Int × Int) => ((laws_FnSidesFor_n6 x5251 x5252 s.1 s.2 x5072 x5075).map (Sum.elim (fun (t : Int × Int) => Sum.inl (t.1, t.2)) (Sum.elim (fun (t : Bool) => Sum.inr (Sum.inl t)) (fun (t : Unit) => Sum.inr (Sum.inr t)))) : Option ((Int × Int) ⊕ (Bool ⊕ Unit)))) LL (0, 0)

def laws_FnSidesFor_n8 (x5251 : Int) (x5252 : Int) (x5072 : List Int) (x5075 : List Int) : Option (Unit ⊕ Bool) :=
  (laws_FnSidesFor_n7 x5251 x5252 x5072 x5075).map (Sum.elim (fun (t : Bool) => (Sum.inr t)) (fun (t : Unit) => (Sum.inl ())))

def laws_FnSidesFor_n9 (x5251 : Int) (x5252 : Int) (x5072 : List Int) (x5075 : List Int) : Option (Unit ⊕ Bool) :=
  (laws_FnSidesFor_n5).bind (fun (t : Unit) => laws_FnSidesFor_n8 x5251 x5252 x5072 x5075)

def laws_FnSidesFor_n10 (x5251 : Int) (x5072 : List Int) (x5075 : List Int) : Option (Int ⊕ Bool) :=
  (inb x5251 (List.length x5075)).bind fun (v5358 : Nat) => (x5075[v5358]?).bind fun (v5359 : Int) => cond (decide (v5359 < 0)) (some (Sum.inr false)) ((inb x5251 (List.length x5075)).bind fun (v5361 : Nat) => (x5075[v5361]?).bind fun (v5362 : Int) => cond (decide (v5362 > 1)) (some (Sum.inr false)) ((impl_CrossingsOf x5072).bind fun (v5364 : Int) => cond (v5364 == 0) ((inb x5251 (List.length x5075)).bind fun (v5366 : Nat) => (x5075[v5366]?).bind fun (v5367 : Int) => cond (v5367 != 0) (some (Sum.inr false)) (some (Sum.inl (IntKind.wrap .i64 (x5251 + 1))))) (some (Sum.inl (IntKind.wrap .i64 (x5251 + 1))))))

def laws_FnSidesFor_n11 (x5251 : Int) (x5252 : Int) (x5072 : List Int) (x5075 : List Int) : Option (Int ⊕ Bool) :=
  (laws_FnSidesFor_n9 x5251 x5252 x5072 x5075).bind (Sum.elim (fun (t : Unit) => laws_FnSidesFor_n10 x5251 x5072 x5075) (fun e => some ((fun (t : Bool) => (Sum.inr t)) e)))

def laws_FnSidesFor_n12 (x5251 : Int) (x5252 : Int) (x5072 : List Int) (x5075 : List Int) : Option (Int ⊕ Bool ⊕ Unit) :=
  (laws_FnSidesFor_n4 x5252 x5072).bind (Sum.elim (fun (t : Unit) => (laws_FnSidesFor_n11 x5251 x5252 x5072 x5075).map (Sum.elim (fun (t : Int) => (Sum.inl t)) (fun (t : Bool) => (Sum.inr (Sum.inl t))))) (fun e => some ((fun (t : Unit) => (Sum.inr (Sum.inr t))) e)))

def laws_FnSidesFor_n13 (x5251 : Int) (x5252 : Int) (x5072 : List Int) (x5075 : List Int) : Option (Int ⊕ Bool) :=
  (laws_FnSidesFor_n12 x5251 x5252 x5072 x5075).map (Sum.elim (fun (t : Int) => (Sum.inl t)) (Sum.elim (fun (t : Bool) => (Sum.inr t)) (fun (t : Unit) => (Sum.inl x5251))))

def laws_FnSidesFor_n14 (x5252 : Int) : Option (Int) :=
  some (IntKind.wrap .i64 (x5252 + 1))

def laws_FnSidesFor_n15 (x5251 : Int) (x5252 : Int) (x5072 : List Int) (x5075 : List Int) : Option ((Int × Int) ⊕ Bool) :=
  (laws_FnSidesFor_n13 x5251 x5252 x5072 x5075).bind (Sum.elim (fun (t : Int) => (laws_FnSidesFor_n14 x5252).map (fun (u : Int) => (Sum.inl (t, u)))) (fun e => some ((fun (t : Bool) => (Sum.inr t)) e)))

def laws_FnSidesFor_n16 (x5251 : Int) (x5252 : Int) (x5072 : List Int) (x5075 : List Int) : Option ((Int × Int) ⊕ Bool ⊕ Unit) :=
  (laws_FnSidesFor_n3 x5252 x5072).bind (Sum.elim (fun (t : Unit) => (laws_FnSidesFor_n15 x5251 x5252 x5072 x5075).map (Sum.elim (fun (t : Int × Int) => (Sum.inl (t.1, t.2))) (fun (t : Bool) => (Sum.inr (Sum.inl t))))) (fun e => some ((fun (t : Unit) => (Sum.inr (Sum.inr t))) e)))

def laws_FnSidesFor_n17 (x5072 : List Int) (x5075 : List Int) : Option (Bool ⊕ Unit) :=
  nloop (fun (s : Int × Int) => ((laws_FnSidesFor_n16 s.1 s.2 x5072 x5075).map (Sum.elim (fun (t : Int × Int) => Sum.inl (t.1, t.2)) (Sum.elim (fun (t : Bool) => Sum.inr (Sum.inl t)) (fun (t : Unit) => Sum.inr (Sum.inr t)))) : Option ((Int × Int) ⊕ (Bool ⊕ Unit)))) LL (0, 0)

def laws_FnSidesFor_n18 (x5072 : List Int) (x5075 : List Int) : Option (Unit ⊕ Bool) :=
  (laws_FnSidesFor_n17 x5072 x5075).map (Sum.elim (fun (t : Bool) => (Sum.inr t)) (fun (t : Unit) => (Sum.inl ())))

def laws_FnSidesFor_n19 (x5072 : List Int) (x5075 : List Int) : Option (Unit ⊕ Bool) :=
  (laws_FnSidesFor_n2).bind (fun (t : Unit) => laws_FnSidesFor_n18 x5072 x5075)

def laws_FnSidesFor_n20 : Option (Bool) :=
  some true

def laws_FnSidesFor_n21 (x5072 : List Int) (x5075 : List Int) : Option (Bool) :=
  (laws_FnSidesFor_n19 x5072 x5075).bind (Sum.elim (fun (t : Unit) => laws_FnSidesFor_n20) (fun e => some ((fun (t : Bool) => t) e)))

def laws_FnSidesFor_n22 (x3258 : List Int) : Option (Bool) :=
  (laws_FnSidesFor_n1 x3258).bind (Sum.elim (fun (t : (List Int) × (List Int)) => laws_FnSidesFor_n21 t.1 t.2) (fun e => some ((fun (t : Bool) => t) e)))

@[irreducible] def laws_FnSidesFor (x3258 : List Int) : Option (Bool) :=
  laws_FnSidesFor_n22 x3258

end Go.Rv
