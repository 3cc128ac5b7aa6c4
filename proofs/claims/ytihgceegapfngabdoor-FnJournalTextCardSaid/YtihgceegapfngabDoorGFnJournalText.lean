/-
  Plain functions, written by program for functions of the checked code. Conditions: none.
-/
import Derived.Test.YtihgceegapfngabDoorFB
set_option linter.unusedVariables false
namespace Go.Rv
def spec_l20Open_n1 (x12 : List Int) : Option (((List Int))) :=
  cond (decide ((((List.length x12 : Nat) : Int)) > 2000)) ((inc 2000 (List.length x12)).bind fun (v29 : Nat) => some ((x12.take v29).drop 0)) (some x12)

@[irreducible] def spec_l20Open (x12 : List Int) : Option ((List Int)) :=
  spec_l20Open_n1 x12

def spec_l20Rd_pick_n1 (x44 : Int) (x45 : List Int) (x46 : Int) : Option ((Int × Int)) :=
  cond (decide (x44 < 1)) (some (0, (IntKind.wrap .i64 (x46 + 1)))) (cond ((((List.length x45 : Nat) : Int)) == 0) (some (0, (IntKind.wrap .i64 (x46 + 1)))) (cond (decide ((IntKind.wrap .i64 ((IntKind.wrap .i64 (x46 + 1)) - 1)) < (((List.length x45 : Nat) : Int)))) ((idx x45 (IntKind.wrap .i64 ((IntKind.wrap .i64 (x46 + 1)) - 1))).bind fun (v173 : Int) => (rem (IntKind.wrap .i64 v173) x44).bind fun (v175 : Int) => some (v175, (IntKind.wrap .i64 (x46 + 1)))) ((rem (IntKind.wrap .i64 ((IntKind.wrap .i64 (x46 + 1)) - 1)) (((List.length x45 : Nat) : Int))).bind fun (v177 : Int) => (idx x45 v177).bind fun (v178 : Int) => (rem (IntKind.wrap .i64 ((IntKind.wrap .i64 ((IntKind.wrap .i64 ((IntKind.wrap .i64 (x46 + 1)) - 1)) * 7)) + 3)) (((List.length x45 : Nat) : Int))).bind fun (v184 : Int) => (idx x45 v184).bind fun (v185 : Int) => (quo .i64 (IntKind.wrap .i64 ((IntKind.wrap .i64 (x46 + 1)) - 1)) (((List.length x45 : Nat) : Int))).bind fun (v192 : Int) => (quo .i64 (IntKind.wrap .i64 ((IntKind.wrap .i64 ((IntKind.wrap .i64 ((IntKind.wrap .i64 ((IntKind.wrap .i64 v178) * 131)) + (IntKind.wrap .i64 ((IntKind.wrap .i64 v185) * 1117)))) + (IntKind.wrap .i64 ((IntKind.wrap .i64 ((IntKind.wrap .i64 (x46 + 1)) - 1)) * 29)))) + (IntKind.wrap .i64 (v192 * 53)))) 64).bind fun (v195 : Int) => (rem (ixor .i64 (IntKind.wrap .i64 ((IntKind.wrap .i64 ((IntKind.wrap .i64 ((IntKind.wrap .i64 ((IntKind.wrap .i64 v178) * 131)) + (IntKind.wrap .i64 ((IntKind.wrap .i64 v185) * 1117)))) + (IntKind.wrap .i64 ((IntKind.wrap .i64 ((IntKind.wrap .i64 (x46 + 1)) - 1)) * 29)))) + (IntKind.wrap .i64 (v192 * 53)))) v195) x44).bind fun (v197 : Int) => some (v197, (IntKind.wrap .i64 (x46 + 1))))))

@[irreducible] def spec_l20Rd_pick (x44 : Int) (x45 : List Int) (x46 : Int) : Option (Int × Int) :=
  spec_l20Rd_pick_n1 x44 x45 x46

def spec_l20Order_n1 (x208 : List Int) (x209 : Int) : Option ((Int × Int)) :=
  (spec_l20Rd_pick 2 x208 x209).bind fun (v211 : Int × Int) => some ((v211.1), (v211.2))

def spec_l20Order_n2 : Option (Unit) :=
  some ()

def spec_l20Order_n3 (x207 : Int) (x212 : Int) (x355 : Int) (x208 : List Int) (x356 : Int) (x357 : List Int) : Option ((Int × Int × (List Int)) ⊕ (Int × (List Int))) :=
  cond (decide (x355 ≤ x207)) (cond (x212 == 0) ((spec_l20Rd_pick x355 x208 x356).bind fun (v429 : Int × Int) => (inc (v429.1) (List.length x357)).bind fun (v433 : Nat) => (room ((List.length ([] : List Int)) + List.length ((x357.drop 0).take (v433 - 0)))).bind fun (v437 : Unit) => (room ((List.length (([] : List Int) ++ ((x357.drop 0).take (v433 - 0)))) + List.length ([x355]))).bind fun (v441 : Unit) => (inc (v429.1) (List.length x357)).bind fun (v444 : Nat) => (room ((List.length ((([] : List Int) ++ ((x357.drop 0).take (v433 - 0))) ++ ([x355]))) + List.length ((x357.drop v444).take ((List.length x357) - v444)))).bind fun (v448 : Unit) => some (Sum.inl ((IntKind.wrap .i64 (x355 + 1)), (v429.2), (((([] : List Int) ++ ((x357.drop 0).take (v433 - 0))) ++ ([x355])) ++ ((x357.drop v444).take ((List.length x357) - v444)))))) ((spec_l20Rd_pick 3 x208 x356).bind fun (v451 : Int × Int) => cond ((v451.1) == 0) ((spec_l20Rd_pick x355 x208 (v451.2)).bind fun (v455 : Int × Int) => (inc (v455.1) (List.length x357)).bind fun (v459 : Nat) => (room ((List.length ([] : List Int)) + List.length ((x357.drop 0).take (v459 - 0)))).bind fun (v463 : Unit) => (room ((List.length (([] : List Int) ++ ((x357.drop 0).take (v459 - 0)))) + List.length ([x355]))).bind fun (v467 : Unit) => (inc (v455.1) (List.length x357)).bind fun (v470 : Nat) => (room ((List.length ((([] : List Int) ++ ((x357.drop 0).take (v459 - 0))) ++ ([x355]))) + List.length ((x357.drop v470).take ((List.length x357) - v470)))).bind fun (v474 : Unit) => some (Sum.inl ((IntKind.wrap .i64 (x355 + 1)), (v455.2), (((([] : List Int) ++ ((x357.drop 0).take (v459 - 0))) ++ ([x355])) ++ ((x357.drop v470).take ((List.length x357) - v470)))))) ((inc (((List.length x357 : Nat) : Int)) (List.length x357)).bind fun (v478 : Nat) => (room ((List.length ([] : List Int)) + List.length ((x357.drop 0).take (v478 - 0)))).bind fun (v482 : Unit) => (room ((List.length (([] : List Int) ++ ((x357.drop 0).take (v478 - 0)))) + List.length ([x355]))).bind fun (v486 : Unit) => (inc (((List.length x357 : Nat) : Int)) (List.length x357)).bind fun (v489 : Nat) => (room ((List.length ((([] : List Int) ++ ((x357.drop 0).take (v478 - 0))) ++ ([x355]))) + List.length ((x357.drop v489).take ((List.length x357) - v489)))).bind fun (v493 : Unit) => some (Sum.inl ((IntKind.wrap .i64 (x355 + 1)), (v451.2), (((([] : List Int) ++ ((x357.drop 0).take (v478 - 0))) ++ ([x355])) ++ ((x357.drop v489).take ((List.length x357) - v489)))))))) (some (Sum.inr (x356, x357)))

def spec_l20Order_n4 (x207 : Int) (x212 : Int) (x208 : List Int) (x213 : Int) : Option ((Int × (List Int))) :=
  nloop (fun (s : Int × Int × (List Int)) => ((spec_l20Order_n3 x207 x212 s.1 x208 s.2.1 s.2.2).map (Sum.elim (fun (t : Int × Int × (List Int)) => Sum.inl (t.1, t.2.1, t.2.2)) (fun (t : Int × (List Int)) => Sum.inr t)) : Option ((Int × Int × (List Int)) ⊕ ((Int × (List Int)))))) LL (1, x213, ([] : List Int))

def spec_l20Order_n5 (x207 : Int) (x212 : Int) (x208 : List Int) (x213 : Int) : Option ((Int × (List Int))) :=
  (spec_l20Order_n4 x207 x212 x208 x213).map (fun (t : Int × (List Int)) => (t.1, t.2))

def spec_l20Order_n6 (x207 : Int) (x212 : Int) (x208 : List Int) (x213 : Int) : Option ((Int × (List Int))) :=
  (spec_l20Order_n2).bind (fun (t : Unit) => spec_l20Order_n5 x207 x212 x208 x213)

def spec_l20Order_n7 (x356 : Int) (x357 : List Int) : Option ((Int × (List Int))) :=
  some (x356, x357)

def spec_l20Order_n8 (x207 : Int) (x212 : Int) (x208 : List Int) (x213 : Int) : Option ((Int × (List Int))) :=
  (spec_l20Order_n6 x207 x212 x208 x213).bind (fun (t : Int × (List Int)) => spec_l20Order_n7 t.1 t.2)

def spec_l20Order_n9 (x207 : Int) (x208 : List Int) (x209 : Int) : Option ((Int × (List Int))) :=
  (spec_l20Order_n1 x208 x209).bind (fun (t : Int × Int) => spec_l20Order_n8 x207 t.1 x208 t.2)

@[irreducible] def spec_l20Order (x207 : Int) (x208 : List Int) (x209 : Int) : Option (Int × (List Int)) :=
  spec_l20Order_n9 x207 x208 x209

def spec_l20Rd_odd_n1 (x664 : Int) (x665 : List Int) (x666 : Int) : Option ((Bool × Int)) :=
  cond (decide (x664 > 0)) ((spec_l20Rd_pick x664 x665 x666).bind fun (v674 : Int × Int) => some (((v674.1) == (IntKind.wrap .i64 (x664 - 1))), (v674.2))) (some (false, x666))

@[irreducible] def spec_l20Rd_odd (x664 : Int) (x665 : List Int) (x666 : Int) : Option (Bool × Int) :=
  spec_l20Rd_odd_n1 x664 x665 x666

def spec_l20Tree_n1 (x41 : List Int) (x42 : Int) : Option ((Int × Int × Int × (List Int) × (List Int))) :=
  (spec_l20Rd_pick 7 x41 x42).bind fun (v511 : Int × Int) => (spec_l20Order (IntKind.wrap .i64 (1 + (v511.1))) x41 (v511.2)).bind fun (v515 : Int × (List Int)) => (mk (IntKind.wrap .i64 (1 + (v511.1))) (IntKind.wrap .i64 (1 + (v511.1)))).bind fun (v518 : Nat) => (spec_l20Rd_pick 2 x41 (v515.1)).bind fun (v520 : Int × Int) => some ((IntKind.wrap .i64 (1 + (v511.1))), (v520.1), (v520.2), (v515.2), (List.replicate v518 (0 : Int)))

def spec_l20Tree_n2 : Option (Unit) :=
  some ()

def spec_l20Tree_n3 (x514 : Int) (x521 : Int) (x592 : Int) (x41 : List Int) (x593 : Int) (x517 : List Int) (x594 : List Int) : Option ((Int × Int × (List Int)) ⊕ (Int × (List Int))) :=
  cond (decide (x592 < x514)) ((spec_l20Rd_pick x592 x41 x593).bind fun (v628 : Int × Int) => cond (x521 == 1) ((spec_l20Rd_pick 2 x41 (v628.2)).bind fun (v632 : Int × Int) => cond ((v632.1) == 0) ((inb x592 (List.length x517)).bind fun (v637 : Nat) => (x517[v637]?).bind fun (v638 : Int) => (inb (IntKind.wrap .i64 (x592 - 1)) (List.length x517)).bind fun (v640 : Nat) => (x517[v640]?).bind fun (v641 : Int) => (inb (IntKind.wrap .i64 (v638 - 1)) (List.length x594)).bind fun (v642 : Nat) => some (Sum.inl ((IntKind.wrap .i64 (x592 + 1)), (v632.2), (x594.set v642 v641)))) ((inb x592 (List.length x517)).bind fun (v645 : Nat) => (x517[v645]?).bind fun (v646 : Int) => (inb (v628.1) (List.length x517)).bind fun (v648 : Nat) => (x517[v648]?).bind fun (v649 : Int) => (inb (IntKind.wrap .i64 (v646 - 1)) (List.length x594)).bind fun (v650 : Nat) => some (Sum.inl ((IntKind.wrap .i64 (x592 + 1)), (v632.2), (x594.set v650 v649))))) ((inb x592 (List.length x517)).bind fun (v653 : Nat) => (x517[v653]?).bind fun (v654 : Int) => (inb (v628.1) (List.length x517)).bind fun (v656 : Nat) => (x517[v656]?).bind fun (v657 : Int) => (inb (IntKind.wrap .i64 (v654 - 1)) (List.length x594)).bind fun (v658 : Nat) => some (Sum.inl ((IntKind.wrap .i64 (x592 + 1)), (v628.2), (x594.set v658 v657))))) (some (Sum.inr (x593, x594)))

def spec_l20Tree_n4 (x514 : Int) (x521 : Int) (x41 : List Int) (x522 : Int) (x517 : List Int) (x519 : List Int) : Option ((Int × (List Int))) :=
  nloop (fun (s : Int × Int × (List Int)) => ((spec_l20Tree_n3 x514 x521 s.1 x41 s.2.1 x517 s.2.2).map (Sum.elim (fun (t : Int × Int × (List Int)) => Sum.inl (t.1, t.2.1, t.2.2)) (fun (t : Int × (List Int)) => Sum.inr t)) : Option ((Int × Int × (List Int)) ⊕ ((Int × (List Int)))))) LL (1, x522, x519)

def spec_l20Tree_n5 (x514 : Int) (x521 : Int) (x41 : List Int) (x522 : Int) (x517 : List Int) (x519 : List Int) : Option ((Int × (List Int))) :=
  (spec_l20Tree_n4 x514 x521 x41 x522 x517 x519).map (fun (t : Int × (List Int)) => (t.1, t.2))

def spec_l20Tree_n6 (x514 : Int) (x521 : Int) (x41 : List Int) (x522 : Int) (x517 : List Int) (x519 : List Int) : Option ((Int × (List Int))) :=
  (spec_l20Tree_n2).bind (fun (t : Unit) => spec_l20Tree_n5 x514 x521 x41 x522 x517 x519)

def spec_l20Tree_n7 (x40 : Int) (x514 : Int) (x41 : List Int) (x593 : Int) (x594 : List Int) : Option ((Int × (List Int))) :=
  (spec_l20Rd_odd x40 x41 x593).bind fun (v739 : Bool × Int) => cond (v739.1) ((spec_l20Rd_pick 4 x41 (v739.2)).bind fun (v742 : Int × Int) => cond ((v742.1) == 0) (some ((v742.2), ([] : List Int))) (cond ((v742.1) == 1) (some ((v742.2), ([2, 1, 0]))) (cond ((v742.1) == 2) ((spec_l20Rd_pick x514 x41 (v742.2)).bind fun (v749 : Int × Int) => (inb (v749.1) (List.length x594)).bind fun (v752 : Nat) => (room ((List.length (x594.set v752 0)) + List.length ([0]))).bind fun (v756 : Unit) => some ((v749.2), ((x594.set v752 0) ++ ([0])))) ((spec_l20Rd_pick 3 x41 (v742.2)).bind fun (v760 : Int × Int) => (inb (v760.1) (List.length ([1, (IntKind.wrap .i64 (x514 + 1)), (-1)]))).bind fun (v763 : Nat) => (([1, (IntKind.wrap .i64 (x514 + 1)), (-1)])[v763]?).bind fun (v764 : Int) => (inb 0 (List.length x594)).bind fun (v765 : Nat) => some ((v760.2), (x594.set v765 v764)))))) (some ((v739.2), x594))

def spec_l20Tree_n8 (x40 : Int) (x514 : Int) (x521 : Int) (x41 : List Int) (x522 : Int) (x517 : List Int) (x519 : List Int) : Option ((Int × (List Int))) :=
  (spec_l20Tree_n6 x514 x521 x41 x522 x517 x519).bind (fun (t : Int × (List Int)) => spec_l20Tree_n7 x40 x514 x41 t.1 t.2)

def spec_l20Tree_n9 (x40 : Int) (x41 : List Int) (x42 : Int) : Option ((Int × (List Int))) :=
  (spec_l20Tree_n1 x41 x42).bind (fun (t : Int × Int × Int × (List Int) × (List Int)) => spec_l20Tree_n8 x40 t.1 t.2.1 x41 t.2.2.1 t.2.2.2.1 t.2.2.2.2)

@[irreducible] def spec_l20Tree (x40 : Int) (x41 : List Int) (x42 : Int) : Option (Int × (List Int)) :=
  spec_l20Tree_n9 x40 x41 x42

def spec_l1In_n1 (x783 : Int) (x784 : Int) (x785 : Int) : Option (Bool) :=
  cond (decide (x783 ≥ x784)) (some (decide (x783 ≤ x785))) (some false)

@[irreducible] def spec_l1In (x783 : Int) (x784 : Int) (x785 : Int) : Option (Bool) :=
  spec_l1In_n1 x783 x784 x785

def spec_TreeOk_n1 (x779 : List Int) : Option (Int ⊕ Bool) :=
  (spec_l1In (((List.length x779 : Nat) : Int)) 1 8).bind fun (v794 : Bool) => cond (!v794) (some (Sum.inr false)) (some (Sum.inl (((List.length x779 : Nat) : Int))))

def spec_TreeOk_n2 : Option (Unit) :=
  some ()

def spec_TreeOk_n3 (x793 : Int) (x860 : Int) (x861 : Int) : Option (Unit ⊕ Int) :=
  cond (decide (x861 < x793)) (some (Sum.inl ())) (some (Sum.inr x860))

def spec_TreeOk_n4 (x779 : List Int) (x793 : Int) (x860 : Int) (x861 : Int) : Option ((Int × Int) ⊕ Bool) :=
  (idx x779 x861).bind fun (v878 : Int) => (spec_l1In v878 0 x793).bind fun (v879 : Bool) => cond (!v879) (some (Sum.inr false)) ((idx x779 x861).bind fun (v881 : Int) => cond (v881 == (IntKind.wrap .i64 (x861 + 1))) (some (Sum.inr false)) ((idx x779 x861).bind fun (v884 : Int) => cond (v884 == 0) (some (Sum.inl ((IntKind.wrap .i64 (x860 + 1)), (IntKind.wrap .i64 (x861 + 1))))) (some (Sum.inl (x860, (IntKind.wrap .i64 (x861 + 1)))))))

def spec_TreeOk_n5 : Option (Unit) :=
  some ()

def spec_TreeOk_n6 (x779 : List Int) (x793 : Int) (x906 : Int) (x907 : Int) : Option ((Int × Int) ⊕ Bool ⊕ Int) :=
  cond (decide (x906 > 0)) (cond (decide (x907 < x793)) ((idx x779 (IntKind.wrap .i64 (x906 - 1))).bind fun (v919 : Int) => (spec_l1In v919 0 x793).bind fun (v920 : Bool) => cond (!v920) (some (Sum.inr (Sum.inl false))) (some (Sum.inl (v919, (IntKind.wrap .i64 (x907 + 1)))))) (some (Sum.inr (Sum.inr x906)))) (some (Sum.inr (Sum.inr x906)))

def spec_TreeOk_n7 (x779 : List Int) (x793 : Int) (x890 : Int) : Option (Bool ⊕ Int) :=
  nloop (fun (s : Int × Int) => ((spec_TreeOk_n6 x779 x793 s.1 s.2).map (Sum.elim (fun (t : Int × Int) => Sum.inl (t.1, t.2)) (Sum.elim (fun (t : Bool) => Sum.inr (Sum.inl t)) (fun (t : Int) => Sum.inr (Sum.inr t)))) : Option ((Int × Int) ⊕ (Bool ⊕ Int)))) LL (x890, 0)

def spec_TreeOk_n8 (x779 : List Int) (x793 : Int) (x890 : Int) : Option (Int ⊕ Bool) :=
  (spec_TreeOk_n7 x779 x793 x890).map (Sum.elim (fun (t : Bool) => (Sum.inr t)) (fun (t : Int) => (Sum.inl t)))

def spec_TreeOk_n9 (x779 : List Int) (x793 : Int) (x890 : Int) : Option (Int ⊕ Bool) :=
  (spec_TreeOk_n5).bind (fun (t : Unit) => spec_TreeOk_n8 x779 x793 x890)

def spec_TreeOk_n10 (x906 : Int) : Option (Unit ⊕ Bool) :=
  cond (decide (x906 > 0)) (some (Sum.inr false)) (some (Sum.inl ()))

def spec_TreeOk_n11 (x779 : List Int) (x793 : Int) (x890 : Int) : Option (Unit ⊕ Bool) :=
  (spec_TreeOk_n9 x779 x793 x890).bind (Sum.elim (fun (t : Int) => spec_TreeOk_n10 t) (fun e => some ((fun (t : Bool) => (Sum.inr t)) e)))

def spec_TreeOk_n12 (x779 : List Int) (x793 : Int) (x860 : Int) (x861 : Int) : Option (Int ⊕ Bool) :=
  (spec_TreeOk_n4 x779 x793 x860 x861).bind (Sum.elim (fun (t : Int × Int) => (spec_TreeOk_n11 x779 x793 t.2).map (Sum.elim (fun (u : Unit) => (Sum.inl t.1)) (fun (u : Bool) => (Sum.inr u)))) (fun e => some ((fun (t : Bool) => (Sum.inr t)) e)))

def spec_TreeOk_n13 (x779 : List Int) (x793 : Int) (x860 : Int) (x861 : Int) : Option (Int ⊕ Bool) :=
  (spec_TreeOk_n12 x779 x793 x860 x861).map (Sum.elim (fun (t : Int) => (Sum.inl t)) (fun (t : Bool) => (Sum.inr t)))

def spec_TreeOk_n14 (x861 : Int) : Option (Int) :=
  some (IntKind.wrap .i64 (x861 + 1))

def spec_TreeOk_n15 (x779 : List Int) (x793 : Int) (x860 : Int) (x861 : Int) : Option ((Int × Int) ⊕ Bool) :=
  (spec_TreeOk_n13 x779 x793 x860 x861).bind (Sum.elim (fun (t : Int) => (spec_TreeOk_n14 x861).map (fun (u : Int) => (Sum.inl (t, u)))) (fun e => some ((fun (t : Bool) => (Sum.inr t)) e)))

def spec_TreeOk_n16 (x779 : List Int) (x793 : Int) (x860 : Int) (x861 : Int) : Option ((Int × Int) ⊕ Bool ⊕ Int) :=
  (spec_TreeOk_n3 x793 x860 x861).bind (Sum.elim (fun (t : Unit) => (spec_TreeOk_n15 x779 x793 x860 x861).map (Sum.elim (fun (t : Int × Int) => (Sum.inl (t.1, t.2))) (fun (t : Bool) => (Sum.inr (Sum.inl t))))) (fun e => some ((fun (t : Int) => (Sum.inr (Sum.inr t))) e)))

def spec_TreeOk_n17 (x779 : List Int) (x793 : Int) : Option (Bool ⊕ Int) :=
  nloop (fun (s : Int × Int) => ((spec_TreeOk_n16 x779 x793 s.1 s.2).map (Sum.elim (fun (t : Int × Int) => Sum.inl (t.1, t.2)) (Sum.elim (fun (t : Bool) => Sum.inr (Sum.inl t)) (fun (t : Int) => Sum.inr (Sum.inr t)))) : Option ((Int × Int) ⊕ (Bool ⊕ Int)))) LL (0, 0)

def spec_TreeOk_n18 (x779 : List Int) (x793 : Int) : Option (Int ⊕ Bool) :=
  (spec_TreeOk_n17 x779 x793).map (Sum.elim (fun (t : Bool) => (Sum.inr t)) (fun (t : Int) => (Sum.inl t)))

def spec_TreeOk_n19 (x779 : List Int) (x793 : Int) : Option (Int ⊕ Bool) :=
  (spec_TreeOk_n2).bind (fun (t : Unit) => spec_TreeOk_n18 x779 x793)

def spec_TreeOk_n20 (x860 : Int) : Option (Bool) :=
  some (x860 == 1)

def spec_TreeOk_n21 (x779 : List Int) (x793 : Int) : Option (Bool) :=
  (spec_TreeOk_n19 x779 x793).bind (Sum.elim (fun (t : Int) => spec_TreeOk_n20 t) (fun e => some ((fun (t : Bool) => t) e)))

def spec_TreeOk_n22 (x779 : List Int) : Option (Bool) :=
  (spec_TreeOk_n1 x779).bind (Sum.elim (fun (t : Int) => spec_TreeOk_n21 x779 t) (fun e => some ((fun (t : Bool) => t) e)))

@[irreducible] def spec_TreeOk (x779 : List Int) : Option (Bool) :=
  spec_TreeOk_n22 x779

def spec_OrderOk_n1 : Option (Unit) :=
  some ()

def spec_OrderOk_n2 : Option (Unit) :=
  some ()

def spec_OrderOk_n3 (x939 : List Int) (x971 : Int) : Option (Unit ⊕ Unit) :=
  cond (decide (x971 < (((List.length x939 : Nat) : Int)))) (some (Sum.inl ())) (some (Sum.inr ()))

def spec_OrderOk_n4 (x939 : List Int) (x940 : Int) (x971 : Int) : Option (Unit ⊕ Bool) :=
  (idx x939 x971).bind fun (v977 : Int) => (spec_l1In v977 1 x940).bind fun (v978 : Bool) => cond (!v978) (some (Sum.inr false)) (some (Sum.inl ()))

def spec_OrderOk_n5 (x939 : List Int) (x971 : Int) (x990 : Int) : Option (Int ⊕ Bool ⊕ Unit) :=
  cond (decide (x990 < x971)) ((idx x939 x990).bind fun (v997 : Int) => (idx x939 x971).bind fun (v998 : Int) => cond (v997 == v998) (some (Sum.inr (Sum.inl false))) (some (Sum.inl (IntKind.wrap .i64 (x990 + 1))))) (some (Sum.inr (Sum.inr ())))

def spec_OrderOk_n6 (x939 : List Int) (x971 : Int) : Option (Bool ⊕ Unit) :=
  nloop (fun (s : Int) => ((spec_OrderOk_n5 x939 x971 s).map (Sum.elim (fun (t : Int) => Sum.inl t) (Sum.elim (fun (t : Bool) => Sum.inr (Sum.inl t)) (fun (t : Unit) => Sum.inr (Sum.inr t)))) : Option ((Int) ⊕ (Bool ⊕ Unit)))) LL 0

def spec_OrderOk_n7 (x939 : List Int) (x971 : Int) : Option (Unit ⊕ Bool) :=
  (spec_OrderOk_n6 x939 x971).map (Sum.elim (fun (t : Bool) => (Sum.inr t)) (fun (t : Unit) => (Sum.inl ())))

def spec_OrderOk_n8 (x939 : List Int) (x940 : Int) (x971 : Int) : Option (Unit ⊕ Bool) :=
  (spec_OrderOk_n4 x939 x940 x971).bind (Sum.elim (fun (t : Unit) => spec_OrderOk_n7 x939 x971) (fun e => some ((fun (t : Bool) => (Sum.inr t)) e)))

def spec_OrderOk_n9 (x939 : List Int) (x940 : Int) (x971 : Int) : Option (Unit ⊕ Bool) :=
  (spec_OrderOk_n8 x939 x940 x971).map (Sum.elim (fun (t : Unit) => (Sum.inl ())) (fun (t : Bool) => (Sum.inr t)))

def spec_OrderOk_n10 (x971 : Int) : Option (Int) :=
  some (IntKind.wrap .i64 (x971 + 1))

def spec_OrderOk_n11 (x939 : List Int) (x940 : Int) (x971 : Int) : Option (Int ⊕ Bool) :=
  (spec_OrderOk_n9 x939 x940 x971).bind (Sum.elim (fun (t : Unit) => (spec_OrderOk_n10 x971).map (fun (t : Int) => (Sum.inl t))) (fun e => some ((fun (t : Bool) => (Sum.inr t)) e)))

def spec_OrderOk_n12 (x939 : List Int) (x940 : Int) (x971 : Int) : Option (Int ⊕ Bool ⊕ Unit) :=
  (spec_OrderOk_n3 x939 x971).bind (Sum.elim (fun (t : Unit) => (spec_OrderOk_n11 x939 x940 x971).map (Sum.elim (fun (t : Int) => (Sum.inl t)) (fun (t : Bool) => (Sum.inr (Sum.inl t))))) (fun e => some ((fun (t : Unit) => (Sum.inr (Sum.inr t))) e)))

def spec_OrderOk_n13 (x939 : List Int) (x940 : Int) : Option (Bool ⊕ Unit) :=
  nloop (fun (s : Int) => ((spec_OrderOk_n12 x939 x940 s).map (Sum.elim (fun (t : Int) => Sum.inl t) (Sum.elim (fun (t : Bool) => Sum.inr (Sum.inl t)) (fun (t : Unit) => Sum.inr (Sum.inr t)))) : Option ((Int) ⊕ (Bool ⊕ Unit)))) LL 0

def spec_OrderOk_n14 (x939 : List Int) (x940 : Int) : Option (Unit ⊕ Bool) :=
  (spec_OrderOk_n13 x939 x940).map (Sum.elim (fun (t : Bool) => (Sum.inr t)) (fun (t : Unit) => (Sum.inl ())))

def spec_OrderOk_n15 (x939 : List Int) (x940 : Int) : Option (Unit ⊕ Bool) :=
  (spec_OrderOk_n2).bind (fun (t : Unit) => spec_OrderOk_n14 x939 x940)

def spec_OrderOk_n16 (x939 : List Int) (x940 : Int) : Option (Bool) :=
  (spec_l1In x940 1 8).bind fun (v1005 : Bool) => cond v1005 (some ((((List.length x939 : Nat) : Int)) == x940)) (some false)

def spec_OrderOk_n17 (x939 : List Int) (x940 : Int) : Option (Bool) :=
  (spec_OrderOk_n15 x939 x940).bind (Sum.elim (fun (t : Unit) => spec_OrderOk_n16 x939 x940) (fun e => some ((fun (t : Bool) => t) e)))

def spec_OrderOk_n18 (x939 : List Int) (x940 : Int) : Option (Bool) :=
  (spec_OrderOk_n1).bind (fun (t : Unit) => spec_OrderOk_n17 x939 x940)

@[irreducible] def spec_OrderOk (x939 : List Int) (x940 : Int) : Option (Bool) :=
  spec_OrderOk_n18 x939 x940

def spec_PutInOrder_n1 (x934 : List Int) (x935 : List Int) : Option (((List Int)) ⊕ (Bool × (List Int))) :=
  (spec_TreeOk x934).bind fun (v1011 : Bool) => cond (!v1011) (some (Sum.inr (false, ([] : List Int)))) ((spec_OrderOk x935 (((List.length x934 : Nat) : Int))).bind fun (v1014 : Bool) => cond (!v1014) (some (Sum.inr (false, ([] : List Int)))) ((mk (IntKind.wrap .i64 ((((List.length x934 : Nat) : Int)) + 1)) (IntKind.wrap .i64 ((((List.length x934 : Nat) : Int)) + 1))).bind fun (v1018 : Nat) => some (Sum.inl (List.replicate v1018 (0 : Int)))))

def spec_PutInOrder_n2 : Option (Unit) :=
  some ()

def spec_PutInOrder_n3 (x935 : List Int) (x1035 : Int) (x1036 : List Int) : Option ((Int × (List Int)) ⊕ ((List Int))) :=
  cond (decide (x1035 < (((List.length x935 : Nat) : Int)))) ((idx x935 x1035).bind fun (v1047 : Int) => (inb v1047 (List.length x1036)).bind fun (v1049 : Nat) => some (Sum.inl ((IntKind.wrap .i64 (x1035 + 1)), (x1036.set v1049 (IntKind.wrap .i64 (x1035 + 1)))))) (some (Sum.inr x1036))

def spec_PutInOrder_n4 (x935 : List Int) (x1019 : List Int) : Option (((List Int))) :=
  nloop (fun (s : Int × (List Int)) => ((spec_PutInOrder_n3 x935 s.1 s.2).map (Sum.elim (fun (t : Int × (List Int)) => Sum.inl (t.1, t.2)) (fun (t : (List Int)) => Sum.inr t)) : Option ((Int × (List Int)) ⊕ (((List Int)))))) LL (0, x1019)

def spec_PutInOrder_n5 (x935 : List Int) (x1019 : List Int) : Option (((List Int))) :=
  (spec_PutInOrder_n4 x935 x1019).map (fun (t : (List Int)) => t)

def spec_PutInOrder_n6 (x935 : List Int) (x1019 : List Int) : Option (((List Int))) :=
  (spec_PutInOrder_n2).bind (fun (t : Unit) => spec_PutInOrder_n5 x935 x1019)

def spec_PutInOrder_n7 : Option (Unit) :=
  some ()

def spec_PutInOrder_n8 : Option (Unit) :=
  some ()

def spec_PutInOrder_n9 (x934 : List Int) (x935 : List Int) (x1077 : Int) (x1036 : List Int) (x1078 : List Int) : Option ((Int × (List Int)) ⊕ ((List Int))) :=
  cond (decide (x1077 < (((List.length x935 : Nat) : Int)))) ((idx x935 x1077).bind fun (v1094 : Int) => (idx x934 (IntKind.wrap .i64 (v1094 - 1))).bind fun (v1096 : Int) => (inb v1096 (List.length x1036)).bind fun (v1097 : Nat) => (x1036[v1097]?).bind fun (v1098 : Int) => (room ((List.length x1078) + List.length ([v1098]))).bind fun (v1101 : Unit) => some (Sum.inl ((IntKind.wrap .i64 (x1077 + 1)), (x1078 ++ ([v1098]))))) (some (Sum.inr x1078))

def spec_PutInOrder_n10 (x934 : List Int) (x935 : List Int) (x1036 : List Int) : Option (((List Int))) :=
  nloop (fun (s : Int × (List Int)) => ((spec_PutInOrder_n9 x934 x935 s.1 x1036 s.2).map (Sum.elim (fun (t : Int × (List Int)) => Sum.inl (t.1, t.2)) (fun (t : (List Int)) => Sum.inr t)) : Option ((Int × (List Int)) ⊕ (((List Int)))))) LL (0, ([] : List Int))

def spec_PutInOrder_n11 (x934 : List Int) (x935 : List Int) (x1036 : List Int) : Option (((List Int))) :=
  (spec_PutInOrder_n10 x934 x935 x1036).map (fun (t : (List Int)) => t)

def spec_PutInOrder_n12 (x934 : List Int) (x935 : List Int) (x1036 : List Int) : Option (((List Int))) :=
  (spec_PutInOrder_n8).bind (fun (t : Unit) => spec_PutInOrder_n11 x934 x935 x1036)

def spec_PutInOrder_n13 (x1078 : List Int) : Option ((Bool × (List Int))) :=
  some (true, x1078)

def spec_PutInOrder_n14 (x934 : List Int) (x935 : List Int) (x1036 : List Int) : Option ((Bool × (List Int))) :=
  (spec_PutInOrder_n12 x934 x935 x1036).bind (fun (t : (List Int)) => spec_PutInOrder_n13 t)

def spec_PutInOrder_n15 (x934 : List Int) (x935 : List Int) (x1036 : List Int) : Option ((Bool × (List Int))) :=
  (spec_PutInOrder_n7).bind (fun (t : Unit) => spec_PutInOrder_n14 x934 x935 x1036)

def spec_PutInOrder_n16 (x934 : List Int) (x935 : List Int) (x1019 : List Int) : Option ((Bool × (List Int))) :=
  (spec_PutInOrder_n6 x935 x1019).bind (fun (t : (List Int)) => spec_PutInOrder_n15 x934 x935 t)

def spec_PutInOrder_n17 (x934 : List Int) (x935 : List Int) : Option ((Bool × (List Int))) :=
  (spec_PutInOrder_n1 x934 x935).bind (Sum.elim (fun (t : (List Int)) => spec_PutInOrder_n16 x934 x935 t) (fun e => some ((fun (t : Bool × (List Int)) => t) e)))

@[irreducible] def spec_PutInOrder (x934 : List Int) (x935 : List Int) : Option (Bool × (List Int)) :=
  spec_PutInOrder_n17 x934 x935

def spec_l20Fill_n1 (R0 : Int → Int → Int → (List Int) → Int → (List Int) → Option (Int × (List Int))) (x1175 : Int) (x1176 : Int) (x1177 : Int) (x1178 : List Int) (x1179 : Int) (x1180 : List Int) : Option ((Int × Int × (List Int)) ⊕ (Int × (List Int))) :=
  cond (decide (x1175 > x1176)) (some (Sum.inr (x1179, x1180))) ((spec_l20Rd_pick (IntKind.wrap .i64 ((IntKind.wrap .i64 (x1176 - x1175)) + 1)) x1178 x1179).bind fun (v1248 : Int × Int) => (inb (IntKind.wrap .i64 ((IntKind.wrap .i64 (x1175 + (v1248.1))) - 1)) (List.length x1180)).bind fun (v1253 : Nat) => some (Sum.inl ((IntKind.wrap .i64 (x1175 + (v1248.1))), (v1248.2), (x1180.set v1253 x1177))))

def spec_l20Fill_n2 (R0 : Int → Int → Int → (List Int) → Int → (List Int) → Option (Int × (List Int))) (x1251 : Int) (x1266 : Int) (x1178 : List Int) (x1267 : Int) (x1268 : List Int) : Option ((Int × Int × (List Int)) ⊕ (Int × (List Int))) :=
  cond (decide (x1266 < x1251)) ((spec_l20Rd_pick (IntKind.wrap .i64 (x1251 - x1266)) x1178 x1267).bind fun (v1272 : Int × Int) => (R0 x1266 (IntKind.wrap .i64 (x1266 + (v1272.1))) x1251 x1178 (v1272.2) x1268).bind fun (v1276 : Int × (List Int)) => some (Sum.inl ((IntKind.wrap .i64 ((IntKind.wrap .i64 (x1266 + (v1272.1))) + 1)), (v1276.1), (v1276.2)))) (some (Sum.inr (x1267, x1268)))

def spec_l20Fill_n3 (R0 : Int → Int → Int → (List Int) → Int → (List Int) → Option (Int × (List Int))) (x1251 : Int) (x1175 : Int) (x1178 : List Int) (x1250 : Int) (x1254 : List Int) : Option ((Int × (List Int))) :=
  nloop (fun (s : Int × Int × (List Int)) => ((spec_l20Fill_n2 R0 x1251 s.1 x1178 s.2.1 s.2.2).map (Sum.elim (fun (t : Int × Int × (List Int)) => Sum.inl (t.1, t.2.1, t.2.2)) (fun (t : Int × (List Int)) => Sum.inr t)) : Option ((Int × Int × (List Int)) ⊕ ((Int × (List Int)))))) LL (x1175, x1250, x1254)

def spec_l20Fill_n4 (R0 : Int → Int → Int → (List Int) → Int → (List Int) → Option (Int × (List Int))) (x1251 : Int) (x1175 : Int) (x1178 : List Int) (x1250 : Int) (x1254 : List Int) : Option ((Int × (List Int))) :=
  (spec_l20Fill_n3 R0 x1251 x1175 x1178 x1250 x1254).map (fun (t : Int × (List Int)) => (t.1, t.2))

def spec_l20Fill_n5 (R0 : Int → Int → Int → (List Int) → Int → (List Int) → Option (Int × (List Int))) (x1251 : Int) : Option (Int) :=
  some (IntKind.wrap .i64 (x1251 + 1))

def spec_l20Fill_n6 (R0 : Int → Int → Int → (List Int) → Int → (List Int) → Option (Int × (List Int))) (x1176 : Int) (x1251 : Int) (x1293 : Int) (x1178 : List Int) (x1294 : Int) (x1295 : List Int) : Option ((Int × Int × (List Int)) ⊕ (Int × (List Int))) :=
  cond (decide (x1293 ≤ x1176)) ((spec_l20Rd_pick (IntKind.wrap .i64 ((IntKind.wrap .i64 (x1176 - x1293)) + 1)) x1178 x1294).bind fun (v1300 : Int × Int) => (R0 x1293 (IntKind.wrap .i64 (x1293 + (v1300.1))) x1251 x1178 (v1300.2) x1295).bind fun (v1304 : Int × (List Int)) => some (Sum.inl ((IntKind.wrap .i64 ((IntKind.wrap .i64 (x1293 + (v1300.1))) + 1)), (v1304.1), (v1304.2)))) (some (Sum.inr (x1294, x1295)))

def spec_l20Fill_n7 (R0 : Int → Int → Int → (List Int) → Int → (List Int) → Option (Int × (List Int))) (x1176 : Int) (x1251 : Int) (x1280 : Int) (x1178 : List Int) (x1267 : Int) (x1268 : List Int) : Option ((Int × (List Int))) :=
  nloop (fun (s : Int × Int × (List Int)) => ((spec_l20Fill_n6 R0 x1176 x1251 s.1 x1178 s.2.1 s.2.2).map (Sum.elim (fun (t : Int × Int × (List Int)) => Sum.inl (t.1, t.2.1, t.2.2)) (fun (t : Int × (List Int)) => Sum.inr t)) : Option ((Int × Int × (List Int)) ⊕ ((Int × (List Int)))))) LL (x1280, x1267, x1268)

def spec_l20Fill_n8 (R0 : Int → Int → Int → (List Int) → Int → (List Int) → Option (Int × (List Int))) (x1176 : Int) (x1251 : Int) (x1280 : Int) (x1178 : List Int) (x1267 : Int) (x1268 : List Int) : Option ((Int × (List Int))) :=
  (spec_l20Fill_n7 R0 x1176 x1251 x1280 x1178 x1267 x1268).map (fun (t : Int × (List Int)) => (t.1, t.2))

def spec_l20Fill_n9 (R0 : Int → Int → Int → (List Int) → Int → (List Int) → Option (Int × (List Int))) (x1176 : Int) (x1251 : Int) (x1178 : List Int) (x1267 : Int) (x1268 : List Int) : Option ((Int × (List Int))) :=
  (spec_l20Fill_n5 R0 x1251).bind (fun (t : Int) => spec_l20Fill_n8 R0 x1176 x1251 t x1178 x1267 x1268)

def spec_l20Fill_n10 (R0 : Int → Int → Int → (List Int) → Int → (List Int) → Option (Int × (List Int))) (x1176 : Int) (x1251 : Int) (x1175 : Int) (x1178 : List Int) (x1250 : Int) (x1254 : List Int) : Option ((Int × (List Int))) :=
  (spec_l20Fill_n4 R0 x1251 x1175 x1178 x1250 x1254).bind (fun (t : Int × (List Int)) => spec_l20Fill_n9 R0 x1176 x1251 x1178 t.1 t.2)

def spec_l20Fill_n11 (R0 : Int → Int → Int → (List Int) → Int → (List Int) → Option (Int × (List Int))) (x1175 : Int) (x1176 : Int) (x1177 : Int) (x1178 : List Int) (x1179 : Int) (x1180 : List Int) : Option ((Int × (List Int)) ⊕ (Int × (List Int))) :=
  (spec_l20Fill_n1 R0 x1175 x1176 x1177 x1178 x1179 x1180).bind (Sum.elim (fun (t : Int × Int × (List Int)) => (spec_l20Fill_n10 R0 x1176 t.1 x1175 x1178 t.2.1 t.2.2).map (fun (u : Int × (List Int)) => (Sum.inl (u.1, u.2)))) (fun e => some ((fun (t : Int × (List Int)) => (Sum.inr t)) e)))

def spec_l20Fill_one (R0 : Int → Int → Int → (List Int) → Int → (List Int) → Option (Int × (List Int))) (x1175 : Int) (x1176 : Int) (x1177 : Int) (x1178 : List Int) (x1179 : Int) (x1180 : List Int) : Option (Int × (List Int)) :=
  (spec_l20Fill_n11 R0 x1175 x1176 x1177 x1178 x1179 x1180).map (Sum.elim (fun (t : Int × (List Int)) => (t.1, t.2)) (fun (t : Int × (List Int)) => t))

def spec_l20Fill_knot : Nat → (Int → Int → Int → (List Int) → Int → (List Int) → Option (Int × (List Int)))
  | 0 => (fun _ _ _ _ _ _ => none)
  | n + 1 => (fun y0 y1 y2 y3 y4 y5 => spec_l20Fill_one (spec_l20Fill_knot n) y0 y1 y2 y3 y4 y5)

def spec_l20Fill_fuel (n : Nat) : Int → Int → Int → (List Int) → Int → (List Int) → Option (Int × (List Int)) := (spec_l20Fill_knot n)

@[irreducible] def spec_l20Fill (x1175 : Int) (x1176 : Int) (x1177 : Int) (x1178 : List Int) (x1179 : Int) (x1180 : List Int) : Option (Int × (List Int)) := spec_l20Fill_fuel RR x1175 x1176 x1177 x1178 x1179 x1180

def spec_l20Flat_n1 (x1128 : Int) (x1129 : List Int) (x1130 : Int) : Option ((Int × (List Int))) :=
  (spec_l20Rd_pick 3 x1129 x1130).bind fun (v1329 : Int × Int) => cond ((v1329.1) == 0) ((spec_l20Tree x1128 x1129 (v1329.2)).bind fun (v1333 : Int × (List Int)) => some ((v1333.1), (v1333.2))) ((spec_l20Rd_pick 7 x1129 (v1329.2)).bind fun (v1336 : Int × Int) => (mk (IntKind.wrap .i64 (1 + (v1336.1))) (IntKind.wrap .i64 (1 + (v1336.1)))).bind fun (v1340 : Nat) => (spec_l20Fill 1 (IntKind.wrap .i64 (1 + (v1336.1))) 0 x1129 (v1336.2) (List.replicate v1340 (0 : Int))).bind fun (v1342 : Int × (List Int)) => some ((v1342.1), (v1342.2)))

@[irreducible] def spec_l20Flat (x1128 : Int) (x1129 : List Int) (x1130 : Int) : Option (Int × (List Int)) :=
  spec_l20Flat_n1 x1128 x1129 x1130

def spec_l20Wild_n1 (x36 : Int) (x37 : List Int) (x38 : Int) : Option ((Int × (List Int))) :=
  (spec_l20Tree x36 x37 x38).bind fun (v1386 : Int × (List Int)) => (spec_l20Rd_pick 2 x37 (v1386.1)).bind fun (v1389 : Int × Int) => cond ((v1389.1) == 0) ((spec_TreeOk (v1386.2)).bind fun (v1393 : Bool) => cond v1393 ((spec_l20Order (((List.length (v1386.2) : Nat) : Int)) x37 (v1389.2)).bind fun (v1395 : Int × (List Int)) => (spec_PutInOrder (v1386.2) (v1395.2)).bind fun (v1398 : Bool × (List Int)) => some ((v1395.1), (v1398.2))) ((spec_l20Rd_pick 3 x37 (v1389.2)).bind fun (v1401 : Int × Int) => cond ((v1401.1) == 0) ((spec_l20Flat x36 x37 (v1401.2)).bind fun (v1405 : Int × (List Int)) => some ((v1405.1), (v1405.2))) (some ((v1401.2), (v1386.2))))) ((spec_l20Rd_pick 3 x37 (v1389.2)).bind fun (v1408 : Int × Int) => cond ((v1408.1) == 0) ((spec_l20Flat x36 x37 (v1408.2)).bind fun (v1412 : Int × (List Int)) => some ((v1412.1), (v1412.2))) (some ((v1408.2), (v1386.2))))

@[irreducible] def spec_l20Wild (x36 : Int) (x37 : List Int) (x38 : Int) : Option (Int × (List Int)) :=
  spec_l20Wild_n1 x36 x37 x38

def spec_l20Deed_n1 (x1429 : List Int) (x1430 : List Int) (x1431 : Int) : Option ((Int × Int × Int × Int)) :=
  (spec_l20Rd_pick 8 x1430 x1431).bind fun (v1612 : Int × Int) => (idx ([0, 0, 1, 1, 2, 3, 4, 5]) (v1612.1)).bind fun (v1615 : Int) => (spec_l20Rd_pick 60 x1430 (v1612.2)).bind fun (v1616 : Int × Int) => (quo .i64 (v1616.1) 59).bind fun (v1619 : Int) => cond ((IntKind.wrap .i64 (v1615 + (IntKind.wrap .i64 (v1619 * 6)))) == 0) ((spec_l20Rd_pick (imax (((List.length x1429 : Nat) : Int)) 1) x1430 (v1616.2)).bind fun (v1625 : Int × Int) => (spec_l20Rd_pick (IntKind.wrap .i64 ((((List.length x1429 : Nat) : Int)) + 1)) x1430 (v1625.2)).bind fun (v1631 : Int × Int) => (spec_l20Rd_odd 40 x1430 (v1631.2)).bind fun (v1634 : Bool × Int) => cond (v1634.1) ((spec_l20Rd_pick 3 x1430 (v1634.2)).bind fun (v1638 : Int × Int) => (inb (v1638.1) (List.length ([(-1), 9, 100]))).bind fun (v1641 : Nat) => (([(-1), 9, 100])[v1641]?).bind fun (v1642 : Int) => some ((v1638.2), (IntKind.wrap .i64 (v1615 + (IntKind.wrap .i64 (v1619 * 6)))), (IntKind.wrap .i64 (1 + (v1625.1))), v1642)) (some ((v1634.2), (IntKind.wrap .i64 (v1615 + (IntKind.wrap .i64 (v1619 * 6)))), (IntKind.wrap .i64 (1 + (v1625.1))), (v1631.1)))) (cond ((IntKind.wrap .i64 (v1615 + (IntKind.wrap .i64 (v1619 * 6)))) == 1) ((spec_l20Rd_pick (IntKind.wrap .i64 ((((List.length x1429 : Nat) : Int)) + 1)) x1430 (v1616.2)).bind fun (v1646 : Int × Int) => (spec_l20Rd_pick 9 x1430 (v1646.2)).bind fun (v1649 : Int × Int) => (quo .i64 (v1649.1) 8).bind fun (v1652 : Int) => (spec_l20Rd_odd 40 x1430 (v1649.2)).bind fun (v1654 : Bool × Int) => cond (v1654.1) ((spec_l20Rd_pick 3 x1430 (v1654.2)).bind fun (v1658 : Int × Int) => (inb (v1658.1) (List.length ([(-1), 9, 100]))).bind fun (v1661 : Nat) => (([(-1), 9, 100])[v1661]?).bind fun (v1662 : Int) => some ((v1658.2), (IntKind.wrap .i64 (v1615 + (IntKind.wrap .i64 (v1619 * 6)))), (IntKind.wrap .i64 ((v1646.1) + v1652)), v1662)) (some ((v1654.2), (IntKind.wrap .i64 (v1615 + (IntKind.wrap .i64 (v1619 * 6)))), (IntKind.wrap .i64 ((v1646.1) + v1652)), 0))) ((spec_l20Rd_odd 40 x1430 (v1616.2)).bind fun (v1663 : Bool × Int) => cond (v1663.1) ((spec_l20Rd_pick 3 x1430 (v1663.2)).bind fun (v1667 : Int × Int) => (inb (v1667.1) (List.length ([(-1), 9, 100]))).bind fun (v1670 : Nat) => (([(-1), 9, 100])[v1670]?).bind fun (v1671 : Int) => some ((v1667.2), (IntKind.wrap .i64 (v1615 + (IntKind.wrap .i64 (v1619 * 6)))), 0, v1671)) (some ((v1663.2), (IntKind.wrap .i64 (v1615 + (IntKind.wrap .i64 (v1619 * 6)))), 0, 0))))

@[irreducible] def spec_l20Deed (x1429 : List Int) (x1430 : List Int) (x1431 : Int) : Option (Int × Int × Int × Int) :=
  spec_l20Deed_n1 x1429 x1430 x1431

def spec_l20Deeds_n1 : Option (Unit) :=
  some ()

def spec_l20Deeds_n2 (x1421 : List Int) (x1422 : Int) : Option ((Int × Int)) :=
  (spec_l20Rd_pick 6 x1421 x1422).bind fun (v1424 : Int × Int) => some ((v1424.1), (v1424.2))

def spec_l20Deeds_n3 (x1420 : List Int) (x1702 : Int) (x1421 : List Int) (x1703 : Int) (x1704 : List (Int × Int × Int × Unit)) : Option ((Int × Int × (List (Int × Int × Int × Unit))) ⊕ (Int × (List (Int × Int × Int × Unit)))) :=
  cond (decide (x1702 > 0)) ((spec_l20Deed x1420 x1421 x1703).bind fun (v1720 : Int × Int × Int × Int) => (room ((List.length x1704) + List.length ([((v1720.2.1), ((v1720.2.2.1), ((v1720.2.2.2), ())))]))).bind fun (v1730 : Unit) => some (Sum.inl ((IntKind.wrap .i64 (x1702 - 1)), (v1720.1), (x1704 ++ ([((v1720.2.1), ((v1720.2.2.1), ((v1720.2.2.2), ())))]))))) (some (Sum.inr (x1703, x1704)))

def spec_l20Deeds_n4 (x1420 : List Int) (x1425 : Int) (x1421 : List Int) (x1426 : Int) : Option ((Int × (List (Int × Int × Int × Unit)))) :=
  nloop (fun (s : Int × Int × (List (Int × Int × Int × Unit))) => ((spec_l20Deeds_n3 x1420 s.1 x1421 s.2.1 s.2.2).map (Sum.elim (fun (t : Int × Int × (List (Int × Int × Int × Unit))) => Sum.inl (t.1, t.2.1, t.2.2)) (fun (t : Int × (List (Int × Int × Int × Unit))) => Sum.inr t)) : Option ((Int × Int × (List (Int × Int × Int × Unit))) ⊕ ((Int × (List (Int × Int × Int × Unit))))))) LL (x1425, x1426, ([] : List (Int × Int × Int × Unit)))

def spec_l20Deeds_n5 (x1420 : List Int) (x1425 : Int) (x1421 : List Int) (x1426 : Int) : Option ((Int × (List (Int × Int × Int × Unit)))) :=
  (spec_l20Deeds_n4 x1420 x1425 x1421 x1426).map (fun (t : Int × (List (Int × Int × Int × Unit))) => (t.1, t.2))

def spec_l20Deeds_n6 (x1420 : List Int) (x1421 : List Int) (x1422 : Int) : Option ((Int × (List (Int × Int × Int × Unit)))) :=
  (spec_l20Deeds_n2 x1421 x1422).bind (fun (t : Int × Int) => spec_l20Deeds_n5 x1420 t.1 x1421 t.2)

def spec_l20Deeds_n7 (x1703 : Int) (x1704 : List (Int × Int × Int × Unit)) : Option ((Int × (List (Int × Int × Int × Unit)))) :=
  some (x1703, x1704)

def spec_l20Deeds_n8 (x1420 : List Int) (x1421 : List Int) (x1422 : Int) : Option ((Int × (List (Int × Int × Int × Unit)))) :=
  (spec_l20Deeds_n6 x1420 x1421 x1422).bind (fun (t : Int × (List (Int × Int × Int × Unit))) => spec_l20Deeds_n7 t.1 t.2)

def spec_l20Deeds_n9 (x1420 : List Int) (x1421 : List Int) (x1422 : Int) : Option ((Int × (List (Int × Int × Int × Unit)))) :=
  (spec_l20Deeds_n1).bind (fun (t : Unit) => spec_l20Deeds_n8 x1420 x1421 x1422)

@[irreducible] def spec_l20Deeds (x1420 : List Int) (x1421 : List Int) (x1422 : Int) : Option (Int × (List (Int × Int × Int × Unit))) :=
  spec_l20Deeds_n9 x1420 x1421 x1422

def spec_l1Number_n1 (R0 : Int → Option ByteArray) (x1759 : Int) : Option (ByteArray) :=
  cond (decide (x1759 < 10)) (some (bytesOf ([(IntKind.wrap .u8 (IntKind.wrap .i64 (48 + (imax x1759 0))))]))) ((quo .i64 x1759 10).bind fun (v1823 : Int) => (rem x1759 10).bind fun (v1824 : Int) => (R0 v1823).bind fun (v1829 : ByteArray) => (cat v1829 (bytesOf ([(IntKind.wrap .u8 (IntKind.wrap .i64 (48 + v1824)))]))).bind fun (v1830 : ByteArray) => some v1830)

def spec_l1Number_one (R0 : Int → Option ByteArray) (x1759 : Int) : Option (ByteArray) :=
  spec_l1Number_n1 R0 x1759

def spec_l1Number_knot : Nat → (Int → Option ByteArray)
  | 0 => (fun _ => none)
  | n + 1 => (fun y0 => spec_l1Number_one (spec_l1Number_knot n) y0)

def spec_l1Number_fuel (n : Nat) : Int → Option ByteArray := (spec_l1Number_knot n)

@[irreducible] def spec_l1Number (x1759 : Int) : Option (ByteArray) := spec_l1Number_fuel RR x1759

def spec_DeedText_n1 : Option (Unit) :=
  some ()

def spec_DeedText_n2 (x1751 : Int) (x1752 : Int) (x1753 : Int) : Option (Bool) :=
  cond (x1751 == 0) ((spec_l1In x1752 0 99).bind fun (v1929 : Bool) => cond v1929 ((spec_l1In x1753 0 99).bind fun (v1930 : Bool) => some v1930) (some false)) (some false)

def spec_DeedText_n3 (x1752 : Int) (x1753 : Int) : Option (ByteArray) :=
  (spec_l1Number x1752).bind fun (v2026 : ByteArray) => (cat (ByteArray.mk #[104, 101, 97, 100, 32]) v2026).bind fun (v2027 : ByteArray) => (cat v2027 (ByteArray.mk #[32])).bind fun (v2028 : ByteArray) => (spec_l1Number x1753).bind fun (v2029 : ByteArray) => (cat v2028 v2029).bind fun (v2030 : ByteArray) => some v2030

def spec_DeedText_n4 (x1751 : Int) (x1752 : Int) (x1753 : Int) : Option (Bool) :=
  cond (x1751 == 1) ((spec_l1In x1752 0 99).bind fun (v2032 : Bool) => cond v2032 (some (x1753 == 0)) (some false)) (some false)

def spec_DeedText_n5 (x2075 : Bool) (x1751 : Int) (x1752 : Int) (x1753 : Int) : Option (Unit ⊕ ByteArray) :=
  cond x2075 ((spec_l1Number x1752).bind fun (v2076 : ByteArray) => (cat (ByteArray.mk #[97, 100, 100, 32]) v2076).bind fun (v2077 : ByteArray) => some (Sum.inr v2077)) (cond ((x1751 == 2) && ((x1752 == 0) && ((x1753 == 0) && true))) (some (Sum.inr (ByteArray.mk #[100, 114, 111, 112]))) (cond ((x1751 == 3) && ((x1752 == 0) && ((x1753 == 0) && true))) (some (Sum.inr (ByteArray.mk #[116, 117, 114, 110]))) (cond ((x1751 == 4) && ((x1752 == 0) && ((x1753 == 0) && true))) (some (Sum.inr (ByteArray.mk #[102, 108, 97, 116]))) (cond ((x1751 == 5) && ((x1752 == 0) && ((x1753 == 0) && true))) (some (Sum.inr (ByteArray.mk #[98, 97, 99, 107]))) (some (Sum.inl ()))))))

def spec_DeedText_n6 (x1751 : Int) (x1752 : Int) (x1753 : Int) : Option (Unit ⊕ ByteArray) :=
  (spec_DeedText_n4 x1751 x1752 x1753).bind (fun (t : Bool) => spec_DeedText_n5 t x1751 x1752 x1753)

def spec_DeedText_n7 (x1977 : Bool) (x1751 : Int) (x1752 : Int) (x1753 : Int) : Option (Unit ⊕ ByteArray) :=
  cond x1977 ((spec_DeedText_n3 x1752 x1753).map (fun (t : ByteArray) => (Sum.inr t))) (spec_DeedText_n6 x1751 x1752 x1753)

def spec_DeedText_n8 (x1751 : Int) (x1752 : Int) (x1753 : Int) : Option (Unit ⊕ ByteArray) :=
  (spec_DeedText_n2 x1751 x1752 x1753).bind (fun (t : Bool) => spec_DeedText_n7 t x1751 x1752 x1753)

def spec_DeedText_n9 (x1751 : Int) (x1752 : Int) (x1753 : Int) : Option (Unit ⊕ ByteArray) :=
  (spec_DeedText_n8 x1751 x1752 x1753).map (Sum.elim (fun (t : Unit) => (Sum.inl ())) (fun (t : ByteArray) => (Sum.inr t)))

def spec_DeedText_n10 : Option (ByteArray) :=
  some ByteArray.empty

def spec_DeedText_n11 (x1751 : Int) (x1752 : Int) (x1753 : Int) : Option (ByteArray) :=
  (spec_DeedText_n9 x1751 x1752 x1753).bind (Sum.elim (fun (t : Unit) => spec_DeedText_n10) (fun e => some ((fun (t : ByteArray) => t) e)))

def spec_DeedText_n12 (x1751 : Int) (x1752 : Int) (x1753 : Int) : Option (ByteArray) :=
  (spec_DeedText_n1).bind (fun (t : Unit) => spec_DeedText_n11 x1751 x1752 x1753)

@[irreducible] def spec_DeedText (x1751 : Int) (x1752 : Int) (x1753 : Int) : Option (ByteArray) :=
  spec_DeedText_n12 x1751 x1752 x1753

def spec_l20Written_n1 (x34 : List Int) (x35 : Int) : Option ((Int × (List (Int × Int × Int × Unit)))) :=
  (spec_l20Wild 0 x34 x35).bind fun (v1733 : Int × (List Int)) => (spec_l20Deeds (v1733.2) x34 (v1733.1)).bind fun (v1736 : Int × (List (Int × Int × Int × Unit))) => some ((v1736.1), (v1736.2))

def spec_l20Written_n2 : Option (Unit) :=
  some ()

def spec_l20Written_n3 (x2139 : Int) (x2140 : List (Int × Int × Int × Unit)) (x1738 : List (Int × Int × Int × Unit)) : Option ((Int × (List (Int × Int × Int × Unit))) ⊕ ((List (Int × Int × Int × Unit)))) :=
  cond (decide (x2139 < (((List.length x1738 : Nat) : Int)))) ((inb x2139 (List.length x1738)).bind fun (v2172 : Nat) => (x1738[v2172]?).bind fun (v2173 : Int × Int × Int × Unit) => (spec_DeedText (v2173.1) ((v2173.2).1) (((v2173.2).2).1)).bind fun (v2180 : ByteArray) => cond (!(seqs v2180 ByteArray.empty)) ((inb x2139 (List.length x1738)).bind fun (v2182 : Nat) => (x1738[v2182]?).bind fun (v2183 : Int × Int × Int × Unit) => (room ((List.length x2140) + List.length ([((v2183.1), (((v2183.2).1), ((((v2183.2).2).1), ())))]))).bind fun (v2195 : Unit) => some (Sum.inl ((IntKind.wrap .i64 (x2139 + 1)), (x2140 ++ ([((v2183.1), (((v2183.2).1), ((((v2183.2).2).1), ())))]))))) (some (Sum.inl ((IntKind.wrap .i64 (x2139 + 1)), x2140)))) (some (Sum.inr x2140))

def spec_l20Written_n4 (x1738 : List (Int × Int × Int × Unit)) : Option (((List (Int × Int × Int × Unit)))) :=
  nloop (fun (s : Int × (List (Int × Int × Int × Unit))) => ((spec_l20Written_n3 s.1 s.2 x1738).map (Sum.elim (fun (t : Int × (List (Int × Int × Int × Unit))) => Sum.inl (t.1, t.2)) (fun (t : (List (Int × Int × Int × Unit))) => Sum.inr t)) : Option ((Int × (List (Int × Int × Int × Unit))) ⊕ (((List (Int × Int × Int × Unit))))))) LL (0, ([] : List (Int × Int × Int × Unit)))

def spec_l20Written_n5 (x1738 : List (Int × Int × Int × Unit)) : Option (((List (Int × Int × Int × Unit)))) :=
  (spec_l20Written_n4 x1738).map (fun (t : (List (Int × Int × Int × Unit))) => t)

def spec_l20Written_n6 (x1738 : List (Int × Int × Int × Unit)) : Option (((List (Int × Int × Int × Unit)))) :=
  (spec_l20Written_n2).bind (fun (t : Unit) => spec_l20Written_n5 x1738)

def spec_l20Written_n7 (x1737 : Int) (x2140 : List (Int × Int × Int × Unit)) : Option ((Int × (List (Int × Int × Int × Unit)))) :=
  some (x1737, x2140)

def spec_l20Written_n8 (x1737 : Int) (x1738 : List (Int × Int × Int × Unit)) : Option ((Int × (List (Int × Int × Int × Unit)))) :=
  (spec_l20Written_n6 x1738).bind (fun (t : (List (Int × Int × Int × Unit))) => spec_l20Written_n7 x1737 t)

def spec_l20Written_n9 (x34 : List Int) (x35 : Int) : Option ((Int × (List (Int × Int × Int × Unit)))) :=
  (spec_l20Written_n1 x34 x35).bind (fun (t : Int × (List (Int × Int × Int × Unit))) => spec_l20Written_n8 t.1 t.2)

@[irreducible] def spec_l20Written (x34 : List Int) (x35 : Int) : Option (Int × (List (Int × Int × Int × Unit))) :=
  spec_l20Written_n9 x34 x35

def spec_DrawJournalText_n1 (x10 : List Int) : Option (((List (Int × Int × Int × Unit)))) :=
  (spec_l20Open x10).bind fun (v2233 : List Int) => (spec_l20Written v2233 0).bind fun (v2234 : Int × (List (Int × Int × Int × Unit))) => (spec_l20Rd_odd 12 v2233 (v2234.1)).bind fun (v2237 : Bool × Int) => cond (v2237.1) ((room ((List.length (v2234.2)) + List.length ([(9, (0, (0, ())))]))).bind fun (v2245 : Unit) => some ((v2234.2) ++ ([(9, (0, (0, ())))]))) (some (v2234.2))

@[irreducible] def spec_DrawJournalText (x10 : List Int) : Option ((List (Int × Int × Int × Unit))) :=
  spec_DrawJournalText_n1 x10

def impl_numbersIn_n1 (x2267 : Int) : Option (Int) :=
  cond (x2267 == 0) (some 2) (cond (x2267 == 1) (some 1) (some 0))

@[irreducible] def impl_numbersIn (x2267 : Int) : Option (Int) :=
  impl_numbersIn_n1 x2267

def impl_Deed_restOk_n1 (x2264 : Int) (x2265 : Int) (x2266 : Int) : Option (Bool) :=
  (impl_numbersIn x2264).bind fun (v2283 : Int) => cond (decide (v2283 > 0)) (cond (decide (v2283 > 1)) (some true) (some (x2266 == 0))) (cond (x2265 == 0) (cond (decide (v2283 > 1)) (some true) (some (x2266 == 0))) (some false))

@[irreducible] def impl_Deed_restOk (x2264 : Int) (x2265 : Int) (x2266 : Int) : Option (Bool) :=
  impl_Deed_restOk_n1 x2264 x2265 x2266

def impl_Deed_inText_n1 (x2259 : Int) (x2260 : Int) (x2261 : Int) : Option (Bool) :=
  cond (decide (x2259 ≥ 0)) (cond (decide (x2259 < 6)) ((impl_Deed_restOk x2259 x2260 x2261).bind fun (v2298 : Bool) => cond v2298 (cond (decide (x2260 ≥ 0)) (cond (decide (x2260 ≤ 99)) (cond (decide (x2261 ≥ 0)) (some (decide (x2261 ≤ 99))) (some false)) (some false)) (some false)) (some false)) (some false)) (some false)

@[irreducible] def impl_Deed_inText (x2259 : Int) (x2260 : Int) (x2261 : Int) : Option (Bool) :=
  impl_Deed_inText_n1 x2259 x2260 x2261

def strconv_Itoa (x1 : Int) : Option (ByteArray) := itoaS x1

def impl_DeedText_n1 (x2256 : Int) (x2257 : Int) (x2258 : Int) : Option (ByteArray ⊕ ByteArray) :=
  (impl_Deed_inText x2256 x2257 x2258).bind fun (v2313 : Bool) => cond (!v2313) (some (Sum.inr ByteArray.empty)) ((same (List.length tabW) 6).bind fun (v2315 : Unit) => (idx tabW x2256).bind fun (v2316 : ByteArray) => some (Sum.inl v2316))

def impl_DeedText_n2 (x2256 : Int) (x2257 : Int) (x2258 : Int) : Option (((List Int) × Int)) :=
  (impl_numbersIn x2256).bind fun (v2318 : Int) => (inc v2318 (List.length ([x2257, x2258]))).bind fun (v2320 : Nat) => some (((([x2257, x2258]).take v2320).drop 0), (((List.length ((([x2257, x2258]).take v2320).drop 0) : Nat) : Int)))

def impl_DeedText_n3 (x2338 : ByteArray) (x2321 : List Int) (x2322 : Int) (x2339 : Int) : Option ((ByteArray × Int) ⊕ ByteArray) :=
  cond (decide (x2339 < x2322)) ((idx x2321 x2339).bind fun (v2348 : Int) => (strconv_Itoa v2348).bind fun (v2349 : ByteArray) => (cat (ByteArray.mk #[32]) v2349).bind fun (v2350 : ByteArray) => (cat x2338 v2350).bind fun (v2351 : ByteArray) => some (Sum.inl (v2351, (IntKind.wrap .i64 (x2339 + 1))))) (some (Sum.inr x2338))

def impl_DeedText_n4 (x2316 : ByteArray) (x2321 : List Int) (x2322 : Int) : Option (ByteArray) :=
  nloop (fun (s : ByteArray × Int) => ((impl_DeedText_n3 s.1 x2321 x2322 s.2).map (Sum.elim (fun (t : ByteArray × Int) => Sum.inl (t.1, t.2)) (fun (t : ByteArray) => Sum.inr t)) : Option ((ByteArray × Int) ⊕ (ByteArray)))) LL (x2316, 0)

def impl_DeedText_n5 (x2316 : ByteArray) (x2321 : List Int) (x2322 : Int) : Option (ByteArray) :=
  (impl_DeedText_n4 x2316 x2321 x2322).map (fun (t : ByteArray) => t)

def impl_DeedText_n6 (x2316 : ByteArray) (x2256 : Int) (x2257 : Int) (x2258 : Int) : Option (ByteArray) :=
  (impl_DeedText_n2 x2256 x2257 x2258).bind (fun (t : (List Int) × Int) => impl_DeedText_n5 x2316 t.1 t.2)

def impl_DeedText_n7 (x2338 : ByteArray) : Option (ByteArray) :=
  some x2338

def impl_DeedText_n8 (x2316 : ByteArray) (x2256 : Int) (x2257 : Int) (x2258 : Int) : Option (ByteArray) :=
  (impl_DeedText_n6 x2316 x2256 x2257 x2258).bind (fun (t : ByteArray) => impl_DeedText_n7 t)

def impl_DeedText_n9 (x2256 : Int) (x2257 : Int) (x2258 : Int) : Option (ByteArray) :=
  (impl_DeedText_n1 x2256 x2257 x2258).bind (Sum.elim (fun (t : ByteArray) => impl_DeedText_n8 t x2256 x2257 x2258) (fun e => some ((fun (t : ByteArray) => t) e)))

@[irreducible] def impl_DeedText (x2256 : Int) (x2257 : Int) (x2258 : Int) : Option (ByteArray) :=
  impl_DeedText_n9 x2256 x2257 x2258

def impl_JournalText (x1 : List (Int × Int × Int × Unit)) : Option (ByteArray) := jtextL (fun d : Int × Int × Int × Unit => impl_DeedText d.1 d.2.1 d.2.2.1) x1

def spec_JournalText_n1 : Option (Unit) :=
  some ()

def spec_JournalText_n2 : Option (Unit) :=
  some ()

def spec_JournalText_n3 (x2360 : List (Int × Int × Int × Unit)) (x2407 : ByteArray) (x2408 : Int) : Option ((ByteArray × Int) ⊕ ByteArray ⊕ ByteArray) :=
  cond (decide (x2408 < (((List.length x2360 : Nat) : Int)))) ((idx x2360 x2408).bind fun (v2434 : Int × Int × Int × Unit) => (spec_DeedText (v2434.1) ((v2434.2).1) (((v2434.2).2).1)).bind fun (v2441 : ByteArray) => cond (seqs v2441 ByteArray.empty) (some (Sum.inr (Sum.inl ByteArray.empty))) ((idx x2360 x2408).bind fun (v2443 : Int × Int × Int × Unit) => (spec_DeedText (v2443.1) ((v2443.2).1) (((v2443.2).2).1)).bind fun (v2450 : ByteArray) => (cat x2407 v2450).bind fun (v2451 : ByteArray) => (cat v2451 (ByteArray.mk #[10])).bind fun (v2452 : ByteArray) => some (Sum.inl (v2452, (IntKind.wrap .i64 (x2408 + 1)))))) (some (Sum.inr (Sum.inr x2407)))

def spec_JournalText_n4 (x2360 : List (Int × Int × Int × Unit)) : Option (ByteArray ⊕ ByteArray) :=
  nloop (fun (s : ByteArray × Int) => ((spec_JournalText_n3 x2360 s.1 s.2).map (Sum.elim (fun (t : ByteArray × Int) => Sum.inl (t.1, t.2)) (Sum.elim (fun (t : ByteArray) => Sum.inr (Sum.inl t)) (fun (t : ByteArray) => Sum.inr (Sum.inr t)))) : Option ((ByteArray × Int) ⊕ (ByteArray ⊕ ByteArray)))) LL (ByteArray.empty, 0)

def spec_JournalText_n5 (x2360 : List (Int × Int × Int × Unit)) : Option (ByteArray ⊕ ByteArray) :=
  (spec_JournalText_n4 x2360).map (Sum.elim (fun (t : ByteArray) => (Sum.inr t)) (fun (t : ByteArray) => (Sum.inl t)))

def spec_JournalText_n6 (x2360 : List (Int × Int × Int × Unit)) : Option (ByteArray ⊕ ByteArray) :=
  (spec_JournalText_n2).bind (fun (t : Unit) => spec_JournalText_n5 x2360)

def spec_JournalText_n7 (x2407 : ByteArray) : Option (ByteArray) :=
  some x2407

def spec_JournalText_n8 (x2360 : List (Int × Int × Int × Unit)) : Option (ByteArray) :=
  (spec_JournalText_n6 x2360).bind (Sum.elim (fun (t : ByteArray) => spec_JournalText_n7 t) (fun e => some ((fun (t : ByteArray) => t) e)))

def spec_JournalText_n9 (x2360 : List (Int × Int × Int × Unit)) : Option (ByteArray) :=
  (spec_JournalText_n1).bind (fun (t : Unit) => spec_JournalText_n8 x2360)

@[irreducible] def spec_JournalText (x2360 : List (Int × Int × Int × Unit)) : Option (ByteArray) :=
  spec_JournalText_n9 x2360

def impl_oneRoot_n1 : Option (Unit) :=
  some ()

def impl_oneRoot_n2 (x2470 : List Int) : Option (Int) :=
  some (((List.length x2470 : Nat) : Int))

def impl_oneRoot_n3 (x2470 : List Int) (x2492 : Int) (x2471 : Int) (x2493 : Int) : Option ((Int × Int) ⊕ Bool ⊕ Int) :=
  cond (decide (x2493 < x2471)) ((idx x2470 x2493).bind fun (v2504 : Int) => cond (decide (v2504 < 0)) (some (Sum.inr (Sum.inl false))) (cond (decide (v2504 > (((List.length x2470 : Nat) : Int)))) (some (Sum.inr (Sum.inl false))) (cond (v2504 == 0) (some (Sum.inl ((IntKind.wrap .i64 (x2492 + 1)), (IntKind.wrap .i64 (x2493 + 1))))) (some (Sum.inl (x2492, (IntKind.wrap .i64 (x2493 + 1)))))))) (some (Sum.inr (Sum.inr x2492)))

def impl_oneRoot_n4 (x2470 : List Int) (x2471 : Int) : Option (Bool ⊕ Int) :=
  nloop (fun (s : Int × Int) => ((impl_oneRoot_n3 x2470 s.1 x2471 s.2).map (Sum.elim (fun (t : Int × Int) => Sum.inl (t.1, t.2)) (Sum.elim (fun (t : Bool) => Sum.inr (Sum.inl t)) (fun (t : Int) => Sum.inr (Sum.inr t)))) : Option ((Int × Int) ⊕ (Bool ⊕ Int)))) LL (0, 0)

def impl_oneRoot_n5 (x2470 : List Int) (x2471 : Int) : Option (Int ⊕ Bool) :=
  (impl_oneRoot_n4 x2470 x2471).map (Sum.elim (fun (t : Bool) => (Sum.inr t)) (fun (t : Int) => (Sum.inl t)))

def impl_oneRoot_n6 (x2470 : List Int) : Option (Int ⊕ Bool) :=
  (impl_oneRoot_n2 x2470).bind (fun (t : Int) => impl_oneRoot_n5 x2470 t)

def impl_oneRoot_n7 (x2492 : Int) : Option (Bool) :=
  some (x2492 == 1)

def impl_oneRoot_n8 (x2470 : List Int) : Option (Bool) :=
  (impl_oneRoot_n6 x2470).bind (Sum.elim (fun (t : Int) => impl_oneRoot_n7 t) (fun e => some ((fun (t : Bool) => t) e)))

def impl_oneRoot_n9 (x2470 : List Int) : Option (Bool) :=
  (impl_oneRoot_n1).bind (fun (t : Unit) => impl_oneRoot_n8 x2470)

@[irreducible] def impl_oneRoot (x2470 : List Int) : Option (Bool) :=
  impl_oneRoot_n9 x2470

def impl_walker_up_n1 (x2526 : List Int) (x2527 : Int) (x2528 : Int) : Option ((Bool × Int × Int)) :=
  (idx x2526 (IntKind.wrap .i64 (x2527 - 1))).bind fun (v2546 : Int) => cond (v2546 == 0) (some (false, x2527, x2528)) (some (true, v2546, (IntKind.wrap .i64 (x2528 + 1))))

@[irreducible] def impl_walker_up (x2526 : List Int) (x2527 : Int) (x2528 : Int) : Option (Bool × Int × Int) :=
  impl_walker_up_n1 x2526 x2527 x2528

def impl_stepsToRoot_n1 : Option (Unit) :=
  some ()

def impl_stepsToRoot_n2 (x2524 : List Int) (x2562 : Int) (x2563 : Int) : Option ((Int × Int) ⊕ (Int × Bool) ⊕ (Int × Int)) :=
  (impl_walker_up x2524 x2562 x2563).bind fun (v2568 : Bool × Int × Int) => cond (v2568.1) (cond (decide ((v2568.2.2) ≥ (((List.length x2524 : Nat) : Int)))) (some (Sum.inr (Sum.inl (0, false)))) (some (Sum.inl ((v2568.2.1), (v2568.2.2))))) (some (Sum.inr (Sum.inr ((v2568.2.1), (v2568.2.2)))))

def impl_stepsToRoot_n3 (x2524 : List Int) (x2525 : Int) : Option ((Int × Bool) ⊕ (Int × Int)) :=
  nloop (fun (s : Int × Int) => ((impl_stepsToRoot_n2 x2524 s.1 s.2).map (Sum.elim (fun (t : Int × Int) => Sum.inl (t.1, t.2)) (Sum.elim (fun (t : Int × Bool) => Sum.inr (Sum.inl t)) (fun (t : Int × Int) => Sum.inr (Sum.inr t)))) : Option ((Int × Int) ⊕ ((Int × Bool) ⊕ (Int × Int))))) LL (x2525, 0)

def impl_stepsToRoot_n4 (x2524 : List Int) (x2525 : Int) : Option ((Int × Int) ⊕ (Int × Bool)) :=
  (impl_stepsToRoot_n3 x2524 x2525).map (Sum.elim (fun (t : Int × Bool) => (Sum.inr t)) (fun (t : Int × Int) => (Sum.inl (t.1, t.2))))

def impl_stepsToRoot_n5 (x2571 : Int) : Option ((Int × Bool)) :=
  some (x2571, true)

def impl_stepsToRoot_n6 (x2524 : List Int) (x2525 : Int) : Option ((Int × Bool)) :=
  (impl_stepsToRoot_n4 x2524 x2525).bind (Sum.elim (fun (t : Int × Int) => impl_stepsToRoot_n5 t.2) (fun e => some ((fun (t : Int × Bool) => t) e)))

def impl_stepsToRoot_n7 (x2524 : List Int) (x2525 : Int) : Option ((Int × Bool)) :=
  (impl_stepsToRoot_n1).bind (fun (t : Unit) => impl_stepsToRoot_n6 x2524 x2525)

@[irreducible] def impl_stepsToRoot (x2524 : List Int) (x2525 : Int) : Option (Int × Bool) :=
  impl_stepsToRoot_n7 x2524 x2525

def impl_TreeOk_n1 (x2465 : List Int) : Option (Unit ⊕ Bool) :=
  cond (decide ((((List.length x2465 : Nat) : Int)) < 1)) (some (Sum.inr false)) (cond (decide ((((List.length x2465 : Nat) : Int)) > 8)) (some (Sum.inr false)) ((impl_oneRoot x2465).bind fun (v2517 : Bool) => cond (!v2517) (some (Sum.inr false)) (some (Sum.inl ()))))

def impl_TreeOk_n2 (x2465 : List Int) : Option (Int) :=
  some (((List.length x2465 : Nat) : Int))

def impl_TreeOk_n3 (x2465 : List Int) (x2519 : Int) (x2587 : Int) : Option (Int ⊕ Bool ⊕ Unit) :=
  cond (decide (x2587 < x2519)) ((impl_stepsToRoot x2465 (IntKind.wrap .i64 (x2587 + 1))).bind fun (v2598 : Int × Bool) => cond (!(v2598.2)) (some (Sum.inr (Sum.inl false))) (some (Sum.inl (IntKind.wrap .i64 (x2587 + 1))))) (some (Sum.inr (Sum.inr ())))

def impl_TreeOk_n4 (x2465 : List Int) (x2519 : Int) : Option (Bool ⊕ Unit) :=
  nloop (fun (s : Int) => ((impl_TreeOk_n3 x2465 x2519 s).map (Sum.elim (fun (t : Int) => Sum.inl t) (Sum.elim (fun (t : Bool) => Sum.inr (Sum.inl t)) (fun (t : Unit) => Sum.inr (Sum.inr t)))) : Option ((Int) ⊕ (Bool ⊕ Unit)))) LL 0

def impl_TreeOk_n5 (x2465 : List Int) (x2519 : Int) : Option (Unit ⊕ Bool) :=
  (impl_TreeOk_n4 x2465 x2519).map (Sum.elim (fun (t : Bool) => (Sum.inr t)) (fun (t : Unit) => (Sum.inl ())))

def impl_TreeOk_n6 (x2465 : List Int) : Option (Unit ⊕ Bool) :=
  (impl_TreeOk_n2 x2465).bind (fun (t : Int) => impl_TreeOk_n5 x2465 t)

def impl_TreeOk_n7 : Option (Bool) :=
  some true

def impl_TreeOk_n8 (x2465 : List Int) : Option (Bool) :=
  (impl_TreeOk_n6 x2465).bind (Sum.elim (fun (t : Unit) => impl_TreeOk_n7) (fun e => some ((fun (t : Bool) => t) e)))

def impl_TreeOk_n9 (x2465 : List Int) : Option (Bool) :=
  (impl_TreeOk_n1 x2465).bind (Sum.elim (fun (t : Unit) => impl_TreeOk_n8 x2465) (fun e => some ((fun (t : Bool) => t) e)))

@[irreducible] def impl_TreeOk (x2465 : List Int) : Option (Bool) :=
  impl_TreeOk_n9 x2465

def laws_alive_n1 : Option (Bool) :=
  (impl_TreeOk ([0])).bind fun (v2609 : Bool) => cond v2609 ((impl_TreeOk ([1])).bind fun (v2611 : Bool) => some (!v2611)) (some false)

@[irreducible] def laws_alive : Option (Bool) :=
  laws_alive_n1

def internal_stringslite_Index (x1 : ByteArray) (x2 : ByteArray) : Option (Int) := sidx x1 x2

def internal_stringslite_Cut_n1 (x2629 : ByteArray) (x2630 : ByteArray) : Option ((ByteArray × ByteArray × Bool)) :=
  (internal_stringslite_Index x2629 x2630).bind fun (v2654 : Int) => cond (decide (v2654 ≥ 0)) ((inc v2654 (ByteArray.size x2629)).bind fun (v2657 : Nat) => (inc (IntKind.wrap .i64 (v2654 + (((ByteArray.size x2630 : Nat) : Int)))) (ByteArray.size x2629)).bind fun (v2662 : Nat) => some ((x2629.extract 0 v2657), (x2629.extract v2662 (ByteArray.size x2629)), true)) (some (x2629, ByteArray.empty, false))

@[irreducible] def internal_stringslite_Cut (x2629 : ByteArray) (x2630 : ByteArray) : Option (ByteArray × ByteArray × Bool) :=
  internal_stringslite_Cut_n1 x2629 x2630

def strings_Cut_n1 (x2627 : ByteArray) (x2628 : ByteArray) : Option ((ByteArray × ByteArray × Bool)) :=
  (internal_stringslite_Cut x2627 x2628).bind fun (v2671 : ByteArray × ByteArray × Bool) => some ((v2671.1), (v2671.2.1), (v2671.2.2))

@[irreducible] def strings_Cut (x2627 : ByteArray) (x2628 : ByteArray) : Option (ByteArray × ByteArray × Bool) :=
  strings_Cut_n1 x2627 x2628

def strings_Index_n1 (x2728 : ByteArray) (x2729 : ByteArray) : Option (Int) :=
  (internal_stringslite_Index x2728 x2729).bind fun (v2731 : Int) => some v2731

@[irreducible] def strings_Index (x2728 : ByteArray) (x2729 : ByteArray) : Option (Int) :=
  strings_Index_n1 x2728 x2729

def strings_genSplit_n1 (x2684 : ByteArray) (x2685 : ByteArray) (x2687 : Int) : Option ((Int × (List ByteArray)) ⊕ (Nat × (List ByteArray))) :=
  cond (x2687 == 0) (some (Sum.inr ((List.length ([] : List ByteArray)), ([] : List ByteArray)))) (cond (seqs x2685 ByteArray.empty) (none) (cond (decide (x2687 < 0)) (none) ((mk (imin x2687 (IntKind.wrap .i64 ((((ByteArray.size x2684 : Nat) : Int)) + 1))) (imin x2687 (IntKind.wrap .i64 ((((ByteArray.size x2684 : Nat) : Int)) + 1)))).bind fun (v2821 : Nat) => some (Sum.inl ((IntKind.wrap .i64 ((imin x2687 (IntKind.wrap .i64 ((((ByteArray.size x2684 : Nat) : Int)) + 1))) - 1)), (List.replicate v2821 ByteArray.empty))))))

def strings_genSplit_n2 (x2840 : ByteArray) (x2685 : ByteArray) (x2686 : Int) (x2823 : Int) (x2841 : Int) (x2842 : List ByteArray) : Option ((ByteArray × Int × (List ByteArray)) ⊕ (ByteArray × Int × (List ByteArray))) :=
  cond (decide (x2841 < x2823)) ((strings_Index x2840 x2685).bind fun (v2845 : Int) => cond (decide (v2845 < 0)) (some (Sum.inr (x2840, x2841, x2842))) ((inc (IntKind.wrap .i64 (v2845 + x2686)) (ByteArray.size x2840)).bind fun (v2849 : Nat) => (inb x2841 (List.length x2842)).bind fun (v2851 : Nat) => (inc (IntKind.wrap .i64 (v2845 + (((ByteArray.size x2685 : Nat) : Int)))) (ByteArray.size x2840)).bind fun (v2856 : Nat) => some (Sum.inl ((x2840.extract v2856 (ByteArray.size x2840)), (IntKind.wrap .i64 (x2841 + 1)), (x2842.set v2851 (x2840.extract 0 v2849)))))) (some (Sum.inr (x2840, x2841, x2842)))

def strings_genSplit_n3 (x2684 : ByteArray) (x2685 : ByteArray) (x2686 : Int) (x2823 : Int) (x2822 : List ByteArray) : Option ((ByteArray × Int × (List ByteArray))) :=
  nloop (fun (s : ByteArray × Int × (List ByteArray)) => ((strings_genSplit_n2 s.1 x2685 x2686 x2823 s.2.1 s.2.2).map (Sum.elim (fun (t : ByteArray × Int × (List ByteArray)) => Sum.inl (t.1, t.2.1, t.2.2)) (fun (t : ByteArray × Int × (List ByteArray)) => Sum.inr t)) : Option ((ByteArray × Int × (List ByteArray)) ⊕ ((ByteArray × Int × (List ByteArray)))))) LL (x2684, 0, x2822)

def strings_genSplit_n4 (x2684 : ByteArray) (x2685 : ByteArray) (x2686 : Int) (x2823 : Int) (x2822 : List ByteArray) : Option ((ByteArray × Int × (List ByteArray))) :=
  (strings_genSplit_n3 x2684 x2685 x2686 x2823 x2822).map (fun (t : ByteArray × Int × (List ByteArray)) => (t.1, t.2.1, t.2.2))

def strings_genSplit_n5 (x2840 : ByteArray) (x2841 : Int) (x2842 : List ByteArray) : Option ((Nat × (List ByteArray))) :=
  (inb x2841 (List.length x2842)).bind fun (v2867 : Nat) => (inc (IntKind.wrap .i64 (x2841 + 1)) (List.length (x2842.set v2867 x2840))).bind fun (v2871 : Nat) => some ((v2871 - 0), (x2842.set v2867 x2840))

def strings_genSplit_n6 (x2684 : ByteArray) (x2685 : ByteArray) (x2686 : Int) (x2823 : Int) (x2822 : List ByteArray) : Option ((Nat × (List ByteArray))) :=
  (strings_genSplit_n4 x2684 x2685 x2686 x2823 x2822).bind (fun (t : ByteArray × Int × (List ByteArray)) => strings_genSplit_n5 t.1 t.2.1 t.2.2)

def strings_genSplit_n7 (x2684 : ByteArray) (x2685 : ByteArray) (x2686 : Int) (x2687 : Int) : Option ((Nat × (List ByteArray))) :=
  (strings_genSplit_n1 x2684 x2685 x2687).bind (Sum.elim (fun (t : Int × (List ByteArray)) => strings_genSplit_n6 x2684 x2685 x2686 t.1 t.2) (fun e => some ((fun (t : Nat × (List ByteArray)) => t) e)))

@[irreducible] def strings_genSplit (x2684 : ByteArray) (x2685 : ByteArray) (x2686 : Int) (x2687 : Int) : Option (Nat × (List ByteArray)) :=
  strings_genSplit_n7 x2684 x2685 x2686 x2687

def strings_SplitN_n1 (x2680 : ByteArray) (x2681 : ByteArray) (x2682 : Int) : Option ((Nat × (List ByteArray))) :=
  (strings_genSplit x2680 x2681 0 x2682).bind fun (v2878 : Nat × (List ByteArray)) => some ((v2878.1), (v2878.2))

@[irreducible] def strings_SplitN (x2680 : ByteArray) (x2681 : ByteArray) (x2682 : Int) : Option (Nat × (List ByteArray)) :=
  strings_SplitN_n1 x2680 x2681 x2682

def impl_kindFor_n1 : Option (Unit) :=
  some ()

def impl_kindFor_n2 : Option ((ByteArray × ByteArray × ByteArray × ByteArray × ByteArray × ByteArray)) :=
  (same (List.length tabW) 6).bind fun (v2891 : Unit) => some ((tabW.getD 0 ByteArray.empty), (tabW.getD 1 ByteArray.empty), (tabW.getD 2 ByteArray.empty), (tabW.getD 3 ByteArray.empty), (tabW.getD 4 ByteArray.empty), (tabW.getD 5 ByteArray.empty))

def impl_kindFor_n3 (x2890 : ByteArray) (x2892 : ByteArray) (x2893 : ByteArray) (x2894 : ByteArray) (x2895 : ByteArray) (x2896 : ByteArray) (x2897 : ByteArray) (x2907 : Int) : Option (Int ⊕ Int ⊕ Unit) :=
  cond (decide (x2907 < 6)) ((idx [x2892, x2893, x2894, x2895, x2896, x2897] x2907).bind fun (v2914 : ByteArray) => cond (seqs v2914 x2890) (some (Sum.inr (Sum.inl x2907))) (some (Sum.inl (IntKind.wrap .i64 (x2907 + 1))))) (some (Sum.inr (Sum.inr ())))

def impl_kindFor_n4 (x2890 : ByteArray) (x2892 : ByteArray) (x2893 : ByteArray) (x2894 : ByteArray) (x2895 : ByteArray) (x2896 : ByteArray) (x2897 : ByteArray) : Option (Int ⊕ Unit) :=
  nloop (fun (s : Int) => ((impl_kindFor_n3 x2890 x2892 x2893 x2894 x2895 x2896 x2897 s).map (Sum.elim (fun (t : Int) => Sum.inl t) (Sum.elim (fun (t : Int) => Sum.inr (Sum.inl t)) (fun (t : Unit) => Sum.inr (Sum.inr t)))) : Option ((Int) ⊕ (Int ⊕ Unit)))) LL 0

def impl_kindFor_n5 (x2890 : ByteArray) (x2892 : ByteArray) (x2893 : ByteArray) (x2894 : ByteArray) (x2895 : ByteArray) (x2896 : ByteArray) (x2897 : ByteArray) : Option (Unit ⊕ Int) :=
  (impl_kindFor_n4 x2890 x2892 x2893 x2894 x2895 x2896 x2897).map (Sum.elim (fun (t : Int) => (Sum.inr t)) (fun (t : Unit) => (Sum.inl ())))

def impl_kindFor_n6 (x2890 : ByteArray) : Option (Unit ⊕ Int) :=
  (impl_kindFor_n2).bind (fun (t : ByteArray × ByteArray × ByteArray × ByteArray × ByteArray × ByteArray) => impl_kindFor_n5 x2890 t.1 t.2.1 t.2.2.1 t.2.2.2.1 t.2.2.2.2.1 t.2.2.2.2.2)

def impl_kindFor_n7 : Option (Int) :=
  some (-1)

def impl_kindFor_n8 (x2890 : ByteArray) : Option (Int) :=
  (impl_kindFor_n6 x2890).bind (Sum.elim (fun (t : Unit) => impl_kindFor_n7) (fun e => some ((fun (t : Int) => t) e)))

def impl_kindFor_n9 (x2890 : ByteArray) : Option (Int) :=
  (impl_kindFor_n1).bind (fun (t : Unit) => impl_kindFor_n8 x2890)

@[irreducible] def impl_kindFor (x2890 : ByteArray) : Option (Int) :=
  impl_kindFor_n9 x2890

def strconv_Atoi (x1 : ByteArray) : Option (Int × Bool) := atoiS x1

def impl_ReadDeed_n1 (x2679 : ByteArray) : Option ((Bool × Int × Int × Int)) :=
  (strings_SplitN x2679 (ByteArray.mk #[32]) 3).bind fun (v3054 : Nat × (List ByteArray)) => (inb 0 (v3054.1)).bind fun (v3057 : Nat) => ((v3054.2)[(0 + v3057)]?).bind fun (v3059 : ByteArray) => (impl_kindFor v3059).bind fun (v3060 : Int) => cond (decide (((((v3054.1) : Nat) : Int)) > 1)) ((inb 1 (v3054.1)).bind fun (v3063 : Nat) => ((v3054.2)[(0 + v3063)]?).bind fun (v3065 : ByteArray) => (strconv_Atoi v3065).bind fun (v3066 : Int × Bool) => cond (decide (((((v3054.1) : Nat) : Int)) > 2)) ((inb 2 (v3054.1)).bind fun (v3071 : Nat) => ((v3054.2)[(0 + v3071)]?).bind fun (v3073 : ByteArray) => (strconv_Atoi v3073).bind fun (v3074 : Int × Bool) => cond (seqs x2679 ByteArray.empty) (some (false, 0, 0, 0)) ((impl_DeedText v3060 (v3066.1) (v3074.1)).bind fun (v3078 : ByteArray) => cond (!(seqs v3078 x2679)) (some (false, 0, 0, 0)) (some (true, v3060, (v3066.1), (v3074.1))))) (cond (seqs x2679 ByteArray.empty) (some (false, 0, 0, 0)) ((impl_DeedText v3060 (v3066.1) 0).bind fun (v3081 : ByteArray) => cond (!(seqs v3081 x2679)) (some (false, 0, 0, 0)) (some (true, v3060, (v3066.1), 0))))) (cond (decide (((((v3054.1) : Nat) : Int)) > 2)) ((inb 2 (v3054.1)).bind fun (v3085 : Nat) => ((v3054.2)[(0 + v3085)]?).bind fun (v3087 : ByteArray) => (strconv_Atoi v3087).bind fun (v3088 : Int × Bool) => cond (seqs x2679 ByteArray.empty) (some (false, 0, 0, 0)) ((impl_DeedText v3060 0 (v3088.1)).bind fun (v3092 : ByteArray) => cond (!(seqs v3092 x2679)) (some (false, 0, 0, 0)) (some (true, v3060, 0, (v3088.1))))) (cond (seqs x2679 ByteArray.empty) (some (false, 0, 0, 0)) ((impl_DeedText v3060 0 0).bind fun (v3095 : ByteArray) => cond (!(seqs v3095 x2679)) (some (false, 0, 0, 0)) (some (true, v3060, 0, 0)))))

@[irreducible] def impl_ReadDeed (x2679 : ByteArray) : Option (Bool × Int × Int × Int) :=
  impl_ReadDeed_n1 x2679

def impl_ReadJournal_n1 : Option (Unit) :=
  some ()

def impl_ReadJournal_n2 (x2623 : ByteArray) (x3118 : Int) (x3119 : List (Int × Int × Int × Unit)) : Option ((Int × (List (Int × Int × Int × Unit))) ⊕ (Int × (List (Int × Int × Int × Unit)))) :=
  (inc x3118 (ByteArray.size x2623)).bind fun (v3121 : Nat) => (strings_Cut (x2623.extract v3121 (ByteArray.size x2623)) (ByteArray.mk #[10])).bind fun (v3123 : ByteArray × ByteArray × Bool) => (impl_ReadDeed (v3123.1)).bind fun (v3127 : Bool × Int × Int × Int) => cond (!(v3123.2.2)) (some (Sum.inr (x3118, x3119))) (cond (!(v3127.1)) (some (Sum.inr (x3118, x3119))) ((room ((List.length x3119) + List.length ([((v3127.2.1), ((v3127.2.2.1), ((v3127.2.2.2), ())))]))).bind fun (v3139 : Unit) => some (Sum.inl ((IntKind.wrap .i64 (x3118 + (IntKind.wrap .i64 ((((ByteArray.size (v3123.1) : Nat) : Int)) + 1)))), (x3119 ++ ([((v3127.2.1), ((v3127.2.2.1), ((v3127.2.2.2), ())))]))))))

def impl_ReadJournal_n3 (x2623 : ByteArray) : Option ((Int × (List (Int × Int × Int × Unit)))) :=
  nloop (fun (s : Int × (List (Int × Int × Int × Unit))) => ((impl_ReadJournal_n2 x2623 s.1 s.2).map (Sum.elim (fun (t : Int × (List (Int × Int × Int × Unit))) => Sum.inl (t.1, t.2)) (fun (t : Int × (List (Int × Int × Int × Unit))) => Sum.inr t)) : Option ((Int × (List (Int × Int × Int × Unit))) ⊕ ((Int × (List (Int × Int × Int × Unit))))))) LL (0, ([] : List (Int × Int × Int × Unit)))

def impl_ReadJournal_n4 (x2623 : ByteArray) : Option ((Int × (List (Int × Int × Int × Unit)))) :=
  (impl_ReadJournal_n3 x2623).map (fun (t : Int × (List (Int × Int × Int × Unit))) => t)

def impl_ReadJournal_n5 (x2623 : ByteArray) : Option ((Int × (List (Int × Int × Int × Unit)))) :=
  (impl_ReadJournal_n1).bind (fun (t : Unit) => impl_ReadJournal_n4 x2623)

@[irreducible] def impl_ReadJournal (x2623 : ByteArray) : Option (Int × (List (Int × Int × Int × Unit))) :=
  impl_ReadJournal_n5 x2623

def laws_sameDeeds_n1 (x3158 : List (Int × Int × Int × Unit)) (x3159 : List (Int × Int × Int × Unit)) : Option (Unit ⊕ Bool) :=
  cond ((((List.length x3158 : Nat) : Int)) != (((List.length x3159 : Nat) : Int))) (some (Sum.inr false)) (some (Sum.inl ()))

def laws_sameDeeds_n2 : Option (Unit) :=
  some ()

def laws_sameDeeds_n3 (x3158 : List (Int × Int × Int × Unit)) (x3159 : List (Int × Int × Int × Unit)) (x3227 : Int) : Option (Int ⊕ Bool ⊕ Unit) :=
  cond (decide (x3227 < (((List.length x3158 : Nat) : Int)))) ((idx x3158 x3227).bind fun (v3252 : Int × Int × Int × Unit) => (idx x3159 x3227).bind fun (v3259 : Int × Int × Int × Unit) => cond (!(((v3252.1) == (v3259.1)) && ((((v3252.2).1) == ((v3259.2).1)) && (((((v3252.2).2).1) == (((v3259.2).2).1)) && true)))) (some (Sum.inr (Sum.inl false))) (some (Sum.inl (IntKind.wrap .i64 (x3227 + 1))))) (some (Sum.inr (Sum.inr ())))

def laws_sameDeeds_n4 (x3158 : List (Int × Int × Int × Unit)) (x3159 : List (Int × Int × Int × Unit)) : Option (Bool ⊕ Unit) :=
  nloop (fun (s : Int) => ((laws_sameDeeds_n3 x3158 x3159 s).map (Sum.elim (fun (t : Int) => Sum.inl t) (Sum.elim (fun (t : Bool) => Sum.inr (Sum.inl t)) (fun (t : Unit) => Sum.inr (Sum.inr t)))) : Option ((Int) ⊕ (Bool ⊕ Unit)))) LL 0

def laws_sameDeeds_n5 (x3158 : List (Int × Int × Int × Unit)) (x3159 : List (Int × Int × Int × Unit)) : Option (Unit ⊕ Bool) :=
  (laws_sameDeeds_n4 x3158 x3159).map (Sum.elim (fun (t : Bool) => (Sum.inr t)) (fun (t : Unit) => (Sum.inl ())))

def laws_sameDeeds_n6 (x3158 : List (Int × Int × Int × Unit)) (x3159 : List (Int × Int × Int × Unit)) : Option (Unit ⊕ Bool) :=
  (laws_sameDeeds_n2).bind (fun (t : Unit) => laws_sameDeeds_n5 x3158 x3159)

def laws_sameDeeds_n7 : Option (Bool) :=
  some true

def laws_sameDeeds_n8 (x3158 : List (Int × Int × Int × Unit)) (x3159 : List (Int × Int × Int × Unit)) : Option (Bool) :=
  (laws_sameDeeds_n6 x3158 x3159).bind (Sum.elim (fun (t : Unit) => laws_sameDeeds_n7) (fun e => some ((fun (t : Bool) => t) e)))

def laws_sameDeeds_n9 (x3158 : List (Int × Int × Int × Unit)) (x3159 : List (Int × Int × Int × Unit)) : Option (Bool) :=
  (laws_sameDeeds_n1 x3158 x3159).bind (Sum.elim (fun (t : Unit) => laws_sameDeeds_n8 x3158 x3159) (fun e => some ((fun (t : Bool) => t) e)))

@[irreducible] def laws_sameDeeds (x3158 : List (Int × Int × Int × Unit)) (x3159 : List (Int × Int × Int × Unit)) : Option (Bool) :=
  laws_sameDeeds_n9 x3158 x3159

def laws_FnJournalText_n1 (x2 : List Int) : Option (Bool) :=
  cond (decide ((((List.length x2 : Nat) : Int)) > 1048576)) (some true) ((spec_DrawJournalText x2).bind fun (v3277 : List (Int × Int × Int × Unit)) => (impl_JournalText v3277).bind fun (v3278 : ByteArray) => (spec_JournalText v3277).bind fun (v3279 : ByteArray) => cond (!(seqs v3278 v3279)) (some false) (cond (seqs v3278 ByteArray.empty) ((laws_alive).bind fun (v3282 : Bool) => some v3282) ((impl_ReadJournal v3278).bind fun (v3283 : Int × (List (Int × Int × Int × Unit))) => (laws_sameDeeds (v3283.2) v3277).bind fun (v3286 : Bool) => cond v3286 (some ((v3283.1) == (((ByteArray.size v3278 : Nat) : Int)))) (some false))))

@[irreducible] def laws_FnJournalText (x2 : List Int) : Option (Bool) :=
  laws_FnJournalText_n1 x2

end Go.Rv
