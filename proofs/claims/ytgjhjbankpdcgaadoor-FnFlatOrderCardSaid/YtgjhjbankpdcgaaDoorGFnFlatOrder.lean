/-
  Plain functions, written by program for functions of the checked code. Conditions: none.
-/
import Derived.Test.YtgjhjbankpdcgaaDoorFB
set_option linter.unusedVariables false
namespace Go.Rv
def spec_l20Open_n1 (x13 : List Int) : Option (((List Int))) :=
  cond (decide ((((List.length x13 : Nat) : Int)) > 2000)) ((inc 2000 (List.length x13)).bind fun (v29 : Nat) => some ((x13.take v29).drop 0)) (some x13)

@[irreducible] def spec_l20Open (x13 : List Int) : Option ((List Int)) :=
  spec_l20Open_n1 x13

def spec_l20Rd_pick_n1 (x40 : Int) (x41 : List Int) (x42 : Int) : Option ((Int × Int)) :=
  cond (decide (x40 < 1)) (some (0, (IntKind.wrap .i64 (x42 + 1)))) (cond ((((List.length x41 : Nat) : Int)) == 0) (some (0, (IntKind.wrap .i64 (x42 + 1)))) (cond (decide ((IntKind.wrap .i64 ((IntKind.wrap .i64 (x42 + 1)) - 1)) < (((List.length x41 : Nat) : Int)))) ((idx x41 (IntKind.wrap .i64 ((IntKind.wrap .i64 (x42 + 1)) - 1))).bind fun (v169 : Int) => (rem (IntKind.wrap .i64 v169) x40).bind fun (v171 : Int) => some (v171, (IntKind.wrap .i64 (x42 + 1)))) ((rem (IntKind.wrap .i64 ((IntKind.wrap .i64 (x42 + 1)) - 1)) (((List.length x41 : Nat) : Int))).bind fun (v173 : Int) => (idx x41 v173).bind fun (v174 : Int) => (rem (IntKind.wrap .i64 ((IntKind.wrap .i64 ((IntKind.wrap .i64 ((IntKind.wrap .i64 (x42 + 1)) - 1)) * 7)) + 3)) (((List.length x41 : Nat) : Int))).bind fun (v180 : Int) => (idx x41 v180).bind fun (v181 : Int) => (quo .i64 (IntKind.wrap .i64 ((IntKind.wrap .i64 (x42 + 1)) - 1)) (((List.length x41 : Nat) : Int))).bind fun (v188 : Int) => (quo .i64 (IntKind.wrap .i64 ((IntKind.wrap .i64 ((IntKind.wrap .i64 ((IntKind.wrap .i64 ((IntKind.wrap .i64 v174) * 131)) + (IntKind.wrap .i64 ((IntKind.wrap .i64 v181) * 1117)))) + (IntKind.wrap .i64 ((IntKind.wrap .i64 ((IntKind.wrap .i64 (x42 + 1)) - 1)) * 29)))) + (IntKind.wrap .i64 (v188 * 53)))) 64).bind fun (v191 : Int) => (rem (ixor .i64 (IntKind.wrap .i64 ((IntKind.wrap .i64 ((IntKind.wrap .i64 ((IntKind.wrap .i64 ((IntKind.wrap .i64 v174) * 131)) + (IntKind.wrap .i64 ((IntKind.wrap .i64 v181) * 1117)))) + (IntKind.wrap .i64 ((IntKind.wrap .i64 ((IntKind.wrap .i64 (x42 + 1)) - 1)) * 29)))) + (IntKind.wrap .i64 (v188 * 53)))) v191) x40).bind fun (v193 : Int) => some (v193, (IntKind.wrap .i64 (x42 + 1))))))

@[irreducible] def spec_l20Rd_pick (x40 : Int) (x41 : List Int) (x42 : Int) : Option (Int × Int) :=
  spec_l20Rd_pick_n1 x40 x41 x42

def spec_l20Order_n1 (x204 : List Int) (x205 : Int) : Option ((Int × Int)) :=
  (spec_l20Rd_pick 2 x204 x205).bind fun (v207 : Int × Int) => some ((v207.1), (v207.2))

def spec_l20Order_n2 : Option (Unit) :=
  some ()

def spec_l20Order_n3 (x203 : Int) (x208 : Int) (x351 : Int) (x204 : List Int) (x352 : Int) (x353 : List Int) : Option ((Int × Int × (List Int)) ⊕ (Int × (List Int))) :=
  cond (decide (x351 ≤ x203)) (cond (x208 == 0) ((spec_l20Rd_pick x351 x204 x352).bind fun (v425 : Int × Int) => (inc (v425.1) (List.length x353)).bind fun (v429 : Nat) => (room ((List.length ([] : List Int)) + List.length ((x353.drop 0).take (v429 - 0)))).bind fun (v433 : Unit) => (room ((List.length (([] : List Int) ++ ((x353.drop 0).take (v429 - 0)))) + List.length ([x351]))).bind fun (v437 : Unit) => (inc (v425.1) (List.length x353)).bind fun (v440 : Nat) => (room ((List.length ((([] : List Int) ++ ((x353.drop 0).take (v429 - 0))) ++ ([x351]))) + List.length ((x353.drop v440).take ((List.length x353) - v440)))).bind fun (v444 : Unit) => some (Sum.inl ((IntKind.wrap .i64 (x351 + 1)), (v425.2), (((([] : List Int) ++ ((x353.drop 0).take (v429 - 0))) ++ ([x351])) ++ ((x353.drop v440).take ((List.length x353) - v440)))))) ((spec_l20Rd_pick 3 x204 x352).bind fun (v447 : Int × Int) => cond ((v447.1) == 0) ((spec_l20Rd_pick x351 x204 (v447.2)).bind fun (v451 : Int × Int) => (inc (v451.1) (List.length x353)).bind fun (v455 : Nat) => (room ((List.length ([] : List Int)) + List.length ((x353.drop 0).take (v455 - 0)))).bind fun (v459 : Unit) => (room ((List.length (([] : List Int) ++ ((x353.drop 0).take (v455 - 0)))) + List.length ([x351]))).bind fun (v463 : Unit) => (inc (v451.1) (List.length x353)).bind fun (v466 : Nat) => (room ((List.length ((([] : List Int) ++ ((x353.drop 0).take (v455 - 0))) ++ ([x351]))) + List.length ((x353.drop v466).take ((List.length x353) - v466)))).bind fun (v470 : Unit) => some (Sum.inl ((IntKind.wrap .i64 (x351 + 1)), (v451.2), (((([] : List Int) ++ ((x353.drop 0).take (v455 - 0))) ++ ([x351])) ++ ((x353.drop v466).take ((List.length x353) - v466)))))) ((inc (((List.length x353 : Nat) : Int)) (List.length x353)).bind fun (v474 : Nat) => (room ((List.length ([] : List Int)) + List.length ((x353.drop 0).take (v474 - 0)))).bind fun (v478 : Unit) => (room ((List.length (([] : List Int) ++ ((x353.drop 0).take (v474 - 0)))) + List.length ([x351]))).bind fun (v482 : Unit) => (inc (((List.length x353 : Nat) : Int)) (List.length x353)).bind fun (v485 : Nat) => (room ((List.length ((([] : List Int) ++ ((x353.drop 0).take (v474 - 0))) ++ ([x351]))) + List.length ((x353.drop v485).take ((List.length x353) - v485)))).bind fun (v489 : Unit) => some (Sum.inl ((IntKind.wrap .i64 (x351 + 1)), (v447.2), (((([] : List Int) ++ ((x353.drop 0).take (v474 - 0))) ++ ([x351])) ++ ((x353.drop v485).take ((List.length x353) - v485)))))))) (some (Sum.inr (x352, x353)))

def spec_l20Order_n4 (x203 : Int) (x208 : Int) (x204 : List Int) (x209 : Int) : Option ((Int × (List Int))) :=
  nloop (fun (s : Int × Int × (List Int)) => ((spec_l20Order_n3 x203 x208 s.1 x204 s.2.1 s.2.2).map (Sum.elim (fun (t : Int × Int × (List Int)) => Sum.inl (t.1, t.2.1, t.2.2)) (fun (t : Int × (List Int)) => Sum.inr t)) : Option ((Int × Int × (List Int)) ⊕ ((Int × (List Int)))))) LL (1, x209, ([] : List Int))

def spec_l20Order_n5 (x203 : Int) (x208 : Int) (x204 : List Int) (x209 : Int) : Option ((Int × (List Int))) :=
  (spec_l20Order_n4 x203 x208 x204 x209).map (fun (t : Int × (List Int)) => (t.1, t.2))

def spec_l20Order_n6 (x203 : Int) (x208 : Int) (x204 : List Int) (x209 : Int) : Option ((Int × (List Int))) :=
  (spec_l20Order_n2).bind (fun (t : Unit) => spec_l20Order_n5 x203 x208 x204 x209)

def spec_l20Order_n7 (x352 : Int) (x353 : List Int) : Option ((Int × (List Int))) :=
  some (x352, x353)

def spec_l20Order_n8 (x203 : Int) (x208 : Int) (x204 : List Int) (x209 : Int) : Option ((Int × (List Int))) :=
  (spec_l20Order_n6 x203 x208 x204 x209).bind (fun (t : Int × (List Int)) => spec_l20Order_n7 t.1 t.2)

def spec_l20Order_n9 (x203 : Int) (x204 : List Int) (x205 : Int) : Option ((Int × (List Int))) :=
  (spec_l20Order_n1 x204 x205).bind (fun (t : Int × Int) => spec_l20Order_n8 x203 t.1 x204 t.2)

@[irreducible] def spec_l20Order (x203 : Int) (x204 : List Int) (x205 : Int) : Option (Int × (List Int)) :=
  spec_l20Order_n9 x203 x204 x205

def spec_l20Rd_odd_n1 (x660 : Int) (x661 : List Int) (x662 : Int) : Option ((Bool × Int)) :=
  cond (decide (x660 > 0)) ((spec_l20Rd_pick x660 x661 x662).bind fun (v670 : Int × Int) => some (((v670.1) == (IntKind.wrap .i64 (x660 - 1))), (v670.2))) (some (false, x662))

@[irreducible] def spec_l20Rd_odd (x660 : Int) (x661 : List Int) (x662 : Int) : Option (Bool × Int) :=
  spec_l20Rd_odd_n1 x660 x661 x662

def spec_l20Tree_n1 (x37 : List Int) (x38 : Int) : Option ((Int × Int × Int × (List Int) × (List Int))) :=
  (spec_l20Rd_pick 7 x37 x38).bind fun (v507 : Int × Int) => (spec_l20Order (IntKind.wrap .i64 (1 + (v507.1))) x37 (v507.2)).bind fun (v511 : Int × (List Int)) => (mk (IntKind.wrap .i64 (1 + (v507.1))) (IntKind.wrap .i64 (1 + (v507.1)))).bind fun (v514 : Nat) => (spec_l20Rd_pick 2 x37 (v511.1)).bind fun (v516 : Int × Int) => some ((IntKind.wrap .i64 (1 + (v507.1))), (v516.1), (v516.2), (v511.2), (List.replicate v514 (0 : Int)))

def spec_l20Tree_n2 : Option (Unit) :=
  some ()

def spec_l20Tree_n3 (x510 : Int) (x517 : Int) (x588 : Int) (x37 : List Int) (x589 : Int) (x513 : List Int) (x590 : List Int) : Option ((Int × Int × (List Int)) ⊕ (Int × (List Int))) :=
  cond (decide (x588 < x510)) ((spec_l20Rd_pick x588 x37 x589).bind fun (v624 : Int × Int) => cond (x517 == 1) ((spec_l20Rd_pick 2 x37 (v624.2)).bind fun (v628 : Int × Int) => cond ((v628.1) == 0) ((inb x588 (List.length x513)).bind fun (v633 : Nat) => (x513[v633]?).bind fun (v634 : Int) => (inb (IntKind.wrap .i64 (x588 - 1)) (List.length x513)).bind fun (v636 : Nat) => (x513[v636]?).bind fun (v637 : Int) => (inb (IntKind.wrap .i64 (v634 - 1)) (List.length x590)).bind fun (v638 : Nat) => some (Sum.inl ((IntKind.wrap .i64 (x588 + 1)), (v628.2), (x590.set v638 v637)))) ((inb x588 (List.length x513)).bind fun (v641 : Nat) => (x513[v641]?).bind fun (v642 : Int) => (inb (v624.1) (List.length x513)).bind fun (v644 : Nat) => (x513[v644]?).bind fun (v645 : Int) => (inb (IntKind.wrap .i64 (v642 - 1)) (List.length x590)).bind fun (v646 : Nat) => some (Sum.inl ((IntKind.wrap .i64 (x588 + 1)), (v628.2), (x590.set v646 v645))))) ((inb x588 (List.length x513)).bind fun (v649 : Nat) => (x513[v649]?).bind fun (v650 : Int) => (inb (v624.1) (List.length x513)).bind fun (v652 : Nat) => (x513[v652]?).bind fun (v653 : Int) => (inb (IntKind.wrap .i64 (v650 - 1)) (List.length x590)).bind fun (v654 : Nat) => some (Sum.inl ((IntKind.wrap .i64 (x588 + 1)), (v624.2), (x590.set v654 v653))))) (some (Sum.inr (x589, x590)))

def spec_l20Tree_n4 (x510 : Int) (x517 : Int) (x37 : List Int) (x518 : Int) (x513 : List Int) (x515 : List Int) : Option ((Int × (List Int))) :=
  nloop (fun (s : Int × Int × (List Int)) => ((spec_l20Tree_n3 x510 x517 s.1 x37 s.2.1 x513 s.2.2).map (Sum.elim (fun (t : Int × Int × (List Int)) => Sum.inl (t.1, t.2.1, t.2.2)) (fun (t : Int × (List Int)) => Sum.inr t)) : Option ((Int × Int × (List Int)) ⊕ ((Int × (List Int)))))) LL (1, x518, x515)

def spec_l20Tree_n5 (x510 : Int) (x517 : Int) (x37 : List Int) (x518 : Int) (x513 : List Int) (x515 : List Int) : Option ((Int × (List Int))) :=
  (spec_l20Tree_n4 x510 x517 x37 x518 x513 x515).map (fun (t : Int × (List Int)) => (t.1, t.2))

def spec_l20Tree_n6 (x510 : Int) (x517 : Int) (x37 : List Int) (x518 : Int) (x513 : List Int) (x515 : List Int) : Option ((Int × (List Int))) :=
  (spec_l20Tree_n2).bind (fun (t : Unit) => spec_l20Tree_n5 x510 x517 x37 x518 x513 x515)

def spec_l20Tree_n7 (x36 : Int) (x510 : Int) (x37 : List Int) (x589 : Int) (x590 : List Int) : Option ((Int × (List Int))) :=
  (spec_l20Rd_odd x36 x37 x589).bind fun (v735 : Bool × Int) => cond (v735.1) ((spec_l20Rd_pick 4 x37 (v735.2)).bind fun (v738 : Int × Int) => cond ((v738.1) == 0) (some ((v738.2), ([] : List Int))) (cond ((v738.1) == 1) (some ((v738.2), ([2, 1, 0]))) (cond ((v738.1) == 2) ((spec_l20Rd_pick x510 x37 (v738.2)).bind fun (v745 : Int × Int) => (inb (v745.1) (List.length x590)).bind fun (v748 : Nat) => (room ((List.length (x590.set v748 0)) + List.length ([0]))).bind fun (v752 : Unit) => some ((v745.2), ((x590.set v748 0) ++ ([0])))) ((spec_l20Rd_pick 3 x37 (v738.2)).bind fun (v756 : Int × Int) => (inb (v756.1) (List.length ([1, (IntKind.wrap .i64 (x510 + 1)), (-1)]))).bind fun (v759 : Nat) => (([1, (IntKind.wrap .i64 (x510 + 1)), (-1)])[v759]?).bind fun (v760 : Int) => (inb 0 (List.length x590)).bind fun (v761 : Nat) => some ((v756.2), (x590.set v761 v760)))))) (some ((v735.2), x590))

def spec_l20Tree_n8 (x36 : Int) (x510 : Int) (x517 : Int) (x37 : List Int) (x518 : Int) (x513 : List Int) (x515 : List Int) : Option ((Int × (List Int))) :=
  (spec_l20Tree_n6 x510 x517 x37 x518 x513 x515).bind (fun (t : Int × (List Int)) => spec_l20Tree_n7 x36 x510 x37 t.1 t.2)

def spec_l20Tree_n9 (x36 : Int) (x37 : List Int) (x38 : Int) : Option ((Int × (List Int))) :=
  (spec_l20Tree_n1 x37 x38).bind (fun (t : Int × Int × Int × (List Int) × (List Int)) => spec_l20Tree_n8 x36 t.1 t.2.1 x37 t.2.2.1 t.2.2.2.1 t.2.2.2.2)

@[irreducible] def spec_l20Tree (x36 : Int) (x37 : List Int) (x38 : Int) : Option (Int × (List Int)) :=
  spec_l20Tree_n9 x36 x37 x38

def impl_oneRoot_n1 : Option (Unit) :=
  some ()

def impl_oneRoot_n2 (x840 : List Int) : Option (Int) :=
  some (((List.length x840 : Nat) : Int))

def impl_oneRoot_n3 (x840 : List Int) (x862 : Int) (x841 : Int) (x863 : Int) : Option ((Int × Int) ⊕ Bool ⊕ Int) :=
  cond (decide (x863 < x841)) ((idx x840 x863).bind fun (v874 : Int) => cond (decide (v874 < 0)) (some (Sum.inr (Sum.inl false))) (cond (decide (v874 > (((List.length x840 : Nat) : Int)))) (some (Sum.inr (Sum.inl false))) (cond (v874 == 0) (some (Sum.inl ((IntKind.wrap .i64 (x862 + 1)), (IntKind.wrap .i64 (x863 + 1))))) (some (Sum.inl (x862, (IntKind.wrap .i64 (x863 + 1)))))))) (some (Sum.inr (Sum.inr x862)))

def impl_oneRoot_n4 (x840 : List Int) (x841 : Int) : Option (Bool ⊕ Int) :=
  nloop (fun (s : Int × Int) => ((impl_oneRoot_n3 x840 s.1 x841 s.2).map (Sum.elim (fun (t : Int × Int) => Sum.inl (t.1, t.2)) (Sum.elim (fun (t : Bool) => Sum.inr (Sum.inl t)) (fun (t : Int) => Sum.inr (Sum.inr t)))) : Option ((Int × Int) ⊕ (Bool ⊕ Int)))) LL (0, 0)

def impl_oneRoot_n5 (x840 : List Int) (x841 : Int) : Option (Int ⊕ Bool) :=
  (impl_oneRoot_n4 x840 x841).map (Sum.elim (fun (t : Bool) => (Sum.inr t)) (fun (t : Int) => (Sum.inl t)))

def impl_oneRoot_n6 (x840 : List Int) : Option (Int ⊕ Bool) :=
  (impl_oneRoot_n2 x840).bind (fun (t : Int) => impl_oneRoot_n5 x840 t)

def impl_oneRoot_n7 (x862 : Int) : Option (Bool) :=
  some (x862 == 1)

def impl_oneRoot_n8 (x840 : List Int) : Option (Bool) :=
  (impl_oneRoot_n6 x840).bind (Sum.elim (fun (t : Int) => impl_oneRoot_n7 t) (fun e => some ((fun (t : Bool) => t) e)))

def impl_oneRoot_n9 (x840 : List Int) : Option (Bool) :=
  (impl_oneRoot_n1).bind (fun (t : Unit) => impl_oneRoot_n8 x840)

@[irreducible] def impl_oneRoot (x840 : List Int) : Option (Bool) :=
  impl_oneRoot_n9 x840

def impl_walker_up_n1 (x896 : List Int) (x897 : Int) (x898 : Int) : Option ((Bool × Int × Int)) :=
  (idx x896 (IntKind.wrap .i64 (x897 - 1))).bind fun (v916 : Int) => cond (v916 == 0) (some (false, x897, x898)) (some (true, v916, (IntKind.wrap .i64 (x898 + 1))))

@[irreducible] def impl_walker_up (x896 : List Int) (x897 : Int) (x898 : Int) : Option (Bool × Int × Int) :=
  impl_walker_up_n1 x896 x897 x898

def impl_stepsToRoot_n1 : Option (Unit) :=
  some ()

def impl_stepsToRoot_n2 (x894 : List Int) (x932 : Int) (x933 : Int) : Option ((Int × Int) ⊕ (Int × Bool) ⊕ (Int × Int)) :=
  (impl_walker_up x894 x932 x933).bind fun (v938 : Bool × Int × Int) => cond (v938.1) (cond (decide ((v938.2.2) ≥ (((List.length x894 : Nat) : Int)))) (some (Sum.inr (Sum.inl (0, false)))) (some (Sum.inl ((v938.2.1), (v938.2.2))))) (some (Sum.inr (Sum.inr ((v938.2.1), (v938.2.2)))))

def impl_stepsToRoot_n3 (x894 : List Int) (x895 : Int) : Option ((Int × Bool) ⊕ (Int × Int)) :=
  nloop (fun (s : Int × Int) => ((impl_stepsToRoot_n2 x894 s.1 s.2).map (Sum.elim (fun (t : Int × Int) => Sum.inl (t.1, t.2)) (Sum.elim (fun (t : Int × Bool) => Sum.inr (Sum.inl t)) (fun (t : Int × Int) => Sum.inr (Sum.inr t)))) : Option ((Int × Int) ⊕ ((Int × Bool) ⊕ (Int × Int))))) LL (x895, 0)

def impl_stepsToRoot_n4 (x894 : List Int) (x895 : Int) : Option ((Int × Int) ⊕ (Int × Bool)) :=
  (impl_stepsToRoot_n3 x894 x895).map (Sum.elim (fun (t : Int × Bool) => (Sum.inr t)) (fun (t : Int × Int) => (Sum.inl (t.1, t.2))))

def impl_stepsToRoot_n5 (x941 : Int) : Option ((Int × Bool)) :=
  some (x941, true)

def impl_stepsToRoot_n6 (x894 : List Int) (x895 : Int) : Option ((Int × Bool)) :=
  (impl_stepsToRoot_n4 x894 x895).bind (Sum.elim (fun (t : Int × Int) => impl_stepsToRoot_n5 t.2) (fun e => some ((fun (t : Int × Bool) => t) e)))

def impl_stepsToRoot_n7 (x894 : List Int) (x895 : Int) : Option ((Int × Bool)) :=
  (impl_stepsToRoot_n1).bind (fun (t : Unit) => impl_stepsToRoot_n6 x894 x895)

@[irreducible] def impl_stepsToRoot (x894 : List Int) (x895 : Int) : Option (Int × Bool) :=
  impl_stepsToRoot_n7 x894 x895

def impl_TreeOk_n1 (x834 : List Int) : Option (Unit ⊕ Bool) :=
  cond (decide ((((List.length x834 : Nat) : Int)) < 1)) (some (Sum.inr false)) (cond (decide ((((List.length x834 : Nat) : Int)) > 8)) (some (Sum.inr false)) ((impl_oneRoot x834).bind fun (v887 : Bool) => cond (!v887) (some (Sum.inr false)) (some (Sum.inl ()))))

def impl_TreeOk_n2 (x834 : List Int) : Option (Int) :=
  some (((List.length x834 : Nat) : Int))

def impl_TreeOk_n3 (x834 : List Int) (x889 : Int) (x957 : Int) : Option (Int ⊕ Bool ⊕ Unit) :=
  cond (decide (x957 < x889)) ((impl_stepsToRoot x834 (IntKind.wrap .i64 (x957 + 1))).bind fun (v968 : Int × Bool) => cond (!(v968.2)) (some (Sum.inr (Sum.inl false))) (some (Sum.inl (IntKind.wrap .i64 (x957 + 1))))) (some (Sum.inr (Sum.inr ())))

def impl_TreeOk_n4 (x834 : List Int) (x889 : Int) : Option (Bool ⊕ Unit) :=
  nloop (fun (s : Int) => ((impl_TreeOk_n3 x834 x889 s).map (Sum.elim (fun (t : Int) => Sum.inl t) (Sum.elim (fun (t : Bool) => Sum.inr (Sum.inl t)) (fun (t : Unit) => Sum.inr (Sum.inr t)))) : Option ((Int) ⊕ (Bool ⊕ Unit)))) LL 0

def impl_TreeOk_n5 (x834 : List Int) (x889 : Int) : Option (Unit ⊕ Bool) :=
  (impl_TreeOk_n4 x834 x889).map (Sum.elim (fun (t : Bool) => (Sum.inr t)) (fun (t : Unit) => (Sum.inl ())))

def impl_TreeOk_n6 (x834 : List Int) : Option (Unit ⊕ Bool) :=
  (impl_TreeOk_n2 x834).bind (fun (t : Int) => impl_TreeOk_n5 x834 t)

def impl_TreeOk_n7 : Option (Bool) :=
  some true

def impl_TreeOk_n8 (x834 : List Int) : Option (Bool) :=
  (impl_TreeOk_n6 x834).bind (Sum.elim (fun (t : Unit) => impl_TreeOk_n7) (fun e => some ((fun (t : Bool) => t) e)))

def impl_TreeOk_n9 (x834 : List Int) : Option (Bool) :=
  (impl_TreeOk_n1 x834).bind (Sum.elim (fun (t : Unit) => impl_TreeOk_n8 x834) (fun e => some ((fun (t : Bool) => t) e)))

@[irreducible] def impl_TreeOk (x834 : List Int) : Option (Bool) :=
  impl_TreeOk_n9 x834

def impl_only_n1 (x998 : Int) : Option (Int) :=
  (shl .u64 1 (IntKind.wrap .i64 (x998 - 1))).bind fun (v1002 : Int) => some v1002

@[irreducible] def impl_only (x998 : Int) : Option (Int) :=
  impl_only_n1 x998

def impl_dependents_n1 : Option (Unit) :=
  some ()

def impl_dependents_n2 (x989 : List Int) : Option (Int) :=
  some (((List.length x989 : Nat) : Int))

def impl_dependents_n3 (x989 : List Int) (x990 : Int) (x1015 : Int) (x991 : Int) (x1016 : Int) : Option ((Int × Int) ⊕ Int) :=
  cond (decide (x1016 < x991)) ((idx x989 x1016).bind fun (v1026 : Int) => cond (v1026 == x990) ((impl_only (IntKind.wrap .i64 (x1016 + 1))).bind fun (v1029 : Int) => some (Sum.inl ((ior .u64 x1015 v1029), (IntKind.wrap .i64 (x1016 + 1))))) (some (Sum.inl (x1015, (IntKind.wrap .i64 (x1016 + 1)))))) (some (Sum.inr x1015))

def impl_dependents_n4 (x989 : List Int) (x990 : Int) (x991 : Int) : Option (Int) :=
  nloop (fun (s : Int × Int) => ((impl_dependents_n3 x989 x990 s.1 x991 s.2).map (Sum.elim (fun (t : Int × Int) => Sum.inl (t.1, t.2)) (fun (t : Int) => Sum.inr t)) : Option ((Int × Int) ⊕ (Int)))) LL (0, 0)

def impl_dependents_n5 (x989 : List Int) (x990 : Int) (x991 : Int) : Option (Int) :=
  (impl_dependents_n4 x989 x990 x991).map (fun (t : Int) => t)

def impl_dependents_n6 (x989 : List Int) (x990 : Int) : Option (Int) :=
  (impl_dependents_n2 x989).bind (fun (t : Int) => impl_dependents_n5 x989 x990 t)

def impl_dependents_n7 (x1015 : Int) : Option (Int) :=
  some x1015

def impl_dependents_n8 (x989 : List Int) (x990 : Int) : Option (Int) :=
  (impl_dependents_n6 x989 x990).bind (fun (t : Int) => impl_dependents_n7 t)

def impl_dependents_n9 (x989 : List Int) (x990 : Int) : Option (Int) :=
  (impl_dependents_n1).bind (fun (t : Unit) => impl_dependents_n8 x989 x990)

@[irreducible] def impl_dependents (x989 : List Int) (x990 : Int) : Option (Int) :=
  impl_dependents_n9 x989 x990

def impl_before_n1 (x1037 : Int) : Option (Int) :=
  (impl_only x1037).bind fun (v1040 : Int) => some (IntKind.wrap .u64 (v1040 - 1))

@[irreducible] def impl_before (x1037 : Int) : Option (Int) :=
  impl_before_n1 x1037

def impl_dependentsBeside_n1 (x987 : List Int) (x988 : Int) : Option ((Int × Int)) :=
  (impl_dependents x987 x988).bind fun (v1046 : Int) => (impl_before x988).bind fun (v1047 : Int) => (impl_before x988).bind fun (v1049 : Int) => some ((iand .u64 v1046 v1047), (iandn .u64 v1046 v1049))

@[irreducible] def impl_dependentsBeside (x987 : List Int) (x988 : Int) : Option (Int × Int) :=
  impl_dependentsBeside_n1 x987 x988

def math_bits_OnesCount64_n1 (x1061 : Int) : Option (Int) :=
  (shr .u64 x1061 1).bind fun (v1062 : Int) => some (IntKind.wrap .u64 ((iand .u64 v1062 6148914691236517205) + (iand .u64 x1061 6148914691236517205)))

def math_bits_OnesCount64_n2 (x1066 : Int) : Option (Int) :=
  (shr .u64 x1066 2).bind fun (v1080 : Int) => some (IntKind.wrap .u64 ((iand .u64 v1080 3689348814741910323) + (iand .u64 x1066 3689348814741910323)))

def math_bits_OnesCount64_n3 (x1083 : Int) : Option (Int) :=
  (shr .u64 x1083 4).bind fun (v1088 : Int) => some (iand .u64 (IntKind.wrap .u64 (v1088 + x1083)) 1085102592571150095)

def math_bits_OnesCount64_n4 (x1090 : Int) : Option (Int) :=
  (shr .u64 x1090 8).bind fun (v1093 : Int) => some (IntKind.wrap .u64 (x1090 + v1093))

def math_bits_OnesCount64_n5 (x1094 : Int) : Option (Int) :=
  (shr .u64 x1094 16).bind fun (v1098 : Int) => some (IntKind.wrap .u64 (x1094 + v1098))

def math_bits_OnesCount64_n6 (x1099 : Int) : Option (Int) :=
  (shr .u64 x1099 32).bind fun (v1103 : Int) => some (IntKind.wrap .u64 (x1099 + v1103))

def math_bits_OnesCount64_n7 (x1104 : Int) : Option (Int) :=
  some (iand .i64 (IntKind.wrap .i64 x1104) 127)

def math_bits_OnesCount64_n8 (x1109 : Int) : Option (Int) :=
  some x1109

def math_bits_OnesCount64_n9 (x1104 : Int) : Option (Int) :=
  (math_bits_OnesCount64_n7 x1104).bind (fun (t : Int) => math_bits_OnesCount64_n8 t)

def math_bits_OnesCount64_n10 (x1099 : Int) : Option (Int) :=
  (math_bits_OnesCount64_n6 x1099).bind (fun (t : Int) => math_bits_OnesCount64_n9 t)

def math_bits_OnesCount64_n11 (x1094 : Int) : Option (Int) :=
  (math_bits_OnesCount64_n5 x1094).bind (fun (t : Int) => math_bits_OnesCount64_n10 t)

def math_bits_OnesCount64_n12 (x1090 : Int) : Option (Int) :=
  (math_bits_OnesCount64_n4 x1090).bind (fun (t : Int) => math_bits_OnesCount64_n11 t)

def math_bits_OnesCount64_n13 (x1083 : Int) : Option (Int) :=
  (math_bits_OnesCount64_n3 x1083).bind (fun (t : Int) => math_bits_OnesCount64_n12 t)

def math_bits_OnesCount64_n14 (x1066 : Int) : Option (Int) :=
  (math_bits_OnesCount64_n2 x1066).bind (fun (t : Int) => math_bits_OnesCount64_n13 t)

def math_bits_OnesCount64_n15 (x1061 : Int) : Option (Int) :=
  (math_bits_OnesCount64_n1 x1061).bind (fun (t : Int) => math_bits_OnesCount64_n14 t)

@[irreducible] def math_bits_OnesCount64 (x1061 : Int) : Option (Int) :=
  math_bits_OnesCount64_n15 x1061

def math_bits_OnesCount_n1 (x1060 : Int) : Option (Int) :=
  (math_bits_OnesCount64 x1060).bind fun (v1111 : Int) => some v1111

@[irreducible] def math_bits_OnesCount (x1060 : Int) : Option (Int) :=
  math_bits_OnesCount_n1 x1060

def impl_wordSet_count_n1 (x1059 : Int) : Option (Int) :=
  (math_bits_OnesCount x1059).bind fun (v1113 : Int) => some v1113

@[irreducible] def impl_wordSet_count (x1059 : Int) : Option (Int) :=
  impl_wordSet_count_n1 x1059

def spec_l1In_n1 (x1144 : Int) (x1145 : Int) (x1146 : Int) : Option (Bool) :=
  cond (decide (x1144 ≥ x1145)) (some (decide (x1144 ≤ x1146))) (some false)

@[irreducible] def spec_l1In (x1144 : Int) (x1145 : Int) (x1146 : Int) : Option (Bool) :=
  spec_l1In_n1 x1144 x1145 x1146

def spec_TreeOk_n1 (x1141 : List Int) : Option (Int ⊕ Bool) :=
  (spec_l1In (((List.length x1141 : Nat) : Int)) 1 8).bind fun (v1155 : Bool) => cond (!v1155) (some (Sum.inr false)) (some (Sum.inl (((List.length x1141 : Nat) : Int))))

def spec_TreeOk_n2 : Option (Unit) :=
  some ()

def spec_TreeOk_n3 (x1154 : Int) (x1221 : Int) (x1222 : Int) : Option (Unit ⊕ Int) :=
  cond (decide (x1222 < x1154)) (some (Sum.inl ())) (some (Sum.inr x1221))

def spec_TreeOk_n4 (x1141 : List Int) (x1154 : Int) (x1221 : Int) (x1222 : Int) : Option ((Int × Int) ⊕ Bool) :=
  (idx x1141 x1222).bind fun (v1239 : Int) => (spec_l1In v1239 0 x1154).bind fun (v1240 : Bool) => cond (!v1240) (some (Sum.inr false)) ((idx x1141 x1222).bind fun (v1242 : Int) => cond (v1242 == (IntKind.wrap .i64 (x1222 + 1))) (some (Sum.inr false)) ((idx x1141 x1222).bind fun (v1245 : Int) => cond (v1245 == 0) (some (Sum.inl ((IntKind.wrap .i64 (x1221 + 1)), (IntKind.wrap .i64 (x1222 + 1))))) (some (Sum.inl (x1221, (IntKind.wrap .i64 (x1222 + 1)))))))

def spec_TreeOk_n5 : Option (Unit) :=
  some ()

def spec_TreeOk_n6 (x1141 : List Int) (x1154 : Int) (x1267 : Int) (x1268 : Int) : Option ((Int × Int) ⊕ Bool ⊕ Int) :=
  cond (decide (x1267 > 0)) (cond (decide (x1268 < x1154)) ((idx x1141 (IntKind.wrap .i64 (x1267 - 1))).bind fun (v1280 : Int) => (spec_l1In v1280 0 x1154).bind fun (v1281 : Bool) => cond (!v1281) (some (Sum.inr (Sum.inl false))) (some (Sum.inl (v1280, (IntKind.wrap .i64 (x1268 + 1)))))) (some (Sum.inr (Sum.inr x1267)))) (some (Sum.inr (Sum.inr x1267)))

def spec_TreeOk_n7 (x1141 : List Int) (x1154 : Int) (x1251 : Int) : Option (Bool ⊕ Int) :=
  nloop (fun (s : Int × Int) => ((spec_TreeOk_n6 x1141 x1154 s.1 s.2).map (Sum.elim (fun (t : Int × Int) => Sum.inl (t.1, t.2)) (Sum.elim (fun (t : Bool) => Sum.inr (Sum.inl t)) (fun (t : Int) => Sum.inr (Sum.inr t)))) : Option ((Int × Int) ⊕ (Bool ⊕ Int)))) LL (x1251, 0)

def spec_TreeOk_n8 (x1141 : List Int) (x1154 : Int) (x1251 : Int) : Option (Int ⊕ Bool) :=
  (spec_TreeOk_n7 x1141 x1154 x1251).map (Sum.elim (fun (t : Bool) => (Sum.inr t)) (fun (t : Int) => (Sum.inl t)))

def spec_TreeOk_n9 (x1141 : List Int) (x1154 : Int) (x1251 : Int) : Option (Int ⊕ Bool) :=
  (spec_TreeOk_n5).bind (fun (t : Unit) => spec_TreeOk_n8 x1141 x1154 x1251)

def spec_TreeOk_n10 (x1267 : Int) : Option (Unit ⊕ Bool) :=
  cond (decide (x1267 > 0)) (some (Sum.inr false)) (some (Sum.inl ()))

def spec_TreeOk_n11 (x1141 : List Int) (x1154 : Int) (x1251 : Int) : Option (Unit ⊕ Bool) :=
  (spec_TreeOk_n9 x1141 x1154 x1251).bind (Sum.elim (fun (t : Int) => spec_TreeOk_n10 t) (fun e => some ((fun (t : Bool) => (Sum.inr t)) e)))

def spec_TreeOk_n12 (x1141 : List Int) (x1154 : Int) (x1221 : Int) (x1222 : Int) : Option (Int ⊕ Bool) :=
  (spec_TreeOk_n4 x1141 x1154 x1221 x1222).bind (Sum.elim (fun (t : Int × Int) => (spec_TreeOk_n11 x1141 x1154 t.2).map (Sum.elim (fun (u : Unit) => (Sum.inl t.1)) (fun (u : Bool) => (Sum.inr u)))) (fun e => some ((fun (t : Bool) => (Sum.inr t)) e)))

def spec_TreeOk_n13 (x1141 : List Int) (x1154 : Int) (x1221 : Int) (x1222 : Int) : Option (Int ⊕ Bool) :=
  (spec_TreeOk_n12 x1141 x1154 x1221 x1222).map (Sum.elim (fun (t : Int) => (Sum.inl t)) (fun (t : Bool) => (Sum.inr t)))

def spec_TreeOk_n14 (x1222 : Int) : Option (Int) :=
  some (IntKind.wrap .i64 (x1222 + 1))

def spec_TreeOk_n15 (x1141 : List Int) (x1154 : Int) (x1221 : Int) (x1222 : Int) : Option ((Int × Int) ⊕ Bool) :=
  (spec_TreeOk_n13 x1141 x1154 x1221 x1222).bind (Sum.elim (fun (t : Int) => (spec_TreeOk_n14 x1222).map (fun (u : Int) => (Sum.inl (t, u)))) (fun e => some ((fun (t : Bool) => (Sum.inr t)) e)))

def spec_TreeOk_n16 (x1141 : List Int) (x1154 : Int) (x1221 : Int) (x1222 : Int) : Option ((Int × Int) ⊕ Bool ⊕ Int) :=
  (spec_TreeOk_n3 x1154 x1221 x1222).bind (Sum.elim (fun (t : Unit) => (spec_TreeOk_n15 x1141 x1154 x1221 x1222).map (Sum.elim (fun (t : Int × Int) => (Sum.inl (t.1, t.2))) (fun (t : Bool) => (Sum.inr (Sum.inl t))))) (fun e => some ((fun (t : Int) => (Sum.inr (Sum.inr t))) e)))

def spec_TreeOk_n17 (x1141 : List Int) (x1154 : Int) : Option (Bool ⊕ Int) :=
  nloop (fun (s : Int × Int) => ((spec_TreeOk_n16 x1141 x1154 s.1 s.2).map (Sum.elim (fun (t : Int × Int) => Sum.inl (t.1, t.2)) (Sum.elim (fun (t : Bool) => Sum.inr (Sum.inl t)) (fun (t : Int) => Sum.inr (Sum.inr t)))) : Option ((Int × Int) ⊕ (Bool ⊕ Int)))) LL (0, 0)

def spec_TreeOk_n18 (x1141 : List Int) (x1154 : Int) : Option (Int ⊕ Bool) :=
  (spec_TreeOk_n17 x1141 x1154).map (Sum.elim (fun (t : Bool) => (Sum.inr t)) (fun (t : Int) => (Sum.inl t)))

def spec_TreeOk_n19 (x1141 : List Int) (x1154 : Int) : Option (Int ⊕ Bool) :=
  (spec_TreeOk_n2).bind (fun (t : Unit) => spec_TreeOk_n18 x1141 x1154)

def spec_TreeOk_n20 (x1221 : Int) : Option (Bool) :=
  some (x1221 == 1)

def spec_TreeOk_n21 (x1141 : List Int) (x1154 : Int) : Option (Bool) :=
  (spec_TreeOk_n19 x1141 x1154).bind (Sum.elim (fun (t : Int) => spec_TreeOk_n20 t) (fun e => some ((fun (t : Bool) => t) e)))

def spec_TreeOk_n22 (x1141 : List Int) : Option (Bool) :=
  (spec_TreeOk_n1 x1141).bind (Sum.elim (fun (t : Int) => spec_TreeOk_n21 x1141 t) (fun e => some ((fun (t : Bool) => t) e)))

@[irreducible] def spec_TreeOk (x1141 : List Int) : Option (Bool) :=
  spec_TreeOk_n22 x1141

def laws_alive_n1 : Option (Bool) :=
  (impl_TreeOk ([0])).bind fun (v1472 : Bool) => cond v1472 ((impl_TreeOk ([1])).bind fun (v1474 : Bool) => some (!v1474)) (some false)

@[irreducible] def laws_alive : Option (Bool) :=
  laws_alive_n1

def math_bits_TrailingZeros64_n1 (x1559 : Int) : Option (Int) :=
  cond (x1559 == 0) (some 64) ((shr .u64 (IntKind.wrap .u64 ((iand .u64 x1559 (IntKind.wrap .u64 (0 - x1559))) * 285870213051353865)) 58).bind fun (v1576 : Int) => (same (List.length tab1) 64).bind fun (v1577 : Unit) => (idx tab1 v1576).bind fun (v1578 : Int) => some (IntKind.wrap .i64 v1578))

@[irreducible] def math_bits_TrailingZeros64 (x1559 : Int) : Option (Int) :=
  math_bits_TrailingZeros64_n1 x1559

def math_bits_TrailingZeros_n1 (x1558 : Int) : Option (Int) :=
  (math_bits_TrailingZeros64 x1558).bind fun (v1582 : Int) => some v1582

@[irreducible] def math_bits_TrailingZeros (x1558 : Int) : Option (Int) :=
  math_bits_TrailingZeros_n1 x1558

def impl_wordSet_list_n1 (x1552 : Int) : Option (((List Int))) :=
  (impl_wordSet_count x1552).bind fun (v1553 : Int) => (mk 0 v1553).bind fun (v1554 : Nat) => some (List.replicate v1554 (0 : Int))

def impl_wordSet_list_n2 : Option (Unit) :=
  some ()

def impl_wordSet_list_n3 (x1598 : Int) (x1599 : List Int) : Option ((Int × (List Int)) ⊕ ((List Int))) :=
  cond (x1598 != 0) ((math_bits_TrailingZeros x1598).bind fun (v1609 : Int) => (room ((List.length x1599) + List.length ([(IntKind.wrap .i64 (v1609 + 1))]))).bind fun (v1613 : Unit) => some (Sum.inl ((iand .u64 x1598 (IntKind.wrap .u64 (x1598 - 1))), (x1599 ++ ([(IntKind.wrap .i64 (v1609 + 1))]))))) (some (Sum.inr x1599))

def impl_wordSet_list_n4 (x1552 : Int) (x1555 : List Int) : Option (((List Int))) :=
  nloop (fun (s : Int × (List Int)) => ((impl_wordSet_list_n3 s.1 s.2).map (Sum.elim (fun (t : Int × (List Int)) => Sum.inl (t.1, t.2)) (fun (t : (List Int)) => Sum.inr t)) : Option ((Int × (List Int)) ⊕ (((List Int)))))) LL (x1552, x1555)

def impl_wordSet_list_n5 (x1552 : Int) (x1555 : List Int) : Option (((List Int))) :=
  (impl_wordSet_list_n4 x1552 x1555).map (fun (t : (List Int)) => t)

def impl_wordSet_list_n6 (x1552 : Int) (x1555 : List Int) : Option (((List Int))) :=
  (impl_wordSet_list_n2).bind (fun (t : Unit) => impl_wordSet_list_n5 x1552 x1555)

def impl_wordSet_list_n7 (x1599 : List Int) : Option (((List Int))) :=
  some x1599

def impl_wordSet_list_n8 (x1552 : Int) (x1555 : List Int) : Option (((List Int))) :=
  (impl_wordSet_list_n6 x1552 x1555).bind (fun (t : (List Int)) => impl_wordSet_list_n7 t)

def impl_wordSet_list_n9 (x1552 : Int) : Option (((List Int))) :=
  (impl_wordSet_list_n1 x1552).bind (fun (t : (List Int)) => impl_wordSet_list_n8 x1552 t)

@[irreducible] def impl_wordSet_list (x1552 : Int) : Option ((List Int)) :=
  impl_wordSet_list_n9 x1552

def laws_sameInts_n1 (x3064 : List Int) (x3065 : List Int) : Option (Unit ⊕ Bool) :=
  cond ((((List.length x3064 : Nat) : Int)) != (((List.length x3065 : Nat) : Int))) (some (Sum.inr false)) (some (Sum.inl ()))

def laws_sameInts_n2 : Option (Unit) :=
  some ()

def laws_sameInts_n3 (x3064 : List Int) (x3065 : List Int) (x3082 : Int) : Option (Int ⊕ Bool ⊕ Unit) :=
  cond (decide (x3082 < (((List.length x3064 : Nat) : Int)))) ((idx x3064 x3082).bind fun (v3092 : Int) => (idx x3065 x3082).bind fun (v3093 : Int) => cond (v3092 != v3093) (some (Sum.inr (Sum.inl false))) (some (Sum.inl (IntKind.wrap .i64 (x3082 + 1))))) (some (Sum.inr (Sum.inr ())))

def laws_sameInts_n4 (x3064 : List Int) (x3065 : List Int) : Option (Bool ⊕ Unit) :=
  nloop (fun (s : Int) => ((laws_sameInts_n3 x3064 x3065 s).map (Sum.elim (fun (t : Int) => Sum.inl t) (Sum.elim (fun (t : Bool) => Sum.inr (Sum.inl t)) (fun (t : Unit) => Sum.inr (Sum.inr t)))) : Option ((Int) ⊕ (Bool ⊕ Unit)))) LL 0

def laws_sameInts_n5 (x3064 : List Int) (x3065 : List Int) : Option (Unit ⊕ Bool) :=
  (laws_sameInts_n4 x3064 x3065).map (Sum.elim (fun (t : Bool) => (Sum.inr t)) (fun (t : Unit) => (Sum.inl ())))

def laws_sameInts_n6 (x3064 : List Int) (x3065 : List Int) : Option (Unit ⊕ Bool) :=
  (laws_sameInts_n2).bind (fun (t : Unit) => laws_sameInts_n5 x3064 x3065)

def laws_sameInts_n7 : Option (Bool) :=
  some true

def laws_sameInts_n8 (x3064 : List Int) (x3065 : List Int) : Option (Bool) :=
  (laws_sameInts_n6 x3064 x3065).bind (Sum.elim (fun (t : Unit) => laws_sameInts_n7) (fun e => some ((fun (t : Bool) => t) e)))

def laws_sameInts_n9 (x3064 : List Int) (x3065 : List Int) : Option (Bool) :=
  (laws_sameInts_n1 x3064 x3065).bind (Sum.elim (fun (t : Unit) => laws_sameInts_n8 x3064 x3065) (fun e => some ((fun (t : Bool) => t) e)))

@[irreducible] def laws_sameInts (x3064 : List Int) (x3065 : List Int) : Option (Bool) :=
  laws_sameInts_n9 x3064 x3065

def impl_RootOf_n1 (x3172 : List Int) : Option (Unit ⊕ Int) :=
  (impl_TreeOk x3172).bind fun (v3175 : Bool) => cond (!v3175) (some (Sum.inr (-1))) (some (Sum.inl ()))

def impl_RootOf_n2 (x3172 : List Int) (x3185 : Int) (x3186 : Int) : Option ((Int × Int) ⊕ (Int × Int)) :=
  (impl_walker_up x3172 x3185 x3186).bind fun (v3191 : Bool × Int × Int) => cond (v3191.1) (some (Sum.inl ((v3191.2.1), (v3191.2.2)))) (some (Sum.inr ((v3191.2.1), (v3191.2.2))))

def impl_RootOf_n3 (x3172 : List Int) : Option ((Int × Int)) :=
  nloop (fun (s : Int × Int) => ((impl_RootOf_n2 x3172 s.1 s.2).map (Sum.elim (fun (t : Int × Int) => Sum.inl (t.1, t.2)) (fun (t : Int × Int) => Sum.inr t)) : Option ((Int × Int) ⊕ ((Int × Int))))) LL (1, 0)

def impl_RootOf_n4 (x3172 : List Int) : Option ((Int × Int)) :=
  (impl_RootOf_n3 x3172).map (fun (t : Int × Int) => (t.1, t.2))

def impl_RootOf_n5 (x3193 : Int) : Option (Int) :=
  some x3193

def impl_RootOf_n6 (x3172 : List Int) : Option (Int) :=
  (impl_RootOf_n4 x3172).bind (fun (t : Int × Int) => impl_RootOf_n5 t.1)

def impl_RootOf_n7 (x3172 : List Int) : Option (Int) :=
  (impl_RootOf_n1 x3172).bind (Sum.elim (fun (t : Unit) => impl_RootOf_n6 x3172) (fun e => some ((fun (t : Int) => t) e)))

@[irreducible] def impl_RootOf (x3172 : List Int) : Option (Int) :=
  impl_RootOf_n7 x3172

def impl_fillYields_n1 (R0 : (List Int) → Int → (List Int) → Option (Int × (List Int))) (x3198 : Int) : Option (Int) :=
  (impl_only x3198).bind fun (v3218 : Int) => some v3218

def impl_fillYields_n2 (R0 : (List Int) → Int → (List Int) → Option (Int × (List Int))) (x3197 : List Int) (x3198 : Int) : Option ((Int × (List Int))) :=
  (impl_dependents x3197 x3198).bind fun (v3219 : Int) => (impl_wordSet_list v3219).bind fun (v3220 : List Int) => some ((((List.length v3220 : Nat) : Int)), v3220)

def impl_fillYields_n3 (R0 : (List Int) → Int → (List Int) → Option (Int × (List Int))) (x3197 : List Int) (x3239 : Int) (x3221 : Int) (x3240 : Int) (x3241 : List Int) (x3220 : List Int) : Option ((Int × Int × (List Int)) ⊕ (Int × (List Int))) :=
  cond (decide (x3240 < x3221)) ((inb x3240 (List.length x3220)).bind fun (v3252 : Nat) => (x3220[v3252]?).bind fun (v3253 : Int) => (R0 x3197 v3253 x3241).bind fun (v3254 : Int × (List Int)) => some (Sum.inl ((ior .u64 x3239 (v3254.1)), (IntKind.wrap .i64 (x3240 + 1)), (v3254.2)))) (some (Sum.inr (x3239, x3241)))

def impl_fillYields_n4 (R0 : (List Int) → Int → (List Int) → Option (Int × (List Int))) (x3197 : List Int) (x3218 : Int) (x3221 : Int) (x3199 : List Int) (x3220 : List Int) : Option ((Int × (List Int))) :=
  nloop (fun (s : Int × Int × (List Int)) => ((impl_fillYields_n3 R0 x3197 s.1 x3221 s.2.1 s.2.2 x3220).map (Sum.elim (fun (t : Int × Int × (List Int)) => Sum.inl (t.1, t.2.1, t.2.2)) (fun (t : Int × (List Int)) => Sum.inr t)) : Option ((Int × Int × (List Int)) ⊕ ((Int × (List Int)))))) LL (x3218, 0, x3199)

def impl_fillYields_n5 (R0 : (List Int) → Int → (List Int) → Option (Int × (List Int))) (x3197 : List Int) (x3218 : Int) (x3221 : Int) (x3199 : List Int) (x3220 : List Int) : Option ((Int × (List Int))) :=
  (impl_fillYields_n4 R0 x3197 x3218 x3221 x3199 x3220).map (fun (t : Int × (List Int)) => (t.1, t.2))

def impl_fillYields_n6 (R0 : (List Int) → Int → (List Int) → Option (Int × (List Int))) (x3197 : List Int) (x3198 : Int) (x3218 : Int) (x3199 : List Int) : Option ((Int × (List Int))) :=
  (impl_fillYields_n2 R0 x3197 x3198).bind (fun (t : Int × (List Int)) => impl_fillYields_n5 R0 x3197 x3218 t.1 x3199 t.2)

def impl_fillYields_n7 (R0 : (List Int) → Int → (List Int) → Option (Int × (List Int))) (x3198 : Int) (x3239 : Int) (x3241 : List Int) : Option ((Int × (List Int))) :=
  (inb (IntKind.wrap .i64 (x3198 - 1)) (List.length x3241)).bind fun (v3266 : Nat) => some (x3239, (x3241.set v3266 x3239))

def impl_fillYields_n8 (R0 : (List Int) → Int → (List Int) → Option (Int × (List Int))) (x3197 : List Int) (x3198 : Int) (x3218 : Int) (x3199 : List Int) : Option ((Int × (List Int))) :=
  (impl_fillYields_n6 R0 x3197 x3198 x3218 x3199).bind (fun (t : Int × (List Int)) => impl_fillYields_n7 R0 x3198 t.1 t.2)

def impl_fillYields_n9 (R0 : (List Int) → Int → (List Int) → Option (Int × (List Int))) (x3197 : List Int) (x3198 : Int) (x3199 : List Int) : Option ((Int × (List Int))) :=
  (impl_fillYields_n1 R0 x3198).bind (fun (t : Int) => impl_fillYields_n8 R0 x3197 x3198 t x3199)

def impl_fillYields_one (R0 : (List Int) → Int → (List Int) → Option (Int × (List Int))) (x3197 : List Int) (x3198 : Int) (x3199 : List Int) : Option (Int × (List Int)) :=
  impl_fillYields_n9 R0 x3197 x3198 x3199

def impl_fillYields_knot : Nat → ((List Int) → Int → (List Int) → Option (Int × (List Int)))
  | 0 => (fun _ _ _ => none)
  | n + 1 => (fun y0 y1 y2 => impl_fillYields_one (impl_fillYields_knot n) y0 y1 y2)

def impl_fillYields_fuel (n : Nat) : (List Int) → Int → (List Int) → Option (Int × (List Int)) := (impl_fillYields_knot n)

@[irreducible] def impl_fillYields (x3197 : List Int) (x3198 : Int) (x3199 : List Int) : Option (Int × (List Int)) := impl_fillYields_fuel RR x3197 x3198 x3199

def impl_yieldsOf_n1 (x3165 : List Int) : Option (((List Int))) :=
  (mk (((List.length x3165 : Nat) : Int)) (((List.length x3165 : Nat) : Int))).bind fun (v3279 : Nat) => (impl_RootOf x3165).bind fun (v3281 : Int) => (impl_fillYields x3165 v3281 (List.replicate v3279 (0 : Int))).bind fun (v3282 : Int × (List Int)) => some (v3282.2)

@[irreducible] def impl_yieldsOf (x3165 : List Int) : Option ((List Int)) :=
  impl_yieldsOf_n1 x3165

def impl_wordSet_isRow_n1 (x3292 : Int) : Option (Bool) :=
  some ((iand .u64 x3292 (IntKind.wrap .u64 (x3292 + (iand .u64 x3292 (IntKind.wrap .u64 (0 - x3292)))))) == 0)

@[irreducible] def impl_wordSet_isRow (x3292 : Int) : Option (Bool) :=
  impl_wordSet_isRow_n1 x3292

def impl_FlatOk_n1 (x3162 : List Int) : Option (Unit ⊕ Bool) :=
  (impl_TreeOk x3162).bind fun (v3163 : Bool) => cond (!v3163) (some (Sum.inr false)) (some (Sum.inl ()))

def impl_FlatOk_n2 (x3162 : List Int) : Option ((Int × (List Int))) :=
  (impl_yieldsOf x3162).bind fun (v3285 : List Int) => some ((((List.length v3285 : Nat) : Int)), v3285)

def impl_FlatOk_n3 (x3286 : Int) (x3313 : Int) (x3285 : List Int) : Option (Int ⊕ Bool ⊕ Unit) :=
  cond (decide (x3313 < x3286)) ((inb x3313 (List.length x3285)).bind fun (v3322 : Nat) => (x3285[v3322]?).bind fun (v3323 : Int) => (impl_wordSet_isRow v3323).bind fun (v3324 : Bool) => cond (!v3324) (some (Sum.inr (Sum.inl false))) (some (Sum.inl (IntKind.wrap .i64 (x3313 + 1))))) (some (Sum.inr (Sum.inr ())))

def impl_FlatOk_n4 (x3286 : Int) (x3285 : List Int) : Option (Bool ⊕ Unit) :=
  nloop (fun (s : Int) => ((impl_FlatOk_n3 x3286 s x3285).map (Sum.elim (fun (t : Int) => Sum.inl t) (Sum.elim (fun (t : Bool) => Sum.inr (Sum.inl t)) (fun (t : Unit) => Sum.inr (Sum.inr t)))) : Option ((Int) ⊕ (Bool ⊕ Unit)))) LL 0

def impl_FlatOk_n5 (x3286 : Int) (x3285 : List Int) : Option (Unit ⊕ Bool) :=
  (impl_FlatOk_n4 x3286 x3285).map (Sum.elim (fun (t : Bool) => (Sum.inr t)) (fun (t : Unit) => (Sum.inl ())))

def impl_FlatOk_n6 (x3162 : List Int) : Option (Unit ⊕ Bool) :=
  (impl_FlatOk_n2 x3162).bind (fun (t : Int × (List Int)) => impl_FlatOk_n5 t.1 t.2)

def impl_FlatOk_n7 : Option (Bool) :=
  some true

def impl_FlatOk_n8 (x3162 : List Int) : Option (Bool) :=
  (impl_FlatOk_n6 x3162).bind (Sum.elim (fun (t : Unit) => impl_FlatOk_n7) (fun e => some ((fun (t : Bool) => t) e)))

def impl_FlatOk_n9 (x3162 : List Int) : Option (Bool) :=
  (impl_FlatOk_n1 x3162).bind (Sum.elim (fun (t : Unit) => impl_FlatOk_n8 x3162) (fun e => some ((fun (t : Bool) => t) e)))

@[irreducible] def impl_FlatOk (x3162 : List Int) : Option (Bool) :=
  impl_FlatOk_n9 x3162

def spec_l20Fill_n1 (R0 : Int → Int → Int → (List Int) → Int → (List Int) → Option (Int × (List Int))) (x3769 : Int) (x3770 : Int) (x3771 : Int) (x3772 : List Int) (x3773 : Int) (x3774 : List Int) : Option ((Int × Int × (List Int)) ⊕ (Int × (List Int))) :=
  cond (decide (x3769 > x3770)) (some (Sum.inr (x3773, x3774))) ((spec_l20Rd_pick (IntKind.wrap .i64 ((IntKind.wrap .i64 (x3770 - x3769)) + 1)) x3772 x3773).bind fun (v3842 : Int × Int) => (inb (IntKind.wrap .i64 ((IntKind.wrap .i64 (x3769 + (v3842.1))) - 1)) (List.length x3774)).bind fun (v3847 : Nat) => some (Sum.inl ((IntKind.wrap .i64 (x3769 + (v3842.1))), (v3842.2), (x3774.set v3847 x3771))))

def spec_l20Fill_n2 (R0 : Int → Int → Int → (List Int) → Int → (List Int) → Option (Int × (List Int))) (x3845 : Int) (x3860 : Int) (x3772 : List Int) (x3861 : Int) (x3862 : List Int) : Option ((Int × Int × (List Int)) ⊕ (Int × (List Int))) :=
  cond (decide (x3860 < x3845)) ((spec_l20Rd_pick (IntKind.wrap .i64 (x3845 - x3860)) x3772 x3861).bind fun (v3866 : Int × Int) => (R0 x3860 (IntKind.wrap .i64 (x3860 + (v3866.1))) x3845 x3772 (v3866.2) x3862).bind fun (v3870 : Int × (List Int)) => some (Sum.inl ((IntKind.wrap .i64 ((IntKind.wrap .i64 (x3860 + (v3866.1))) + 1)), (v3870.1), (v3870.2)))) (some (Sum.inr (x3861, x3862)))

def spec_l20Fill_n3 (R0 : Int → Int → Int → (List Int) → Int → (List Int) → Option (Int × (List Int))) (x3845 : Int) (x3769 : Int) (x3772 : List Int) (x3844 : Int) (x3848 : List Int) : Option ((Int × (List Int))) :=
  nloop (fun (s : Int × Int × (List Int)) => ((spec_l20Fill_n2 R0 x3845 s.1 x3772 s.2.1 s.2.2).map (Sum.elim (fun (t : Int × Int × (List Int)) => Sum.inl (t.1, t.2.1, t.2.2)) (fun (t : Int × (List Int)) => Sum.inr t)) : Option ((Int × Int × (List Int)) ⊕ ((Int × (List Int)))))) LL (x3769, x3844, x3848)

def spec_l20Fill_n4 (R0 : Int → Int → Int → (List Int) → Int → (List Int) → Option (Int × (List Int))) (x3845 : Int) (x3769 : Int) (x3772 : List Int) (x3844 : Int) (x3848 : List Int) : Option ((Int × (List Int))) :=
  (spec_l20Fill_n3 R0 x3845 x3769 x3772 x3844 x3848).map (fun (t : Int × (List Int)) => (t.1, t.2))

def spec_l20Fill_n5 (R0 : Int → Int → Int → (List Int) → Int → (List Int) → Option (Int × (List Int))) (x3845 : Int) : Option (Int) :=
  some (IntKind.wrap .i64 (x3845 + 1))

def spec_l20Fill_n6 (R0 : Int → Int → Int → (List Int) → Int → (List Int) → Option (Int × (List Int))) (x3770 : Int) (x3845 : Int) (x3887 : Int) (x3772 : List Int) (x3888 : Int) (x3889 : List Int) : Option ((Int × Int × (List Int)) ⊕ (Int × (List Int))) :=
  cond (decide (x3887 ≤ x3770)) ((spec_l20Rd_pick (IntKind.wrap .i64 ((IntKind.wrap .i64 (x3770 - x3887)) + 1)) x3772 x3888).bind fun (v3894 : Int × Int) => (R0 x3887 (IntKind.wrap .i64 (x3887 + (v3894.1))) x3845 x3772 (v3894.2) x3889).bind fun (v3898 : Int × (List Int)) => some (Sum.inl ((IntKind.wrap .i64 ((IntKind.wrap .i64 (x3887 + (v3894.1))) + 1)), (v3898.1), (v3898.2)))) (some (Sum.inr (x3888, x3889)))

def spec_l20Fill_n7 (R0 : Int → Int → Int → (List Int) → Int → (List Int) → Option (Int × (List Int))) (x3770 : Int) (x3845 : Int) (x3874 : Int) (x3772 : List Int) (x3861 : Int) (x3862 : List Int) : Option ((Int × (List Int))) :=
  nloop (fun (s : Int × Int × (List Int)) => ((spec_l20Fill_n6 R0 x3770 x3845 s.1 x3772 s.2.1 s.2.2).map (Sum.elim (fun (t : Int × Int × (List Int)) => Sum.inl (t.1, t.2.1, t.2.2)) (fun (t : Int × (List Int)) => Sum.inr t)) : Option ((Int × Int × (List Int)) ⊕ ((Int × (List Int)))))) LL (x3874, x3861, x3862)

def spec_l20Fill_n8 (R0 : Int → Int → Int → (List Int) → Int → (List Int) → Option (Int × (List Int))) (x3770 : Int) (x3845 : Int) (x3874 : Int) (x3772 : List Int) (x3861 : Int) (x3862 : List Int) : Option ((Int × (List Int))) :=
  (spec_l20Fill_n7 R0 x3770 x3845 x3874 x3772 x3861 x3862).map (fun (t : Int × (List Int)) => (t.1, t.2))

def spec_l20Fill_n9 (R0 : Int → Int → Int → (List Int) → Int → (List Int) → Option (Int × (List Int))) (x3770 : Int) (x3845 : Int) (x3772 : List Int) (x3861 : Int) (x3862 : List Int) : Option ((Int × (List Int))) :=
  (spec_l20Fill_n5 R0 x3845).bind (fun (t : Int) => spec_l20Fill_n8 R0 x3770 x3845 t x3772 x3861 x3862)

def spec_l20Fill_n10 (R0 : Int → Int → Int → (List Int) → Int → (List Int) → Option (Int × (List Int))) (x3770 : Int) (x3845 : Int) (x3769 : Int) (x3772 : List Int) (x3844 : Int) (x3848 : List Int) : Option ((Int × (List Int))) :=
  (spec_l20Fill_n4 R0 x3845 x3769 x3772 x3844 x3848).bind (fun (t : Int × (List Int)) => spec_l20Fill_n9 R0 x3770 x3845 x3772 t.1 t.2)

def spec_l20Fill_n11 (R0 : Int → Int → Int → (List Int) → Int → (List Int) → Option (Int × (List Int))) (x3769 : Int) (x3770 : Int) (x3771 : Int) (x3772 : List Int) (x3773 : Int) (x3774 : List Int) : Option ((Int × (List Int)) ⊕ (Int × (List Int))) :=
  (spec_l20Fill_n1 R0 x3769 x3770 x3771 x3772 x3773 x3774).bind (Sum.elim (fun (t : Int × Int × (List Int)) => (spec_l20Fill_n10 R0 x3770 t.1 x3769 x3772 t.2.1 t.2.2).map (fun (u : Int × (List Int)) => (Sum.inl (u.1, u.2)))) (fun e => some ((fun (t : Int × (List Int)) => (Sum.inr t)) e)))

def spec_l20Fill_one (R0 : Int → Int → Int → (List Int) → Int → (List Int) → Option (Int × (List Int))) (x3769 : Int) (x3770 : Int) (x3771 : Int) (x3772 : List Int) (x3773 : Int) (x3774 : List Int) : Option (Int × (List Int)) :=
  (spec_l20Fill_n11 R0 x3769 x3770 x3771 x3772 x3773 x3774).map (Sum.elim (fun (t : Int × (List Int)) => (t.1, t.2)) (fun (t : Int × (List Int)) => t))

def spec_l20Fill_knot : Nat → (Int → Int → Int → (List Int) → Int → (List Int) → Option (Int × (List Int)))
  | 0 => (fun _ _ _ _ _ _ => none)
  | n + 1 => (fun y0 y1 y2 y3 y4 y5 => spec_l20Fill_one (spec_l20Fill_knot n) y0 y1 y2 y3 y4 y5)

def spec_l20Fill_fuel (n : Nat) : Int → Int → Int → (List Int) → Int → (List Int) → Option (Int × (List Int)) := (spec_l20Fill_knot n)

@[irreducible] def spec_l20Fill (x3769 : Int) (x3770 : Int) (x3771 : Int) (x3772 : List Int) (x3773 : Int) (x3774 : List Int) : Option (Int × (List Int)) := spec_l20Fill_fuel RR x3769 x3770 x3771 x3772 x3773 x3774

def spec_l20Flat_n1 (x3722 : Int) (x3723 : List Int) (x3724 : Int) : Option ((Int × (List Int))) :=
  (spec_l20Rd_pick 3 x3723 x3724).bind fun (v3923 : Int × Int) => cond ((v3923.1) == 0) ((spec_l20Tree x3722 x3723 (v3923.2)).bind fun (v3927 : Int × (List Int)) => some ((v3927.1), (v3927.2))) ((spec_l20Rd_pick 7 x3723 (v3923.2)).bind fun (v3930 : Int × Int) => (mk (IntKind.wrap .i64 (1 + (v3930.1))) (IntKind.wrap .i64 (1 + (v3930.1)))).bind fun (v3934 : Nat) => (spec_l20Fill 1 (IntKind.wrap .i64 (1 + (v3930.1))) 0 x3723 (v3930.2) (List.replicate v3934 (0 : Int))).bind fun (v3936 : Int × (List Int)) => some ((v3936.1), (v3936.2)))

@[irreducible] def spec_l20Flat (x3722 : Int) (x3723 : List Int) (x3724 : Int) : Option (Int × (List Int)) :=
  spec_l20Flat_n1 x3722 x3723 x3724

def spec_RootOf_n1 : Option (Unit) :=
  some ()

def spec_RootOf_n2 : Option (Unit) :=
  some ()

def spec_RootOf_n3 (x4097 : List Int) (x4114 : Int) : Option (Int ⊕ Int ⊕ Unit) :=
  cond (decide (x4114 < (((List.length x4097 : Nat) : Int)))) ((spec_TreeOk x4097).bind fun (v4126 : Bool) => cond v4126 ((idx x4097 x4114).bind fun (v4127 : Int) => cond (v4127 == 0) (some (Sum.inr (Sum.inl (IntKind.wrap .i64 (x4114 + 1))))) (some (Sum.inl (IntKind.wrap .i64 (x4114 + 1))))) (some (Sum.inr (Sum.inr ())))) (some (Sum.inr (Sum.inr ())))

def spec_RootOf_n4 (x4097 : List Int) : Option (Int ⊕ Unit) :=
  nloop (fun (s : Int) => ((spec_RootOf_n3 x4097 s).map (Sum.elim (fun (t : Int) => Sum.inl t) (Sum.elim (fun (t : Int) => Sum.inr (Sum.inl t)) (fun (t : Unit) => Sum.inr (Sum.inr t)))) : Option ((Int) ⊕ (Int ⊕ Unit)))) LL 0

def spec_RootOf_n5 (x4097 : List Int) : Option (Unit ⊕ Int) :=
  (spec_RootOf_n4 x4097).map (Sum.elim (fun (t : Int) => (Sum.inr t)) (fun (t : Unit) => (Sum.inl ())))

def spec_RootOf_n6 (x4097 : List Int) : Option (Unit ⊕ Int) :=
  (spec_RootOf_n2).bind (fun (t : Unit) => spec_RootOf_n5 x4097)

def spec_RootOf_n7 : Option (Int) :=
  some (-1)

def spec_RootOf_n8 (x4097 : List Int) : Option (Int) :=
  (spec_RootOf_n6 x4097).bind (Sum.elim (fun (t : Unit) => spec_RootOf_n7) (fun e => some ((fun (t : Int) => t) e)))

def spec_RootOf_n9 (x4097 : List Int) : Option (Int) :=
  (spec_RootOf_n1).bind (fun (t : Unit) => spec_RootOf_n8 x4097)

@[irreducible] def spec_RootOf (x4097 : List Int) : Option (Int) :=
  spec_RootOf_n9 x4097

def spec_OrderOk_n1 : Option (Unit) :=
  some ()

def spec_OrderOk_n2 : Option (Unit) :=
  some ()

def spec_OrderOk_n3 (x4798 : List Int) (x4830 : Int) : Option (Unit ⊕ Unit) :=
  cond (decide (x4830 < (((List.length x4798 : Nat) : Int)))) (some (Sum.inl ())) (some (Sum.inr ()))

def spec_OrderOk_n4 (x4798 : List Int) (x4799 : Int) (x4830 : Int) : Option (Unit ⊕ Bool) :=
  (idx x4798 x4830).bind fun (v4836 : Int) => (spec_l1In v4836 1 x4799).bind fun (v4837 : Bool) => cond (!v4837) (some (Sum.inr false)) (some (Sum.inl ()))

def spec_OrderOk_n5 (x4798 : List Int) (x4830 : Int) (x4849 : Int) : Option (Int ⊕ Bool ⊕ Unit) :=
  cond (decide (x4849 < x4830)) ((idx x4798 x4849).bind fun (v4856 : Int) => (idx x4798 x4830).bind fun (v4857 : Int) => cond (v4856 == v4857) (some (Sum.inr (Sum.inl false))) (some (Sum.inl (IntKind.wrap .i64 (x4849 + 1))))) (some (Sum.inr (Sum.inr ())))

def spec_OrderOk_n6 (x4798 : List Int) (x4830 : Int) : Option (Bool ⊕ Unit) :=
  nloop (fun (s : Int) => ((spec_OrderOk_n5 x4798 x4830 s).map (Sum.elim (fun (t : Int) => Sum.inl t) (Sum.elim (fun (t : Bool) => Sum.inr (Sum.inl t)) (fun (t : Unit) => Sum.inr (Sum.inr t)))) : Option ((Int) ⊕ (Bool ⊕ Unit)))) LL 0

def spec_OrderOk_n7 (x4798 : List Int) (x4830 : Int) : Option (Unit ⊕ Bool) :=
  (spec_OrderOk_n6 x4798 x4830).map (Sum.elim (fun (t : Bool) => (Sum.inr t)) (fun (t : Unit) => (Sum.inl ())))

def spec_OrderOk_n8 (x4798 : List Int) (x4799 : Int) (x4830 : Int) : Option (Unit ⊕ Bool) :=
  (spec_OrderOk_n4 x4798 x4799 x4830).bind (Sum.elim (fun (t : Unit) => spec_OrderOk_n7 x4798 x4830) (fun e => some ((fun (t : Bool) => (Sum.inr t)) e)))

def spec_OrderOk_n9 (x4798 : List Int) (x4799 : Int) (x4830 : Int) : Option (Unit ⊕ Bool) :=
  (spec_OrderOk_n8 x4798 x4799 x4830).map (Sum.elim (fun (t : Unit) => (Sum.inl ())) (fun (t : Bool) => (Sum.inr t)))

def spec_OrderOk_n10 (x4830 : Int) : Option (Int) :=
  some (IntKind.wrap .i64 (x4830 + 1))

def spec_OrderOk_n11 (x4798 : List Int) (x4799 : Int) (x4830 : Int) : Option (Int ⊕ Bool) :=
  (spec_OrderOk_n9 x4798 x4799 x4830).bind (Sum.elim (fun (t : Unit) => (spec_OrderOk_n10 x4830).map (fun (t : Int) => (Sum.inl t))) (fun e => some ((fun (t : Bool) => (Sum.inr t)) e)))

def spec_OrderOk_n12 (x4798 : List Int) (x4799 : Int) (x4830 : Int) : Option (Int ⊕ Bool ⊕ Unit) :=
  (spec_OrderOk_n3 x4798 x4830).bind (Sum.elim (fun (t : Unit) => (spec_OrderOk_n11 x4798 x4799 x4830).map (Sum.elim (fun (t : Int) => (Sum.inl t)) (fun (t : Bool) => (Sum.inr (Sum.inl t))))) (fun e => some ((fun (t : Unit) => (Sum.inr (Sum.inr t))) e)))

def spec_OrderOk_n13 (x4798 : List Int) (x4799 : Int) : Option (Bool ⊕ Unit) :=
  nloop (fun (s : Int) => ((spec_OrderOk_n12 x4798 x4799 s).map (Sum.elim (fun (t : Int) => Sum.inl t) (Sum.elim (fun (t : Bool) => Sum.inr (Sum.inl t)) (fun (t : Unit) => Sum.inr (Sum.inr t)))) : Option ((Int) ⊕ (Bool ⊕ Unit)))) LL 0

def spec_OrderOk_n14 (x4798 : List Int) (x4799 : Int) : Option (Unit ⊕ Bool) :=
  (spec_OrderOk_n13 x4798 x4799).map (Sum.elim (fun (t : Bool) => (Sum.inr t)) (fun (t : Unit) => (Sum.inl ())))

def spec_OrderOk_n15 (x4798 : List Int) (x4799 : Int) : Option (Unit ⊕ Bool) :=
  (spec_OrderOk_n2).bind (fun (t : Unit) => spec_OrderOk_n14 x4798 x4799)

def spec_OrderOk_n16 (x4798 : List Int) (x4799 : Int) : Option (Bool) :=
  (spec_l1In x4799 1 8).bind fun (v4864 : Bool) => cond v4864 (some ((((List.length x4798 : Nat) : Int)) == x4799)) (some false)

def spec_OrderOk_n17 (x4798 : List Int) (x4799 : Int) : Option (Bool) :=
  (spec_OrderOk_n15 x4798 x4799).bind (Sum.elim (fun (t : Unit) => spec_OrderOk_n16 x4798 x4799) (fun e => some ((fun (t : Bool) => t) e)))

def spec_OrderOk_n18 (x4798 : List Int) (x4799 : Int) : Option (Bool) :=
  (spec_OrderOk_n1).bind (fun (t : Unit) => spec_OrderOk_n17 x4798 x4799)

@[irreducible] def spec_OrderOk (x4798 : List Int) (x4799 : Int) : Option (Bool) :=
  spec_OrderOk_n18 x4798 x4799

def spec_PutInOrder_n1 (x4793 : List Int) (x4794 : List Int) : Option (((List Int)) ⊕ (Bool × (List Int))) :=
  (spec_TreeOk x4793).bind fun (v4870 : Bool) => cond (!v4870) (some (Sum.inr (false, ([] : List Int)))) ((spec_OrderOk x4794 (((List.length x4793 : Nat) : Int))).bind fun (v4873 : Bool) => cond (!v4873) (some (Sum.inr (false, ([] : List Int)))) ((mk (IntKind.wrap .i64 ((((List.length x4793 : Nat) : Int)) + 1)) (IntKind.wrap .i64 ((((List.length x4793 : Nat) : Int)) + 1))).bind fun (v4877 : Nat) => some (Sum.inl (List.replicate v4877 (0 : Int)))))

def spec_PutInOrder_n2 : Option (Unit) :=
  some ()

def spec_PutInOrder_n3 (x4794 : List Int) (x4894 : Int) (x4895 : List Int) : Option ((Int × (List Int)) ⊕ ((List Int))) :=
  cond (decide (x4894 < (((List.length x4794 : Nat) : Int)))) ((idx x4794 x4894).bind fun (v4906 : Int) => (inb v4906 (List.length x4895)).bind fun (v4908 : Nat) => some (Sum.inl ((IntKind.wrap .i64 (x4894 + 1)), (x4895.set v4908 (IntKind.wrap .i64 (x4894 + 1)))))) (some (Sum.inr x4895))

def spec_PutInOrder_n4 (x4794 : List Int) (x4878 : List Int) : Option (((List Int))) :=
  nloop (fun (s : Int × (List Int)) => ((spec_PutInOrder_n3 x4794 s.1 s.2).map (Sum.elim (fun (t : Int × (List Int)) => Sum.inl (t.1, t.2)) (fun (t : (List Int)) => Sum.inr t)) : Option ((Int × (List Int)) ⊕ (((List Int)))))) LL (0, x4878)

def spec_PutInOrder_n5 (x4794 : List Int) (x4878 : List Int) : Option (((List Int))) :=
  (spec_PutInOrder_n4 x4794 x4878).map (fun (t : (List Int)) => t)

def spec_PutInOrder_n6 (x4794 : List Int) (x4878 : List Int) : Option (((List Int))) :=
  (spec_PutInOrder_n2).bind (fun (t : Unit) => spec_PutInOrder_n5 x4794 x4878)

def spec_PutInOrder_n7 : Option (Unit) :=
  some ()

def spec_PutInOrder_n8 : Option (Unit) :=
  some ()

def spec_PutInOrder_n9 (x4793 : List Int) (x4794 : List Int) (x4936 : Int) (x4895 : List Int) (x4937 : List Int) : Option ((Int × (List Int)) ⊕ ((List Int))) :=
  cond (decide (x4936 < (((List.length x4794 : Nat) : Int)))) ((idx x4794 x4936).bind fun (v4953 : Int) => (idx x4793 (IntKind.wrap .i64 (v4953 - 1))).bind fun (v4955 : Int) => (inb v4955 (List.length x4895)).bind fun (v4956 : Nat) => (x4895[v4956]?).bind fun (v4957 : Int) => (room ((List.length x4937) + List.length ([v4957]))).bind fun (v4960 : Unit) => some (Sum.inl ((IntKind.wrap .i64 (x4936 + 1)), (x4937 ++ ([v4957]))))) (some (Sum.inr x4937))

def spec_PutInOrder_n10 (x4793 : List Int) (x4794 : List Int) (x4895 : List Int) : Option (((List Int))) :=
  nloop (fun (s : Int × (List Int)) => ((spec_PutInOrder_n9 x4793 x4794 s.1 x4895 s.2).map (Sum.elim (fun (t : Int × (List Int)) => Sum.inl (t.1, t.2)) (fun (t : (List Int)) => Sum.inr t)) : Option ((Int × (List Int)) ⊕ (((List Int)))))) LL (0, ([] : List Int))

def spec_PutInOrder_n11 (x4793 : List Int) (x4794 : List Int) (x4895 : List Int) : Option (((List Int))) :=
  (spec_PutInOrder_n10 x4793 x4794 x4895).map (fun (t : (List Int)) => t)

def spec_PutInOrder_n12 (x4793 : List Int) (x4794 : List Int) (x4895 : List Int) : Option (((List Int))) :=
  (spec_PutInOrder_n8).bind (fun (t : Unit) => spec_PutInOrder_n11 x4793 x4794 x4895)

def spec_PutInOrder_n13 (x4937 : List Int) : Option ((Bool × (List Int))) :=
  some (true, x4937)

def spec_PutInOrder_n14 (x4793 : List Int) (x4794 : List Int) (x4895 : List Int) : Option ((Bool × (List Int))) :=
  (spec_PutInOrder_n12 x4793 x4794 x4895).bind (fun (t : (List Int)) => spec_PutInOrder_n13 t)

def spec_PutInOrder_n15 (x4793 : List Int) (x4794 : List Int) (x4895 : List Int) : Option ((Bool × (List Int))) :=
  (spec_PutInOrder_n7).bind (fun (t : Unit) => spec_PutInOrder_n14 x4793 x4794 x4895)

def spec_PutInOrder_n16 (x4793 : List Int) (x4794 : List Int) (x4878 : List Int) : Option ((Bool × (List Int))) :=
  (spec_PutInOrder_n6 x4794 x4878).bind (fun (t : (List Int)) => spec_PutInOrder_n15 x4793 x4794 t)

def spec_PutInOrder_n17 (x4793 : List Int) (x4794 : List Int) : Option ((Bool × (List Int))) :=
  (spec_PutInOrder_n1 x4793 x4794).bind (Sum.elim (fun (t : (List Int)) => spec_PutInOrder_n16 x4793 x4794 t) (fun e => some ((fun (t : Bool × (List Int)) => t) e)))

@[irreducible] def spec_PutInOrder (x4793 : List Int) (x4794 : List Int) : Option (Bool × (List Int)) :=
  spec_PutInOrder_n17 x4793 x4794

def spec_l20Wild_n1 (x4775 : Int) (x4776 : List Int) (x4777 : Int) : Option ((Int × (List Int))) :=
  (spec_l20Tree x4775 x4776 x4777).bind fun (v5026 : Int × (List Int)) => (spec_l20Rd_pick 2 x4776 (v5026.1)).bind fun (v5029 : Int × Int) => cond ((v5029.1) == 0) ((spec_TreeOk (v5026.2)).bind fun (v5033 : Bool) => cond v5033 ((spec_l20Order (((List.length (v5026.2) : Nat) : Int)) x4776 (v5029.2)).bind fun (v5035 : Int × (List Int)) => (spec_PutInOrder (v5026.2) (v5035.2)).bind fun (v5038 : Bool × (List Int)) => some ((v5035.1), (v5038.2))) ((spec_l20Rd_pick 3 x4776 (v5029.2)).bind fun (v5041 : Int × Int) => cond ((v5041.1) == 0) ((spec_l20Flat x4775 x4776 (v5041.2)).bind fun (v5045 : Int × (List Int)) => some ((v5045.1), (v5045.2))) (some ((v5041.2), (v5026.2))))) ((spec_l20Rd_pick 3 x4776 (v5029.2)).bind fun (v5048 : Int × Int) => cond ((v5048.1) == 0) ((spec_l20Flat x4775 x4776 (v5048.2)).bind fun (v5052 : Int × (List Int)) => some ((v5052.1), (v5052.2))) (some ((v5048.2), (v5026.2))))

@[irreducible] def spec_l20Wild (x4775 : Int) (x4776 : List Int) (x4777 : Int) : Option (Int × (List Int)) :=
  spec_l20Wild_n1 x4775 x4776 x4777

def spec_DrawFlatOrder_n1 (x4773 : List Int) : Option (((List Int))) :=
  (spec_l20Open x4773).bind fun (v5060 : List Int) => (spec_l20Wild 9 v5060 0).bind fun (v5061 : Int × (List Int)) => some (v5061.2)

@[irreducible] def spec_DrawFlatOrder (x4773 : List Int) : Option ((List Int)) :=
  spec_DrawFlatOrder_n1 x4773

def impl_appendFlat_n1 (R0 : (List Int) → Int → (List Int) → Option ((List Int))) (R1 : (List Int) → Int → (List Int) → Option ((List Int))) (x5085 : List Int) (x5086 : Int) (x5087 : List Int) : Option (((List Int))) :=
  (impl_dependentsBeside x5085 x5086).bind fun (v5209 : Int × Int) => (R1 x5085 (v5209.1) x5087).bind fun (v5212 : List Int) => (room ((List.length v5212) + List.length ([x5086]))).bind fun (v5215 : Unit) => (R1 x5085 (v5209.2) (v5212 ++ ([x5086]))).bind fun (v5217 : List Int) => some v5217

def impl_appendFlat_one (R0 : (List Int) → Int → (List Int) → Option ((List Int))) (R1 : (List Int) → Int → (List Int) → Option ((List Int))) (x5085 : List Int) (x5086 : Int) (x5087 : List Int) : Option ((List Int)) :=
  impl_appendFlat_n1 R0 R1 x5085 x5086 x5087

def impl_appendEachFlat_n1 (R0 : (List Int) → Int → (List Int) → Option ((List Int))) (R1 : (List Int) → Int → (List Int) → Option ((List Int))) : Option (Unit) :=
  some ()

def impl_appendEachFlat_n2 (R0 : (List Int) → Int → (List Int) → Option ((List Int))) (R1 : (List Int) → Int → (List Int) → Option ((List Int))) (x5141 : Int) : Option ((Int × (List Int))) :=
  (impl_wordSet_list x5141).bind fun (v5169 : List Int) => some ((((List.length v5169 : Nat) : Int)), v5169)

def impl_appendEachFlat_n3 (R0 : (List Int) → Int → (List Int) → Option ((List Int))) (R1 : (List Int) → Int → (List Int) → Option ((List Int))) (x5140 : List Int) (x5170 : Int) (x5182 : Int) (x5183 : List Int) (x5169 : List Int) : Option ((Int × (List Int)) ⊕ ((List Int))) :=
  cond (decide (x5182 < x5170)) ((inb x5182 (List.length x5169)).bind fun (v5191 : Nat) => (x5169[v5191]?).bind fun (v5192 : Int) => (R0 x5140 v5192 x5183).bind fun (v5193 : List Int) => some (Sum.inl ((IntKind.wrap .i64 (x5182 + 1)), v5193))) (some (Sum.inr x5183))

def impl_appendEachFlat_n4 (R0 : (List Int) → Int → (List Int) → Option ((List Int))) (R1 : (List Int) → Int → (List Int) → Option ((List Int))) (x5140 : List Int) (x5170 : Int) (x5142 : List Int) (x5169 : List Int) : Option (((List Int))) :=
  nloop (fun (s : Int × (List Int)) => ((impl_appendEachFlat_n3 R0 R1 x5140 x5170 s.1 s.2 x5169).map (Sum.elim (fun (t : Int × (List Int)) => Sum.inl (t.1, t.2)) (fun (t : (List Int)) => Sum.inr t)) : Option ((Int × (List Int)) ⊕ (((List Int)))))) LL (0, x5142)

def impl_appendEachFlat_n5 (R0 : (List Int) → Int → (List Int) → Option ((List Int))) (R1 : (List Int) → Int → (List Int) → Option ((List Int))) (x5140 : List Int) (x5170 : Int) (x5142 : List Int) (x5169 : List Int) : Option (((List Int))) :=
  (impl_appendEachFlat_n4 R0 R1 x5140 x5170 x5142 x5169).map (fun (t : (List Int)) => t)

def impl_appendEachFlat_n6 (R0 : (List Int) → Int → (List Int) → Option ((List Int))) (R1 : (List Int) → Int → (List Int) → Option ((List Int))) (x5140 : List Int) (x5141 : Int) (x5142 : List Int) : Option (((List Int))) :=
  (impl_appendEachFlat_n2 R0 R1 x5141).bind (fun (t : Int × (List Int)) => impl_appendEachFlat_n5 R0 R1 x5140 t.1 x5142 t.2)

def impl_appendEachFlat_n7 (R0 : (List Int) → Int → (List Int) → Option ((List Int))) (R1 : (List Int) → Int → (List Int) → Option ((List Int))) (x5183 : List Int) : Option (((List Int))) :=
  some x5183

def impl_appendEachFlat_n8 (R0 : (List Int) → Int → (List Int) → Option ((List Int))) (R1 : (List Int) → Int → (List Int) → Option ((List Int))) (x5140 : List Int) (x5141 : Int) (x5142 : List Int) : Option (((List Int))) :=
  (impl_appendEachFlat_n6 R0 R1 x5140 x5141 x5142).bind (fun (t : (List Int)) => impl_appendEachFlat_n7 R0 R1 t)

def impl_appendEachFlat_n9 (R0 : (List Int) → Int → (List Int) → Option ((List Int))) (R1 : (List Int) → Int → (List Int) → Option ((List Int))) (x5140 : List Int) (x5141 : Int) (x5142 : List Int) : Option (((List Int))) :=
  (impl_appendEachFlat_n1 R0 R1).bind (fun (t : Unit) => impl_appendEachFlat_n8 R0 R1 x5140 x5141 x5142)

def impl_appendEachFlat_one (R0 : (List Int) → Int → (List Int) → Option ((List Int))) (R1 : (List Int) → Int → (List Int) → Option ((List Int))) (x5140 : List Int) (x5141 : Int) (x5142 : List Int) : Option ((List Int)) :=
  impl_appendEachFlat_n9 R0 R1 x5140 x5141 x5142

def impl_appendFlat_knot : Nat → ((List Int) → Int → (List Int) → Option ((List Int))) × ((List Int) → Int → (List Int) → Option ((List Int)))
  | 0 => ((fun _ _ _ => none), (fun _ _ _ => none))
  | n + 1 => ((fun y0 y1 y2 => impl_appendFlat_one (impl_appendFlat_knot n).1 (impl_appendFlat_knot n).2 y0 y1 y2), (fun y0 y1 y2 => impl_appendEachFlat_one (impl_appendFlat_knot n).1 (impl_appendFlat_knot n).2 y0 y1 y2))

def impl_appendFlat_fuel (n : Nat) : (List Int) → Int → (List Int) → Option ((List Int)) := (impl_appendFlat_knot n).1

@[irreducible] def impl_appendFlat (x5085 : List Int) (x5086 : Int) (x5087 : List Int) : Option ((List Int)) := impl_appendFlat_fuel RR x5085 x5086 x5087

def impl_appendEachFlat_fuel (n : Nat) : (List Int) → Int → (List Int) → Option ((List Int)) := (impl_appendFlat_knot n).2

@[irreducible] def impl_appendEachFlat (x5140 : List Int) (x5141 : Int) (x5142 : List Int) : Option ((List Int)) := impl_appendEachFlat_fuel RR x5140 x5141 x5142

def impl_FlatOrder_n1 (x5068 : List Int) : Option (((List Int))) :=
  (impl_TreeOk x5068).bind fun (v5227 : Bool) => cond (!v5227) (some ([] : List Int)) ((impl_RootOf x5068).bind fun (v5230 : Int) => (mk 0 (((List.length x5068 : Nat) : Int))).bind fun (v5231 : Nat) => (impl_appendFlat x5068 v5230 (List.replicate v5231 (0 : Int))).bind fun (v5233 : List Int) => some v5233)

@[irreducible] def impl_FlatOrder (x5068 : List Int) : Option ((List Int)) :=
  impl_FlatOrder_n1 x5068

def spec_l8Walk_n1 (R0 : (List Int) → Int → Option ((List Int))) : Option (Unit) :=
  some ()

def spec_l8Walk_n2 (R0 : (List Int) → Int → Option ((List Int))) : Option (Unit) :=
  some ()

def spec_l8Walk_n3 (R0 : (List Int) → Int → Option ((List Int))) (x5246 : List Int) (x5247 : Int) (x5322 : Int) (x5323 : List Int) : Option ((Int × (List Int)) ⊕ ((List Int))) :=
  cond (decide (x5322 < x5247)) ((idx x5246 (IntKind.wrap .i64 (x5322 - 1))).bind fun (v5335 : Int) => cond (v5335 == x5247) ((R0 x5246 x5322).bind fun (v5337 : List Int) => (room ((List.length x5323) + List.length v5337)).bind fun (v5339 : Unit) => some (Sum.inl ((IntKind.wrap .i64 (x5322 + 1)), (x5323 ++ v5337)))) (some (Sum.inl ((IntKind.wrap .i64 (x5322 + 1)), x5323)))) (some (Sum.inr x5323))

def spec_l8Walk_n4 (R0 : (List Int) → Int → Option ((List Int))) (x5246 : List Int) (x5247 : Int) : Option (((List Int))) :=
  nloop (fun (s : Int × (List Int)) => ((spec_l8Walk_n3 R0 x5246 x5247 s.1 s.2).map (Sum.elim (fun (t : Int × (List Int)) => Sum.inl (t.1, t.2)) (fun (t : (List Int)) => Sum.inr t)) : Option ((Int × (List Int)) ⊕ (((List Int)))))) LL (1, ([] : List Int))

def spec_l8Walk_n5 (R0 : (List Int) → Int → Option ((List Int))) (x5246 : List Int) (x5247 : Int) : Option (((List Int))) :=
  (spec_l8Walk_n4 R0 x5246 x5247).map (fun (t : (List Int)) => t)

def spec_l8Walk_n6 (R0 : (List Int) → Int → Option ((List Int))) (x5246 : List Int) (x5247 : Int) : Option (((List Int))) :=
  (spec_l8Walk_n2 R0).bind (fun (t : Unit) => spec_l8Walk_n5 R0 x5246 x5247)

def spec_l8Walk_n7 (R0 : (List Int) → Int → Option ((List Int))) (x5247 : Int) (x5323 : List Int) : Option (((List Int))) :=
  (room ((List.length x5323) + List.length ([x5247]))).bind fun (v5347 : Unit) => some (x5323 ++ ([x5247]))

def spec_l8Walk_n8 (R0 : (List Int) → Int → Option ((List Int))) (x5247 : Int) : Option (Int) :=
  some (IntKind.wrap .i64 (x5247 + 1))

def spec_l8Walk_n9 (R0 : (List Int) → Int → Option ((List Int))) (x5246 : List Int) (x5247 : Int) (x5374 : Int) (x5375 : List Int) : Option ((Int × (List Int)) ⊕ ((List Int))) :=
  cond (decide (x5374 ≤ (((List.length x5246 : Nat) : Int)))) ((idx x5246 (IntKind.wrap .i64 (x5374 - 1))).bind fun (v5390 : Int) => cond (v5390 == x5247) ((R0 x5246 x5374).bind fun (v5392 : List Int) => (room ((List.length x5375) + List.length v5392)).bind fun (v5394 : Unit) => some (Sum.inl ((IntKind.wrap .i64 (x5374 + 1)), (x5375 ++ v5392)))) (some (Sum.inl ((IntKind.wrap .i64 (x5374 + 1)), x5375)))) (some (Sum.inr x5375))

def spec_l8Walk_n10 (R0 : (List Int) → Int → Option ((List Int))) (x5246 : List Int) (x5247 : Int) (x5349 : Int) (x5348 : List Int) : Option (((List Int))) :=
  nloop (fun (s : Int × (List Int)) => ((spec_l8Walk_n9 R0 x5246 x5247 s.1 s.2).map (Sum.elim (fun (t : Int × (List Int)) => Sum.inl (t.1, t.2)) (fun (t : (List Int)) => Sum.inr t)) : Option ((Int × (List Int)) ⊕ (((List Int)))))) LL (x5349, x5348)

def spec_l8Walk_n11 (R0 : (List Int) → Int → Option ((List Int))) (x5246 : List Int) (x5247 : Int) (x5349 : Int) (x5348 : List Int) : Option (((List Int))) :=
  (spec_l8Walk_n10 R0 x5246 x5247 x5349 x5348).map (fun (t : (List Int)) => t)

def spec_l8Walk_n12 (R0 : (List Int) → Int → Option ((List Int))) (x5246 : List Int) (x5247 : Int) (x5348 : List Int) : Option (((List Int))) :=
  (spec_l8Walk_n8 R0 x5247).bind (fun (t : Int) => spec_l8Walk_n11 R0 x5246 x5247 t x5348)

def spec_l8Walk_n13 (R0 : (List Int) → Int → Option ((List Int))) (x5375 : List Int) : Option (((List Int))) :=
  some x5375

def spec_l8Walk_n14 (R0 : (List Int) → Int → Option ((List Int))) (x5246 : List Int) (x5247 : Int) (x5348 : List Int) : Option (((List Int))) :=
  (spec_l8Walk_n12 R0 x5246 x5247 x5348).bind (fun (t : (List Int)) => spec_l8Walk_n13 R0 t)

def spec_l8Walk_n15 (R0 : (List Int) → Int → Option ((List Int))) (x5246 : List Int) (x5247 : Int) (x5323 : List Int) : Option (((List Int))) :=
  (spec_l8Walk_n7 R0 x5247 x5323).bind (fun (t : (List Int)) => spec_l8Walk_n14 R0 x5246 x5247 t)

def spec_l8Walk_n16 (R0 : (List Int) → Int → Option ((List Int))) (x5246 : List Int) (x5247 : Int) : Option (((List Int))) :=
  (spec_l8Walk_n6 R0 x5246 x5247).bind (fun (t : (List Int)) => spec_l8Walk_n15 R0 x5246 x5247 t)

def spec_l8Walk_n17 (R0 : (List Int) → Int → Option ((List Int))) (x5246 : List Int) (x5247 : Int) : Option (((List Int))) :=
  (spec_l8Walk_n1 R0).bind (fun (t : Unit) => spec_l8Walk_n16 R0 x5246 x5247)

def spec_l8Walk_one (R0 : (List Int) → Int → Option ((List Int))) (x5246 : List Int) (x5247 : Int) : Option ((List Int)) :=
  spec_l8Walk_n17 R0 x5246 x5247

def spec_l8Walk_knot : Nat → ((List Int) → Int → Option ((List Int)))
  | 0 => (fun _ _ => none)
  | n + 1 => (fun y0 y1 => spec_l8Walk_one (spec_l8Walk_knot n) y0 y1)

def spec_l8Walk_fuel (n : Nat) : (List Int) → Int → Option ((List Int)) := (spec_l8Walk_knot n)

@[irreducible] def spec_l8Walk (x5246 : List Int) (x5247 : Int) : Option ((List Int)) := spec_l8Walk_fuel RR x5246 x5247

def spec_FlatOrder_n1 (x5240 : List Int) : Option (((List Int))) :=
  (spec_TreeOk x5240).bind fun (v5401 : Bool) => cond (!v5401) (some ([] : List Int)) ((spec_RootOf x5240).bind fun (v5403 : Int) => (spec_l8Walk x5240 v5403).bind fun (v5404 : List Int) => some v5404)

@[irreducible] def spec_FlatOrder (x5240 : List Int) : Option ((List Int)) :=
  spec_FlatOrder_n1 x5240

def impl_OrderOk_n1 (x5438 : List Int) (x5439 : Int) : Option (Unit ⊕ Bool) :=
  cond (decide (x5439 < 1)) (some (Sum.inr false)) (cond (decide (x5439 > 8)) (some (Sum.inr false)) (cond ((((List.length x5438 : Nat) : Int)) != x5439) (some (Sum.inr false)) (some (Sum.inl ()))))

def impl_OrderOk_n2 (x5438 : List Int) : Option (Int) :=
  some (((List.length x5438 : Nat) : Int))

def impl_OrderOk_n3 (x5439 : Int) (x5438 : List Int) (x5449 : Int) (x5473 : Int) (x5474 : List Bool) : Option ((Int × (List Bool)) ⊕ Bool ⊕ Unit) :=
  cond (decide (x5473 < x5449)) ((idx x5438 x5473).bind fun (v5488 : Int) => cond (decide (v5488 < 1)) (some (Sum.inr (Sum.inl false))) (cond (decide (v5488 > x5439)) (some (Sum.inr (Sum.inl false))) ((same (List.length x5474) 9).bind fun (v5491 : Unit) => (inb v5488 9).bind fun (v5492 : Nat) => (x5474[v5492]?).bind fun (v5493 : Bool) => cond v5493 (some (Sum.inr (Sum.inl false))) ((same (List.length x5474) 9).bind fun (v5494 : Unit) => (inb v5488 9).bind fun (v5495 : Nat) => some (Sum.inl ((IntKind.wrap .i64 (x5473 + 1)), (x5474.set v5495 true))))))) (some (Sum.inr (Sum.inr ())))

def impl_OrderOk_n4 (x5439 : Int) (x5438 : List Int) (x5449 : Int) : Option (Bool ⊕ Unit) :=
  nloop (fun (s : Int × (List Bool)) => ((impl_OrderOk_n3 x5439 x5438 x5449 s.1 s.2).map (Sum.elim (fun (t : Int × (List Bool)) => Sum.inl (t.1, t.2)) (Sum.elim (fun (t : Bool) => Sum.inr (Sum.inl t)) (fun (t : Unit) => Sum.inr (Sum.inr t)))) : Option ((Int × (List Bool)) ⊕ (Bool ⊕ Unit)))) LL (0, (List.replicate 9 false))

def impl_OrderOk_n5 (x5439 : Int) (x5438 : List Int) (x5449 : Int) : Option (Unit ⊕ Bool) :=
  (impl_OrderOk_n4 x5439 x5438 x5449).map (Sum.elim (fun (t : Bool) => (Sum.inr t)) (fun (t : Unit) => (Sum.inl ())))

def impl_OrderOk_n6 (x5438 : List Int) (x5439 : Int) : Option (Unit ⊕ Bool) :=
  (impl_OrderOk_n2 x5438).bind (fun (t : Int) => impl_OrderOk_n5 x5439 x5438 t)

def impl_OrderOk_n7 : Option (Bool) :=
  some true

def impl_OrderOk_n8 (x5438 : List Int) (x5439 : Int) : Option (Bool) :=
  (impl_OrderOk_n6 x5438 x5439).bind (Sum.elim (fun (t : Unit) => impl_OrderOk_n7) (fun e => some ((fun (t : Bool) => t) e)))

def impl_OrderOk_n9 (x5438 : List Int) (x5439 : Int) : Option (Bool) :=
  (impl_OrderOk_n1 x5438 x5439).bind (Sum.elim (fun (t : Unit) => impl_OrderOk_n8 x5438 x5439) (fun e => some ((fun (t : Bool) => t) e)))

@[irreducible] def impl_OrderOk (x5438 : List Int) (x5439 : Int) : Option (Bool) :=
  impl_OrderOk_n9 x5438 x5439

def impl_placesIn_n1 (x5506 : List Int) : Option (((List Int))) :=
  (mk (IntKind.wrap .i64 ((((List.length x5506 : Nat) : Int)) + 1)) (IntKind.wrap .i64 ((((List.length x5506 : Nat) : Int)) + 1))).bind fun (v5509 : Nat) => some (List.replicate v5509 (0 : Int))

def impl_placesIn_n2 (x5506 : List Int) : Option (Int) :=
  some (((List.length x5506 : Nat) : Int))

def impl_placesIn_n3 (x5506 : List Int) (x5511 : Int) (x5525 : Int) (x5526 : List Int) : Option ((Int × (List Int)) ⊕ ((List Int))) :=
  cond (decide (x5525 < x5511)) ((idx x5506 x5525).bind fun (v5535 : Int) => (inb v5535 (List.length x5526)).bind fun (v5537 : Nat) => some (Sum.inl ((IntKind.wrap .i64 (x5525 + 1)), (x5526.set v5537 (IntKind.wrap .i64 (x5525 + 1)))))) (some (Sum.inr x5526))

def impl_placesIn_n4 (x5506 : List Int) (x5511 : Int) (x5510 : List Int) : Option (((List Int))) :=
  nloop (fun (s : Int × (List Int)) => ((impl_placesIn_n3 x5506 x5511 s.1 s.2).map (Sum.elim (fun (t : Int × (List Int)) => Sum.inl (t.1, t.2)) (fun (t : (List Int)) => Sum.inr t)) : Option ((Int × (List Int)) ⊕ (((List Int)))))) LL (0, x5510)

def impl_placesIn_n5 (x5506 : List Int) (x5511 : Int) (x5510 : List Int) : Option (((List Int))) :=
  (impl_placesIn_n4 x5506 x5511 x5510).map (fun (t : (List Int)) => t)

def impl_placesIn_n6 (x5506 : List Int) (x5510 : List Int) : Option (((List Int))) :=
  (impl_placesIn_n2 x5506).bind (fun (t : Int) => impl_placesIn_n5 x5506 t x5510)

def impl_placesIn_n7 (x5526 : List Int) : Option (((List Int))) :=
  some x5526

def impl_placesIn_n8 (x5506 : List Int) (x5510 : List Int) : Option (((List Int))) :=
  (impl_placesIn_n6 x5506 x5510).bind (fun (t : (List Int)) => impl_placesIn_n7 t)

def impl_placesIn_n9 (x5506 : List Int) : Option (((List Int))) :=
  (impl_placesIn_n1 x5506).bind (fun (t : (List Int)) => impl_placesIn_n8 x5506 t)

@[irreducible] def impl_placesIn (x5506 : List Int) : Option ((List Int)) :=
  impl_placesIn_n9 x5506

def impl_PutInOrder_1_n1 (x5560 : Int) (x5561 : List Int) : Option (Int) :=
  (inb x5560 (List.length x5561)).bind fun (v5564 : Nat) => (x5561[v5564]?).bind fun (v5565 : Int) => some v5565

@[irreducible] def impl_PutInOrder_1 (x5560 : Int) (x5561 : List Int) : Option (Int) :=
  impl_PutInOrder_1_n1 x5560 x5561

def impl_renamed_int_n1 (x5548 : List Int) : Option (((List Int))) :=
  (mk (((List.length x5548 : Nat) : Int)) (((List.length x5548 : Nat) : Int))).bind fun (v5551 : Nat) => some (List.replicate v5551 (0 : Int))

def impl_renamed_int_n2 (x5548 : List Int) : Option (Int) :=
  some (((List.length x5548 : Nat) : Int))

def impl_renamed_int_n3 (x5547 : List Int) (x5548 : List Int) (x5553 : Int) (x5577 : Int) (x5549 : List Int) (x5578 : List Int) : Option ((Int × (List Int)) ⊕ ((List Int))) :=
  cond (decide (x5577 < x5553)) ((idx x5548 x5577).bind fun (v5589 : Int) => (idx x5547 (IntKind.wrap .i64 (v5589 - 1))).bind fun (v5591 : Int) => (impl_PutInOrder_1 v5591 x5549).bind fun (v5592 : Int) => (inb x5577 (List.length x5578)).bind fun (v5593 : Nat) => some (Sum.inl ((IntKind.wrap .i64 (x5577 + 1)), (x5578.set v5593 v5592)))) (some (Sum.inr x5578))

def impl_renamed_int_n4 (x5547 : List Int) (x5548 : List Int) (x5553 : Int) (x5549 : List Int) (x5552 : List Int) : Option (((List Int))) :=
  nloop (fun (s : Int × (List Int)) => ((impl_renamed_int_n3 x5547 x5548 x5553 s.1 x5549 s.2).map (Sum.elim (fun (t : Int × (List Int)) => Sum.inl (t.1, t.2)) (fun (t : (List Int)) => Sum.inr t)) : Option ((Int × (List Int)) ⊕ (((List Int)))))) LL (0, x5552)

def impl_renamed_int_n5 (x5547 : List Int) (x5548 : List Int) (x5553 : Int) (x5549 : List Int) (x5552 : List Int) : Option (((List Int))) :=
  (impl_renamed_int_n4 x5547 x5548 x5553 x5549 x5552).map (fun (t : (List Int)) => t)

def impl_renamed_int_n6 (x5547 : List Int) (x5548 : List Int) (x5549 : List Int) (x5552 : List Int) : Option (((List Int))) :=
  (impl_renamed_int_n2 x5548).bind (fun (t : Int) => impl_renamed_int_n5 x5547 x5548 t x5549 x5552)

def impl_renamed_int_n7 (x5578 : List Int) : Option (((List Int))) :=
  some x5578

def impl_renamed_int_n8 (x5547 : List Int) (x5548 : List Int) (x5549 : List Int) (x5552 : List Int) : Option (((List Int))) :=
  (impl_renamed_int_n6 x5547 x5548 x5549 x5552).bind (fun (t : (List Int)) => impl_renamed_int_n7 t)

def impl_renamed_int_n9 (x5547 : List Int) (x5548 : List Int) (x5549 : List Int) : Option (((List Int))) :=
  (impl_renamed_int_n1 x5548).bind (fun (t : (List Int)) => impl_renamed_int_n8 x5547 x5548 x5549 t)

@[irreducible] def impl_renamed_int (x5547 : List Int) (x5548 : List Int) (x5549 : List Int) : Option ((List Int)) :=
  impl_renamed_int_n9 x5547 x5548 x5549

def impl_PutInOrder_n1 (x5433 : List Int) (x5434 : List Int) : Option ((Bool × (List Int))) :=
  (impl_TreeOk x5433).bind fun (v5597 : Bool) => cond (!v5597) (some (false, ([] : List Int))) ((impl_OrderOk x5434 (((List.length x5433 : Nat) : Int))).bind fun (v5600 : Bool) => cond (!v5600) (some (false, ([] : List Int))) ((impl_placesIn x5434).bind fun (v5602 : List Int) => (impl_renamed_int x5433 x5434 v5602).bind fun (v5603 : List Int) => some (true, v5603)))

@[irreducible] def impl_PutInOrder (x5433 : List Int) (x5434 : List Int) : Option (Bool × (List Int)) :=
  impl_PutInOrder_n1 x5433 x5434

def laws_FnFlatOrder_n1 (x4768 : List Int) : Option ((Bool × (List Int) × (List Int) × (List Int)) ⊕ Bool) :=
  cond (decide ((((List.length x4768 : Nat) : Int)) > 1048576)) (some (Sum.inr true)) ((spec_DrawFlatOrder x4768).bind fun (v5611 : List Int) => (impl_FlatOrder v5611).bind fun (v5612 : List Int) => (spec_FlatOrder v5611).bind fun (v5613 : List Int) => (laws_sameInts v5612 v5613).bind fun (v5614 : Bool) => cond (!v5614) (some (Sum.inr false)) (cond ((((List.length v5612 : Nat) : Int)) == 0) ((impl_TreeOk v5611).bind fun (v5618 : Bool) => cond (!v5618) ((laws_alive).bind fun (v5620 : Bool) => some (Sum.inr v5620)) (some (Sum.inr false))) ((impl_PutInOrder v5611 v5612).bind fun (v5621 : Bool × (List Int)) => some (Sum.inl ((v5621.1), v5611, v5612, (v5621.2))))))

def laws_FnFlatOrder_n2 : Option (Unit) :=
  some ()

def laws_FnFlatOrder_n3 (x5639 : Bool) (x5640 : Int) (x5612 : List Int) : Option ((Bool × Int) ⊕ Bool) :=
  cond (decide (x5640 < (((List.length x5612 : Nat) : Int)))) (cond x5639 ((inb x5640 (List.length x5612)).bind fun (v5651 : Nat) => (x5612[v5651]?).bind fun (v5652 : Int) => some (Sum.inl ((v5652 == (IntKind.wrap .i64 (x5640 + 1))), (IntKind.wrap .i64 (x5640 + 1))))) (some (Sum.inl (false, (IntKind.wrap .i64 (x5640 + 1)))))) (some (Sum.inr x5639))

def laws_FnFlatOrder_n4 (x5612 : List Int) : Option (Bool) :=
  nloop (fun (s : Bool × Int) => ((laws_FnFlatOrder_n3 s.1 s.2 x5612).map (Sum.elim (fun (t : Bool × Int) => Sum.inl (t.1, t.2)) (fun (t : Bool) => Sum.inr t)) : Option ((Bool × Int) ⊕ (Bool)))) LL (true, 0)

def laws_FnFlatOrder_n5 (x5612 : List Int) : Option (Bool) :=
  (laws_FnFlatOrder_n4 x5612).map (fun (t : Bool) => t)

def laws_FnFlatOrder_n6 (x5612 : List Int) : Option (Bool) :=
  (laws_FnFlatOrder_n2).bind (fun (t : Unit) => laws_FnFlatOrder_n5 x5612)

def laws_FnFlatOrder_n7 (x5622 : Bool) (x5639 : Bool) (x5611 : List Int) (x5612 : List Int) (x5623 : List Int) : Option (Bool) :=
  (impl_OrderOk x5612 (((List.length x5611 : Nat) : Int))).bind fun (v5665 : Bool) => cond v5665 (cond x5622 ((impl_FlatOk x5623).bind fun (v5666 : Bool) => cond v5666 ((impl_FlatOk x5611).bind fun (v5667 : Bool) => some (x5639 == v5667)) (some false)) (some false)) (some false)

def laws_FnFlatOrder_n8 (x5622 : Bool) (x5611 : List Int) (x5612 : List Int) (x5623 : List Int) : Option (Bool) :=
  (laws_FnFlatOrder_n6 x5612).bind (fun (t : Bool) => laws_FnFlatOrder_n7 x5622 t x5611 x5612 x5623)

def laws_FnFlatOrder_n9 (x4768 : List Int) : Option (Bool) :=
  (laws_FnFlatOrder_n1 x4768).bind (Sum.elim (fun (t : Bool × (List Int) × (List Int) × (List Int)) => laws_FnFlatOrder_n8 t.1 t.2.1 t.2.2.1 t.2.2.2) (fun e => some ((fun (t : Bool) => t) e)))

@[irreducible] def laws_FnFlatOrder (x4768 : List Int) : Option (Bool) :=
  laws_FnFlatOrder_n9 x4768

end Go.Rv
