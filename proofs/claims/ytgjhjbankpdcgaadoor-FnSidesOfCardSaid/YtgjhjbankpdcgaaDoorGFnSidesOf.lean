/-
  Plain functions, written by program for functions of the checked code. Conditions: none.
-/
import Derived.Test.YtgjhjbankpdcgaaDoorFB
set_option linter.unusedVariables false
namespace Go.Rv
def spec_l20Open_n1 (x13 : List Int) : Option (((List Int))) :=
  cond (decide ((((List.length x13 : Nat) : Int)) > 2000)) ((inc 2000 (List.length x13)).bind fun (v29 : Nat) => some ((x13.take v29).drop 0)) (some x13)

@[irreducible] def spec_l20Open (x13 : List Int) : Option ((List Int)) :=
  spec_l20Open_n1 x13

def spec_l20Rd_pick_n1 (x40 : Int) (x41 : List Int) (x42 : Int) : Option ((Int × Int)) :=
  cond (decide (x40 < 1)) (some (0, (IntKind.wrap .i64 (x42 + 1)))) (cond ((((List.length x41 : Nat) : Int)) == 0) (some (0, (IntKind.wrap .i64 (x42 + 1)))) (cond (decide ((IntKind.wrap .i64 ((IntKind.wrap .i64 (x42 + 1)) - 1)) < (((List.length x41 : Nat) : Int)))) ((idx x41 (IntKind.wrap .i64 ((IntKind.wrap .i64 (x42 + 1)) - 1))).bind fun (v169 : Int) => (rem (IntKind.wrap .i64 v169) x40).bind fun (v171 : Int) => some (v171, (IntKind.wrap .i64 (x42 + 1)))) ((rem (IntKind.wrap .i64 ((IntKind.wrap .i64 (x42 + 1)) - 1)) (((List.length x41 : Nat) : Int))).bind fun (v173 : Int) => (idx x41 v173).bind fun (v174 : Int) => (rem (IntKind.wrap .i64 ((IntKind.wrap .i64 ((IntKind.wrap .i64 ((IntKind.wrap .i64 (x42 + 1)) - 1)) * 7)) + 3)) (((List.length x41 : Nat) : Int))).bind fun (v180 : Int) => (idx x41 v180).bind fun (v181 : Int) => (quo .i64 (IntKind.wrap .i64 ((IntKind.wrap .i64 (x42 + 1)) - 1)) (((List.length x41 : Nat) : Int))).bind fun (v188 : Int) => (quo .i64 (IntKind.wrap .i64 ((IntKind.wrap .i64 ((IntKind.wrap .i64 ((IntKind.wrap .i64 ((IntKind.wrap .i64 v174) * 131)) + (IntKind.wrap .i64 ((IntKind.wrap .i64 v181) * 1117)))) + (IntKind.wrap .i64 ((IntKind.wrap .i64 ((IntKind.wrap .i64 (x42 + 1)) - 1)) * 29)))) + (IntKind.wrap .i64 (v188 * 53)))) 64).bind fun (v191 : Int) => (rem (ixor .i64 (IntKind.wrap .i64 ((IntKind.wrap .i64 ((IntKind.wrap .i64 ((IntKind.wrap .i64 ((IntKind.wrap .i64 v174) * 131)) + (IntKind.wrap .i64 ((IntKind.wrap .i64 v181) * 1117)))) + (IntKind.wrap .i64 ((IntKind.wrap .i64 ((IntKind.wrap .i64 (x42 + 1)) - 1)) * 29)))) + (IntKind.wrap .i64 (v188 * 53)))) v191) x40).bind fun (v193 : Int) => some (v193, (IntKind.wrap .i64 (x42 + 1))))))

@[irreducible] def spec_l20Rd_pick (x40 : Int) (x41 : List Int) (x42 : Int) : Option (Int × Int) :=
  spec_l20Rd_pick_n1 x40 x41 x42

def spec_l20Order_n1 (x204 : List Int) (x205 : Int) : Option ((Int × Int)) :=
  (spec_l20Rd_pick 2 x204 x205).bind fun (v207 : Int × Int) => some ((v207.1), (v207.2))

def spec_l20Order_n2 : Option (Unit) :=
  some ()

def spec_l20Order_n3 (x203 : Int) (x208 : Int) (x351 : Int) (x204 : List Int) (x352 : Int) (x353 : List Int) : Option ((Int × Int × (List Int)) ⊕ (Int × (List Int))) :=
  cond (decide (x351 ≤ x203)) (cond (x208 == 0) ((spec_l20Rd_pick x351 x204 x352).bind fun (v425 : Int × Int) => (inc (v425.1) (List.length x353)).bind fun (v429 : Nat) => (room ((List.length ([] : List Int)) + List.length ((x353.drop 0).take (v429 - 0)))).bind fun (v433 : Unit) => (room ((List.length (([] : List Int) ++ ((x353.drop 0).take (v429 - 0)))) + List.length ([x351]))).bind fun (v437 : Unit) => (inc (v425.1) (List.length x353)).bind fun (v440 : Nat) => (room ((List.length ((([] : List Int) ++ ((x353.drop 0).take (v429 - 0))) ++ ([x351]))) + List.length ((x353.drop v440).take ((List.length x353) - v440)))).bind fun (v444 : Unit) => some (Sum.inl ((IntKind.wrap .i64 (x351 + 1)), (v425.2), (((([] : List Int) ++ ((x353.drop 0).take (v429 - 0))) ++ ([x351])) ++ ((x353.drop v440).take ((List.length x353) - v440)))))) ((spec_l20Rd_pick 3 x204 x352).bind fun (v447 : Int × Int) => cond ((v447.1) == 0) ((spec_l20Rd_pick x351 x204 (v447.2)).bind fun (v451 : Int × Int) => (inc (v451.1) (List.length x353)).bind fun (v455 : Nat) => (room ((List.length ([] : List Int)) + List.length ((x353.drop 0).take (v455 - 0)))).bind fun (v459 : Unit) => (room ((List.length (([] : List Int) ++ ((x353.drop 0).take (v455 - 0)))) + List.length ([x351]))).bind fun (v463 : Unit) => (inc (v451.1) (List.length x353)).bind fun (v466 : Nat) => (room ((List.length ((([] : List Int) ++ ((x353.drop 0).take (v455 - 0))) ++ ([x351]))) + List.length ((x353.drop v466).take ((List.length x353) - v466)))).bind fun (v470 : Unit) => some (Sum.inl ((IntKind.wrap .i64 (x351 + 1)), (v451.2), (((([] : List Int) ++ ((x353.drop 0).take (v455 - 0))) ++ ([x351])) ++ ((x353.drop v466).take ((List.length x353) - v466)))))) ((inc (((List.length x353 : Nat) : Int)) (List.length x353)).bind fun (v474 : Nat) => (room ((List.length ([] : List Int)) + List.length ((x353.drop 0).take (v474 - 0)))).bind fun (v478 : Unit) => (room ((List.length (([] : List Int) ++ ((x353.drop 0).take (v474 - 0)))) + List.length ([x351]))).bind fun (v482 : Unit) => (inc (((List.length x353 : Nat) : Int)) (List.length x353)).bind fun (v485 : Nat) => (room ((List.length ((([] : List Int) ++ ((x353.drop 0).take (v474 - 0))) ++ ([x351]))) + List.length ((x353.drop v485).take ((List.length x353) - v485)))).bind fun (v489 : Unit) => some (Sum.inl ((IntKind.wrap .i64 (x351 + 1)), (v447.2), (((([] : List Int) ++ ((x353.drop 0).take (v474 - 0))) ++ ([x351])) ++ ((x353.drop v485).take ((List.length x353) - v485)))))))) (some (Sum.inr (x352, x353)))

def spec_l20Order_n4 (x203 : Int) (x208 : Int) (x204 : List Int) (x209 : Int) : Option ((Int × (List Int))) :=
  nloop (fun (s : Int × Int × (List Int)) => ((spec_l20Order_n3 x203 x208 s.1 x204 s.2.1 s.2.2).map (Sum.elim (fun (t : Int × Int × (List Int)) => Sum.inl (t.1, t.2.1, t.2.2)) (fun (t : Int × (List Int)) => Sum.inr t)) : Option ((Int × Int × (List Int)) ⊕ ((Int × (List Int)))))) LL (1, x209, ([] : List Int))

def spec_l20Order_n5 (x203 : Int) (x208 : Int) (x204 : List Int) (x209 : Int) : Option ((Int × (List Int))) :=
  (spec_l20Order_n4 x203 x208 x204 x209).map (fun (t : Int × (List Int)) => (t.1, t.2))

def spec_l20Order_n6 (x203 : Int) (x208 : Int) (x204 : List Int) (x209 : Int) : Option ((Int × (List Int))) :=
  (spec_l20Order_n2).bind (fun (t : Unit) => spec_l20Order_n5 x203 x208 x204 x209)

def spec_l20Order_n7 (x352 : Int) (x353 : List Int) : Option ((Int × (List Int))) :=
  some (x352, x353)

def spec_l20Order_n8 (x203 : Int) (x208 : Int) (x204 : List Int) (x209 : Int) : Option ((Int × (List Int))) :=
  (spec_l20Order_n6 x203 x208 x204 x209).bind (fun (t : Int × (List Int)) => spec_l20Order_n7 t.1 t.2)

def spec_l20Order_n9 (x203 : Int) (x204 : List Int) (x205 : Int) : Option ((Int × (List Int))) :=
  (spec_l20Order_n1 x204 x205).bind (fun (t : Int × Int) => spec_l20Order_n8 x203 t.1 x204 t.2)

@[irreducible] def spec_l20Order (x203 : Int) (x204 : List Int) (x205 : Int) : Option (Int × (List Int)) :=
  spec_l20Order_n9 x203 x204 x205

def spec_l20Rd_odd_n1 (x660 : Int) (x661 : List Int) (x662 : Int) : Option ((Bool × Int)) :=
  cond (decide (x660 > 0)) ((spec_l20Rd_pick x660 x661 x662).bind fun (v670 : Int × Int) => some (((v670.1) == (IntKind.wrap .i64 (x660 - 1))), (v670.2))) (some (false, x662))

@[irreducible] def spec_l20Rd_odd (x660 : Int) (x661 : List Int) (x662 : Int) : Option (Bool × Int) :=
  spec_l20Rd_odd_n1 x660 x661 x662

def spec_l20Tree_n1 (x37 : List Int) (x38 : Int) : Option ((Int × Int × Int × (List Int) × (List Int))) :=
  (spec_l20Rd_pick 7 x37 x38).bind fun (v507 : Int × Int) => (spec_l20Order (IntKind.wrap .i64 (1 + (v507.1))) x37 (v507.2)).bind fun (v511 : Int × (List Int)) => (mk (IntKind.wrap .i64 (1 + (v507.1))) (IntKind.wrap .i64 (1 + (v507.1)))).bind fun (v514 : Nat) => (spec_l20Rd_pick 2 x37 (v511.1)).bind fun (v516 : Int × Int) => some ((IntKind.wrap .i64 (1 + (v507.1))), (v516.1), (v516.2), (v511.2), (List.replicate v514 (0 : Int)))

def spec_l20Tree_n2 : Option (Unit) :=
  some ()

def spec_l20Tree_n3 (x510 : Int) (x517 : Int) (x588 : Int) (x37 : List Int) (x589 : Int) (x513 : List Int) (x590 : List Int) : Option ((Int × Int × (List Int)) ⊕ (Int × (List Int))) :=
  cond (decide (x588 < x510)) ((spec_l20Rd_pick x588 x37 x589).bind fun (v624 : Int × Int) => cond (x517 == 1) ((spec_l20Rd_pick 2 x37 (v624.2)).bind fun (v628 : Int × Int) => cond ((v628.1) == 0) ((inb x588 (List.length x513)).bind fun (v633 : Nat) => (x513[v633]?).bind fun (v634 : Int) => (inb (IntKind.wrap .i64 (x588 - 1)) (List.length x513)).bind fun (v636 : Nat) => (x513[v636]?).bind fun (v637 : Int) => (inb (IntKind.wrap .i64 (v634 - 1)) (List.length x590)).bind fun (v638 : Nat) => some (Sum.inl ((IntKind.wrap .i64 (x588 + 1)), (v628.2), (x590.set v638 v637)))) ((inb x588 (List.length x513)).bind fun (v641 : Nat) => (x513[v641]?).bind fun (v642 : Int) => (inb (v624.1) (List.length x513)).bind fun (v644 : Nat) => (x513[v644]?).bind fun (v645 : Int) => (inb (IntKind.wrap .i64 (v642 - 1)) (List.length x590)).bind fun (v646 : Nat) => some (Sum.inl ((IntKind.wrap .i64 (x588 + 1)), (v628.2), (x590.set v646 v645))))) ((inb x588 (List.length x513)).bind fun (v649 : Nat) => (x513[v649]?).bind fun (v650 : Int) => (inb (v624.1) (List.length x513)).bind fun (v652 : Nat) => (x513[v652]?).bind fun (v653 : Int) => (inb (IntKind.wrap .i64 (v650 - 1)) (List.length x590)).bind fun (v654 : Nat) => some (Sum.inl ((IntKind.wrap .i64 (x588 + 1)), (v624.2), (x590.set v654 v653))))) (some (Sum.inr (x589, x590)))

def spec_l20Tree_n4 (x510 : Int) (x517 : Int) (x37 : List Int) (x518 : Int) (x513 : List Int) (x515 : List Int) : Option ((Int × (List Int))) :=
  nloop (fun (s : Int × Int × (List Int)) => ((spec_l20Tree_n3 x510 x517 s.1 x37 s.2.1 x513 s.2.2).map (Sum.elim (fun (t : Int × Int × (List Int)) => Sum.inl (t.1, t.2.1, t.2.2)) (fun (t : Int × (List Int)) => Sum.inr t)) : Option ((Int × Int × (List Int)) ⊕ ((Int × (List Int)))))) LL (1, x518, x515)

def spec_l20Tree_n5 (x510 : Int) (x517 : Int) (x37 : List Int) (x518 : Int) (x513 : List Int) (x515 : List Int) : Option ((Int × (List Int))) :=
  (spec_l20Tree_n4 x510 x517 x37 x518 x513 x515).map (fun (t : Int × (List Int)) => (t.1, t.2))

def spec_l20Tree_n6 (x510 : Int) (x517 : Int) (x37 : List Int) (x518 : Int) (x513 : List Int) (x515 : List Int) : Option ((Int × (List Int))) :=
  (spec_l20Tree_n2).bind (fun (t : Unit) => spec_l20Tree_n5 x510 x517 x37 x518 x513 x515)

def spec_l20Tree_n7 (x36 : Int) (x510 : Int) (x37 : List Int) (x589 : Int) (x590 : List Int) : Option ((Int × (List Int))) :=
  (spec_l20Rd_odd x36 x37 x589).bind fun (v735 : Bool × Int) => cond (v735.1) ((spec_l20Rd_pick 4 x37 (v735.2)).bind fun (v738 : Int × Int) => cond ((v738.1) == 0) (some ((v738.2), ([] : List Int))) (cond ((v738.1) == 1) (some ((v738.2), ([2, 1, 0]))) (cond ((v738.1) == 2) ((spec_l20Rd_pick x510 x37 (v738.2)).bind fun (v745 : Int × Int) => (inb (v745.1) (List.length x590)).bind fun (v748 : Nat) => (room ((List.length (x590.set v748 0)) + List.length ([0]))).bind fun (v752 : Unit) => some ((v745.2), ((x590.set v748 0) ++ ([0])))) ((spec_l20Rd_pick 3 x37 (v738.2)).bind fun (v756 : Int × Int) => (inb (v756.1) (List.length ([1, (IntKind.wrap .i64 (x510 + 1)), (-1)]))).bind fun (v759 : Nat) => (([1, (IntKind.wrap .i64 (x510 + 1)), (-1)])[v759]?).bind fun (v760 : Int) => (inb 0 (List.length x590)).bind fun (v761 : Nat) => some ((v756.2), (x590.set v761 v760)))))) (some ((v735.2), x590))

def spec_l20Tree_n8 (x36 : Int) (x510 : Int) (x517 : Int) (x37 : List Int) (x518 : Int) (x513 : List Int) (x515 : List Int) : Option ((Int × (List Int))) :=
  (spec_l20Tree_n6 x510 x517 x37 x518 x513 x515).bind (fun (t : Int × (List Int)) => spec_l20Tree_n7 x36 x510 x37 t.1 t.2)

def spec_l20Tree_n9 (x36 : Int) (x37 : List Int) (x38 : Int) : Option ((Int × (List Int))) :=
  (spec_l20Tree_n1 x37 x38).bind (fun (t : Int × Int × Int × (List Int) × (List Int)) => spec_l20Tree_n8 x36 t.1 t.2.1 x37 t.2.2.1 t.2.2.2.1 t.2.2.2.2)

@[irreducible] def spec_l20Tree (x36 : Int) (x37 : List Int) (x38 : Int) : Option (Int × (List Int)) :=
  spec_l20Tree_n9 x36 x37 x38

def spec_l20Word_n1 (x33 : List Int) (x34 : Int) : Option ((Int × Int × (List Int))) :=
  (spec_l20Tree 12 x33 x34).bind fun (v792 : Int × (List Int)) => (spec_l20Rd_pick (imax (((List.length (v792.2) : Nat) : Int)) 1) x33 (v792.1)).bind fun (v797 : Int × Int) => (spec_l20Rd_pick 20 x33 (v797.2)).bind fun (v801 : Int × Int) => (quo .i64 (v801.1) 19).bind fun (v804 : Int) => (spec_l20Rd_pick 20 x33 (v801.2)).bind fun (v807 : Int × Int) => (quo .i64 (v807.1) 19).bind fun (v810 : Int) => some ((IntKind.wrap .i64 ((IntKind.wrap .i64 ((IntKind.wrap .i64 (1 + (v797.1))) - (IntKind.wrap .i64 (v804 * 2)))) + (IntKind.wrap .i64 (v810 * 9)))), (v807.2), (v792.2))

@[irreducible] def spec_l20Word (x33 : List Int) (x34 : Int) : Option (Int × Int × (List Int)) :=
  spec_l20Word_n1 x33 x34

def spec_DrawSidesOf_n1 (x10 : List Int) : Option ((Int × (List Int))) :=
  (spec_l20Open x10).bind fun (v817 : List Int) => (spec_l20Word v817 0).bind fun (v818 : Int × Int × (List Int)) => some ((v818.1), (v818.2.2))

@[irreducible] def spec_DrawSidesOf (x10 : List Int) : Option (Int × (List Int)) :=
  spec_DrawSidesOf_n1 x10

def impl_oneRoot_n1 : Option (Unit) :=
  some ()

def impl_oneRoot_n2 (x840 : List Int) : Option (Int) :=
  some (((List.length x840 : Nat) : Int))

def impl_oneRoot_n3 (x840 : List Int) (x862 : Int) (x841 : Int) (x863 : Int) : Option ((Int × Int) ⊕ Bool ⊕ Int) :=
  cond (decide (x863 < x841)) ((idx x840 x863).bind fun (v874 : Int) => cond (decide (v874 < 0)) (some (Sum.inr (Sum.inl false))) (cond (decide (v874 > (((List.length x840 : Nat) : Int)))) (some (Sum.inr (Sum.inl false))) (cond (v874 == 0) (some (Sum.inl ((IntKind.wrap .i64 (x862 + 1)), (IntKind.wrap .i64 (x863 + 1))))) (some (Sum.inl (x862, (IntKind.wrap .i64 (x863 + 1)))))))) (some (Sum.inr (Sum.inr x862)))

def impl_oneRoot_n4 (x840 : List Int) (x841 : Int) : Option (Bool ⊕ Int) :=
  nloop (fun (s : Int × Int) => ((impl_oneRoot_n3 x840 s.1 x841 s.2).map (Sum.elim (fun (t : Int × Int) => Sum.inl (t.1, t.2)) (Sum.elim (fun (t : Bool) => Sum.inr (Sum.inl t)) (fun (t : Int) => Sum.inr (Sum.inr t)))) : Option ((Int × Int) ⊕ (Bool ⊕ Int)))) LL (0, 0)

def impl_oneRoot_n5 (x840 : List Int) (x841 : Int) : Option (Int ⊕ Bool) :=
  (impl_oneRoot_n4 x840 x841).map (Sum.elim (fun (t : Bool) => (Sum.inr t)) (fun (t : Int) => (Sum.inl t)))

def impl_oneRoot_n6 (x840 : List Int) : Option (Int ⊕ Bool) :=
  (impl_oneRoot_n2 x840).bind (fun (t : Int) => impl_oneRoot_n5 x840 t)

def impl_oneRoot_n7 (x862 : Int) : Option (Bool) :=
  some (x862 == 1)

def impl_oneRoot_n8 (x840 : List Int) : Option (Bool) :=
  (impl_oneRoot_n6 x840).bind (Sum.elim (fun (t : Int) => impl_oneRoot_n7 t) (fun e => some ((fun (t : Bool) => t) e)))

def impl_oneRoot_n9 (x840 : List Int) : Option (Bool) :=
  (impl_oneRoot_n1).bind (fun (t : Unit) => impl_oneRoot_n8 x840)

@[irreducible] def impl_oneRoot (x840 : List Int) : Option (Bool) :=
  impl_oneRoot_n9 x840

def impl_walker_up_n1 (x896 : List Int) (x897 : Int) (x898 : Int) : Option ((Bool × Int × Int)) :=
  (idx x896 (IntKind.wrap .i64 (x897 - 1))).bind fun (v916 : Int) => cond (v916 == 0) (some (false, x897, x898)) (some (true, v916, (IntKind.wrap .i64 (x898 + 1))))

@[irreducible] def impl_walker_up (x896 : List Int) (x897 : Int) (x898 : Int) : Option (Bool × Int × Int) :=
  impl_walker_up_n1 x896 x897 x898

def impl_stepsToRoot_n1 : Option (Unit) :=
  some ()

def impl_stepsToRoot_n2 (x894 : List Int) (x932 : Int) (x933 : Int) : Option ((Int × Int) ⊕ (Int × Bool) ⊕ (Int × Int)) :=
  (impl_walker_up x894 x932 x933).bind fun (v938 : Bool × Int × Int) => cond (v938.1) (cond (decide ((v938.2.2) ≥ (((List.length x894 : Nat) : Int)))) (some (Sum.inr (Sum.inl (0, false)))) (some (Sum.inl ((v938.2.1), (v938.2.2))))) (some (Sum.inr (Sum.inr ((v938.2.1), (v938.2.2)))))

def impl_stepsToRoot_n3 (x894 : List Int) (x895 : Int) : Option ((Int × Bool) ⊕ (Int × Int)) :=
  nloop (fun (s : Int × Int) => ((impl_stepsToRoot_n2 x894 s.1 s.2).map (Sum.elim (fun (t : Int × Int) => Sum.inl (t.1, t.2)) (Sum.elim (fun (t : Int × Bool) => Sum.inr (Sum.inl t)) (fun (t : Int × Int) => Sum.inr (Sum.inr t)))) : Option ((Int × Int) ⊕ ((Int × Bool) ⊕ (Int × Int))))) LL (x895, 0)

def impl_stepsToRoot_n4 (x894 : List Int) (x895 : Int) : Option ((Int × Int) ⊕ (Int × Bool)) :=
  (impl_stepsToRoot_n3 x894 x895).map (Sum.elim (fun (t : Int × Bool) => (Sum.inr t)) (fun (t : Int × Int) => (Sum.inl (t.1, t.2))))

def impl_stepsToRoot_n5 (x941 : Int) : Option ((Int × Bool)) :=
  some (x941, true)

def impl_stepsToRoot_n6 (x894 : List Int) (x895 : Int) : Option ((Int × Bool)) :=
  (impl_stepsToRoot_n4 x894 x895).bind (Sum.elim (fun (t : Int × Int) => impl_stepsToRoot_n5 t.2) (fun e => some ((fun (t : Int × Bool) => t) e)))

def impl_stepsToRoot_n7 (x894 : List Int) (x895 : Int) : Option ((Int × Bool)) :=
  (impl_stepsToRoot_n1).bind (fun (t : Unit) => impl_stepsToRoot_n6 x894 x895)

@[irreducible] def impl_stepsToRoot (x894 : List Int) (x895 : Int) : Option (Int × Bool) :=
  impl_stepsToRoot_n7 x894 x895

def impl_TreeOk_n1 (x834 : List Int) : Option (Unit ⊕ Bool) :=
  cond (decide ((((List.length x834 : Nat) : Int)) < 1)) (some (Sum.inr false)) (cond (decide ((((List.length x834 : Nat) : Int)) > 8)) (some (Sum.inr false)) ((impl_oneRoot x834).bind fun (v887 : Bool) => cond (!v887) (some (Sum.inr false)) (some (Sum.inl ()))))

def impl_TreeOk_n2 (x834 : List Int) : Option (Int) :=
  some (((List.length x834 : Nat) : Int))

def impl_TreeOk_n3 (x834 : List Int) (x889 : Int) (x957 : Int) : Option (Int ⊕ Bool ⊕ Unit) :=
  cond (decide (x957 < x889)) ((impl_stepsToRoot x834 (IntKind.wrap .i64 (x957 + 1))).bind fun (v968 : Int × Bool) => cond (!(v968.2)) (some (Sum.inr (Sum.inl false))) (some (Sum.inl (IntKind.wrap .i64 (x957 + 1))))) (some (Sum.inr (Sum.inr ())))

def impl_TreeOk_n4 (x834 : List Int) (x889 : Int) : Option (Bool ⊕ Unit) :=
  nloop (fun (s : Int) => ((impl_TreeOk_n3 x834 x889 s).map (Sum.elim (fun (t : Int) => Sum.inl t) (Sum.elim (fun (t : Bool) => Sum.inr (Sum.inl t)) (fun (t : Unit) => Sum.inr (Sum.inr t)))) : Option ((Int) ⊕ (Bool ⊕ Unit)))) LL 0

def impl_TreeOk_n5 (x834 : List Int) (x889 : Int) : Option (Unit ⊕ Bool) :=
  (impl_TreeOk_n4 x834 x889).map (Sum.elim (fun (t : Bool) => (Sum.inr t)) (fun (t : Unit) => (Sum.inl ())))

def impl_TreeOk_n6 (x834 : List Int) : Option (Unit ⊕ Bool) :=
  (impl_TreeOk_n2 x834).bind (fun (t : Int) => impl_TreeOk_n5 x834 t)

def impl_TreeOk_n7 : Option (Bool) :=
  some true

def impl_TreeOk_n8 (x834 : List Int) : Option (Bool) :=
  (impl_TreeOk_n6 x834).bind (Sum.elim (fun (t : Unit) => impl_TreeOk_n7) (fun e => some ((fun (t : Bool) => t) e)))

def impl_TreeOk_n9 (x834 : List Int) : Option (Bool) :=
  (impl_TreeOk_n1 x834).bind (Sum.elim (fun (t : Unit) => impl_TreeOk_n8 x834) (fun e => some ((fun (t : Bool) => t) e)))

@[irreducible] def impl_TreeOk (x834 : List Int) : Option (Bool) :=
  impl_TreeOk_n9 x834

def impl_wordOk_n1 (x832 : List Int) (x833 : Int) : Option (Bool) :=
  (impl_TreeOk x832).bind fun (v978 : Bool) => cond v978 (cond (decide (x833 ≥ 1)) (some (decide (x833 ≤ (((List.length x832 : Nat) : Int))))) (some false)) (some false)

@[irreducible] def impl_wordOk (x832 : List Int) (x833 : Int) : Option (Bool) :=
  impl_wordOk_n1 x832 x833

def impl_only_n1 (x998 : Int) : Option (Int) :=
  (shl .u64 1 (IntKind.wrap .i64 (x998 - 1))).bind fun (v1002 : Int) => some v1002

@[irreducible] def impl_only (x998 : Int) : Option (Int) :=
  impl_only_n1 x998

def impl_dependents_n1 : Option (Unit) :=
  some ()

def impl_dependents_n2 (x989 : List Int) : Option (Int) :=
  some (((List.length x989 : Nat) : Int))

def impl_dependents_n3 (x989 : List Int) (x990 : Int) (x1015 : Int) (x991 : Int) (x1016 : Int) : Option ((Int × Int) ⊕ Int) :=
  cond (decide (x1016 < x991)) ((idx x989 x1016).bind fun (v1026 : Int) => cond (v1026 == x990) ((impl_only (IntKind.wrap .i64 (x1016 + 1))).bind fun (v1029 : Int) => some (Sum.inl ((ior .u64 x1015 v1029), (IntKind.wrap .i64 (x1016 + 1))))) (some (Sum.inl (x1015, (IntKind.wrap .i64 (x1016 + 1)))))) (some (Sum.inr x1015))

def impl_dependents_n4 (x989 : List Int) (x990 : Int) (x991 : Int) : Option (Int) :=
  nloop (fun (s : Int × Int) => ((impl_dependents_n3 x989 x990 s.1 x991 s.2).map (Sum.elim (fun (t : Int × Int) => Sum.inl (t.1, t.2)) (fun (t : Int) => Sum.inr t)) : Option ((Int × Int) ⊕ (Int)))) LL (0, 0)

def impl_dependents_n5 (x989 : List Int) (x990 : Int) (x991 : Int) : Option (Int) :=
  (impl_dependents_n4 x989 x990 x991).map (fun (t : Int) => t)

def impl_dependents_n6 (x989 : List Int) (x990 : Int) : Option (Int) :=
  (impl_dependents_n2 x989).bind (fun (t : Int) => impl_dependents_n5 x989 x990 t)

def impl_dependents_n7 (x1015 : Int) : Option (Int) :=
  some x1015

def impl_dependents_n8 (x989 : List Int) (x990 : Int) : Option (Int) :=
  (impl_dependents_n6 x989 x990).bind (fun (t : Int) => impl_dependents_n7 t)

def impl_dependents_n9 (x989 : List Int) (x990 : Int) : Option (Int) :=
  (impl_dependents_n1).bind (fun (t : Unit) => impl_dependents_n8 x989 x990)

@[irreducible] def impl_dependents (x989 : List Int) (x990 : Int) : Option (Int) :=
  impl_dependents_n9 x989 x990

def impl_before_n1 (x1037 : Int) : Option (Int) :=
  (impl_only x1037).bind fun (v1040 : Int) => some (IntKind.wrap .u64 (v1040 - 1))

@[irreducible] def impl_before (x1037 : Int) : Option (Int) :=
  impl_before_n1 x1037

def impl_dependentsBeside_n1 (x987 : List Int) (x988 : Int) : Option ((Int × Int)) :=
  (impl_dependents x987 x988).bind fun (v1046 : Int) => (impl_before x988).bind fun (v1047 : Int) => (impl_before x988).bind fun (v1049 : Int) => some ((iand .u64 v1046 v1047), (iandn .u64 v1046 v1049))

@[irreducible] def impl_dependentsBeside (x987 : List Int) (x988 : Int) : Option (Int × Int) :=
  impl_dependentsBeside_n1 x987 x988

def math_bits_OnesCount64_n1 (x1061 : Int) : Option (Int) :=
  (shr .u64 x1061 1).bind fun (v1062 : Int) => some (IntKind.wrap .u64 ((iand .u64 v1062 6148914691236517205) + (iand .u64 x1061 6148914691236517205)))

def math_bits_OnesCount64_n2 (x1066 : Int) : Option (Int) :=
  (shr .u64 x1066 2).bind fun (v1080 : Int) => some (IntKind.wrap .u64 ((iand .u64 v1080 3689348814741910323) + (iand .u64 x1066 3689348814741910323)))

def math_bits_OnesCount64_n3 (x1083 : Int) : Option (Int) :=
  (shr .u64 x1083 4).bind fun (v1088 : Int) => some (iand .u64 (IntKind.wrap .u64 (v1088 + x1083)) 1085102592571150095)

def math_bits_OnesCount64_n4 (x1090 : Int) : Option (Int) :=
  (shr .u64 x1090 8).bind fun (v1093 : Int) => some (IntKind.wrap .u64 (x1090 + v1093))

def math_bits_OnesCount64_n5 (x1094 : Int) : Option (Int) :=
  (shr .u64 x1094 16).bind fun (v1098 : Int) => some (IntKind.wrap .u64 (x1094 + v1098))

def math_bits_OnesCount64_n6 (x1099 : Int) : Option (Int) :=
  (shr .u64 x1099 32).bind fun (v1103 : Int) => some (IntKind.wrap .u64 (x1099 + v1103))

def math_bits_OnesCount64_n7 (x1104 : Int) : Option (Int) :=
  some (iand .i64 (IntKind.wrap .i64 x1104) 127)

def math_bits_OnesCount64_n8 (x1109 : Int) : Option (Int) :=
  some x1109

def math_bits_OnesCount64_n9 (x1104 : Int) : Option (Int) :=
  (math_bits_OnesCount64_n7 x1104).bind (fun (t : Int) => math_bits_OnesCount64_n8 t)

def math_bits_OnesCount64_n10 (x1099 : Int) : Option (Int) :=
  (math_bits_OnesCount64_n6 x1099).bind (fun (t : Int) => math_bits_OnesCount64_n9 t)

def math_bits_OnesCount64_n11 (x1094 : Int) : Option (Int) :=
  (math_bits_OnesCount64_n5 x1094).bind (fun (t : Int) => math_bits_OnesCount64_n10 t)

def math_bits_OnesCount64_n12 (x1090 : Int) : Option (Int) :=
  (math_bits_OnesCount64_n4 x1090).bind (fun (t : Int) => math_bits_OnesCount64_n11 t)

def math_bits_OnesCount64_n13 (x1083 : Int) : Option (Int) :=
  (math_bits_OnesCount64_n3 x1083).bind (fun (t : Int) => math_bits_OnesCount64_n12 t)

def math_bits_OnesCount64_n14 (x1066 : Int) : Option (Int) :=
  (math_bits_OnesCount64_n2 x1066).bind (fun (t : Int) => math_bits_OnesCount64_n13 t)

def math_bits_OnesCount64_n15 (x1061 : Int) : Option (Int) :=
  (math_bits_OnesCount64_n1 x1061).bind (fun (t : Int) => math_bits_OnesCount64_n14 t)

@[irreducible] def math_bits_OnesCount64 (x1061 : Int) : Option (Int) :=
  math_bits_OnesCount64_n15 x1061

def math_bits_OnesCount_n1 (x1060 : Int) : Option (Int) :=
  (math_bits_OnesCount64 x1060).bind fun (v1111 : Int) => some v1111

@[irreducible] def math_bits_OnesCount (x1060 : Int) : Option (Int) :=
  math_bits_OnesCount_n1 x1060

def impl_wordSet_count_n1 (x1059 : Int) : Option (Int) :=
  (math_bits_OnesCount x1059).bind fun (v1113 : Int) => some v1113

@[irreducible] def impl_wordSet_count (x1059 : Int) : Option (Int) :=
  impl_wordSet_count_n1 x1059

def impl_SidesOf_n1 (x830 : List Int) (x831 : Int) : Option ((Int × Int × Bool)) :=
  (impl_wordOk x830 x831).bind fun (v1116 : Bool) => cond (!v1116) (some ((-1), (-1), false)) ((impl_dependentsBeside x830 x831).bind fun (v1118 : Int × Int) => (impl_wordSet_count (v1118.1)).bind fun (v1121 : Int) => (impl_wordSet_count (v1118.2)).bind fun (v1122 : Int) => some (v1121, v1122, true))

@[irreducible] def impl_SidesOf (x830 : List Int) (x831 : Int) : Option (Int × Int × Bool) :=
  impl_SidesOf_n1 x830 x831

def spec_l1In_n1 (x1144 : Int) (x1145 : Int) (x1146 : Int) : Option (Bool) :=
  cond (decide (x1144 ≥ x1145)) (some (decide (x1144 ≤ x1146))) (some false)

@[irreducible] def spec_l1In (x1144 : Int) (x1145 : Int) (x1146 : Int) : Option (Bool) :=
  spec_l1In_n1 x1144 x1145 x1146

def spec_TreeOk_n1 (x1141 : List Int) : Option (Int ⊕ Bool) :=
  (spec_l1In (((List.length x1141 : Nat) : Int)) 1 8).bind fun (v1155 : Bool) => cond (!v1155) (some (Sum.inr false)) (some (Sum.inl (((List.length x1141 : Nat) : Int))))

def spec_TreeOk_n2 : Option (Unit) :=
  some ()

def spec_TreeOk_n3 (x1154 : Int) (x1221 : Int) (x1222 : Int) : Option (Unit ⊕ Int) :=
  cond (decide (x1222 < x1154)) (some (Sum.inl ())) (some (Sum.inr x1221))

def spec_TreeOk_n4 (x1141 : List Int) (x1154 : Int) (x1221 : Int) (x1222 : Int) : Option ((Int × Int) ⊕ Bool) :=
  (idx x1141 x1222).bind fun (v1239 : Int) => (spec_l1In v1239 0 x1154).bind fun (v1240 : Bool) => cond (!v1240) (some (Sum.inr false)) ((idx x1141 x1222).bind fun (v1242 : Int) => cond (v1242 == (IntKind.wrap .i64 (x1222 + 1))) (some (Sum.inr false)) ((idx x1141 x1222).bind fun (v1245 : Int) => cond (v1245 == 0) (some (Sum.inl ((IntKind.wrap .i64 (x1221 + 1)), (IntKind.wrap .i64 (x1222 + 1))))) (some (Sum.inl (x1221, (IntKind.wrap .i64 (x1222 + 1)))))))

def spec_TreeOk_n5 : Option (Unit) :=
  some ()

def spec_TreeOk_n6 (x1141 : List Int) (x1154 : Int) (x1267 : Int) (x1268 : Int) : Option ((Int × Int) ⊕ Bool ⊕ Int) :=
  cond (decide (x1267 > 0)) (cond (decide (x1268 < x1154)) ((idx x1141 (IntKind.wrap .i64 (x1267 - 1))).bind fun (v1280 : Int) => (spec_l1In v1280 0 x1154).bind fun (v1281 : Bool) => cond (!v1281) (some (Sum.inr (Sum.inl false))) (some (Sum.inl (v1280, (IntKind.wrap .i64 (x1268 + 1)))))) (some (Sum.inr (Sum.inr x1267)))) (some (Sum.inr (Sum.inr x1267)))

def spec_TreeOk_n7 (x1141 : List Int) (x1154 : Int) (x1251 : Int) : Option (Bool ⊕ Int) :=
  nloop (fun (s : Int × Int) => ((spec_TreeOk_n6 x1141 x1154 s.1 s.2).map (Sum.elim (fun (t : Int × Int) => Sum.inl (t.1, t.2)) (Sum.elim (fun (t : Bool) => Sum.inr (Sum.inl t)) (fun (t : Int) => Sum.inr (Sum.inr t)))) : Option ((Int × Int) ⊕ (Bool ⊕ Int)))) LL (x1251, 0)

def spec_TreeOk_n8 (x1141 : List Int) (x1154 : Int) (x1251 : Int) : Option (Int ⊕ Bool) :=
  (spec_TreeOk_n7 x1141 x1154 x1251).map (Sum.elim (fun (t : Bool) => (Sum.inr t)) (fun (t : Int) => (Sum.inl t)))

def spec_TreeOk_n9 (x1141 : List Int) (x1154 : Int) (x1251 : Int) : Option (Int ⊕ Bool) :=
  (spec_TreeOk_n5).bind (fun (t : Unit) => spec_TreeOk_n8 x1141 x1154 x1251)

def spec_TreeOk_n10 (x1267 : Int) : Option (Unit ⊕ Bool) :=
  cond (decide (x1267 > 0)) (some (Sum.inr false)) (some (Sum.inl ()))

def spec_TreeOk_n11 (x1141 : List Int) (x1154 : Int) (x1251 : Int) : Option (Unit ⊕ Bool) :=
  (spec_TreeOk_n9 x1141 x1154 x1251).bind (Sum.elim (fun (t : Int) => spec_TreeOk_n10 t) (fun e => some ((fun (t : Bool) => (Sum.inr t)) e)))

def spec_TreeOk_n12 (x1141 : List Int) (x1154 : Int) (x1221 : Int) (x1222 : Int) : Option (Int ⊕ Bool) :=
  (spec_TreeOk_n4 x1141 x1154 x1221 x1222).bind (Sum.elim (fun (t : Int × Int) => (spec_TreeOk_n11 x1141 x1154 t.2).map (Sum.elim (fun (u : Unit) => (Sum.inl t.1)) (fun (u : Bool) => (Sum.inr u)))) (fun e => some ((fun (t : Bool) => (Sum.inr t)) e)))

def spec_TreeOk_n13 (x1141 : List Int) (x1154 : Int) (x1221 : Int) (x1222 : Int) : Option (Int ⊕ Bool) :=
  (spec_TreeOk_n12 x1141 x1154 x1221 x1222).map (Sum.elim (fun (t : Int) => (Sum.inl t)) (fun (t : Bool) => (Sum.inr t)))

def spec_TreeOk_n14 (x1222 : Int) : Option (Int) :=
  some (IntKind.wrap .i64 (x1222 + 1))

def spec_TreeOk_n15 (x1141 : List Int) (x1154 : Int) (x1221 : Int) (x1222 : Int) : Option ((Int × Int) ⊕ Bool) :=
  (spec_TreeOk_n13 x1141 x1154 x1221 x1222).bind (Sum.elim (fun (t : Int) => (spec_TreeOk_n14 x1222).map (fun (u : Int) => (Sum.inl (t, u)))) (fun e => some ((fun (t : Bool) => (Sum.inr t)) e)))

def spec_TreeOk_n16 (x1141 : List Int) (x1154 : Int) (x1221 : Int) (x1222 : Int) : Option ((Int × Int) ⊕ Bool ⊕ Int) :=
  (spec_TreeOk_n3 x1154 x1221 x1222).bind (Sum.elim (fun (t : Unit) => (spec_TreeOk_n15 x1141 x1154 x1221 x1222).map (Sum.elim (fun (t : Int × Int) => (Sum.inl (t.1, t.2))) (fun (t : Bool) => (Sum.inr (Sum.inl t))))) (fun e => some ((fun (t : Int) => (Sum.inr (Sum.inr t))) e)))

def spec_TreeOk_n17 (x1141 : List Int) (x1154 : Int) : Option (Bool ⊕ Int) :=
  nloop (fun (s : Int × Int) => ((spec_TreeOk_n16 x1141 x1154 s.1 s.2).map (Sum.elim (fun (t : Int × Int) => Sum.inl (t.1, t.2)) (Sum.elim (fun (t : Bool) => Sum.inr (Sum.inl t)) (fun (t : Int) => Sum.inr (Sum.inr t)))) : Option ((Int × Int) ⊕ (Bool ⊕ Int)))) LL (0, 0)

def spec_TreeOk_n18 (x1141 : List Int) (x1154 : Int) : Option (Int ⊕ Bool) :=
  (spec_TreeOk_n17 x1141 x1154).map (Sum.elim (fun (t : Bool) => (Sum.inr t)) (fun (t : Int) => (Sum.inl t)))

def spec_TreeOk_n19 (x1141 : List Int) (x1154 : Int) : Option (Int ⊕ Bool) :=
  (spec_TreeOk_n2).bind (fun (t : Unit) => spec_TreeOk_n18 x1141 x1154)

def spec_TreeOk_n20 (x1221 : Int) : Option (Bool) :=
  some (x1221 == 1)

def spec_TreeOk_n21 (x1141 : List Int) (x1154 : Int) : Option (Bool) :=
  (spec_TreeOk_n19 x1141 x1154).bind (Sum.elim (fun (t : Int) => spec_TreeOk_n20 t) (fun e => some ((fun (t : Bool) => t) e)))

def spec_TreeOk_n22 (x1141 : List Int) : Option (Bool) :=
  (spec_TreeOk_n1 x1141).bind (Sum.elim (fun (t : Int) => spec_TreeOk_n21 x1141 t) (fun e => some ((fun (t : Bool) => t) e)))

@[irreducible] def spec_TreeOk (x1141 : List Int) : Option (Bool) :=
  spec_TreeOk_n22 x1141

def spec_SidesOf_n1 (x1139 : List Int) (x1140 : Int) : Option (Unit ⊕ (Int × Int × Bool)) :=
  (spec_TreeOk x1139).bind fun (v1300 : Bool) => cond (!v1300) (some (Sum.inr ((-1), (-1), false))) ((spec_l1In x1140 1 (((List.length x1139 : Nat) : Int))).bind fun (v1303 : Bool) => cond (!v1303) (some (Sum.inr ((-1), (-1), false))) (some (Sum.inl ())))

def spec_SidesOf_n2 : Option (Unit) :=
  some ()

def spec_SidesOf_n3 (x1139 : List Int) (x1140 : Int) (x1363 : Int) (x1364 : Int) (x1365 : Int) : Option ((Int × Int × Int) ⊕ (Int × Int)) :=
  cond (decide (x1365 < (((List.length x1139 : Nat) : Int)))) ((idx x1139 x1365).bind fun (v1392 : Int) => cond (v1392 == x1140) (cond (decide ((IntKind.wrap .i64 (x1365 + 1)) < x1140)) ((idx x1139 x1365).bind fun (v1397 : Int) => cond (v1397 == x1140) (cond (decide ((IntKind.wrap .i64 (x1365 + 1)) > x1140)) (some (Sum.inl ((IntKind.wrap .i64 (x1363 + 1)), (IntKind.wrap .i64 (x1364 + 1)), (IntKind.wrap .i64 (x1365 + 1))))) (some (Sum.inl ((IntKind.wrap .i64 (x1363 + 1)), x1364, (IntKind.wrap .i64 (x1365 + 1)))))) (some (Sum.inl ((IntKind.wrap .i64 (x1363 + 1)), x1364, (IntKind.wrap .i64 (x1365 + 1)))))) ((idx x1139 x1365).bind fun (v1405 : Int) => cond (v1405 == x1140) (cond (decide ((IntKind.wrap .i64 (x1365 + 1)) > x1140)) (some (Sum.inl (x1363, (IntKind.wrap .i64 (x1364 + 1)), (IntKind.wrap .i64 (x1365 + 1))))) (some (Sum.inl (x1363, x1364, (IntKind.wrap .i64 (x1365 + 1)))))) (some (Sum.inl (x1363, x1364, (IntKind.wrap .i64 (x1365 + 1))))))) ((idx x1139 x1365).bind fun (v1413 : Int) => cond (v1413 == x1140) (cond (decide ((IntKind.wrap .i64 (x1365 + 1)) > x1140)) (some (Sum.inl (x1363, (IntKind.wrap .i64 (x1364 + 1)), (IntKind.wrap .i64 (x1365 + 1))))) (some (Sum.inl (x1363, x1364, (IntKind.wrap .i64 (x1365 + 1)))))) (some (Sum.inl (x1363, x1364, (IntKind.wrap .i64 (x1365 + 1))))))) (some (Sum.inr (x1363, x1364)))

def spec_SidesOf_n4 (x1139 : List Int) (x1140 : Int) : Option ((Int × Int)) :=
  nloop (fun (s : Int × Int × Int) => ((spec_SidesOf_n3 x1139 x1140 s.1 s.2.1 s.2.2).map (Sum.elim (fun (t : Int × Int × Int) => Sum.inl (t.1, t.2.1, t.2.2)) (fun (t : Int × Int) => Sum.inr t)) : Option ((Int × Int × Int) ⊕ ((Int × Int))))) LL (0, 0, 0)

def spec_SidesOf_n5 (x1139 : List Int) (x1140 : Int) : Option ((Int × Int)) :=
  (spec_SidesOf_n4 x1139 x1140).map (fun (t : Int × Int) => (t.1, t.2))

def spec_SidesOf_n6 (x1139 : List Int) (x1140 : Int) : Option ((Int × Int)) :=
  (spec_SidesOf_n2).bind (fun (t : Unit) => spec_SidesOf_n5 x1139 x1140)

def spec_SidesOf_n7 (x1363 : Int) (x1364 : Int) : Option ((Int × Int × Bool)) :=
  some (x1363, x1364, true)

def spec_SidesOf_n8 (x1139 : List Int) (x1140 : Int) : Option ((Int × Int × Bool)) :=
  (spec_SidesOf_n6 x1139 x1140).bind (fun (t : Int × Int) => spec_SidesOf_n7 t.1 t.2)

def spec_SidesOf_n9 (x1139 : List Int) (x1140 : Int) : Option ((Int × Int × Bool)) :=
  (spec_SidesOf_n1 x1139 x1140).bind (Sum.elim (fun (t : Unit) => spec_SidesOf_n8 x1139 x1140) (fun e => some ((fun (t : Int × Int × Bool) => t) e)))

@[irreducible] def spec_SidesOf (x1139 : List Int) (x1140 : Int) : Option (Int × Int × Bool) :=
  spec_SidesOf_n9 x1139 x1140

def laws_alive_n1 : Option (Bool) :=
  (impl_TreeOk ([0])).bind fun (v1472 : Bool) => cond v1472 ((impl_TreeOk ([1])).bind fun (v1474 : Bool) => some (!v1474)) (some false)

@[irreducible] def laws_alive : Option (Bool) :=
  laws_alive_n1

def math_bits_TrailingZeros64_n1 (x1559 : Int) : Option (Int) :=
  cond (x1559 == 0) (some 64) ((shr .u64 (IntKind.wrap .u64 ((iand .u64 x1559 (IntKind.wrap .u64 (0 - x1559))) * 285870213051353865)) 58).bind fun (v1576 : Int) => (same (List.length tab1) 64).bind fun (v1577 : Unit) => (idx tab1 v1576).bind fun (v1578 : Int) => some (IntKind.wrap .i64 v1578))

@[irreducible] def math_bits_TrailingZeros64 (x1559 : Int) : Option (Int) :=
  math_bits_TrailingZeros64_n1 x1559

def math_bits_TrailingZeros_n1 (x1558 : Int) : Option (Int) :=
  (math_bits_TrailingZeros64 x1558).bind fun (v1582 : Int) => some v1582

@[irreducible] def math_bits_TrailingZeros (x1558 : Int) : Option (Int) :=
  math_bits_TrailingZeros_n1 x1558

def impl_wordSet_list_n1 (x1552 : Int) : Option (((List Int))) :=
  (impl_wordSet_count x1552).bind fun (v1553 : Int) => (mk 0 v1553).bind fun (v1554 : Nat) => some (List.replicate v1554 (0 : Int))

def impl_wordSet_list_n2 : Option (Unit) :=
  some ()

def impl_wordSet_list_n3 (x1598 : Int) (x1599 : List Int) : Option ((Int × (List Int)) ⊕ ((List Int))) :=
  cond (x1598 != 0) ((math_bits_TrailingZeros x1598).bind fun (v1609 : Int) => (room ((List.length x1599) + List.length ([(IntKind.wrap .i64 (v1609 + 1))]))).bind fun (v1613 : Unit) => some (Sum.inl ((iand .u64 x1598 (IntKind.wrap .u64 (x1598 - 1))), (x1599 ++ ([(IntKind.wrap .i64 (v1609 + 1))]))))) (some (Sum.inr x1599))

def impl_wordSet_list_n4 (x1552 : Int) (x1555 : List Int) : Option (((List Int))) :=
  nloop (fun (s : Int × (List Int)) => ((impl_wordSet_list_n3 s.1 s.2).map (Sum.elim (fun (t : Int × (List Int)) => Sum.inl (t.1, t.2)) (fun (t : (List Int)) => Sum.inr t)) : Option ((Int × (List Int)) ⊕ (((List Int)))))) LL (x1552, x1555)

def impl_wordSet_list_n5 (x1552 : Int) (x1555 : List Int) : Option (((List Int))) :=
  (impl_wordSet_list_n4 x1552 x1555).map (fun (t : (List Int)) => t)

def impl_wordSet_list_n6 (x1552 : Int) (x1555 : List Int) : Option (((List Int))) :=
  (impl_wordSet_list_n2).bind (fun (t : Unit) => impl_wordSet_list_n5 x1552 x1555)

def impl_wordSet_list_n7 (x1599 : List Int) : Option (((List Int))) :=
  some x1599

def impl_wordSet_list_n8 (x1552 : Int) (x1555 : List Int) : Option (((List Int))) :=
  (impl_wordSet_list_n6 x1552 x1555).bind (fun (t : (List Int)) => impl_wordSet_list_n7 t)

def impl_wordSet_list_n9 (x1552 : Int) : Option (((List Int))) :=
  (impl_wordSet_list_n1 x1552).bind (fun (t : (List Int)) => impl_wordSet_list_n8 x1552 t)

@[irreducible] def impl_wordSet_list (x1552 : Int) : Option ((List Int)) :=
  impl_wordSet_list_n9 x1552

def impl_DependsOf_n1 (x1539 : List Int) (x1540 : Int) : Option (((List Int))) :=
  (impl_TreeOk x1539).bind fun (v1618 : Bool) => cond (!v1618) (some ([] : List Int)) (cond (decide (x1540 < 0)) (some ([] : List Int)) (cond (decide (x1540 > (((List.length x1539 : Nat) : Int)))) (some ([] : List Int)) ((impl_dependents x1539 x1540).bind fun (v1623 : Int) => (impl_wordSet_list v1623).bind fun (v1624 : List Int) => some v1624)))

@[irreducible] def impl_DependsOf (x1539 : List Int) (x1540 : Int) : Option ((List Int)) :=
  impl_DependsOf_n1 x1539 x1540

def laws_FnSidesOf_n1 (x2 : List Int) : Option ((Int × Int × Int × (List Int)) ⊕ Bool) :=
  cond (decide ((((List.length x2 : Nat) : Int)) > 1048576)) (some (Sum.inr true)) ((spec_DrawSidesOf x2).bind fun (v1480 : Int × (List Int)) => (impl_SidesOf (v1480.2) (v1480.1)).bind fun (v1483 : Int × Int × Bool) => (spec_SidesOf (v1480.2) (v1480.1)).bind fun (v1487 : Int × Int × Bool) => cond ((v1483.1) != (v1487.1)) (some (Sum.inr false)) (cond ((v1483.2.1) != (v1487.2.1)) (some (Sum.inr false)) (cond ((v1483.2.2) != (v1487.2.2)) (some (Sum.inr false)) (cond (!(v1483.2.2)) (cond ((v1483.1) == (-1)) (cond ((v1483.2.1) == (-1)) ((laws_alive).bind fun (v1497 : Bool) => some (Sum.inr v1497)) (some (Sum.inr false))) (some (Sum.inr false))) (some (Sum.inl ((v1480.1), (v1483.1), (v1483.2.1), (v1480.2))))))))

def laws_FnSidesOf_n2 : Option (Unit) :=
  some ()

def laws_FnSidesOf_n3 (x1517 : Int) (x1518 : Int) (x1482 : List Int) : Option ((Int × Int) ⊕ Int) :=
  cond (decide (x1518 ≤ (((List.length x1482 : Nat) : Int)))) ((impl_SidesOf x1482 x1518).bind fun (v1531 : Int × Int × Bool) => some (Sum.inl ((IntKind.wrap .i64 ((IntKind.wrap .i64 (x1517 + (v1531.1))) + (v1531.2.1))), (IntKind.wrap .i64 (x1518 + 1))))) (some (Sum.inr x1517))

def laws_FnSidesOf_n4 (x1482 : List Int) : Option (Int) :=
  nloop (fun (s : Int × Int) => ((laws_FnSidesOf_n3 s.1 s.2 x1482).map (Sum.elim (fun (t : Int × Int) => Sum.inl (t.1, t.2)) (fun (t : Int) => Sum.inr t)) : Option ((Int × Int) ⊕ (Int)))) LL (0, 1)

def laws_FnSidesOf_n5 (x1482 : List Int) : Option (Int) :=
  (laws_FnSidesOf_n4 x1482).map (fun (t : Int) => t)

def laws_FnSidesOf_n6 (x1482 : List Int) : Option (Int) :=
  (laws_FnSidesOf_n2).bind (fun (t : Unit) => laws_FnSidesOf_n5 x1482)

def laws_FnSidesOf_n7 (x1481 : Int) (x1484 : Int) (x1485 : Int) (x1517 : Int) (x1482 : List Int) : Option (Bool) :=
  (impl_DependsOf x1482 x1481).bind fun (v1633 : List Int) => cond ((IntKind.wrap .i64 (x1484 + x1485)) == (((List.length v1633 : Nat) : Int))) (some (x1517 == (IntKind.wrap .i64 ((((List.length x1482 : Nat) : Int)) - 1)))) (some false)

def laws_FnSidesOf_n8 (x1481 : Int) (x1484 : Int) (x1485 : Int) (x1482 : List Int) : Option (Bool) :=
  (laws_FnSidesOf_n6 x1482).bind (fun (t : Int) => laws_FnSidesOf_n7 x1481 x1484 x1485 t x1482)

def laws_FnSidesOf_n9 (x2 : List Int) : Option (Bool) :=
  (laws_FnSidesOf_n1 x2).bind (Sum.elim (fun (t : Int × Int × Int × (List Int)) => laws_FnSidesOf_n8 t.1 t.2.1 t.2.2.1 t.2.2.2) (fun e => some ((fun (t : Bool) => t) e)))

@[irreducible] def laws_FnSidesOf (x2 : List Int) : Option (Bool) :=
  laws_FnSidesOf_n9 x2

end Go.Rv
