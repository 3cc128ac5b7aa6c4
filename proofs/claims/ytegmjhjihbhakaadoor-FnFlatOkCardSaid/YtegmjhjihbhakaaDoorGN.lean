/-
  Plain functions, written by program for functions of the checked code. Conditions: none.
-/
import Derived.Test.YtegmjhjihbhakaaDoorFB
set_option linter.unusedVariables false
namespace Go.Rv
/-! loop.example/headtrees/spec.l20Open -/

def spec_l20Open_n1 (x13 : List Int) : Option (((List Int))) :=
  cond (decide ((((List.length x13 : Nat) : Int)) > 2000)) ((inc 2000 (List.length x13)).bind fun (v29 : Nat) => some ((x13.take v29).drop 0)) (some x13)

@[irreducible] def spec_l20Open (x13 : List Int) : Option ((List Int)) :=
  spec_l20Open_n1 x13

/-! (*loop.example/headtrees/spec.l20Rd).pick -/

def spec_l20Rd_pick_n1 (x40 : Int) (x41 : List Int) (x42 : Int) : Option ((Int × Int)) :=
  cond (decide (x40 < 1)) (some (0, (IntKind.wrap .i64 (x42 + 1)))) (cond ((((List.length x41 : Nat) : Int)) == 0) (some (0, (IntKind.wrap .i64 (x42 + 1)))) (cond (decide ((IntKind.wrap .i64 ((IntKind.wrap .i64 (x42 + 1)) - 1)) < (((List.length x41 : Nat) : Int)))) ((idx x41 (IntKind.wrap .i64 ((IntKind.wrap .i64 (x42 + 1)) - 1))).bind fun (v169 : Int) => (rem (IntKind.wrap .i64 v169) x40).bind fun (v171 : Int) => some (v171, (IntKind.wrap .i64 (x42 + 1)))) ((rem (IntKind.wrap .i64 ((IntKind.wrap .i64 (x42 + 1)) - 1)) (((List.length x41 : Nat) : Int))).bind fun (v173 : Int) => (idx x41 v173).bind fun (v174 : Int) => (rem (IntKind.wrap .i64 ((IntKind.wrap .i64 ((IntKind.wrap .i64 ((IntKind.wrap .i64 (x42 + 1)) - 1)) * 7)) + 3)) (((List.length x41 : Nat) : Int))).bind fun (v180 : Int) => (idx x41 v180).bind fun (v181 : Int) => (quo .i64 (IntKind.wrap .i64 ((IntKind.wrap .i64 (x42 + 1)) - 1)) (((List.length x41 : Nat) : Int))).bind fun (v188 : Int) => (quo .i64 (IntKind.wrap .i64 ((IntKind.wrap .i64 ((IntKind.wrap .i64 ((IntKind.wrap .i64 ((IntKind.wrap .i64 v174) * 131)) + (IntKind.wrap .i64 ((IntKind.wrap .i64 v181) * 1117)))) + (IntKind.wrap .i64 ((IntKind.wrap .i64 ((IntKind.wrap .i64 (x42 + 1)) - 1)) * 29)))) + (IntKind.wrap .i64 (v188 * 53)))) 64).bind fun (v191 : Int) => (rem (ixor .i64 (IntKind.wrap .i64 ((IntKind.wrap .i64 ((IntKind.wrap .i64 ((IntKind.wrap .i64 ((IntKind.wrap .i64 v174) * 131)) + (IntKind.wrap .i64 ((IntKind.wrap .i64 v181) * 1117)))) + (IntKind.wrap .i64 ((IntKind.wrap .i64 ((IntKind.wrap .i64 (x42 + 1)) - 1)) * 29)))) + (IntKind.wrap .i64 (v188 * 53)))) v191) x40).bind fun (v193 : Int) => some (v193, (IntKind.wrap .i64 (x42 + 1))))))

@[irreducible] def spec_l20Rd_pick (x40 : Int) (x41 : List Int) (x42 : Int) : Option (Int × Int) :=
  spec_l20Rd_pick_n1 x40 x41 x42

/-! loop.example/headtrees/spec.l20Order -/

def spec_l20Order_n1 (x204 : List Int) (x205 : Int) : Option ((Int × Int)) :=
  (spec_l20Rd_pick 2 x204 x205).bind fun (v207 : Int × Int) => some ((v207.1), (v207.2))

def spec_l20Order_n2 : Option (Unit) :=
  some ()

def spec_l20Order_n3 (x203 : Int) (x208 : Int) (x351 : Int) (x204 : List Int) (x352 : Int) (x353 : List Int) : Option ((Int × Int × (List Int)) ⊕ (Int × (List Int))) :=
  cond (decide (x351 ≤ x203)) (cond (x208 == 0) ((spec_l20Rd_pick x351 x204 x352).bind fun (v425 : Int × Int) => (inc (v425.1) (List.length x353)).bind fun (v429 : Nat) => (room ((List.length ([] : List Int)) + List.length ((x353.drop 0).take (v429 - 0)))).bind fun (v433 : Unit) => (room ((List.length (([] : List Int) ++ ((x353.drop 0).take (v429 - 0)))) + List.length ([x351]))).bind fun (v437 : Unit) => (inc (v425.1) (List.length x353)).bind fun (v440 : Nat) => (room ((List.length ((([] : List Int) ++ ((x353.drop 0).take (v429 - 0))) ++ ([x351]))) + List.length ((x353.drop v440).take ((List.length x353) - v440)))).bind fun (v444 : Unit) => some (Sum.inl ((IntKind.wrap .i64 (x351 + 1)), (v425.2), (((([] : List Int) ++ ((x353.drop 0).take (v429 - 0))) ++ ([x351])) ++ ((x353.drop v440).take ((List.length x353) - v440)))))) ((spec_l20Rd_pick 3 x204 x352).bind fun (v447 : Int × Int) => cond ((v447.1) == 0) ((spec_l20Rd_pick x351 x204 (v447.2)).bind fun (v451 : Int × Int) => (inc (v451.1) (List.length x353)).bind fun (v455 : Nat) => (room ((List.length ([] : List Int)) + List.length ((x353.drop 0).take (v455 - 0)))).bind fun (v459 : Unit) => (room ((List.length (([] : List Int) ++ ((x353.drop 0).take (v455 - 0)))) + List.length ([x351]))).bind fun (v463 : Unit) => (inc (v451.1) (List.length x353)).bind fun (v466 : Nat) => (room ((List.length ((([] : List Int) ++ ((x353.drop 0).take (v455 - 0))) ++ ([x351]))) + List.length ((x353.drop v466).take ((List.length x353) - v466)))).bind fun (v470 : Unit) => some (Sum.inl ((IntKind.wrap .i64 (x351 + 1)), (v451.2), (((([] : List Int) ++ ((x353.drop 0).take (v455 - 0))) ++ ([x351])) ++ ((x353.drop v466).take ((List.length x353) - v466)))))) ((inc (((List.length x353 : Nat) : Int)) (List.length x353)).bind fun (v474 : Nat) => (room ((List.length ([] : List Int)) + List.length ((x353.drop 0).take (v474 - 0)))).bind fun (v478 : Unit) => (room ((List.length (([] : List Int) ++ ((x353.drop 0).take (v474 - 0)))) + List.length ([x351]))).bind fun (v482 : Unit) => (inc (((List.length x353 : Nat) : Int)) (List.length x353)).bind fun (v485 : Nat) => (room ((List.length ((([] : List Int) ++ ((x353.drop 0).take (v474 - 0))) ++ ([x351]))) + List.length ((x353.drop v485).take ((List.length x353) - v485)))).bind fun (v489 : Unit) => some (Sum.inl ((IntKind.wrap .i64 (x351 + 1)), (v447.2), (((([] : List Int) ++ ((x353.drop 0).take (v474 - 0))) ++ ([x351])) ++ ((x353.drop v485).take ((List.length x353) - v485)))))))) (some (Sum.inr (x352, x353)))

def spec_l20Order_n4 (x203 : Int) (x208 : Int) (x204 : List Int) (x209 : Int) : Option ((Int × (List Int))) :=
  nloop (fun (s : Int × Int × (List Int)) => ((spec_l20Order_n3 x203 x208 s.1 x204 s.2.1 s.2.2).map (Sum.elim (fun (t : Int × Int × (List Int)) => Sum.inl (t.1, t.2.1, t.2.2)) (fun (t : Int × (List Int)) => Sum.inr t)) : Option ((Int × Int × (List Int)) ⊕ ((Int × (List Int)))))) LL (1, x209, ([] : List Int))

def spec_l20Order_n5 (x203 : Int) (x208 : Int) (x204 : List Int) (x209 : Int) : Option ((Int × (List Int))) :=
  (spec_l20Order_n4 x203 x208 x204 x209).map (fun (t : Int × (List Int)) => (t.1, t.2))

def spec_l20Order_n6 (x203 : Int) (x208 : Int) (x204 : List Int) (x209 : Int) : Option ((Int × (List Int))) :=
  (spec_l20Order_n2).bind (fun (t : Unit) => spec_l20Order_n5 x203 x208 x204 x209)

def spec_l20Order_n7 (x352 : Int) (x353 : List Int) : Option ((Int × (List Int))) :=
  some (x352, x353)

def spec_l20Order_n8 (x203 : Int) (x208 : Int) (x204 : List Int) (x209 : Int) : Option ((Int × (List Int))) :=
  (spec_l20Order_n6 x203 x208 x204 x209).bind (fun (t : Int × (List Int)) => spec_l20Order_n7 t.1 t.2)

def spec_l20Order_n9 (x203 : Int) (x204 : List Int) (x205 : Int) : Option ((Int × (List Int))) :=
  (spec_l20Order_n1 x204 x205).bind (fun (t : Int × Int) => spec_l20Order_n8 x203 t.1 x204 t.2)

@[irreducible] def spec_l20Order (x203 : Int) (x204 : List Int) (x205 : Int) : Option (Int × (List Int)) :=
  spec_l20Order_n9 x203 x204 x205

/-! (*loop.example/headtrees/spec.l20Rd).odd -/

def spec_l20Rd_odd_n1 (x660 : Int) (x661 : List Int) (x662 : Int) : Option ((Bool × Int)) :=
  cond (decide (x660 > 0)) ((spec_l20Rd_pick x660 x661 x662).bind fun (v670 : Int × Int) => some (((v670.1) == (IntKind.wrap .i64 (x660 - 1))), (v670.2))) (some (false, x662))

@[irreducible] def spec_l20Rd_odd (x660 : Int) (x661 : List Int) (x662 : Int) : Option (Bool × Int) :=
  spec_l20Rd_odd_n1 x660 x661 x662

/-! loop.example/headtrees/spec.l20Tree -/

def spec_l20Tree_n1 (x37 : List Int) (x38 : Int) : Option ((Int × Int × Int × (List Int) × (List Int))) :=
  (spec_l20Rd_pick 7 x37 x38).bind fun (v507 : Int × Int) => (spec_l20Order (IntKind.wrap .i64 (1 + (v507.1))) x37 (v507.2)).bind fun (v511 : Int × (List Int)) => (mk (IntKind.wrap .i64 (1 + (v507.1))) (IntKind.wrap .i64 (1 + (v507.1)))).bind fun (v514 : Nat) => (spec_l20Rd_pick 2 x37 (v511.1)).bind fun (v516 : Int × Int) => some ((IntKind.wrap .i64 (1 + (v507.1))), (v516.1), (v516.2), (v511.2), (List.replicate v514 (0 : Int)))

def spec_l20Tree_n2 : Option (Unit) :=
  some ()

def spec_l20Tree_n3 (x510 : Int) (x517 : Int) (x588 : Int) (x37 : List Int) (x589 : Int) (x513 : List Int) (x590 : List Int) : Option ((Int × Int × (List Int)) ⊕ (Int × (List Int))) :=
  cond (decide (x588 < x510)) ((spec_l20Rd_pick x588 x37 x589).bind fun (v624 : Int × Int) => cond (x517 == 1) ((spec_l20Rd_pick 2 x37 (v624.2)).bind fun (v628 : Int × Int) => cond ((v628.1) == 0) ((inb x588 (List.length x513)).bind fun (v633 : Nat) => (x513[v633]?).bind fun (v634 : Int) => (inb (IntKind.wrap .i64 (x588 - 1)) (List.length x513)).bind fun (v636 : Nat) => (x513[v636]?).bind fun (v637 : Int) => (inb (IntKind.wrap .i64 (v634 - 1)) (List.length x590)).bind fun (v638 : Nat) => some (Sum.inl ((IntKind.wrap .i64 (x588 + 1)), (v628.2), (x590.set v638 v637)))) ((inb x588 (List.length x513)).bind fun (v641 : Nat) => (x513[v641]?).bind fun (v642 : Int) => (inb (v624.1) (List.length x513)).bind fun (v644 : Nat) => (x513[v644]?).bind fun (v645 : Int) => (inb (IntKind.wrap .i64 (v642 - 1)) (List.length x590)).bind fun (v646 : Nat) => some (Sum.inl ((IntKind.wrap .i64 (x588 + 1)), (v628.2), (x590.set v646 v645))))) ((inb x588 (List.length x513)).bind fun (v649 : Nat) => (x513[v649]?).bind fun (v650 : Int) => (inb (v624.1) (List.length x513)).bind fun (v652 : Nat) => (x513[v652]?).bind fun (v653 : Int) => (inb (IntKind.wrap .i64 (v650 - 1)) (List.length x590)).bind fun (v654 : Nat) => some (Sum.inl ((IntKind.wrap .i64 (x588 + 1)), (v624.2), (x590.set v654 v653))))) (some (Sum.inr (x589, x590)))

def spec_l20Tree_n4 (x510 : Int) (x517 : Int) (x37 : List Int) (x518 : Int) (x513 : List Int) (x515 : List Int) : Option ((Int × (List Int))) :=
  nloop (fun (s : Int × Int × (List Int)) => ((spec_l20Tree_n3 x510 x517 s.1 x37 s.2.1 x513 s.2.2).map (Sum.elim (fun (t : Int × Int × (List Int)) => Sum.inl (t.1, t.2.1, t.2.2)) (fun (t : Int × (List Int)) => Sum.inr t)) : Option ((Int × Int × (List Int)) ⊕ ((Int × (List Int)))))) LL (1, x518, x515)

def spec_l20Tree_n5 (x510 : Int) (x517 : Int) (x37 : List Int) (x518 : Int) (x513 : List Int) (x515 : List Int) : Option ((Int × (List Int))) :=
  (spec_l20Tree_n4 x510 x517 x37 x518 x513 x515).map (fun (t : Int × (List Int)) => (t.1, t.2))

def spec_l20Tree_n6 (x510 : Int) (x517 : Int) (x37 : List Int) (x518 : Int) (x513 : List Int) (x515 : List Int) : Option ((Int × (List Int))) :=
  (spec_l20Tree_n2).bind (fun (t : Unit) => spec_l20Tree_n5 x510 x517 x37 x518 x513 x515)

def spec_l20Tree_n7 (x36 : Int) (x510 : Int) (x37 : List Int) (x589 : Int) (x590 : List Int) : Option ((Int × (List Int))) :=
  (spec_l20Rd_odd x36 x37 x589).bind fun (v735 : Bool × Int) => cond (v735.1) ((spec_l20Rd_pick 4 x37 (v735.2)).bind fun (v738 : Int × Int) => cond ((v738.1) == 0) (some ((v738.2), ([] : List Int))) (cond ((v738.1) == 1) (some ((v738.2), ([2, 1, 0]))) (cond ((v738.1) == 2) ((spec_l20Rd_pick x510 x37 (v738.2)).bind fun (v745 : Int × Int) => (inb (v745.1) (List.length x590)).bind fun (v748 : Nat) => (room ((List.length (x590.set v748 0)) + List.length ([0]))).bind fun (v752 : Unit) => some ((v745.2), ((x590.set v748 0) ++ ([0])))) ((spec_l20Rd_pick 3 x37 (v738.2)).bind fun (v756 : Int × Int) => (inb (v756.1) (List.length ([1, (IntKind.wrap .i64 (x510 + 1)), (-1)]))).bind fun (v759 : Nat) => (([1, (IntKind.wrap .i64 (x510 + 1)), (-1)])[v759]?).bind fun (v760 : Int) => (inb 0 (List.length x590)).bind fun (v761 : Nat) => some ((v756.2), (x590.set v761 v760)))))) (some ((v735.2), x590))

def spec_l20Tree_n8 (x36 : Int) (x510 : Int) (x517 : Int) (x37 : List Int) (x518 : Int) (x513 : List Int) (x515 : List Int) : Option ((Int × (List Int))) :=
  (spec_l20Tree_n6 x510 x517 x37 x518 x513 x515).bind (fun (t : Int × (List Int)) => spec_l20Tree_n7 x36 x510 x37 t.1 t.2)

def spec_l20Tree_n9 (x36 : Int) (x37 : List Int) (x38 : Int) : Option ((Int × (List Int))) :=
  (spec_l20Tree_n1 x37 x38).bind (fun (t : Int × Int × Int × (List Int) × (List Int)) => spec_l20Tree_n8 x36 t.1 t.2.1 x37 t.2.2.1 t.2.2.2.1 t.2.2.2.2)

@[irreducible] def spec_l20Tree (x36 : Int) (x37 : List Int) (x38 : Int) : Option (Int × (List Int)) :=
  spec_l20Tree_n9 x36 x37 x38

/-! loop.example/headtrees/spec.l20Word -/

def spec_l20Word_n1 (x33 : List Int) (x34 : Int) : Option ((Int × Int × (List Int))) :=
  (spec_l20Tree 12 x33 x34).bind fun (v792 : Int × (List Int)) => (spec_l20Rd_pick (imax (((List.length (v792.2) : Nat) : Int)) 1) x33 (v792.1)).bind fun (v797 : Int × Int) => (spec_l20Rd_pick 20 x33 (v797.2)).bind fun (v801 : Int × Int) => (quo .i64 (v801.1) 19).bind fun (v804 : Int) => (spec_l20Rd_pick 20 x33 (v801.2)).bind fun (v807 : Int × Int) => (quo .i64 (v807.1) 19).bind fun (v810 : Int) => some ((IntKind.wrap .i64 ((IntKind.wrap .i64 ((IntKind.wrap .i64 (1 + (v797.1))) - (IntKind.wrap .i64 (v804 * 2)))) + (IntKind.wrap .i64 (v810 * 9)))), (v807.2), (v792.2))

@[irreducible] def spec_l20Word (x33 : List Int) (x34 : Int) : Option (Int × Int × (List Int)) :=
  spec_l20Word_n1 x33 x34

/-! loop.example/headtrees/spec.DrawYieldOf -/

def spec_DrawYieldOf_n1 (x10 : List Int) : Option ((Int × (List Int))) :=
  (spec_l20Open x10).bind fun (v817 : List Int) => (spec_l20Word v817 0).bind fun (v818 : Int × Int × (List Int)) => some ((v818.1), (v818.2.2))

@[irreducible] def spec_DrawYieldOf (x10 : List Int) : Option (Int × (List Int)) :=
  spec_DrawYieldOf_n1 x10

/-! loop.example/headtrees/impl.oneRoot -/

def impl_oneRoot_n1 : Option (Unit) :=
  some ()

def impl_oneRoot_n2 (x840 : List Int) : Option (Int) :=
  some (((List.length x840 : Nat) : Int))

def impl_oneRoot_n3 (x840 : List Int) (x862 : Int) (x841 : Int) (x863 : Int) : Option ((Int × Int) ⊕ Bool ⊕ Int) :=
  cond (decide (x863 < x841)) ((idx x840 x863).bind fun (v874 : Int) => cond (decide (v874 < 0)) (some (Sum.inr (Sum.inl false))) (cond (decide (v874 > (((List.length x840 : Nat) : Int)))) (some (Sum.inr (Sum.inl false))) (cond (v874 == 0) (some (Sum.inl ((IntKind.wrap .i64 (x862 + 1)), (IntKind.wrap .i64 (x863 + 1))))) (some (Sum.inl (x862, (IntKind.wrap .i64 (x863 + 1)))))))) (some (Sum.inr (Sum.inr x862)))

def impl_oneRoot_n4 (x840 : List Int) (x841 : Int) : Option (Bool ⊕ Int) :=
  nloop (fun (s : Int × Int) => ((impl_oneRoot_n3 x840 s.1 x841 s.2).map (Sum.elim (fun (t : Int × Int) => Sum.inl (t.1, t.2)) (Sum.elim (fun (t : Bool) => Sum.inr (Sum.inl t)) (fun (t : Int) => Sum.inr (Sum.inr t)))) : Option ((Int × Int) ⊕ (Bool ⊕ Int)))) LL (0, 0)

def impl_oneRoot_n5 (x840 : List Int) (x841 : Int) : Option (Int ⊕ Bool) :=
  (impl_oneRoot_n4 x840 x841).map (Sum.elim (fun (t : Bool) => (Sum.inr t)) (fun (t : Int) => (Sum.inl t)))

def impl_oneRoot_n6 (x840 : List Int) : Option (Int ⊕ Bool) :=
  (impl_oneRoot_n2 x840).bind (fun (t : Int) => impl_oneRoot_n5 x840 t)

def impl_oneRoot_n7 (x862 : Int) : Option (Bool) :=
  some (x862 == 1)

def impl_oneRoot_n8 (x840 : List Int) : Option (Bool) :=
  (impl_oneRoot_n6 x840).bind (Sum.elim (fun (t : Int) => impl_oneRoot_n7 t) (fun e => some ((fun (t : Bool) => t) e)))

def impl_oneRoot_n9 (x840 : List Int) : Option (Bool) :=
  (impl_oneRoot_n1).bind (fun (t : Unit) => impl_oneRoot_n8 x840)

@[irreducible] def impl_oneRoot (x840 : List Int) : Option (Bool) :=
  impl_oneRoot_n9 x840

/-! (*loop.example/headtrees/impl.walker).up -/

def impl_walker_up_n1 (x896 : List Int) (x897 : Int) (x898 : Int) : Option ((Bool × Int × Int)) :=
  (idx x896 (IntKind.wrap .i64 (x897 - 1))).bind fun (v916 : Int) => cond (v916 == 0) (some (false, x897, x898)) (some (true, v916, (IntKind.wrap .i64 (x898 + 1))))

@[irreducible] def impl_walker_up (x896 : List Int) (x897 : Int) (x898 : Int) : Option (Bool × Int × Int) :=
  impl_walker_up_n1 x896 x897 x898

/-! loop.example/headtrees/impl.stepsToRoot -/

def impl_stepsToRoot_n1 : Option (Unit) :=
  some ()

def impl_stepsToRoot_n2 (x894 : List Int) (x932 : Int) (x933 : Int) : Option ((Int × Int) ⊕ (Int × Bool) ⊕ (Int × Int)) :=
  (impl_walker_up x894 x932 x933).bind fun (v938 : Bool × Int × Int) => cond (v938.1) (cond (decide ((v938.2.2) ≥ (((List.length x894 : Nat) : Int)))) (some (Sum.inr (Sum.inl (0, false)))) (some (Sum.inl ((v938.2.1), (v938.2.2))))) (some (Sum.inr (Sum.inr ((v938.2.1), (v938.2.2)))))

def impl_stepsToRoot_n3 (x894 : List Int) (x895 : Int) : Option ((Int × Bool) ⊕ (Int × Int)) :=
  nloop (fun (s : Int × Int) => ((impl_stepsToRoot_n2 x894 s.1 s.2).map (Sum.elim (fun (t : Int × Int) => Sum.inl (t.1, t.2)) (Sum.elim (fun (t : Int × Bool) => Sum.inr (Sum.inl t)) (fun (t : Int × Int) => Sum.inr (Sum.inr t)))) : Option ((Int × Int) ⊕ ((Int × Bool) ⊕ (Int × Int))))) LL (x895, 0)

def impl_stepsToRoot_n4 (x894 : List Int) (x895 : Int) : Option ((Int × Int) ⊕ (Int × Bool)) :=
  (impl_stepsToRoot_n3 x894 x895).map (Sum.elim (fun (t : Int × Bool) => (Sum.inr t)) (fun (t : Int × Int) => (Sum.inl (t.1, t.2))))

def impl_stepsToRoot_n5 (x941 : Int) : Option ((Int × Bool)) :=
  some (x941, true)

def impl_stepsToRoot_n6 (x894 : List Int) (x895 : Int) : Option ((Int × Bool)) :=
  (impl_stepsToRoot_n4 x894 x895).bind (Sum.elim (fun (t : Int × Int) => impl_stepsToRoot_n5 t.2) (fun e => some ((fun (t : Int × Bool) => t) e)))

def impl_stepsToRoot_n7 (x894 : List Int) (x895 : Int) : Option ((Int × Bool)) :=
  (impl_stepsToRoot_n1).bind (fun (t : Unit) => impl_stepsToRoot_n6 x894 x895)

@[irreducible] def impl_stepsToRoot (x894 : List Int) (x895 : Int) : Option (Int × Bool) :=
  impl_stepsToRoot_n7 x894 x895

/-! loop.example/headtrees/impl.TreeOk -/

def impl_TreeOk_n1 (x834 : List Int) : Option (Unit ⊕ Bool) :=
  cond (decide ((((List.length x834 : Nat) : Int)) < 1)) (some (Sum.inr false)) (cond (decide ((((List.length x834 : Nat) : Int)) > 8)) (some (Sum.inr false)) ((impl_oneRoot x834).bind fun (v887 : Bool) => cond (!v887) (some (Sum.inr false)) (some (Sum.inl ()))))

def impl_TreeOk_n2 (x834 : List Int) : Option (Int) :=
  some (((List.length x834 : Nat) : Int))

def impl_TreeOk_n3 (x834 : List Int) (x889 : Int) (x957 : Int) : Option (Int ⊕ Bool ⊕ Unit) :=
  cond (decide (x957 < x889)) ((impl_stepsToRoot x834 (IntKind.wrap .i64 (x957 + 1))).bind fun (v968 : Int × Bool) => cond (!(v968.2)) (some (Sum.inr (Sum.inl false))) (some (Sum.inl (IntKind.wrap .i64 (x957 + 1))))) (some (Sum.inr (Sum.inr ())))

def impl_TreeOk_n4 (x834 : List Int) (x889 : Int) : Option (Bool ⊕ Unit) :=
  nloop (fun (s : Int) => ((impl_TreeOk_n3 x834 x889 s).map (Sum.elim (fun (t : Int) => Sum.inl t) (Sum.elim (fun (t : Bool) => Sum.inr (Sum.inl t)) (fun (t : Unit) => Sum.inr (Sum.inr t)))) : Option ((Int) ⊕ (Bool ⊕ Unit)))) LL 0

def impl_TreeOk_n5 (x834 : List Int) (x889 : Int) : Option (Unit ⊕ Bool) :=
  (impl_TreeOk_n4 x834 x889).map (Sum.elim (fun (t : Bool) => (Sum.inr t)) (fun (t : Unit) => (Sum.inl ())))

def impl_TreeOk_n6 (x834 : List Int) : Option (Unit ⊕ Bool) :=
  (impl_TreeOk_n2 x834).bind (fun (t : Int) => impl_TreeOk_n5 x834 t)

def impl_TreeOk_n7 : Option (Bool) :=
  some true

def impl_TreeOk_n8 (x834 : List Int) : Option (Bool) :=
  (impl_TreeOk_n6 x834).bind (Sum.elim (fun (t : Unit) => impl_TreeOk_n7) (fun e => some ((fun (t : Bool) => t) e)))

def impl_TreeOk_n9 (x834 : List Int) : Option (Bool) :=
  (impl_TreeOk_n1 x834).bind (Sum.elim (fun (t : Unit) => impl_TreeOk_n8 x834) (fun e => some ((fun (t : Bool) => t) e)))

@[irreducible] def impl_TreeOk (x834 : List Int) : Option (Bool) :=
  impl_TreeOk_n9 x834

/-! loop.example/headtrees/impl.wordOk -/

def impl_wordOk_n1 (x832 : List Int) (x833 : Int) : Option (Bool) :=
  (impl_TreeOk x832).bind fun (v978 : Bool) => cond v978 (cond (decide (x833 ≥ 1)) (some (decide (x833 ≤ (((List.length x832 : Nat) : Int))))) (some false)) (some false)

@[irreducible] def impl_wordOk (x832 : List Int) (x833 : Int) : Option (Bool) :=
  impl_wordOk_n1 x832 x833

/-! loop.example/headtrees/impl.RootOf -/

def impl_RootOf_n1 (x994 : List Int) : Option (Unit ⊕ Int) :=
  (impl_TreeOk x994).bind fun (v997 : Bool) => cond (!v997) (some (Sum.inr (-1))) (some (Sum.inl ()))

def impl_RootOf_n2 (x994 : List Int) (x1007 : Int) (x1008 : Int) : Option ((Int × Int) ⊕ (Int × Int)) :=
  (impl_walker_up x994 x1007 x1008).bind fun (v1013 : Bool × Int × Int) => cond (v1013.1) (some (Sum.inl ((v1013.2.1), (v1013.2.2)))) (some (Sum.inr ((v1013.2.1), (v1013.2.2))))

def impl_RootOf_n3 (x994 : List Int) : Option ((Int × Int)) :=
  nloop (fun (s : Int × Int) => ((impl_RootOf_n2 x994 s.1 s.2).map (Sum.elim (fun (t : Int × Int) => Sum.inl (t.1, t.2)) (fun (t : Int × Int) => Sum.inr t)) : Option ((Int × Int) ⊕ ((Int × Int))))) LL (1, 0)

def impl_RootOf_n4 (x994 : List Int) : Option ((Int × Int)) :=
  (impl_RootOf_n3 x994).map (fun (t : Int × Int) => (t.1, t.2))

def impl_RootOf_n5 (x1015 : Int) : Option (Int) :=
  some x1015

def impl_RootOf_n6 (x994 : List Int) : Option (Int) :=
  (impl_RootOf_n4 x994).bind (fun (t : Int × Int) => impl_RootOf_n5 t.1)

def impl_RootOf_n7 (x994 : List Int) : Option (Int) :=
  (impl_RootOf_n1 x994).bind (Sum.elim (fun (t : Unit) => impl_RootOf_n6 x994) (fun e => some ((fun (t : Int) => t) e)))

@[irreducible] def impl_RootOf (x994 : List Int) : Option (Int) :=
  impl_RootOf_n7 x994

/-! loop.example/headtrees/impl.only -/

def impl_only_n1 (x1022 : Int) : Option (Int) :=
  (shl .u64 1 (IntKind.wrap .i64 (x1022 - 1))).bind fun (v1026 : Int) => some v1026

@[irreducible] def impl_only (x1022 : Int) : Option (Int) :=
  impl_only_n1 x1022

/-! loop.example/headtrees/impl.dependents -/

def impl_dependents_n1 : Option (Unit) :=
  some ()

def impl_dependents_n2 (x1028 : List Int) : Option (Int) :=
  some (((List.length x1028 : Nat) : Int))

def impl_dependents_n3 (x1028 : List Int) (x1029 : Int) (x1049 : Int) (x1030 : Int) (x1050 : Int) : Option ((Int × Int) ⊕ Int) :=
  cond (decide (x1050 < x1030)) ((idx x1028 x1050).bind fun (v1060 : Int) => cond (v1060 == x1029) ((impl_only (IntKind.wrap .i64 (x1050 + 1))).bind fun (v1063 : Int) => some (Sum.inl ((ior .u64 x1049 v1063), (IntKind.wrap .i64 (x1050 + 1))))) (some (Sum.inl (x1049, (IntKind.wrap .i64 (x1050 + 1)))))) (some (Sum.inr x1049))

def impl_dependents_n4 (x1028 : List Int) (x1029 : Int) (x1030 : Int) : Option (Int) :=
  nloop (fun (s : Int × Int) => ((impl_dependents_n3 x1028 x1029 s.1 x1030 s.2).map (Sum.elim (fun (t : Int × Int) => Sum.inl (t.1, t.2)) (fun (t : Int) => Sum.inr t)) : Option ((Int × Int) ⊕ (Int)))) LL (0, 0)

def impl_dependents_n5 (x1028 : List Int) (x1029 : Int) (x1030 : Int) : Option (Int) :=
  (impl_dependents_n4 x1028 x1029 x1030).map (fun (t : Int) => t)

def impl_dependents_n6 (x1028 : List Int) (x1029 : Int) : Option (Int) :=
  (impl_dependents_n2 x1028).bind (fun (t : Int) => impl_dependents_n5 x1028 x1029 t)

def impl_dependents_n7 (x1049 : Int) : Option (Int) :=
  some x1049

def impl_dependents_n8 (x1028 : List Int) (x1029 : Int) : Option (Int) :=
  (impl_dependents_n6 x1028 x1029).bind (fun (t : Int) => impl_dependents_n7 t)

def impl_dependents_n9 (x1028 : List Int) (x1029 : Int) : Option (Int) :=
  (impl_dependents_n1).bind (fun (t : Unit) => impl_dependents_n8 x1028 x1029)

@[irreducible] def impl_dependents (x1028 : List Int) (x1029 : Int) : Option (Int) :=
  impl_dependents_n9 x1028 x1029

/-! math/bits.OnesCount64 -/

def math_bits_OnesCount64_n1 (x1073 : Int) : Option (Int) :=
  (shr .u64 x1073 1).bind fun (v1074 : Int) => some (IntKind.wrap .u64 ((iand .u64 v1074 6148914691236517205) + (iand .u64 x1073 6148914691236517205)))

def math_bits_OnesCount64_n2 (x1078 : Int) : Option (Int) :=
  (shr .u64 x1078 2).bind fun (v1092 : Int) => some (IntKind.wrap .u64 ((iand .u64 v1092 3689348814741910323) + (iand .u64 x1078 3689348814741910323)))

def math_bits_OnesCount64_n3 (x1095 : Int) : Option (Int) :=
  (shr .u64 x1095 4).bind fun (v1100 : Int) => some (iand .u64 (IntKind.wrap .u64 (v1100 + x1095)) 1085102592571150095)

def math_bits_OnesCount64_n4 (x1102 : Int) : Option (Int) :=
  (shr .u64 x1102 8).bind fun (v1105 : Int) => some (IntKind.wrap .u64 (x1102 + v1105))

def math_bits_OnesCount64_n5 (x1106 : Int) : Option (Int) :=
  (shr .u64 x1106 16).bind fun (v1110 : Int) => some (IntKind.wrap .u64 (x1106 + v1110))

def math_bits_OnesCount64_n6 (x1111 : Int) : Option (Int) :=
  (shr .u64 x1111 32).bind fun (v1115 : Int) => some (IntKind.wrap .u64 (x1111 + v1115))

def math_bits_OnesCount64_n7 (x1116 : Int) : Option (Int) :=
  some (iand .i64 (IntKind.wrap .i64 x1116) 127)

def math_bits_OnesCount64_n8 (x1121 : Int) : Option (Int) :=
  some x1121

def math_bits_OnesCount64_n9 (x1116 : Int) : Option (Int) :=
  (math_bits_OnesCount64_n7 x1116).bind (fun (t : Int) => math_bits_OnesCount64_n8 t)

def math_bits_OnesCount64_n10 (x1111 : Int) : Option (Int) :=
  (math_bits_OnesCount64_n6 x1111).bind (fun (t : Int) => math_bits_OnesCount64_n9 t)

def math_bits_OnesCount64_n11 (x1106 : Int) : Option (Int) :=
  (math_bits_OnesCount64_n5 x1106).bind (fun (t : Int) => math_bits_OnesCount64_n10 t)

def math_bits_OnesCount64_n12 (x1102 : Int) : Option (Int) :=
  (math_bits_OnesCount64_n4 x1102).bind (fun (t : Int) => math_bits_OnesCount64_n11 t)

def math_bits_OnesCount64_n13 (x1095 : Int) : Option (Int) :=
  (math_bits_OnesCount64_n3 x1095).bind (fun (t : Int) => math_bits_OnesCount64_n12 t)

def math_bits_OnesCount64_n14 (x1078 : Int) : Option (Int) :=
  (math_bits_OnesCount64_n2 x1078).bind (fun (t : Int) => math_bits_OnesCount64_n13 t)

def math_bits_OnesCount64_n15 (x1073 : Int) : Option (Int) :=
  (math_bits_OnesCount64_n1 x1073).bind (fun (t : Int) => math_bits_OnesCount64_n14 t)

@[irreducible] def math_bits_OnesCount64 (x1073 : Int) : Option (Int) :=
  math_bits_OnesCount64_n15 x1073

/-! math/bits.OnesCount -/

def math_bits_OnesCount_n1 (x1072 : Int) : Option (Int) :=
  (math_bits_OnesCount64 x1072).bind fun (v1123 : Int) => some v1123

@[irreducible] def math_bits_OnesCount (x1072 : Int) : Option (Int) :=
  math_bits_OnesCount_n1 x1072

/-! (loop.example/headtrees/impl.wordSet).count -/

def impl_wordSet_count_n1 (x1071 : Int) : Option (Int) :=
  (math_bits_OnesCount x1071).bind fun (v1125 : Int) => some v1125

@[irreducible] def impl_wordSet_count (x1071 : Int) : Option (Int) :=
  impl_wordSet_count_n1 x1071

/-! math/bits.TrailingZeros64 -/

def math_bits_TrailingZeros64_n1 (x1132 : Int) : Option (Int) :=
  cond (x1132 == 0) (some 64) ((shr .u64 (IntKind.wrap .u64 ((iand .u64 x1132 (IntKind.wrap .u64 (0 - x1132))) * 285870213051353865)) 58).bind fun (v1149 : Int) => (same (List.length tab1) 64).bind fun (v1150 : Unit) => (idx tab1 v1149).bind fun (v1151 : Int) => some (IntKind.wrap .i64 v1151))

@[irreducible] def math_bits_TrailingZeros64 (x1132 : Int) : Option (Int) :=
  math_bits_TrailingZeros64_n1 x1132

/-! math/bits.TrailingZeros -/

def math_bits_TrailingZeros_n1 (x1131 : Int) : Option (Int) :=
  (math_bits_TrailingZeros64 x1131).bind fun (v1155 : Int) => some v1155

@[irreducible] def math_bits_TrailingZeros (x1131 : Int) : Option (Int) :=
  math_bits_TrailingZeros_n1 x1131

/-! (loop.example/headtrees/impl.wordSet).list -/

def impl_wordSet_list_n1 (x1070 : Int) : Option (((List Int))) :=
  (impl_wordSet_count x1070).bind fun (v1126 : Int) => (mk 0 v1126).bind fun (v1127 : Nat) => some (List.replicate v1127 (0 : Int))

def impl_wordSet_list_n2 : Option (Unit) :=
  some ()

def impl_wordSet_list_n3 (x1171 : Int) (x1172 : List Int) : Option ((Int × (List Int)) ⊕ ((List Int))) :=
  cond (x1171 != 0) ((math_bits_TrailingZeros x1171).bind fun (v1182 : Int) => (room ((List.length x1172) + List.length ([(IntKind.wrap .i64 (v1182 + 1))]))).bind fun (v1186 : Unit) => some (Sum.inl ((iand .u64 x1171 (IntKind.wrap .u64 (x1171 - 1))), (x1172 ++ ([(IntKind.wrap .i64 (v1182 + 1))]))))) (some (Sum.inr x1172))

def impl_wordSet_list_n4 (x1070 : Int) (x1128 : List Int) : Option (((List Int))) :=
  nloop (fun (s : Int × (List Int)) => ((impl_wordSet_list_n3 s.1 s.2).map (Sum.elim (fun (t : Int × (List Int)) => Sum.inl (t.1, t.2)) (fun (t : (List Int)) => Sum.inr t)) : Option ((Int × (List Int)) ⊕ (((List Int)))))) LL (x1070, x1128)

def impl_wordSet_list_n5 (x1070 : Int) (x1128 : List Int) : Option (((List Int))) :=
  (impl_wordSet_list_n4 x1070 x1128).map (fun (t : (List Int)) => t)

def impl_wordSet_list_n6 (x1070 : Int) (x1128 : List Int) : Option (((List Int))) :=
  (impl_wordSet_list_n2).bind (fun (t : Unit) => impl_wordSet_list_n5 x1070 x1128)

def impl_wordSet_list_n7 (x1172 : List Int) : Option (((List Int))) :=
  some x1172

def impl_wordSet_list_n8 (x1070 : Int) (x1128 : List Int) : Option (((List Int))) :=
  (impl_wordSet_list_n6 x1070 x1128).bind (fun (t : (List Int)) => impl_wordSet_list_n7 t)

def impl_wordSet_list_n9 (x1070 : Int) : Option (((List Int))) :=
  (impl_wordSet_list_n1 x1070).bind (fun (t : (List Int)) => impl_wordSet_list_n8 x1070 t)

@[irreducible] def impl_wordSet_list (x1070 : Int) : Option ((List Int)) :=
  impl_wordSet_list_n9 x1070

/-! loop.example/headtrees/impl.fillYields -/

def impl_fillYields_n1 (R0 : (List Int) → Int → (List Int) → Option (Int × (List Int))) (x1020 : Int) : Option (Int) :=
  (impl_only x1020).bind fun (v1206 : Int) => some v1206

def impl_fillYields_n2 (R0 : (List Int) → Int → (List Int) → Option (Int × (List Int))) (x1019 : List Int) (x1020 : Int) : Option ((Int × (List Int))) :=
  (impl_dependents x1019 x1020).bind fun (v1207 : Int) => (impl_wordSet_list v1207).bind fun (v1208 : List Int) => some ((((List.length v1208 : Nat) : Int)), v1208)

def impl_fillYields_n3 (R0 : (List Int) → Int → (List Int) → Option (Int × (List Int))) (x1019 : List Int) (x1227 : Int) (x1209 : Int) (x1228 : Int) (x1229 : List Int) (x1208 : List Int) : Option ((Int × Int × (List Int)) ⊕ (Int × (List Int))) :=
  cond (decide (x1228 < x1209)) ((inb x1228 (List.length x1208)).bind fun (v1240 : Nat) => (x1208[v1240]?).bind fun (v1241 : Int) => (R0 x1019 v1241 x1229).bind fun (v1242 : Int × (List Int)) => some (Sum.inl ((ior .u64 x1227 (v1242.1)), (IntKind.wrap .i64 (x1228 + 1)), (v1242.2)))) (some (Sum.inr (x1227, x1229)))

def impl_fillYields_n4 (R0 : (List Int) → Int → (List Int) → Option (Int × (List Int))) (x1019 : List Int) (x1206 : Int) (x1209 : Int) (x1021 : List Int) (x1208 : List Int) : Option ((Int × (List Int))) :=
  nloop (fun (s : Int × Int × (List Int)) => ((impl_fillYields_n3 R0 x1019 s.1 x1209 s.2.1 s.2.2 x1208).map (Sum.elim (fun (t : Int × Int × (List Int)) => Sum.inl (t.1, t.2.1, t.2.2)) (fun (t : Int × (List Int)) => Sum.inr t)) : Option ((Int × Int × (List Int)) ⊕ ((Int × (List Int)))))) LL (x1206, 0, x1021)

def impl_fillYields_n5 (R0 : (List Int) → Int → (List Int) → Option (Int × (List Int))) (x1019 : List Int) (x1206 : Int) (x1209 : Int) (x1021 : List Int) (x1208 : List Int) : Option ((Int × (List Int))) :=
  (impl_fillYields_n4 R0 x1019 x1206 x1209 x1021 x1208).map (fun (t : Int × (List Int)) => (t.1, t.2))

def impl_fillYields_n6 (R0 : (List Int) → Int → (List Int) → Option (Int × (List Int))) (x1019 : List Int) (x1020 : Int) (x1206 : Int) (x1021 : List Int) : Option ((Int × (List Int))) :=
  (impl_fillYields_n2 R0 x1019 x1020).bind (fun (t : Int × (List Int)) => impl_fillYields_n5 R0 x1019 x1206 t.1 x1021 t.2)

def impl_fillYields_n7 (R0 : (List Int) → Int → (List Int) → Option (Int × (List Int))) (x1020 : Int) (x1227 : Int) (x1229 : List Int) : Option ((Int × (List Int))) :=
  (inb (IntKind.wrap .i64 (x1020 - 1)) (List.length x1229)).bind fun (v1254 : Nat) => some (x1227, (x1229.set v1254 x1227))

def impl_fillYields_n8 (R0 : (List Int) → Int → (List Int) → Option (Int × (List Int))) (x1019 : List Int) (x1020 : Int) (x1206 : Int) (x1021 : List Int) : Option ((Int × (List Int))) :=
  (impl_fillYields_n6 R0 x1019 x1020 x1206 x1021).bind (fun (t : Int × (List Int)) => impl_fillYields_n7 R0 x1020 t.1 t.2)

def impl_fillYields_n9 (R0 : (List Int) → Int → (List Int) → Option (Int × (List Int))) (x1019 : List Int) (x1020 : Int) (x1021 : List Int) : Option ((Int × (List Int))) :=
  (impl_fillYields_n1 R0 x1020).bind (fun (t : Int) => impl_fillYields_n8 R0 x1019 x1020 t x1021)

def impl_fillYields_one (R0 : (List Int) → Int → (List Int) → Option (Int × (List Int))) (x1019 : List Int) (x1020 : Int) (x1021 : List Int) : Option (Int × (List Int)) :=
  impl_fillYields_n9 R0 x1019 x1020 x1021

def impl_fillYields_knot : Nat → ((List Int) → Int → (List Int) → Option (Int × (List Int)))
  | 0 => (fun _ _ _ => none)
  | n + 1 => (fun y0 y1 y2 => impl_fillYields_one (impl_fillYields_knot n) y0 y1 y2)

def impl_fillYields_fuel (n : Nat) : (List Int) → Int → (List Int) → Option (Int × (List Int)) := (impl_fillYields_knot n)

@[irreducible] def impl_fillYields (x1019 : List Int) (x1020 : Int) (x1021 : List Int) : Option (Int × (List Int)) := impl_fillYields_fuel RR x1019 x1020 x1021

/-! loop.example/headtrees/impl.yieldsOf -/

def impl_yieldsOf_n1 (x987 : List Int) : Option (((List Int))) :=
  (mk (((List.length x987 : Nat) : Int)) (((List.length x987 : Nat) : Int))).bind fun (v1267 : Nat) => (impl_RootOf x987).bind fun (v1269 : Int) => (impl_fillYields x987 v1269 (List.replicate v1267 (0 : Int))).bind fun (v1270 : Int × (List Int)) => some (v1270.2)

@[irreducible] def impl_yieldsOf (x987 : List Int) : Option ((List Int)) :=
  impl_yieldsOf_n1 x987

/-! loop.example/headtrees/impl.YieldOf -/

def impl_YieldOf_n1 (x830 : List Int) (x831 : Int) : Option (((List Int))) :=
  (impl_wordOk x830 x831).bind fun (v1278 : Bool) => cond (!v1278) (some ([] : List Int)) ((impl_yieldsOf x830).bind fun (v1280 : List Int) => (inb (IntKind.wrap .i64 (x831 - 1)) (List.length v1280)).bind fun (v1282 : Nat) => (v1280[v1282]?).bind fun (v1283 : Int) => (impl_wordSet_list v1283).bind fun (v1284 : List Int) => some v1284)

@[irreducible] def impl_YieldOf (x830 : List Int) (x831 : Int) : Option ((List Int)) :=
  impl_YieldOf_n1 x830 x831

/-! loop.example/headtrees/spec.l1In -/

def spec_l1In_n1 (x1298 : Int) (x1299 : Int) (x1300 : Int) : Option (Bool) :=
  cond (decide (x1298 ≥ x1299)) (some (decide (x1298 ≤ x1300))) (some false)

@[irreducible] def spec_l1In (x1298 : Int) (x1299 : Int) (x1300 : Int) : Option (Bool) :=
  spec_l1In_n1 x1298 x1299 x1300

/-! loop.example/headtrees/spec.TreeOk -/

def spec_TreeOk_n1 (x1295 : List Int) : Option (Int ⊕ Bool) :=
  (spec_l1In (((List.length x1295 : Nat) : Int)) 1 8).bind fun (v1309 : Bool) => cond (!v1309) (some (Sum.inr false)) (some (Sum.inl (((List.length x1295 : Nat) : Int))))

def spec_TreeOk_n2 : Option (Unit) :=
  some ()

def spec_TreeOk_n3 (x1308 : Int) (x1375 : Int) (x1376 : Int) : Option (Unit ⊕ Int) :=
  cond (decide (x1376 < x1308)) (some (Sum.inl ())) (some (Sum.inr x1375))

def spec_TreeOk_n4 (x1295 : List Int) (x1308 : Int) (x1375 : Int) (x1376 : Int) : Option ((Int × Int) ⊕ Bool) :=
  (idx x1295 x1376).bind fun (v1393 : Int) => (spec_l1In v1393 0 x1308).bind fun (v1394 : Bool) => cond (!v1394) (some (Sum.inr false)) ((idx x1295 x1376).bind fun (v1396 : Int) => cond (v1396 == (IntKind.wrap .i64 (x1376 + 1))) (some (Sum.inr false)) ((idx x1295 x1376).bind fun (v1399 : Int) => cond (v1399 == 0) (some (Sum.inl ((IntKind.wrap .i64 (x1375 + 1)), (IntKind.wrap .i64 (x1376 + 1))))) (some (Sum.inl (x1375, (IntKind.wrap .i64 (x1376 + 1)))))))

def spec_TreeOk_n5 : Option (Unit) :=
  some ()

def spec_TreeOk_n6 (x1295 : List Int) (x1308 : Int) (x1421 : Int) (x1422 : Int) : Option ((Int × Int) ⊕ Bool ⊕ Int) :=
  cond (decide (x1421 > 0)) (cond (decide (x1422 < x1308)) ((idx x1295 (IntKind.wrap .i64 (x1421 - 1))).bind fun (v1434 : Int) => (spec_l1In v1434 0 x1308).bind fun (v1435 : Bool) => cond (!v1435) (some (Sum.inr (Sum.inl false))) (some (Sum.inl (v1434, (IntKind.wrap .i64 (x1422 + 1)))))) (some (Sum.inr (Sum.inr x1421)))) (some (Sum.inr (Sum.inr x1421)))

def spec_TreeOk_n7 (x1295 : List Int) (x1308 : Int) (x1405 : Int) : Option (Bool ⊕ Int) :=
  nloop (fun (s : Int × Int) => ((spec_TreeOk_n6 x1295 x1308 s.1 s.2).map (Sum.elim (fun (t : Int × Int) => Sum.inl (t.1, t.2)) (Sum.elim (fun (t : Bool) => Sum.inr (Sum.inl t)) (fun (t : Int) => Sum.inr (Sum.inr t)))) : Option ((Int × Int) ⊕ (Bool ⊕ Int)))) LL (x1405, 0)

def spec_TreeOk_n8 (x1295 : List Int) (x1308 : Int) (x1405 : Int) : Option (Int ⊕ Bool) :=
  (spec_TreeOk_n7 x1295 x1308 x1405).map (Sum.elim (fun (t : Bool) => (Sum.inr t)) (fun (t : Int) => (Sum.inl t)))

def spec_TreeOk_n9 (x1295 : List Int) (x1308 : Int) (x1405 : Int) : Option (Int ⊕ Bool) :=
  (spec_TreeOk_n5).bind (fun (t : Unit) => spec_TreeOk_n8 x1295 x1308 x1405)

def spec_TreeOk_n10 (x1421 : Int) : Option (Unit ⊕ Bool) :=
  cond (decide (x1421 > 0)) (some (Sum.inr false)) (some (Sum.inl ()))

def spec_TreeOk_n11 (x1295 : List Int) (x1308 : Int) (x1405 : Int) : Option (Unit ⊕ Bool) :=
  (spec_TreeOk_n9 x1295 x1308 x1405).bind (Sum.elim (fun (t : Int) => spec_TreeOk_n10 t) (fun e => some ((fun (t : Bool) => (Sum.inr t)) e)))

def spec_TreeOk_n12 (x1295 : List Int) (x1308 : Int) (x1375 : Int) (x1376 : Int) : Option (Int ⊕ Bool) :=
  (spec_TreeOk_n4 x1295 x1308 x1375 x1376).bind (Sum.elim (fun (t : Int × Int) => (spec_TreeOk_n11 x1295 x1308 t.2).map (Sum.elim (fun (u : Unit) => (Sum.inl t.1)) (fun (u : Bool) => (Sum.inr u)))) (fun e => some ((fun (t : Bool) => (Sum.inr t)) e)))

def spec_TreeOk_n13 (x1295 : List Int) (x1308 : Int) (x1375 : Int) (x1376 : Int) : Option (Int ⊕ Bool) :=
  (spec_TreeOk_n12 x1295 x1308 x1375 x1376).map (Sum.elim (fun (t : Int) => (Sum.inl t)) (fun (t : Bool) => (Sum.inr t)))

def spec_TreeOk_n14 (x1376 : Int) : Option (Int) :=
  some (IntKind.wrap .i64 (x1376 + 1))

def spec_TreeOk_n15 (x1295 : List Int) (x1308 : Int) (x1375 : Int) (x1376 : Int) : Option ((Int × Int) ⊕ Bool) :=
  (spec_TreeOk_n13 x1295 x1308 x1375 x1376).bind (Sum.elim (fun (t : Int) => (spec_TreeOk_n14 x1376).map (fun (u : Int) => (Sum.inl (t, u)))) (fun e => some ((fun (t : Bool) => (Sum.inr t)) e)))

def spec_TreeOk_n16 (x1295 : List Int) (x1308 : Int) (x1375 : Int) (x1376 : Int) : Option ((Int × Int) ⊕ Bool ⊕ Int) :=
  (spec_TreeOk_n3 x1308 x1375 x1376).bind (Sum.elim (fun (t : Unit) => (spec_TreeOk_n15 x1295 x1308 x1375 x1376).map (Sum.elim (fun (t : Int × Int) => (Sum.inl (t.1, t.2))) (fun (t : Bool) => (Sum.inr (Sum.inl t))))) (fun e => some ((fun (t : Int) => (Sum.inr (Sum.inr t))) e)))

def spec_TreeOk_n17 (x1295 : List Int) (x1308 : Int) : Option (Bool ⊕ Int) :=
  nloop (fun (s : Int × Int) => ((spec_TreeOk_n16 x1295 x1308 s.1 s.2).map (Sum.elim (fun (t : Int × Int) => Sum.inl (t.1, t.2)) (Sum.elim (fun (t : Bool) => Sum.inr (Sum.inl t)) (fun (t : Int) => Sum.inr (Sum.inr t)))) : Option ((Int × Int) ⊕ (Bool ⊕ Int)))) LL (0, 0)

def spec_TreeOk_n18 (x1295 : List Int) (x1308 : Int) : Option (Int ⊕ Bool) :=
  (spec_TreeOk_n17 x1295 x1308).map (Sum.elim (fun (t : Bool) => (Sum.inr t)) (fun (t : Int) => (Sum.inl t)))

def spec_TreeOk_n19 (x1295 : List Int) (x1308 : Int) : Option (Int ⊕ Bool) :=
  (spec_TreeOk_n2).bind (fun (t : Unit) => spec_TreeOk_n18 x1295 x1308)

def spec_TreeOk_n20 (x1375 : Int) : Option (Bool) :=
  some (x1375 == 1)

def spec_TreeOk_n21 (x1295 : List Int) (x1308 : Int) : Option (Bool) :=
  (spec_TreeOk_n19 x1295 x1308).bind (Sum.elim (fun (t : Int) => spec_TreeOk_n20 t) (fun e => some ((fun (t : Bool) => t) e)))

def spec_TreeOk_n22 (x1295 : List Int) : Option (Bool) :=
  (spec_TreeOk_n1 x1295).bind (Sum.elim (fun (t : Int) => spec_TreeOk_n21 x1295 t) (fun e => some ((fun (t : Bool) => t) e)))

@[irreducible] def spec_TreeOk (x1295 : List Int) : Option (Bool) :=
  spec_TreeOk_n22 x1295

/-! loop.example/headtrees/spec.l2Yield -/

def spec_l2Yield_n1 (R0 : (List Int) → Int → Option Int) (x1455 : Int) : Option (Int) :=
  (shl .i64 1 (IntKind.wrap .i64 (x1455 - 1))).bind fun (v1486 : Int) => some v1486

def spec_l2Yield_n2 (R0 : (List Int) → Int → Option Int) : Option (Unit) :=
  some ()

def spec_l2Yield_n3 (R0 : (List Int) → Int → Option Int) (x1454 : List Int) (x1455 : Int) (x1507 : Int) (x1508 : Int) : Option ((Int × Int) ⊕ Int) :=
  cond (decide (x1508 < (((List.length x1454 : Nat) : Int)))) ((idx x1454 x1508).bind fun (v1520 : Int) => cond (v1520 == x1455) ((R0 x1454 (IntKind.wrap .i64 (x1508 + 1))).bind fun (v1523 : Int) => some (Sum.inl ((ior .i64 x1507 v1523), (IntKind.wrap .i64 (x1508 + 1))))) (some (Sum.inl (x1507, (IntKind.wrap .i64 (x1508 + 1)))))) (some (Sum.inr x1507))

def spec_l2Yield_n4 (R0 : (List Int) → Int → Option Int) (x1454 : List Int) (x1455 : Int) (x1486 : Int) : Option (Int) :=
  nloop (fun (s : Int × Int) => ((spec_l2Yield_n3 R0 x1454 x1455 s.1 s.2).map (Sum.elim (fun (t : Int × Int) => Sum.inl (t.1, t.2)) (fun (t : Int) => Sum.inr t)) : Option ((Int × Int) ⊕ (Int)))) LL (x1486, 0)

def spec_l2Yield_n5 (R0 : (List Int) → Int → Option Int) (x1454 : List Int) (x1455 : Int) (x1486 : Int) : Option (Int) :=
  (spec_l2Yield_n4 R0 x1454 x1455 x1486).map (fun (t : Int) => t)

def spec_l2Yield_n6 (R0 : (List Int) → Int → Option Int) (x1454 : List Int) (x1455 : Int) (x1486 : Int) : Option (Int) :=
  (spec_l2Yield_n2 R0).bind (fun (t : Unit) => spec_l2Yield_n5 R0 x1454 x1455 x1486)

def spec_l2Yield_n7 (R0 : (List Int) → Int → Option Int) (x1507 : Int) : Option (Int) :=
  some x1507

def spec_l2Yield_n8 (R0 : (List Int) → Int → Option Int) (x1454 : List Int) (x1455 : Int) (x1486 : Int) : Option (Int) :=
  (spec_l2Yield_n6 R0 x1454 x1455 x1486).bind (fun (t : Int) => spec_l2Yield_n7 R0 t)

def spec_l2Yield_n9 (R0 : (List Int) → Int → Option Int) (x1454 : List Int) (x1455 : Int) : Option (Int) :=
  (spec_l2Yield_n1 R0 x1455).bind (fun (t : Int) => spec_l2Yield_n8 R0 x1454 x1455 t)

def spec_l2Yield_one (R0 : (List Int) → Int → Option Int) (x1454 : List Int) (x1455 : Int) : Option (Int) :=
  spec_l2Yield_n9 R0 x1454 x1455

def spec_l2Yield_knot : Nat → ((List Int) → Int → Option Int)
  | 0 => (fun _ _ => none)
  | n + 1 => (fun y0 y1 => spec_l2Yield_one (spec_l2Yield_knot n) y0 y1)

def spec_l2Yield_fuel (n : Nat) : (List Int) → Int → Option Int := (spec_l2Yield_knot n)

@[irreducible] def spec_l2Yield (x1454 : List Int) (x1455 : Int) : Option (Int) := spec_l2Yield_fuel RR x1454 x1455

/-! loop.example/headtrees/spec.l2Words -/

def spec_l2Words_n1 : Option (Unit) :=
  some ()

def spec_l2Words_n2 : Option (Unit) :=
  some ()

def spec_l2Words_n3 (x1530 : Int) (x1557 : Int) (x1558 : List Int) : Option ((Int × (List Int)) ⊕ ((List Int))) :=
  (shr .i64 x1530 x1557).bind fun (v1571 : Int) => cond (decide (v1571 > 0)) ((shr .i64 x1530 x1557).bind fun (v1573 : Int) => (rem v1573 2).bind fun (v1574 : Int) => cond (v1574 == 1) ((room ((List.length x1558) + List.length ([(IntKind.wrap .i64 (x1557 + 1))]))).bind fun (v1579 : Unit) => some (Sum.inl ((IntKind.wrap .i64 (x1557 + 1)), (x1558 ++ ([(IntKind.wrap .i64 (x1557 + 1))]))))) (some (Sum.inl ((IntKind.wrap .i64 (x1557 + 1)), x1558)))) (some (Sum.inr x1558))

def spec_l2Words_n4 (x1530 : Int) : Option (((List Int))) :=
  nloop (fun (s : Int × (List Int)) => ((spec_l2Words_n3 x1530 s.1 s.2).map (Sum.elim (fun (t : Int × (List Int)) => Sum.inl (t.1, t.2)) (fun (t : (List Int)) => Sum.inr t)) : Option ((Int × (List Int)) ⊕ (((List Int)))))) LL (0, ([] : List Int))

def spec_l2Words_n5 (x1530 : Int) : Option (((List Int))) :=
  (spec_l2Words_n4 x1530).map (fun (t : (List Int)) => t)

def spec_l2Words_n6 (x1530 : Int) : Option (((List Int))) :=
  (spec_l2Words_n2).bind (fun (t : Unit) => spec_l2Words_n5 x1530)

def spec_l2Words_n7 (x1558 : List Int) : Option (((List Int))) :=
  some x1558

def spec_l2Words_n8 (x1530 : Int) : Option (((List Int))) :=
  (spec_l2Words_n6 x1530).bind (fun (t : (List Int)) => spec_l2Words_n7 t)

def spec_l2Words_n9 (x1530 : Int) : Option (((List Int))) :=
  (spec_l2Words_n1).bind (fun (t : Unit) => spec_l2Words_n8 x1530)

@[irreducible] def spec_l2Words (x1530 : Int) : Option ((List Int)) :=
  spec_l2Words_n9 x1530

/-! loop.example/headtrees/spec.YieldOf -/

def spec_YieldOf_n1 (x1293 : List Int) (x1294 : Int) : Option (((List Int))) :=
  (spec_TreeOk x1293).bind fun (v1586 : Bool) => cond (!v1586) (some ([] : List Int)) ((spec_l1In x1294 1 (((List.length x1293 : Nat) : Int))).bind fun (v1589 : Bool) => cond (!v1589) (some ([] : List Int)) ((spec_l2Yield x1293 x1294).bind fun (v1591 : Int) => (spec_l2Words v1591).bind fun (v1592 : List Int) => some v1592))

@[irreducible] def spec_YieldOf (x1293 : List Int) (x1294 : Int) : Option ((List Int)) :=
  spec_YieldOf_n1 x1293 x1294

/-! loop.example/headtrees/laws.sameInts -/

def laws_sameInts_n1 (x1595 : List Int) (x1596 : List Int) : Option (Unit ⊕ Bool) :=
  cond ((((List.length x1595 : Nat) : Int)) != (((List.length x1596 : Nat) : Int))) (some (Sum.inr false)) (some (Sum.inl ()))

def laws_sameInts_n2 : Option (Unit) :=
  some ()

def laws_sameInts_n3 (x1595 : List Int) (x1596 : List Int) (x1613 : Int) : Option (Int ⊕ Bool ⊕ Unit) :=
  cond (decide (x1613 < (((List.length x1595 : Nat) : Int)))) ((idx x1595 x1613).bind fun (v1623 : Int) => (idx x1596 x1613).bind fun (v1624 : Int) => cond (v1623 != v1624) (some (Sum.inr (Sum.inl false))) (some (Sum.inl (IntKind.wrap .i64 (x1613 + 1))))) (some (Sum.inr (Sum.inr ())))

def laws_sameInts_n4 (x1595 : List Int) (x1596 : List Int) : Option (Bool ⊕ Unit) :=
  nloop (fun (s : Int) => ((laws_sameInts_n3 x1595 x1596 s).map (Sum.elim (fun (t : Int) => Sum.inl t) (Sum.elim (fun (t : Bool) => Sum.inr (Sum.inl t)) (fun (t : Unit) => Sum.inr (Sum.inr t)))) : Option ((Int) ⊕ (Bool ⊕ Unit)))) LL 0

def laws_sameInts_n5 (x1595 : List Int) (x1596 : List Int) : Option (Unit ⊕ Bool) :=
  (laws_sameInts_n4 x1595 x1596).map (Sum.elim (fun (t : Bool) => (Sum.inr t)) (fun (t : Unit) => (Sum.inl ())))

def laws_sameInts_n6 (x1595 : List Int) (x1596 : List Int) : Option (Unit ⊕ Bool) :=
  (laws_sameInts_n2).bind (fun (t : Unit) => laws_sameInts_n5 x1595 x1596)

def laws_sameInts_n7 : Option (Bool) :=
  some true

def laws_sameInts_n8 (x1595 : List Int) (x1596 : List Int) : Option (Bool) :=
  (laws_sameInts_n6 x1595 x1596).bind (Sum.elim (fun (t : Unit) => laws_sameInts_n7) (fun e => some ((fun (t : Bool) => t) e)))

def laws_sameInts_n9 (x1595 : List Int) (x1596 : List Int) : Option (Bool) :=
  (laws_sameInts_n1 x1595 x1596).bind (Sum.elim (fun (t : Unit) => laws_sameInts_n8 x1595 x1596) (fun e => some ((fun (t : Bool) => t) e)))

@[irreducible] def laws_sameInts (x1595 : List Int) (x1596 : List Int) : Option (Bool) :=
  laws_sameInts_n9 x1595 x1596

/-! loop.example/headtrees/laws.alive -/

def laws_alive_n1 : Option (Bool) :=
  (impl_TreeOk ([0])).bind fun (v1647 : Bool) => cond v1647 ((impl_TreeOk ([1])).bind fun (v1649 : Bool) => some (!v1649)) (some false)

@[irreducible] def laws_alive : Option (Bool) :=
  laws_alive_n1

/-! loop.example/headtrees/laws.hasInt -/

def laws_hasInt_n1 : Option (Unit) :=
  some ()

def laws_hasInt_n2 : Option (Unit) :=
  some ()

def laws_hasInt_n3 (x1663 : List Int) (x1664 : Int) (x1676 : Int) : Option (Int ⊕ Bool ⊕ Unit) :=
  cond (decide (x1676 < (((List.length x1663 : Nat) : Int)))) ((idx x1663 x1676).bind fun (v1685 : Int) => cond (v1685 == x1664) (some (Sum.inr (Sum.inl true))) (some (Sum.inl (IntKind.wrap .i64 (x1676 + 1))))) (some (Sum.inr (Sum.inr ())))

def laws_hasInt_n4 (x1663 : List Int) (x1664 : Int) : Option (Bool ⊕ Unit) :=
  nloop (fun (s : Int) => ((laws_hasInt_n3 x1663 x1664 s).map (Sum.elim (fun (t : Int) => Sum.inl t) (Sum.elim (fun (t : Bool) => Sum.inr (Sum.inl t)) (fun (t : Unit) => Sum.inr (Sum.inr t)))) : Option ((Int) ⊕ (Bool ⊕ Unit)))) LL 0

def laws_hasInt_n5 (x1663 : List Int) (x1664 : Int) : Option (Unit ⊕ Bool) :=
  (laws_hasInt_n4 x1663 x1664).map (Sum.elim (fun (t : Bool) => (Sum.inr t)) (fun (t : Unit) => (Sum.inl ())))

def laws_hasInt_n6 (x1663 : List Int) (x1664 : Int) : Option (Unit ⊕ Bool) :=
  (laws_hasInt_n2).bind (fun (t : Unit) => laws_hasInt_n5 x1663 x1664)

def laws_hasInt_n7 : Option (Bool) :=
  some false

def laws_hasInt_n8 (x1663 : List Int) (x1664 : Int) : Option (Bool) :=
  (laws_hasInt_n6 x1663 x1664).bind (Sum.elim (fun (t : Unit) => laws_hasInt_n7) (fun e => some ((fun (t : Bool) => t) e)))

def laws_hasInt_n9 (x1663 : List Int) (x1664 : Int) : Option (Bool) :=
  (laws_hasInt_n1).bind (fun (t : Unit) => laws_hasInt_n8 x1663 x1664)

@[irreducible] def laws_hasInt (x1663 : List Int) (x1664 : Int) : Option (Bool) :=
  laws_hasInt_n9 x1663 x1664

/-! loop.example/headtrees/laws.ascend -/

def laws_ascend_n1 : Option (Unit) :=
  some ()

def laws_ascend_n2 : Option (Unit) :=
  some ()

def laws_ascend_n3 (x1786 : List Int) (x1802 : Int) : Option (Int ⊕ Bool ⊕ Unit) :=
  cond (decide (x1802 < (((List.length x1786 : Nat) : Int)))) ((idx x1786 (IntKind.wrap .i64 (x1802 - 1))).bind fun (v1814 : Int) => (idx x1786 x1802).bind fun (v1815 : Int) => cond (decide (v1814 ≥ v1815)) (some (Sum.inr (Sum.inl false))) (some (Sum.inl (IntKind.wrap .i64 (x1802 + 1))))) (some (Sum.inr (Sum.inr ())))

def laws_ascend_n4 (x1786 : List Int) : Option (Bool ⊕ Unit) :=
  nloop (fun (s : Int) => ((laws_ascend_n3 x1786 s).map (Sum.elim (fun (t : Int) => Sum.inl t) (Sum.elim (fun (t : Bool) => Sum.inr (Sum.inl t)) (fun (t : Unit) => Sum.inr (Sum.inr t)))) : Option ((Int) ⊕ (Bool ⊕ Unit)))) LL 1

def laws_ascend_n5 (x1786 : List Int) : Option (Unit ⊕ Bool) :=
  (laws_ascend_n4 x1786).map (Sum.elim (fun (t : Bool) => (Sum.inr t)) (fun (t : Unit) => (Sum.inl ())))

def laws_ascend_n6 (x1786 : List Int) : Option (Unit ⊕ Bool) :=
  (laws_ascend_n2).bind (fun (t : Unit) => laws_ascend_n5 x1786)

def laws_ascend_n7 : Option (Bool) :=
  some true

def laws_ascend_n8 (x1786 : List Int) : Option (Bool) :=
  (laws_ascend_n6 x1786).bind (Sum.elim (fun (t : Unit) => laws_ascend_n7) (fun e => some ((fun (t : Bool) => t) e)))

def laws_ascend_n9 (x1786 : List Int) : Option (Bool) :=
  (laws_ascend_n1).bind (fun (t : Unit) => laws_ascend_n8 x1786)

@[irreducible] def laws_ascend (x1786 : List Int) : Option (Bool) :=
  laws_ascend_n9 x1786

/-! loop.example/headtrees/laws.FnYieldOf -/

def laws_FnYieldOf_n1 (x2 : List Int) : Option ((Int × (List Int) × (List Int)) ⊕ Bool) :=
  cond (decide ((((List.length x2 : Nat) : Int)) > 1048576)) (some (Sum.inr true)) ((spec_DrawYieldOf x2).bind fun (v1632 : Int × (List Int)) => (impl_YieldOf (v1632.2) (v1632.1)).bind fun (v1635 : List Int) => (spec_YieldOf (v1632.2) (v1632.1)).bind fun (v1636 : List Int) => (laws_sameInts v1635 v1636).bind fun (v1637 : Bool) => cond (!v1637) (some (Sum.inr false)) (cond ((((List.length v1635 : Nat) : Int)) == 0) ((laws_alive).bind fun (v1652 : Bool) => some (Sum.inr v1652)) (some (Sum.inl ((v1632.1), (v1632.2), v1635)))))

def laws_FnYieldOf_n2 : Option (Unit) :=
  some ()

def laws_FnYieldOf_n3 (x1732 : Int) (x1634 : List Int) : Option (Unit ⊕ Unit) :=
  cond (decide (x1732 ≤ (((List.length x1634 : Nat) : Int)))) (some (Sum.inl ())) (some (Sum.inr ()))

def laws_FnYieldOf_n4 (x1732 : Int) (x1634 : List Int) : Option (((List Int))) :=
  (impl_YieldOf x1634 x1732).bind fun (v1736 : List Int) => some v1736

def laws_FnYieldOf_n5 : Option (Unit) :=
  some ()

def laws_FnYieldOf_n6 (x1755 : Int) (x1756 : Int) (x1635 : List Int) (x1736 : List Int) : Option ((Int × Int) ⊕ Int) :=
  cond (decide (x1756 < (((List.length x1736 : Nat) : Int)))) ((inb x1756 (List.length x1736)).bind fun (v1767 : Nat) => (x1736[v1767]?).bind fun (v1768 : Int) => (laws_hasInt x1635 v1768).bind fun (v1769 : Bool) => cond v1769 (some (Sum.inl ((IntKind.wrap .i64 (x1755 + 1)), (IntKind.wrap .i64 (x1756 + 1))))) (some (Sum.inl (x1755, (IntKind.wrap .i64 (x1756 + 1)))))) (some (Sum.inr x1755))

def laws_FnYieldOf_n7 (x1635 : List Int) (x1736 : List Int) : Option (Int) :=
  nloop (fun (s : Int × Int) => ((laws_FnYieldOf_n6 s.1 s.2 x1635 x1736).map (Sum.elim (fun (t : Int × Int) => Sum.inl (t.1, t.2)) (fun (t : Int) => Sum.inr t)) : Option ((Int × Int) ⊕ (Int)))) LL (0, 0)

def laws_FnYieldOf_n8 (x1635 : List Int) (x1736 : List Int) : Option (Int) :=
  (laws_FnYieldOf_n7 x1635 x1736).map (fun (t : Int) => t)

def laws_FnYieldOf_n9 (x1635 : List Int) (x1736 : List Int) : Option (Int) :=
  (laws_FnYieldOf_n5).bind (fun (t : Unit) => laws_FnYieldOf_n8 x1635 x1736)

def laws_FnYieldOf_n10 (x1755 : Int) (x1635 : List Int) (x1736 : List Int) : Option (Unit ⊕ Bool) :=
  cond (x1755 != 0) (cond (x1755 != (((List.length x1635 : Nat) : Int))) (cond (x1755 != (((List.length x1736 : Nat) : Int))) (some (Sum.inr false)) (some (Sum.inl ()))) (some (Sum.inl ()))) (some (Sum.inl ()))

def laws_FnYieldOf_n11 (x1635 : List Int) (x1736 : List Int) : Option (Unit ⊕ Bool) :=
  (laws_FnYieldOf_n9 x1635 x1736).bind (fun (t : Int) => laws_FnYieldOf_n10 t x1635 x1736)

def laws_FnYieldOf_n12 (x1732 : Int) (x1634 : List Int) (x1635 : List Int) : Option (Unit ⊕ Bool) :=
  (laws_FnYieldOf_n4 x1732 x1634).bind (fun (t : (List Int)) => laws_FnYieldOf_n11 x1635 t)

def laws_FnYieldOf_n13 (x1732 : Int) (x1634 : List Int) (x1635 : List Int) : Option (Unit ⊕ Bool) :=
  (laws_FnYieldOf_n12 x1732 x1634 x1635).map (Sum.elim (fun (t : Unit) => (Sum.inl ())) (fun (t : Bool) => (Sum.inr t)))

def laws_FnYieldOf_n14 (x1732 : Int) : Option (Int) :=
  some (IntKind.wrap .i64 (x1732 + 1))

def laws_FnYieldOf_n15 (x1732 : Int) (x1634 : List Int) (x1635 : List Int) : Option (Int ⊕ Bool) :=
  (laws_FnYieldOf_n13 x1732 x1634 x1635).bind (Sum.elim (fun (t : Unit) => (laws_FnYieldOf_n14 x1732).map (fun (t : Int) => (Sum.inl t))) (fun e => some ((fun (t : Bool) => (Sum.inr t)) e)))

def laws_FnYieldOf_n16 (x1732 : Int) (x1634 : List Int) (x1635 : List Int) : Option (Int ⊕ Bool ⊕ Unit) :=
  (laws_FnYieldOf_n3 x1732 x1634).bind (Sum.elim (fun (t : Unit) => (laws_FnYieldOf_n15 x1732 x1634 x1635).map (Sum.elim (fun (t : Int) => (Sum.inl t)) (fun (t : Bool) => (Sum.inr (Sum.inl t))))) (fun e => some ((fun (t : Unit) => (Sum.inr (Sum.inr t))) e)))

def laws_FnYieldOf_n17 (x1634 : List Int) (x1635 : List Int) : Option (Bool ⊕ Unit) :=
  nloop (fun (s : Int) => ((laws_FnYieldOf_n16 s x1634 x1635).map (Sum.elim (fun (t : Int) => Sum.inl t) (Sum.elim (fun (t : Bool) => Sum.inr (Sum.inl t)) (fun (t : Unit) => Sum.inr (Sum.inr t)))) : Option ((Int) ⊕ (Bool ⊕ Unit)))) LL 1

def laws_FnYieldOf_n18 (x1634 : List Int) (x1635 : List Int) : Option (Unit ⊕ Bool) :=
  (laws_FnYieldOf_n17 x1634 x1635).map (Sum.elim (fun (t : Bool) => (Sum.inr t)) (fun (t : Unit) => (Sum.inl ())))

def laws_FnYieldOf_n19 (x1634 : List Int) (x1635 : List Int) : Option (Unit ⊕ Bool) :=
  (laws_FnYieldOf_n2).bind (fun (t : Unit) => laws_FnYieldOf_n18 x1634 x1635)

def laws_FnYieldOf_n20 (x1633 : Int) (x1634 : List Int) (x1635 : List Int) : Option (Bool) :=
  (laws_ascend x1635).bind fun (v1827 : Bool) => cond v1827 ((laws_hasInt x1635 x1633).bind fun (v1828 : Bool) => cond v1828 ((impl_RootOf x1634).bind fun (v1832 : Int) => some (((((List.length x1635 : Nat) : Int)) == (((List.length x1634 : Nat) : Int))) == (v1832 == x1633))) (some false)) (some false)

def laws_FnYieldOf_n21 (x1633 : Int) (x1634 : List Int) (x1635 : List Int) : Option (Bool) :=
  (laws_FnYieldOf_n19 x1634 x1635).bind (Sum.elim (fun (t : Unit) => laws_FnYieldOf_n20 x1633 x1634 x1635) (fun e => some ((fun (t : Bool) => t) e)))

def laws_FnYieldOf_n22 (x2 : List Int) : Option (Bool) :=
  (laws_FnYieldOf_n1 x2).bind (Sum.elim (fun (t : Int × (List Int) × (List Int)) => laws_FnYieldOf_n21 t.1 t.2.1 t.2.2) (fun e => some ((fun (t : Bool) => t) e)))

@[irreducible] def laws_FnYieldOf (x2 : List Int) : Option (Bool) :=
  laws_FnYieldOf_n22 x2

/-! loop.example/headtrees/spec.DrawDependsOf -/

def spec_DrawDependsOf_n1 (x1842 : List Int) : Option ((Int × (List Int))) :=
  (spec_l20Open x1842).bind fun (v1854 : List Int) => (spec_l20Word v1854 0).bind fun (v1855 : Int × Int × (List Int)) => some ((IntKind.wrap .i64 ((v1855.1) - 1)), (v1855.2.2))

@[irreducible] def spec_DrawDependsOf (x1842 : List Int) : Option (Int × (List Int)) :=
  spec_DrawDependsOf_n1 x1842

/-! loop.example/headtrees/impl.DependsOf -/

def impl_DependsOf_n1 (x1868 : List Int) (x1869 : Int) : Option (((List Int))) :=
  (impl_TreeOk x1868).bind fun (v1882 : Bool) => cond (!v1882) (some ([] : List Int)) (cond (decide (x1869 < 0)) (some ([] : List Int)) (cond (decide (x1869 > (((List.length x1868 : Nat) : Int)))) (some ([] : List Int)) ((impl_dependents x1868 x1869).bind fun (v1887 : Int) => (impl_wordSet_list v1887).bind fun (v1888 : List Int) => some v1888)))

@[irreducible] def impl_DependsOf (x1868 : List Int) (x1869 : Int) : Option ((List Int)) :=
  impl_DependsOf_n1 x1868 x1869

/-! loop.example/headtrees/spec.DependsOf -/

def spec_DependsOf_n1 : Option (Unit) :=
  some ()

def spec_DependsOf_n2 : Option (Unit) :=
  some ()

def spec_DependsOf_n3 (x1897 : List Int) (x1898 : Int) (x1926 : Int) (x1927 : List Int) : Option ((Int × (List Int)) ⊕ ((List Int))) :=
  cond (decide (x1926 < (((List.length x1897 : Nat) : Int)))) ((spec_TreeOk x1897).bind fun (v1943 : Bool) => cond v1943 ((idx x1897 x1926).bind fun (v1944 : Int) => cond (v1944 == x1898) ((room ((List.length x1927) + List.length ([(IntKind.wrap .i64 (x1926 + 1))]))).bind fun (v1949 : Unit) => some (Sum.inl ((IntKind.wrap .i64 (x1926 + 1)), (x1927 ++ ([(IntKind.wrap .i64 (x1926 + 1))]))))) (some (Sum.inl ((IntKind.wrap .i64 (x1926 + 1)), x1927)))) (some (Sum.inr x1927))) (some (Sum.inr x1927))

def spec_DependsOf_n4 (x1897 : List Int) (x1898 : Int) : Option (((List Int))) :=
  nloop (fun (s : Int × (List Int)) => ((spec_DependsOf_n3 x1897 x1898 s.1 s.2).map (Sum.elim (fun (t : Int × (List Int)) => Sum.inl (t.1, t.2)) (fun (t : (List Int)) => Sum.inr t)) : Option ((Int × (List Int)) ⊕ (((List Int)))))) LL (0, ([] : List Int))

def spec_DependsOf_n5 (x1897 : List Int) (x1898 : Int) : Option (((List Int))) :=
  (spec_DependsOf_n4 x1897 x1898).map (fun (t : (List Int)) => t)

def spec_DependsOf_n6 (x1897 : List Int) (x1898 : Int) : Option (((List Int))) :=
  (spec_DependsOf_n2).bind (fun (t : Unit) => spec_DependsOf_n5 x1897 x1898)

def spec_DependsOf_n7 (x1927 : List Int) : Option (((List Int))) :=
  some x1927

def spec_DependsOf_n8 (x1897 : List Int) (x1898 : Int) : Option (((List Int))) :=
  (spec_DependsOf_n6 x1897 x1898).bind (fun (t : (List Int)) => spec_DependsOf_n7 t)

def spec_DependsOf_n9 (x1897 : List Int) (x1898 : Int) : Option (((List Int))) :=
  (spec_DependsOf_n1).bind (fun (t : Unit) => spec_DependsOf_n8 x1897 x1898)

@[irreducible] def spec_DependsOf (x1897 : List Int) (x1898 : Int) : Option ((List Int)) :=
  spec_DependsOf_n9 x1897 x1898

/-! loop.example/headtrees/laws.FnDependsOf -/

def laws_FnDependsOf_n1 (x1837 : List Int) : Option ((Int × (List Int) × (List Int) × (List Int)) ⊕ Bool) :=
  cond (decide ((((List.length x1837 : Nat) : Int)) > 1048576)) (some (Sum.inr true)) ((spec_DrawDependsOf x1837).bind fun (v2044 : Int × (List Int)) => (impl_DependsOf (v2044.2) (v2044.1)).bind fun (v2047 : List Int) => (spec_DependsOf (v2044.2) (v2044.1)).bind fun (v2048 : List Int) => (laws_sameInts v2047 v2048).bind fun (v2049 : Bool) => cond (!v2049) (some (Sum.inr false)) ((spec_TreeOk (v2044.2)).bind fun (v2051 : Bool) => cond (!v2051) (cond ((((List.length v2047 : Nat) : Int)) == 0) ((laws_alive).bind fun (v2055 : Bool) => some (Sum.inr v2055)) (some (Sum.inr false))) (cond (decide ((v2044.1) < 0)) (cond ((((List.length v2047 : Nat) : Int)) == 0) ((laws_alive).bind fun (v2059 : Bool) => some (Sum.inr v2059)) (some (Sum.inr false))) (cond (decide ((v2044.1) > (((List.length (v2044.2) : Nat) : Int)))) (cond ((((List.length v2047 : Nat) : Int)) == 0) ((laws_alive).bind fun (v2064 : Bool) => some (Sum.inr v2064)) (some (Sum.inr false))) (cond ((v2044.1) == 0) (cond ((((List.length v2047 : Nat) : Int)) == 1) ((inb 0 (List.length v2047)).bind fun (v2068 : Nat) => (v2047[v2068]?).bind fun (v2069 : Int) => (impl_RootOf (v2044.2)).bind fun (v2070 : Int) => some (Sum.inr (v2069 == v2070))) (some (Sum.inr false))) ((impl_YieldOf (v2044.2) (v2044.1)).bind fun (v2072 : List Int) => some (Sum.inl ((v2044.1), (v2044.2), v2047, v2072))))))))

def laws_FnDependsOf_n2 : Option (Unit) :=
  some ()

def laws_FnDependsOf_n3 (x2124 : Int) (x2125 : Int) (x2047 : List Int) : Option (Unit ⊕ Int) :=
  cond (decide (x2125 < (((List.length x2047 : Nat) : Int)))) (some (Sum.inl ())) (some (Sum.inr x2124))

def laws_FnDependsOf_n4 (x2125 : Int) (x2046 : List Int) (x2047 : List Int) : Option (((List Int))) :=
  (inb x2125 (List.length x2047)).bind fun (v2128 : Nat) => (x2047[v2128]?).bind fun (v2129 : Int) => (impl_YieldOf x2046 v2129).bind fun (v2130 : List Int) => some v2130

def laws_FnDependsOf_n5 : Option (Unit) :=
  some ()

def laws_FnDependsOf_n6 (x2045 : Int) (x2152 : Int) (x2072 : List Int) (x2130 : List Int) : Option (Int ⊕ Bool ⊕ Unit) :=
  cond (decide (x2152 < (((List.length x2130 : Nat) : Int)))) ((inb x2152 (List.length x2130)).bind fun (v2166 : Nat) => (x2130[v2166]?).bind fun (v2167 : Int) => (laws_hasInt x2072 v2167).bind fun (v2168 : Bool) => cond (!v2168) (some (Sum.inr (Sum.inl false))) ((inb x2152 (List.length x2130)).bind fun (v2170 : Nat) => (x2130[v2170]?).bind fun (v2171 : Int) => cond (v2171 == x2045) (some (Sum.inr (Sum.inl false))) (some (Sum.inl (IntKind.wrap .i64 (x2152 + 1)))))) (some (Sum.inr (Sum.inr ())))

def laws_FnDependsOf_n7 (x2045 : Int) (x2072 : List Int) (x2130 : List Int) : Option (Bool ⊕ Unit) :=
  nloop (fun (s : Int) => ((laws_FnDependsOf_n6 x2045 s x2072 x2130).map (Sum.elim (fun (t : Int) => Sum.inl t) (Sum.elim (fun (t : Bool) => Sum.inr (Sum.inl t)) (fun (t : Unit) => Sum.inr (Sum.inr t)))) : Option ((Int) ⊕ (Bool ⊕ Unit)))) LL 0

def laws_FnDependsOf_n8 (x2045 : Int) (x2072 : List Int) (x2130 : List Int) : Option (Unit ⊕ Bool) :=
  (laws_FnDependsOf_n7 x2045 x2072 x2130).map (Sum.elim (fun (t : Bool) => (Sum.inr t)) (fun (t : Unit) => (Sum.inl ())))

def laws_FnDependsOf_n9 (x2045 : Int) (x2072 : List Int) (x2130 : List Int) : Option (Unit ⊕ Bool) :=
  (laws_FnDependsOf_n5).bind (fun (t : Unit) => laws_FnDependsOf_n8 x2045 x2072 x2130)

def laws_FnDependsOf_n10 (x2124 : Int) (x2130 : List Int) : Option (Int) :=
  some (IntKind.wrap .i64 (x2124 + (((List.length x2130 : Nat) : Int))))

def laws_FnDependsOf_n11 (x2045 : Int) (x2124 : Int) (x2072 : List Int) (x2130 : List Int) : Option (Int ⊕ Bool) :=
  (laws_FnDependsOf_n9 x2045 x2072 x2130).bind (Sum.elim (fun (t : Unit) => (laws_FnDependsOf_n10 x2124 x2130).map (fun (t : Int) => (Sum.inl t))) (fun e => some ((fun (t : Bool) => (Sum.inr t)) e)))

def laws_FnDependsOf_n12 (x2045 : Int) (x2124 : Int) (x2125 : Int) (x2046 : List Int) (x2047 : List Int) (x2072 : List Int) : Option (Int ⊕ Bool) :=
  (laws_FnDependsOf_n4 x2125 x2046 x2047).bind (fun (t : (List Int)) => laws_FnDependsOf_n11 x2045 x2124 x2072 t)

def laws_FnDependsOf_n13 (x2045 : Int) (x2124 : Int) (x2125 : Int) (x2046 : List Int) (x2047 : List Int) (x2072 : List Int) : Option (Int ⊕ Bool) :=
  (laws_FnDependsOf_n12 x2045 x2124 x2125 x2046 x2047 x2072).map (Sum.elim (fun (t : Int) => (Sum.inl t)) (fun (t : Bool) => (Sum.inr t)))

def laws_FnDependsOf_n14 (x2125 : Int) : Option (Int) :=
  some (IntKind.wrap .i64 (x2125 + 1))

def laws_FnDependsOf_n15 (x2045 : Int) (x2124 : Int) (x2125 : Int) (x2046 : List Int) (x2047 : List Int) (x2072 : List Int) : Option ((Int × Int) ⊕ Bool) :=
  (laws_FnDependsOf_n13 x2045 x2124 x2125 x2046 x2047 x2072).bind (Sum.elim (fun (t : Int) => (laws_FnDependsOf_n14 x2125).map (fun (u : Int) => (Sum.inl (t, u)))) (fun e => some ((fun (t : Bool) => (Sum.inr t)) e)))

def laws_FnDependsOf_n16 (x2045 : Int) (x2124 : Int) (x2125 : Int) (x2046 : List Int) (x2047 : List Int) (x2072 : List Int) : Option ((Int × Int) ⊕ Bool ⊕ Int) :=
  (laws_FnDependsOf_n3 x2124 x2125 x2047).bind (Sum.elim (fun (t : Unit) => (laws_FnDependsOf_n15 x2045 x2124 x2125 x2046 x2047 x2072).map (Sum.elim (fun (t : Int × Int) => (Sum.inl (t.1, t.2))) (fun (t : Bool) => (Sum.inr (Sum.inl t))))) (fun e => some ((fun (t : Int) => (Sum.inr (Sum.inr t))) e)))

def laws_FnDependsOf_n17 (x2045 : Int) (x2046 : List Int) (x2047 : List Int) (x2072 : List Int) : Option (Bool ⊕ Int) :=
  nloop (fun (s : Int × Int) => ((laws_FnDependsOf_n16 x2045 s.1 s.2 x2046 x2047 x2072).map (Sum.elim (fun (t : Int × Int) => Sum.inl (t.1, t.2)) (Sum.elim (fun (t : Bool) => Sum.inr (Sum.inl t)) (fun (t : Int) => Sum.inr (Sum.inr t)))) : Option ((Int × Int) ⊕ (Bool ⊕ Int)))) LL (1, 0)

def laws_FnDependsOf_n18 (x2045 : Int) (x2046 : List Int) (x2047 : List Int) (x2072 : List Int) : Option (Int ⊕ Bool) :=
  (laws_FnDependsOf_n17 x2045 x2046 x2047 x2072).map (Sum.elim (fun (t : Bool) => (Sum.inr t)) (fun (t : Int) => (Sum.inl t)))

def laws_FnDependsOf_n19 (x2045 : Int) (x2046 : List Int) (x2047 : List Int) (x2072 : List Int) : Option (Int ⊕ Bool) :=
  (laws_FnDependsOf_n2).bind (fun (t : Unit) => laws_FnDependsOf_n18 x2045 x2046 x2047 x2072)

def laws_FnDependsOf_n20 (x2124 : Int) (x2047 : List Int) (x2072 : List Int) : Option (Bool) :=
  (laws_ascend x2047).bind fun (v2180 : Bool) => cond v2180 (some (x2124 == (((List.length x2072 : Nat) : Int)))) (some false)

def laws_FnDependsOf_n21 (x2045 : Int) (x2046 : List Int) (x2047 : List Int) (x2072 : List Int) : Option (Bool) :=
  (laws_FnDependsOf_n19 x2045 x2046 x2047 x2072).bind (Sum.elim (fun (t : Int) => laws_FnDependsOf_n20 t x2047 x2072) (fun e => some ((fun (t : Bool) => t) e)))

def laws_FnDependsOf_n22 (x1837 : List Int) : Option (Bool) :=
  (laws_FnDependsOf_n1 x1837).bind (Sum.elim (fun (t : Int × (List Int) × (List Int) × (List Int)) => laws_FnDependsOf_n21 t.1 t.2.1 t.2.2.1 t.2.2.2) (fun e => some ((fun (t : Bool) => t) e)))

@[irreducible] def laws_FnDependsOf (x1837 : List Int) : Option (Bool) :=
  laws_FnDependsOf_n22 x1837

/-! loop.example/headtrees/spec.DrawUnderOk -/

def spec_DrawUnderOk_n1 (x2190 : List Int) : Option ((Int × Int × (List Int))) :=
  (spec_l20Open x2190).bind fun (v2208 : List Int) => (spec_l20Word v2208 0).bind fun (v2209 : Int × Int × (List Int)) => (spec_l20Rd_pick (imax (((List.length (v2209.2.2) : Nat) : Int)) 1) v2208 (v2209.2.1)).bind fun (v2215 : Int × Int) => some ((IntKind.wrap .i64 (1 + (v2215.1))), (v2209.1), (v2209.2.2))

@[irreducible] def spec_DrawUnderOk (x2190 : List Int) : Option (Int × Int × (List Int)) :=
  spec_DrawUnderOk_n1 x2190

/-! (loop.example/headtrees/impl.wordSet).hasAll -/

def impl_wordSet_hasAll_n1 (x2245 : Int) (x2246 : Int) : Option (Bool) :=
  some ((iand .u64 x2245 x2246) == x2246)

@[irreducible] def impl_wordSet_hasAll (x2245 : Int) (x2246 : Int) : Option (Bool) :=
  impl_wordSet_hasAll_n1 x2245 x2246

/-! loop.example/headtrees/impl.UnderOk -/

def impl_UnderOk_n1 (x2229 : List Int) (x2230 : Int) (x2231 : Int) : Option (Bool) :=
  (impl_wordOk x2229 x2230).bind fun (v2252 : Bool) => cond (!v2252) (some false) ((impl_wordOk x2229 x2231).bind fun (v2254 : Bool) => cond (!v2254) (some false) ((impl_yieldsOf x2229).bind fun (v2257 : List Int) => (inb (IntKind.wrap .i64 (x2231 - 1)) (List.length v2257)).bind fun (v2258 : Nat) => (v2257[v2258]?).bind fun (v2259 : Int) => (impl_only x2230).bind fun (v2260 : Int) => (impl_wordSet_hasAll v2259 v2260).bind fun (v2261 : Bool) => some v2261))

@[irreducible] def impl_UnderOk (x2229 : List Int) (x2230 : Int) (x2231 : Int) : Option (Bool) :=
  impl_UnderOk_n1 x2229 x2230 x2231

/-! loop.example/headtrees/spec.UnderOk -/

def spec_UnderOk_n1 (x2271 : List Int) (x2272 : Int) (x2273 : Int) : Option (Bool) :=
  (spec_TreeOk x2271).bind fun (v2295 : Bool) => cond (!v2295) (some false) ((spec_l1In x2272 1 (((List.length x2271 : Nat) : Int))).bind fun (v2298 : Bool) => cond (!v2298) (some false) ((spec_l1In x2273 1 (((List.length x2271 : Nat) : Int))).bind fun (v2301 : Bool) => cond (!v2301) (some false) ((spec_l2Yield x2271 x2273).bind fun (v2303 : Int) => (shr .i64 v2303 (IntKind.wrap .i64 (x2272 - 1))).bind fun (v2305 : Int) => (rem v2305 2).bind fun (v2306 : Int) => some (v2306 == 1))))

@[irreducible] def spec_UnderOk (x2271 : List Int) (x2272 : Int) (x2273 : Int) : Option (Bool) :=
  spec_UnderOk_n1 x2271 x2272 x2273

/-! loop.example/headtrees/laws.FnUnderOk -/

def laws_FnUnderOk_n1 (x2185 : List Int) : Option ((Int × Int × Bool × (List Int)) ⊕ Bool) :=
  cond (decide ((((List.length x2185 : Nat) : Int)) > 1048576)) (some (Sum.inr true)) ((spec_DrawUnderOk x2185).bind fun (v2313 : Int × Int × (List Int)) => (impl_UnderOk (v2313.2.2) (v2313.1) (v2313.2.1)).bind fun (v2317 : Bool) => (spec_UnderOk (v2313.2.2) (v2313.1) (v2313.2.1)).bind fun (v2318 : Bool) => cond (v2317 != v2318) (some (Sum.inr false)) ((spec_TreeOk (v2313.2.2)).bind fun (v2320 : Bool) => cond (!v2320) (cond (!v2317) ((laws_alive).bind fun (v2323 : Bool) => some (Sum.inr v2323)) (some (Sum.inr false))) (cond (decide ((v2313.2.1) < 1)) (cond (!v2317) ((laws_alive).bind fun (v2326 : Bool) => some (Sum.inr v2326)) (some (Sum.inr false))) (cond (decide ((v2313.2.1) > (((List.length (v2313.2.2) : Nat) : Int)))) (cond (!v2317) ((laws_alive).bind fun (v2330 : Bool) => some (Sum.inr v2330)) (some (Sum.inr false))) (some (Sum.inl ((v2313.1), (v2313.2.1), v2317, (v2313.2.2))))))))

def laws_FnUnderOk_n2 (x2314 : Int) (x2315 : Int) (x2317 : Bool) (x2316 : List Int) : Option (Bool) :=
  (impl_UnderOk x2316 x2314 x2314).bind fun (v2413 : Bool) => cond v2413 ((impl_RootOf x2316).bind fun (v2414 : Int) => (impl_UnderOk x2316 x2314 v2414).bind fun (v2415 : Bool) => cond v2415 (cond (!x2317) ((inb (IntKind.wrap .i64 (x2314 - 1)) (List.length x2316)).bind fun (v2418 : Nat) => (x2316[v2418]?).bind fun (v2419 : Int) => cond (v2419 == 0) (some true) ((inb (IntKind.wrap .i64 (x2314 - 1)) (List.length x2316)).bind fun (v2422 : Nat) => (x2316[v2422]?).bind fun (v2423 : Int) => (impl_UnderOk x2316 x2314 v2423).bind fun (v2424 : Bool) => some v2424)) ((impl_UnderOk x2316 x2315 x2314).bind fun (v2425 : Bool) => cond (!v2425) ((inb (IntKind.wrap .i64 (x2314 - 1)) (List.length x2316)).bind fun (v2428 : Nat) => (x2316[v2428]?).bind fun (v2429 : Int) => cond (v2429 == 0) (some true) ((inb (IntKind.wrap .i64 (x2314 - 1)) (List.length x2316)).bind fun (v2432 : Nat) => (x2316[v2432]?).bind fun (v2433 : Int) => (impl_UnderOk x2316 x2314 v2433).bind fun (v2434 : Bool) => some v2434)) (cond (x2314 == x2315) ((inb (IntKind.wrap .i64 (x2314 - 1)) (List.length x2316)).bind fun (v2437 : Nat) => (x2316[v2437]?).bind fun (v2438 : Int) => cond (v2438 == 0) (some true) ((inb (IntKind.wrap .i64 (x2314 - 1)) (List.length x2316)).bind fun (v2441 : Nat) => (x2316[v2441]?).bind fun (v2442 : Int) => (impl_UnderOk x2316 x2314 v2442).bind fun (v2443 : Bool) => some v2443)) (some false)))) (some false)) (some false)

def laws_FnUnderOk_n3 (x2185 : List Int) : Option (Bool) :=
  (laws_FnUnderOk_n1 x2185).bind (Sum.elim (fun (t : Int × Int × Bool × (List Int)) => laws_FnUnderOk_n2 t.1 t.2.1 t.2.2.1 t.2.2.2) (fun e => some ((fun (t : Bool) => t) e)))

@[irreducible] def laws_FnUnderOk (x2185 : List Int) : Option (Bool) :=
  laws_FnUnderOk_n3 x2185

/-! loop.example/headtrees/spec.DrawMeetOf -/

def spec_DrawMeetOf_n1 (x2451 : List Int) : Option ((Int × Int × (List Int))) :=
  (spec_DrawUnderOk x2451).bind fun (v2456 : Int × Int × (List Int)) => some ((v2456.1), (v2456.2.1), (v2456.2.2))

@[irreducible] def spec_DrawMeetOf (x2451 : List Int) : Option (Int × Int × (List Int)) :=
  spec_DrawMeetOf_n1 x2451

/-! loop.example/headtrees/impl.DepthOf -/

def impl_DepthOf_n1 (x2487 : List Int) : Option (((List Int)) ⊕ ((List Int))) :=
  (impl_TreeOk x2487).bind fun (v2490 : Bool) => cond (!v2490) (some (Sum.inr ([] : List Int))) ((mk (((List.length x2487 : Nat) : Int)) (((List.length x2487 : Nat) : Int))).bind fun (v2493 : Nat) => some (Sum.inl (List.replicate v2493 (0 : Int))))

def impl_DepthOf_n2 (x2487 : List Int) : Option (Int) :=
  some (((List.length x2487 : Nat) : Int))

def impl_DepthOf_n3 (x2487 : List Int) (x2495 : Int) (x2513 : Int) (x2514 : List Int) : Option ((Int × (List Int)) ⊕ ((List Int))) :=
  cond (decide (x2513 < x2495)) ((impl_stepsToRoot x2487 (IntKind.wrap .i64 (x2513 + 1))).bind fun (v2526 : Int × Bool) => (inb x2513 (List.length x2514)).bind fun (v2529 : Nat) => some (Sum.inl ((IntKind.wrap .i64 (x2513 + 1)), (x2514.set v2529 (v2526.1))))) (some (Sum.inr x2514))

def impl_DepthOf_n4 (x2487 : List Int) (x2495 : Int) (x2494 : List Int) : Option (((List Int))) :=
  nloop (fun (s : Int × (List Int)) => ((impl_DepthOf_n3 x2487 x2495 s.1 s.2).map (Sum.elim (fun (t : Int × (List Int)) => Sum.inl (t.1, t.2)) (fun (t : (List Int)) => Sum.inr t)) : Option ((Int × (List Int)) ⊕ (((List Int)))))) LL (0, x2494)

def impl_DepthOf_n5 (x2487 : List Int) (x2495 : Int) (x2494 : List Int) : Option (((List Int))) :=
  (impl_DepthOf_n4 x2487 x2495 x2494).map (fun (t : (List Int)) => t)

def impl_DepthOf_n6 (x2487 : List Int) (x2494 : List Int) : Option (((List Int))) :=
  (impl_DepthOf_n2 x2487).bind (fun (t : Int) => impl_DepthOf_n5 x2487 t x2494)

def impl_DepthOf_n7 (x2514 : List Int) : Option (((List Int))) :=
  some x2514

def impl_DepthOf_n8 (x2487 : List Int) (x2494 : List Int) : Option (((List Int))) :=
  (impl_DepthOf_n6 x2487 x2494).bind (fun (t : (List Int)) => impl_DepthOf_n7 t)

def impl_DepthOf_n9 (x2487 : List Int) : Option (((List Int))) :=
  (impl_DepthOf_n1 x2487).bind (Sum.elim (fun (t : (List Int)) => impl_DepthOf_n8 x2487 t) (fun e => some ((fun (t : (List Int)) => t) e)))

@[irreducible] def impl_DepthOf (x2487 : List Int) : Option ((List Int)) :=
  impl_DepthOf_n9 x2487

/-! loop.example/headtrees/impl.MeetOf -/

def impl_MeetOf_n1 (x2470 : List Int) (x2471 : Int) (x2472 : Int) : Option ((Int × (List Int)) ⊕ Int) :=
  (impl_wordOk x2470 x2471).bind fun (v2482 : Bool) => cond (!v2482) (some (Sum.inr (-1))) ((impl_wordOk x2470 x2472).bind fun (v2484 : Bool) => cond (!v2484) (some (Sum.inr (-1))) ((impl_RootOf x2470).bind fun (v2486 : Int) => (impl_DepthOf x2470).bind fun (v2533 : List Int) => some (Sum.inl (v2486, v2533))))

def impl_MeetOf_n2 (x2470 : List Int) : Option ((Int × (List Int))) :=
  (impl_yieldsOf x2470).bind fun (v2534 : List Int) => some ((((List.length v2534 : Nat) : Int)), v2534)

def impl_MeetOf_n3 (x2471 : Int) (x2472 : Int) (x2571 : Int) (x2535 : Int) (x2572 : Int) (x2533 : List Int) (x2534 : List Int) : Option ((Int × Int) ⊕ Int) :=
  cond (decide (x2572 < x2535)) ((inb x2572 (List.length x2534)).bind fun (v2590 : Nat) => (x2534[v2590]?).bind fun (v2591 : Int) => (impl_only x2471).bind fun (v2592 : Int) => (impl_only x2472).bind fun (v2593 : Int) => (impl_wordSet_hasAll v2591 (ior .u64 v2592 v2593)).bind fun (v2595 : Bool) => cond v2595 ((inb x2572 (List.length x2533)).bind fun (v2596 : Nat) => (x2533[v2596]?).bind fun (v2597 : Int) => (inb (IntKind.wrap .i64 (x2571 - 1)) (List.length x2533)).bind fun (v2599 : Nat) => (x2533[v2599]?).bind fun (v2600 : Int) => cond (decide (v2597 > v2600)) (some (Sum.inl ((IntKind.wrap .i64 (x2572 + 1)), (IntKind.wrap .i64 (x2572 + 1))))) (some (Sum.inl (x2571, (IntKind.wrap .i64 (x2572 + 1)))))) (some (Sum.inl (x2571, (IntKind.wrap .i64 (x2572 + 1)))))) (some (Sum.inr x2571))

def impl_MeetOf_n4 (x2471 : Int) (x2472 : Int) (x2486 : Int) (x2535 : Int) (x2533 : List Int) (x2534 : List Int) : Option (Int) :=
  nloop (fun (s : Int × Int) => ((impl_MeetOf_n3 x2471 x2472 s.1 x2535 s.2 x2533 x2534).map (Sum.elim (fun (t : Int × Int) => Sum.inl (t.1, t.2)) (fun (t : Int) => Sum.inr t)) : Option ((Int × Int) ⊕ (Int)))) LL (x2486, 0)

def impl_MeetOf_n5 (x2471 : Int) (x2472 : Int) (x2486 : Int) (x2535 : Int) (x2533 : List Int) (x2534 : List Int) : Option (Int) :=
  (impl_MeetOf_n4 x2471 x2472 x2486 x2535 x2533 x2534).map (fun (t : Int) => t)

def impl_MeetOf_n6 (x2470 : List Int) (x2471 : Int) (x2472 : Int) (x2486 : Int) (x2533 : List Int) : Option (Int) :=
  (impl_MeetOf_n2 x2470).bind (fun (t : Int × (List Int)) => impl_MeetOf_n5 x2471 x2472 x2486 t.1 x2533 t.2)

def impl_MeetOf_n7 (x2571 : Int) : Option (Int) :=
  some x2571

def impl_MeetOf_n8 (x2470 : List Int) (x2471 : Int) (x2472 : Int) (x2486 : Int) (x2533 : List Int) : Option (Int) :=
  (impl_MeetOf_n6 x2470 x2471 x2472 x2486 x2533).bind (fun (t : Int) => impl_MeetOf_n7 t)

def impl_MeetOf_n9 (x2470 : List Int) (x2471 : Int) (x2472 : Int) : Option (Int) :=
  (impl_MeetOf_n1 x2470 x2471 x2472).bind (Sum.elim (fun (t : Int × (List Int)) => impl_MeetOf_n8 x2470 x2471 x2472 t.1 t.2) (fun e => some ((fun (t : Int) => t) e)))

@[irreducible] def impl_MeetOf (x2470 : List Int) (x2471 : Int) (x2472 : Int) : Option (Int) :=
  impl_MeetOf_n9 x2470 x2471 x2472

/-! loop.example/headtrees/spec.MeetOf -/

def spec_MeetOf_n1 (x2617 : List Int) (x2618 : Int) (x2619 : Int) : Option (Unit ⊕ Int) :=
  (spec_TreeOk x2617).bind fun (v2628 : Bool) => cond (!v2628) (some (Sum.inr (-1))) ((spec_l1In x2618 1 (((List.length x2617 : Nat) : Int))).bind fun (v2631 : Bool) => cond (!v2631) (some (Sum.inr (-1))) ((spec_l1In x2619 1 (((List.length x2617 : Nat) : Int))).bind fun (v2634 : Bool) => cond (!v2634) (some (Sum.inr (-1))) (some (Sum.inl ()))))

def spec_MeetOf_n2 (x2617 : List Int) (x2619 : Int) (x2648 : Int) : Option (Int ⊕ Int) :=
  (spec_l2Yield x2617 x2648).bind fun (v2654 : Int) => (shr .i64 v2654 (IntKind.wrap .i64 (x2619 - 1))).bind fun (v2656 : Int) => (rem v2656 2).bind fun (v2657 : Int) => cond (v2657 == 1) (some (Sum.inr x2648)) ((idx x2617 (IntKind.wrap .i64 (x2648 - 1))).bind fun (v2660 : Int) => some (Sum.inl v2660))

def spec_MeetOf_n3 (x2617 : List Int) (x2619 : Int) (x2618 : Int) : Option (Int) :=
  nloop (fun (s : Int) => ((spec_MeetOf_n2 x2617 x2619 s).map (Sum.elim (fun (t : Int) => Sum.inl t) (fun (t : Int) => Sum.inr t)) : Option ((Int) ⊕ (Int)))) LL x2618

def spec_MeetOf_n4 (x2617 : List Int) (x2619 : Int) (x2618 : Int) : Option (Int) :=
  (spec_MeetOf_n3 x2617 x2619 x2618).map (fun (t : Int) => t)

def spec_MeetOf_n5 (x2617 : List Int) (x2618 : Int) (x2619 : Int) : Option (Int) :=
  (spec_MeetOf_n1 x2617 x2618 x2619).bind (Sum.elim (fun (t : Unit) => spec_MeetOf_n4 x2617 x2619 x2618) (fun e => some ((fun (t : Int) => t) e)))

@[irreducible] def spec_MeetOf (x2617 : List Int) (x2618 : Int) (x2619 : Int) : Option (Int) :=
  spec_MeetOf_n5 x2617 x2618 x2619

/-! loop.example/headtrees/laws.FnMeetOf -/

def laws_FnMeetOf_n1 (x2446 : List Int) : Option ((Int × Int × Int × (List Int)) ⊕ Bool) :=
  cond (decide ((((List.length x2446 : Nat) : Int)) > 1048576)) (some (Sum.inr true)) ((spec_DrawMeetOf x2446).bind fun (v2666 : Int × Int × (List Int)) => (impl_MeetOf (v2666.2.2) (v2666.1) (v2666.2.1)).bind fun (v2670 : Int) => (spec_MeetOf (v2666.2.2) (v2666.1) (v2666.2.1)).bind fun (v2671 : Int) => cond (v2670 != v2671) (some (Sum.inr false)) (cond (decide (v2670 < 0)) (cond (v2670 == (-1)) ((laws_alive).bind fun (v2675 : Bool) => some (Sum.inr v2675)) (some (Sum.inr false))) (some (Sum.inl ((v2666.1), (v2666.2.1), v2670, (v2666.2.2))))))

def laws_FnMeetOf_n2 : Option (Unit) :=
  some ()

def laws_FnMeetOf_n3 (x2667 : Int) (x2668 : Int) (x2670 : Int) (x2694 : Int) (x2669 : List Int) : Option (Int ⊕ Bool ⊕ Unit) :=
  cond (decide (x2694 ≤ (((List.length x2669 : Nat) : Int)))) ((impl_UnderOk x2669 x2667 x2694).bind fun (v2705 : Bool) => cond v2705 ((impl_UnderOk x2669 x2668 x2694).bind fun (v2706 : Bool) => cond v2706 ((impl_UnderOk x2669 x2670 x2694).bind fun (v2707 : Bool) => cond (!v2707) (some (Sum.inr (Sum.inl false))) (some (Sum.inl (IntKind.wrap .i64 (x2694 + 1))))) (some (Sum.inl (IntKind.wrap .i64 (x2694 + 1))))) (some (Sum.inl (IntKind.wrap .i64 (x2694 + 1))))) (some (Sum.inr (Sum.inr ())))

def laws_FnMeetOf_n4 (x2667 : Int) (x2668 : Int) (x2670 : Int) (x2669 : List Int) : Option (Bool ⊕ Unit) :=
  nloop (fun (s : Int) => ((laws_FnMeetOf_n3 x2667 x2668 x2670 s x2669).map (Sum.elim (fun (t : Int) => Sum.inl t) (Sum.elim (fun (t : Bool) => Sum.inr (Sum.inl t)) (fun (t : Unit) => Sum.inr (Sum.inr t)))) : Option ((Int) ⊕ (Bool ⊕ Unit)))) LL 1

def laws_FnMeetOf_n5 (x2667 : Int) (x2668 : Int) (x2670 : Int) (x2669 : List Int) : Option (Unit ⊕ Bool) :=
  (laws_FnMeetOf_n4 x2667 x2668 x2670 x2669).map (Sum.elim (fun (t : Bool) => (Sum.inr t)) (fun (t : Unit) => (Sum.inl ())))

def laws_FnMeetOf_n6 (x2667 : Int) (x2668 : Int) (x2670 : Int) (x2669 : List Int) : Option (Unit ⊕ Bool) :=
  (laws_FnMeetOf_n2).bind (fun (t : Unit) => laws_FnMeetOf_n5 x2667 x2668 x2670 x2669)

def laws_FnMeetOf_n7 (x2667 : Int) (x2668 : Int) (x2670 : Int) (x2669 : List Int) : Option (Bool) :=
  (impl_UnderOk x2669 x2667 x2670).bind fun (v2717 : Bool) => cond v2717 ((impl_UnderOk x2669 x2668 x2670).bind fun (v2718 : Bool) => cond v2718 ((impl_MeetOf x2669 x2668 x2667).bind fun (v2719 : Int) => some (v2719 == x2670)) (some false)) (some false)

def laws_FnMeetOf_n8 (x2667 : Int) (x2668 : Int) (x2670 : Int) (x2669 : List Int) : Option (Bool) :=
  (laws_FnMeetOf_n6 x2667 x2668 x2670 x2669).bind (Sum.elim (fun (t : Unit) => laws_FnMeetOf_n7 x2667 x2668 x2670 x2669) (fun e => some ((fun (t : Bool) => t) e)))

def laws_FnMeetOf_n9 (x2446 : List Int) : Option (Bool) :=
  (laws_FnMeetOf_n1 x2446).bind (Sum.elim (fun (t : Int × Int × Int × (List Int)) => laws_FnMeetOf_n8 t.1 t.2.1 t.2.2.1 t.2.2.2) (fun e => some ((fun (t : Bool) => t) e)))

@[irreducible] def laws_FnMeetOf (x2446 : List Int) : Option (Bool) :=
  laws_FnMeetOf_n9 x2446

/-! loop.example/headtrees/spec.DrawSidesOf -/

def spec_DrawSidesOf_n1 (x2728 : List Int) : Option ((Int × (List Int))) :=
  (spec_l20Open x2728).bind fun (v2734 : List Int) => (spec_l20Word v2734 0).bind fun (v2735 : Int × Int × (List Int)) => some ((v2735.1), (v2735.2.2))

@[irreducible] def spec_DrawSidesOf (x2728 : List Int) : Option (Int × (List Int)) :=
  spec_DrawSidesOf_n1 x2728

/-! loop.example/headtrees/impl.before -/

def impl_before_n1 (x2757 : Int) : Option (Int) :=
  (impl_only x2757).bind fun (v2760 : Int) => some (IntKind.wrap .u64 (v2760 - 1))

@[irreducible] def impl_before (x2757 : Int) : Option (Int) :=
  impl_before_n1 x2757

/-! loop.example/headtrees/impl.SidesOf -/

def impl_SidesOf_n1 (x2747 : List Int) (x2748 : Int) : Option ((Int × Int × Bool)) :=
  (impl_wordOk x2747 x2748).bind fun (v2768 : Bool) => cond (!v2768) (some ((-1), (-1), false)) ((impl_dependents x2747 x2748).bind fun (v2770 : Int) => (impl_before x2748).bind fun (v2771 : Int) => (impl_wordSet_count (iand .u64 v2770 v2771)).bind fun (v2773 : Int) => (impl_before x2748).bind fun (v2774 : Int) => (impl_wordSet_count (iandn .u64 v2770 v2774)).bind fun (v2776 : Int) => some (v2773, v2776, true))

@[irreducible] def impl_SidesOf (x2747 : List Int) (x2748 : Int) : Option (Int × Int × Bool) :=
  impl_SidesOf_n1 x2747 x2748

/-! loop.example/headtrees/spec.SidesOf -/

def spec_SidesOf_n1 (x2793 : List Int) (x2794 : Int) : Option (Unit ⊕ (Int × Int × Bool)) :=
  (spec_TreeOk x2793).bind fun (v2805 : Bool) => cond (!v2805) (some (Sum.inr ((-1), (-1), false))) ((spec_l1In x2794 1 (((List.length x2793 : Nat) : Int))).bind fun (v2808 : Bool) => cond (!v2808) (some (Sum.inr ((-1), (-1), false))) (some (Sum.inl ())))

def spec_SidesOf_n2 : Option (Unit) :=
  some ()

def spec_SidesOf_n3 (x2793 : List Int) (x2794 : Int) (x2868 : Int) (x2869 : Int) (x2870 : Int) : Option ((Int × Int × Int) ⊕ (Int × Int)) :=
  cond (decide (x2870 < (((List.length x2793 : Nat) : Int)))) ((idx x2793 x2870).bind fun (v2897 : Int) => cond (v2897 == x2794) (cond (decide ((IntKind.wrap .i64 (x2870 + 1)) < x2794)) ((idx x2793 x2870).bind fun (v2902 : Int) => cond (v2902 == x2794) (cond (decide ((IntKind.wrap .i64 (x2870 + 1)) > x2794)) (some (Sum.inl ((IntKind.wrap .i64 (x2868 + 1)), (IntKind.wrap .i64 (x2869 + 1)), (IntKind.wrap .i64 (x2870 + 1))))) (some (Sum.inl ((IntKind.wrap .i64 (x2868 + 1)), x2869, (IntKind.wrap .i64 (x2870 + 1)))))) (some (Sum.inl ((IntKind.wrap .i64 (x2868 + 1)), x2869, (IntKind.wrap .i64 (x2870 + 1)))))) ((idx x2793 x2870).bind fun (v2910 : Int) => cond (v2910 == x2794) (cond (decide ((IntKind.wrap .i64 (x2870 + 1)) > x2794)) (some (Sum.inl (x2868, (IntKind.wrap .i64 (x2869 + 1)), (IntKind.wrap .i64 (x2870 + 1))))) (some (Sum.inl (x2868, x2869, (IntKind.wrap .i64 (x2870 + 1)))))) (some (Sum.inl (x2868, x2869, (IntKind.wrap .i64 (x2870 + 1))))))) ((idx x2793 x2870).bind fun (v2918 : Int) => cond (v2918 == x2794) (cond (decide ((IntKind.wrap .i64 (x2870 + 1)) > x2794)) (some (Sum.inl (x2868, (IntKind.wrap .i64 (x2869 + 1)), (IntKind.wrap .i64 (x2870 + 1))))) (some (Sum.inl (x2868, x2869, (IntKind.wrap .i64 (x2870 + 1)))))) (some (Sum.inl (x2868, x2869, (IntKind.wrap .i64 (x2870 + 1))))))) (some (Sum.inr (x2868, x2869)))

def spec_SidesOf_n4 (x2793 : List Int) (x2794 : Int) : Option ((Int × Int)) :=
  nloop (fun (s : Int × Int × Int) => ((spec_SidesOf_n3 x2793 x2794 s.1 s.2.1 s.2.2).map (Sum.elim (fun (t : Int × Int × Int) => Sum.inl (t.1, t.2.1, t.2.2)) (fun (t : Int × Int) => Sum.inr t)) : Option ((Int × Int × Int) ⊕ ((Int × Int))))) LL (0, 0, 0)

def spec_SidesOf_n5 (x2793 : List Int) (x2794 : Int) : Option ((Int × Int)) :=
  (spec_SidesOf_n4 x2793 x2794).map (fun (t : Int × Int) => (t.1, t.2))

def spec_SidesOf_n6 (x2793 : List Int) (x2794 : Int) : Option ((Int × Int)) :=
  (spec_SidesOf_n2).bind (fun (t : Unit) => spec_SidesOf_n5 x2793 x2794)

def spec_SidesOf_n7 (x2868 : Int) (x2869 : Int) : Option ((Int × Int × Bool)) :=
  some (x2868, x2869, true)

def spec_SidesOf_n8 (x2793 : List Int) (x2794 : Int) : Option ((Int × Int × Bool)) :=
  (spec_SidesOf_n6 x2793 x2794).bind (fun (t : Int × Int) => spec_SidesOf_n7 t.1 t.2)

def spec_SidesOf_n9 (x2793 : List Int) (x2794 : Int) : Option ((Int × Int × Bool)) :=
  (spec_SidesOf_n1 x2793 x2794).bind (Sum.elim (fun (t : Unit) => spec_SidesOf_n8 x2793 x2794) (fun e => some ((fun (t : Int × Int × Bool) => t) e)))

@[irreducible] def spec_SidesOf (x2793 : List Int) (x2794 : Int) : Option (Int × Int × Bool) :=
  spec_SidesOf_n9 x2793 x2794

/-! loop.example/headtrees/laws.FnSidesOf -/

def laws_FnSidesOf_n1 (x2723 : List Int) : Option ((Int × Int × Int × (List Int)) ⊕ Bool) :=
  cond (decide ((((List.length x2723 : Nat) : Int)) > 1048576)) (some (Sum.inr true)) ((spec_DrawSidesOf x2723).bind fun (v2974 : Int × (List Int)) => (impl_SidesOf (v2974.2) (v2974.1)).bind fun (v2977 : Int × Int × Bool) => (spec_SidesOf (v2974.2) (v2974.1)).bind fun (v2981 : Int × Int × Bool) => cond ((v2977.1) != (v2981.1)) (some (Sum.inr false)) (cond ((v2977.2.1) != (v2981.2.1)) (some (Sum.inr false)) (cond ((v2977.2.2) != (v2981.2.2)) (some (Sum.inr false)) (cond (!(v2977.2.2)) (cond ((v2977.1) == (-1)) (cond ((v2977.2.1) == (-1)) ((laws_alive).bind fun (v2991 : Bool) => some (Sum.inr v2991)) (some (Sum.inr false))) (some (Sum.inr false))) (some (Sum.inl ((v2974.1), (v2977.1), (v2977.2.1), (v2974.2))))))))

def laws_FnSidesOf_n2 : Option (Unit) :=
  some ()

def laws_FnSidesOf_n3 (x3011 : Int) (x3012 : Int) (x2976 : List Int) : Option ((Int × Int) ⊕ Int) :=
  cond (decide (x3012 ≤ (((List.length x2976 : Nat) : Int)))) ((impl_SidesOf x2976 x3012).bind fun (v3025 : Int × Int × Bool) => some (Sum.inl ((IntKind.wrap .i64 ((IntKind.wrap .i64 (x3011 + (v3025.1))) + (v3025.2.1))), (IntKind.wrap .i64 (x3012 + 1))))) (some (Sum.inr x3011))

def laws_FnSidesOf_n4 (x2976 : List Int) : Option (Int) :=
  nloop (fun (s : Int × Int) => ((laws_FnSidesOf_n3 s.1 s.2 x2976).map (Sum.elim (fun (t : Int × Int) => Sum.inl (t.1, t.2)) (fun (t : Int) => Sum.inr t)) : Option ((Int × Int) ⊕ (Int)))) LL (0, 1)

def laws_FnSidesOf_n5 (x2976 : List Int) : Option (Int) :=
  (laws_FnSidesOf_n4 x2976).map (fun (t : Int) => t)

def laws_FnSidesOf_n6 (x2976 : List Int) : Option (Int) :=
  (laws_FnSidesOf_n2).bind (fun (t : Unit) => laws_FnSidesOf_n5 x2976)

def laws_FnSidesOf_n7 (x2975 : Int) (x2978 : Int) (x2979 : Int) (x3011 : Int) (x2976 : List Int) : Option (Bool) :=
  (impl_DependsOf x2976 x2975).bind fun (v3040 : List Int) => cond ((IntKind.wrap .i64 (x2978 + x2979)) == (((List.length v3040 : Nat) : Int))) (some (x3011 == (IntKind.wrap .i64 ((((List.length x2976 : Nat) : Int)) - 1)))) (some false)

def laws_FnSidesOf_n8 (x2975 : Int) (x2978 : Int) (x2979 : Int) (x2976 : List Int) : Option (Bool) :=
  (laws_FnSidesOf_n6 x2976).bind (fun (t : Int) => laws_FnSidesOf_n7 x2975 x2978 x2979 t x2976)

def laws_FnSidesOf_n9 (x2723 : List Int) : Option (Bool) :=
  (laws_FnSidesOf_n1 x2723).bind (Sum.elim (fun (t : Int × Int × Int × (List Int)) => laws_FnSidesOf_n8 t.1 t.2.1 t.2.2.1 t.2.2.2) (fun e => some ((fun (t : Bool) => t) e)))

@[irreducible] def laws_FnSidesOf (x2723 : List Int) : Option (Bool) :=
  laws_FnSidesOf_n9 x2723

/-! loop.example/headtrees/spec.l20Fill -/

def spec_l20Fill_n1 (R0 : Int → Int → Int → (List Int) → Int → (List Int) → Option (Int × (List Int))) (x3102 : Int) (x3103 : Int) (x3104 : Int) (x3105 : List Int) (x3106 : Int) (x3107 : List Int) : Option ((Int × Int × (List Int)) ⊕ (Int × (List Int))) :=
  cond (decide (x3102 > x3103)) (some (Sum.inr (x3106, x3107))) ((spec_l20Rd_pick (IntKind.wrap .i64 ((IntKind.wrap .i64 (x3103 - x3102)) + 1)) x3105 x3106).bind fun (v3175 : Int × Int) => (inb (IntKind.wrap .i64 ((IntKind.wrap .i64 (x3102 + (v3175.1))) - 1)) (List.length x3107)).bind fun (v3180 : Nat) => some (Sum.inl ((IntKind.wrap .i64 (x3102 + (v3175.1))), (v3175.2), (x3107.set v3180 x3104))))

def spec_l20Fill_n2 (R0 : Int → Int → Int → (List Int) → Int → (List Int) → Option (Int × (List Int))) (x3178 : Int) (x3193 : Int) (x3105 : List Int) (x3194 : Int) (x3195 : List Int) : Option ((Int × Int × (List Int)) ⊕ (Int × (List Int))) :=
  cond (decide (x3193 < x3178)) ((spec_l20Rd_pick (IntKind.wrap .i64 (x3178 - x3193)) x3105 x3194).bind fun (v3199 : Int × Int) => (R0 x3193 (IntKind.wrap .i64 (x3193 + (v3199.1))) x3178 x3105 (v3199.2) x3195).bind fun (v3203 : Int × (List Int)) => some (Sum.inl ((IntKind.wrap .i64 ((IntKind.wrap .i64 (x3193 + (v3199.1))) + 1)), (v3203.1), (v3203.2)))) (some (Sum.inr (x3194, x3195)))

def spec_l20Fill_n3 (R0 : Int → Int → Int → (List Int) → Int → (List Int) → Option (Int × (List Int))) (x3178 : Int) (x3102 : Int) (x3105 : List Int) (x3177 : Int) (x3181 : List Int) : Option ((Int × (List Int))) :=
  nloop (fun (s : Int × Int × (List Int)) => ((spec_l20Fill_n2 R0 x3178 s.1 x3105 s.2.1 s.2.2).map (Sum.elim (fun (t : Int × Int × (List Int)) => Sum.inl (t.1, t.2.1, t.2.2)) (fun (t : Int × (List Int)) => Sum.inr t)) : Option ((Int × Int × (List Int)) ⊕ ((Int × (List Int)))))) LL (x3102, x3177, x3181)

def spec_l20Fill_n4 (R0 : Int → Int → Int → (List Int) → Int → (List Int) → Option (Int × (List Int))) (x3178 : Int) (x3102 : Int) (x3105 : List Int) (x3177 : Int) (x3181 : List Int) : Option ((Int × (List Int))) :=
  (spec_l20Fill_n3 R0 x3178 x3102 x3105 x3177 x3181).map (fun (t : Int × (List Int)) => (t.1, t.2))

def spec_l20Fill_n5 (R0 : Int → Int → Int → (List Int) → Int → (List Int) → Option (Int × (List Int))) (x3178 : Int) : Option (Int) :=
  some (IntKind.wrap .i64 (x3178 + 1))

def spec_l20Fill_n6 (R0 : Int → Int → Int → (List Int) → Int → (List Int) → Option (Int × (List Int))) (x3103 : Int) (x3178 : Int) (x3220 : Int) (x3105 : List Int) (x3221 : Int) (x3222 : List Int) : Option ((Int × Int × (List Int)) ⊕ (Int × (List Int))) :=
  cond (decide (x3220 ≤ x3103)) ((spec_l20Rd_pick (IntKind.wrap .i64 ((IntKind.wrap .i64 (x3103 - x3220)) + 1)) x3105 x3221).bind fun (v3227 : Int × Int) => (R0 x3220 (IntKind.wrap .i64 (x3220 + (v3227.1))) x3178 x3105 (v3227.2) x3222).bind fun (v3231 : Int × (List Int)) => some (Sum.inl ((IntKind.wrap .i64 ((IntKind.wrap .i64 (x3220 + (v3227.1))) + 1)), (v3231.1), (v3231.2)))) (some (Sum.inr (x3221, x3222)))

def spec_l20Fill_n7 (R0 : Int → Int → Int → (List Int) → Int → (List Int) → Option (Int × (List Int))) (x3103 : Int) (x3178 : Int) (x3207 : Int) (x3105 : List Int) (x3194 : Int) (x3195 : List Int) : Option ((Int × (List Int))) :=
  nloop (fun (s : Int × Int × (List Int)) => ((spec_l20Fill_n6 R0 x3103 x3178 s.1 x3105 s.2.1 s.2.2).map (Sum.elim (fun (t : Int × Int × (List Int)) => Sum.inl (t.1, t.2.1, t.2.2)) (fun (t : Int × (List Int)) => Sum.inr t)) : Option ((Int × Int × (List Int)) ⊕ ((Int × (List Int)))))) LL (x3207, x3194, x3195)

def spec_l20Fill_n8 (R0 : Int → Int → Int → (List Int) → Int → (List Int) → Option (Int × (List Int))) (x3103 : Int) (x3178 : Int) (x3207 : Int) (x3105 : List Int) (x3194 : Int) (x3195 : List Int) : Option ((Int × (List Int))) :=
  (spec_l20Fill_n7 R0 x3103 x3178 x3207 x3105 x3194 x3195).map (fun (t : Int × (List Int)) => (t.1, t.2))

def spec_l20Fill_n9 (R0 : Int → Int → Int → (List Int) → Int → (List Int) → Option (Int × (List Int))) (x3103 : Int) (x3178 : Int) (x3105 : List Int) (x3194 : Int) (x3195 : List Int) : Option ((Int × (List Int))) :=
  (spec_l20Fill_n5 R0 x3178).bind (fun (t : Int) => spec_l20Fill_n8 R0 x3103 x3178 t x3105 x3194 x3195)

def spec_l20Fill_n10 (R0 : Int → Int → Int → (List Int) → Int → (List Int) → Option (Int × (List Int))) (x3103 : Int) (x3178 : Int) (x3102 : Int) (x3105 : List Int) (x3177 : Int) (x3181 : List Int) : Option ((Int × (List Int))) :=
  (spec_l20Fill_n4 R0 x3178 x3102 x3105 x3177 x3181).bind (fun (t : Int × (List Int)) => spec_l20Fill_n9 R0 x3103 x3178 x3105 t.1 t.2)

def spec_l20Fill_n11 (R0 : Int → Int → Int → (List Int) → Int → (List Int) → Option (Int × (List Int))) (x3102 : Int) (x3103 : Int) (x3104 : Int) (x3105 : List Int) (x3106 : Int) (x3107 : List Int) : Option ((Int × (List Int)) ⊕ (Int × (List Int))) :=
  (spec_l20Fill_n1 R0 x3102 x3103 x3104 x3105 x3106 x3107).bind (Sum.elim (fun (t : Int × Int × (List Int)) => (spec_l20Fill_n10 R0 x3103 t.1 x3102 x3105 t.2.1 t.2.2).map (fun (u : Int × (List Int)) => (Sum.inl (u.1, u.2)))) (fun e => some ((fun (t : Int × (List Int)) => (Sum.inr t)) e)))

def spec_l20Fill_one (R0 : Int → Int → Int → (List Int) → Int → (List Int) → Option (Int × (List Int))) (x3102 : Int) (x3103 : Int) (x3104 : Int) (x3105 : List Int) (x3106 : Int) (x3107 : List Int) : Option (Int × (List Int)) :=
  (spec_l20Fill_n11 R0 x3102 x3103 x3104 x3105 x3106 x3107).map (Sum.elim (fun (t : Int × (List Int)) => (t.1, t.2)) (fun (t : Int × (List Int)) => t))

def spec_l20Fill_knot : Nat → (Int → Int → Int → (List Int) → Int → (List Int) → Option (Int × (List Int)))
  | 0 => (fun _ _ _ _ _ _ => none)
  | n + 1 => (fun y0 y1 y2 y3 y4 y5 => spec_l20Fill_one (spec_l20Fill_knot n) y0 y1 y2 y3 y4 y5)

def spec_l20Fill_fuel (n : Nat) : Int → Int → Int → (List Int) → Int → (List Int) → Option (Int × (List Int)) := (spec_l20Fill_knot n)

@[irreducible] def spec_l20Fill (x3102 : Int) (x3103 : Int) (x3104 : Int) (x3105 : List Int) (x3106 : Int) (x3107 : List Int) : Option (Int × (List Int)) := spec_l20Fill_fuel RR x3102 x3103 x3104 x3105 x3106 x3107

/-! loop.example/headtrees/spec.l20Flat -/

def spec_l20Flat_n1 (x3055 : Int) (x3056 : List Int) (x3057 : Int) : Option ((Int × (List Int))) :=
  (spec_l20Rd_pick 3 x3056 x3057).bind fun (v3256 : Int × Int) => cond ((v3256.1) == 0) ((spec_l20Tree x3055 x3056 (v3256.2)).bind fun (v3260 : Int × (List Int)) => some ((v3260.1), (v3260.2))) ((spec_l20Rd_pick 7 x3056 (v3256.2)).bind fun (v3263 : Int × Int) => (mk (IntKind.wrap .i64 (1 + (v3263.1))) (IntKind.wrap .i64 (1 + (v3263.1)))).bind fun (v3267 : Nat) => (spec_l20Fill 1 (IntKind.wrap .i64 (1 + (v3263.1))) 0 x3056 (v3263.2) (List.replicate v3267 (0 : Int))).bind fun (v3269 : Int × (List Int)) => some ((v3269.1), (v3269.2)))

@[irreducible] def spec_l20Flat (x3055 : Int) (x3056 : List Int) (x3057 : Int) : Option (Int × (List Int)) :=
  spec_l20Flat_n1 x3055 x3056 x3057

/-! loop.example/headtrees/spec.DrawCrossingsOf -/

def spec_DrawCrossingsOf_n1 (x3053 : List Int) : Option (((List Int))) :=
  (spec_l20Open x3053).bind fun (v3277 : List Int) => (spec_l20Flat 9 v3277 0).bind fun (v3278 : Int × (List Int)) => some (v3278.2)

@[irreducible] def spec_DrawCrossingsOf (x3053 : List Int) : Option ((List Int)) :=
  spec_DrawCrossingsOf_n1 x3053

/-! loop.example/headtrees/impl.arcBetween -/

def impl_arcBetween_n1 (x3301 : Int) (x3302 : Int) : Option ((Bool × Int × Int)) :=
  cond (decide (x3301 < 1)) (some (false, 0, 0)) (cond (decide (x3302 < 1)) (some (false, 0, 0)) (cond (x3301 == x3302) (some (false, 0, 0)) (some (true, (imin x3301 x3302), (imax x3301 x3302)))))

@[irreducible] def impl_arcBetween (x3301 : Int) (x3302 : Int) : Option (Bool × Int × Int) :=
  impl_arcBetween_n1 x3301 x3302

/-! loop.example/headtrees/impl.arcsOf -/

def impl_arcsOf_n1 (x3290 : List Int) : Option (((List (Int × Int × Unit)))) :=
  (mk 0 (((List.length x3290 : Nat) : Int))).bind fun (v3293 : Nat) => some (List.replicate v3293 ((0 : Int), ((0 : Int), ())))

def impl_arcsOf_n2 (x3290 : List Int) : Option (Int) :=
  some (((List.length x3290 : Nat) : Int))

def impl_arcsOf_n3 (x3290 : List Int) (x3295 : Int) (x3347 : Int) (x3348 : List (Int × Int × Unit)) : Option ((Int × (List (Int × Int × Unit))) ⊕ ((List (Int × Int × Unit)))) :=
  cond (decide (x3347 < x3295)) ((idx x3290 x3347).bind fun (v3365 : Int) => (impl_arcBetween (IntKind.wrap .i64 (x3347 + 1)) v3365).bind fun (v3367 : Bool × Int × Int) => cond (v3367.1) ((room ((List.length x3348) + List.length ([((v3367.2.1), ((v3367.2.2), ()))]))).bind fun (v3375 : Unit) => some (Sum.inl ((IntKind.wrap .i64 (x3347 + 1)), (x3348 ++ ([((v3367.2.1), ((v3367.2.2), ()))]))))) (some (Sum.inl ((IntKind.wrap .i64 (x3347 + 1)), x3348)))) (some (Sum.inr x3348))

def impl_arcsOf_n4 (x3290 : List Int) (x3295 : Int) (x3294 : List (Int × Int × Unit)) : Option (((List (Int × Int × Unit)))) :=
  nloop (fun (s : Int × (List (Int × Int × Unit))) => ((impl_arcsOf_n3 x3290 x3295 s.1 s.2).map (Sum.elim (fun (t : Int × (List (Int × Int × Unit))) => Sum.inl (t.1, t.2)) (fun (t : (List (Int × Int × Unit))) => Sum.inr t)) : Option ((Int × (List (Int × Int × Unit))) ⊕ (((List (Int × Int × Unit))))))) LL (0, x3294)

def impl_arcsOf_n5 (x3290 : List Int) (x3295 : Int) (x3294 : List (Int × Int × Unit)) : Option (((List (Int × Int × Unit)))) :=
  (impl_arcsOf_n4 x3290 x3295 x3294).map (fun (t : (List (Int × Int × Unit))) => t)

def impl_arcsOf_n6 (x3290 : List Int) (x3294 : List (Int × Int × Unit)) : Option (((List (Int × Int × Unit)))) :=
  (impl_arcsOf_n2 x3290).bind (fun (t : Int) => impl_arcsOf_n5 x3290 t x3294)

def impl_arcsOf_n7 (x3348 : List (Int × Int × Unit)) : Option (((List (Int × Int × Unit)))) :=
  some x3348

def impl_arcsOf_n8 (x3290 : List Int) (x3294 : List (Int × Int × Unit)) : Option (((List (Int × Int × Unit)))) :=
  (impl_arcsOf_n6 x3290 x3294).bind (fun (t : (List (Int × Int × Unit))) => impl_arcsOf_n7 t)

def impl_arcsOf_n9 (x3290 : List Int) : Option (((List (Int × Int × Unit)))) :=
  (impl_arcsOf_n1 x3290).bind (fun (t : (List (Int × Int × Unit))) => impl_arcsOf_n8 x3290 t)

@[irreducible] def impl_arcsOf (x3290 : List Int) : Option ((List (Int × Int × Unit))) :=
  impl_arcsOf_n9 x3290

/-! (loop.example/headtrees/impl.arc).covers -/

def impl_arc_covers_n1 (x3413 : Int) (x3414 : Int) (x3415 : Int) : Option (Bool) :=
  cond (decide (x3413 < x3415)) (some (decide (x3415 < x3414))) (some false)

@[irreducible] def impl_arc_covers (x3413 : Int) (x3414 : Int) (x3415 : Int) : Option (Bool) :=
  impl_arc_covers_n1 x3413 x3414 x3415

/-! (loop.example/headtrees/impl.arc).leavesOut -/

def impl_arc_leavesOut_n1 (x3422 : Int) (x3423 : Int) (x3424 : Int) : Option (Bool) :=
  cond (decide (x3424 < x3422)) (some true) (some (decide (x3423 < x3424)))

@[irreducible] def impl_arc_leavesOut (x3422 : Int) (x3423 : Int) (x3424 : Int) : Option (Bool) :=
  impl_arc_leavesOut_n1 x3422 x3423 x3424

/-! (loop.example/headtrees/impl.arc).crosses -/

def impl_arc_crosses_n1 (x3409 : Int) (x3410 : Int) (x3411 : Int) (x3412 : Int) : Option (Bool) :=
  (impl_arc_covers x3409 x3410 x3411).bind fun (v3435 : Bool) => cond v3435 ((impl_arc_leavesOut x3409 x3410 x3412).bind fun (v3436 : Bool) => cond v3436 (some true) ((impl_arc_covers x3409 x3410 x3412).bind fun (v3437 : Bool) => cond v3437 ((impl_arc_leavesOut x3409 x3410 x3411).bind fun (v3438 : Bool) => some v3438) (some false))) ((impl_arc_covers x3409 x3410 x3412).bind fun (v3439 : Bool) => cond v3439 ((impl_arc_leavesOut x3409 x3410 x3411).bind fun (v3440 : Bool) => some v3440) (some false))

@[irreducible] def impl_arc_crosses (x3409 : Int) (x3410 : Int) (x3411 : Int) (x3412 : Int) : Option (Bool) :=
  impl_arc_crosses_n1 x3409 x3410 x3411 x3412

/-! loop.example/headtrees/impl.countPairs[loop.example/headtrees/impl.arc] -/

def impl_countPairs_impl_arc_n1 : Option (Unit) :=
  some ()

def impl_countPairs_impl_arc_n2 (x3382 : List (Int × Int × Unit)) : Option (Int) :=
  some (((List.length x3382 : Nat) : Int))

def impl_countPairs_impl_arc_n3 (x3481 : Int) (x3383 : Int) (x3482 : Int) : Option (Unit ⊕ Int) :=
  cond (decide (x3482 < x3383)) (some (Sum.inl ())) (some (Sum.inr x3481))

def impl_countPairs_impl_arc_n4 (x3382 : List (Int × Int × Unit)) (x3482 : Int) : Option (((List (Int × Int × Unit)) × Int × Int × Int)) :=
  (idx x3382 x3482).bind fun (v3490 : Int × Int × Unit) => (inc (IntKind.wrap .i64 (x3482 + 1)) (List.length x3382)).bind fun (v3497 : Nat) => some (((x3382.take (List.length x3382)).drop v3497), (((List.length ((x3382.take (List.length x3382)).drop v3497) : Nat) : Int)), (v3490.1), ((v3490.2).1))

def impl_countPairs_impl_arc_n5 (x3522 : Int) (x3498 : List (Int × Int × Unit)) (x3499 : Int) (x3523 : Int) (x3491 : Int) (x3493 : Int) : Option ((Int × Int) ⊕ Int) :=
  cond (decide (x3523 < x3499)) ((idx x3498 x3523).bind fun (v3535 : Int × Int × Unit) => (impl_arc_crosses x3491 x3493 (v3535.1) ((v3535.2).1)).bind fun (v3540 : Bool) => cond v3540 (some (Sum.inl ((IntKind.wrap .i64 (x3522 + 1)), (IntKind.wrap .i64 (x3523 + 1))))) (some (Sum.inl (x3522, (IntKind.wrap .i64 (x3523 + 1)))))) (some (Sum.inr x3522))

def impl_countPairs_impl_arc_n6 (x3481 : Int) (x3498 : List (Int × Int × Unit)) (x3499 : Int) (x3491 : Int) (x3493 : Int) : Option (Int) :=
  nloop (fun (s : Int × Int) => ((impl_countPairs_impl_arc_n5 s.1 x3498 x3499 s.2 x3491 x3493).map (Sum.elim (fun (t : Int × Int) => Sum.inl (t.1, t.2)) (fun (t : Int) => Sum.inr t)) : Option ((Int × Int) ⊕ (Int)))) LL (x3481, 0)

def impl_countPairs_impl_arc_n7 (x3481 : Int) (x3498 : List (Int × Int × Unit)) (x3499 : Int) (x3491 : Int) (x3493 : Int) : Option (Int) :=
  (impl_countPairs_impl_arc_n6 x3481 x3498 x3499 x3491 x3493).map (fun (t : Int) => t)

def impl_countPairs_impl_arc_n8 (x3382 : List (Int × Int × Unit)) (x3481 : Int) (x3482 : Int) : Option (Int) :=
  (impl_countPairs_impl_arc_n4 x3382 x3482).bind (fun (t : (List (Int × Int × Unit)) × Int × Int × Int) => impl_countPairs_impl_arc_n7 x3481 t.1 t.2.1 t.2.2.1 t.2.2.2)

def impl_countPairs_impl_arc_n9 (x3382 : List (Int × Int × Unit)) (x3481 : Int) (x3482 : Int) : Option (Int) :=
  (impl_countPairs_impl_arc_n8 x3382 x3481 x3482).map (fun (t : Int) => t)

def impl_countPairs_impl_arc_n10 (x3482 : Int) : Option (Int) :=
  some (IntKind.wrap .i64 (x3482 + 1))

def impl_countPairs_impl_arc_n11 (x3382 : List (Int × Int × Unit)) (x3481 : Int) (x3482 : Int) : Option ((Int × Int)) :=
  (impl_countPairs_impl_arc_n9 x3382 x3481 x3482).bind (fun (t : Int) => (impl_countPairs_impl_arc_n10 x3482).map (fun (u : Int) => (t, u)))

def impl_countPairs_impl_arc_n12 (x3382 : List (Int × Int × Unit)) (x3481 : Int) (x3383 : Int) (x3482 : Int) : Option ((Int × Int) ⊕ Int) :=
  (impl_countPairs_impl_arc_n3 x3481 x3383 x3482).bind (Sum.elim (fun (t : Unit) => (impl_countPairs_impl_arc_n11 x3382 x3481 x3482).map (fun (t : Int × Int) => (Sum.inl (t.1, t.2)))) (fun e => some ((fun (t : Int) => (Sum.inr t)) e)))

def impl_countPairs_impl_arc_n13 (x3382 : List (Int × Int × Unit)) (x3383 : Int) : Option (Int) :=
  nloop (fun (s : Int × Int) => ((impl_countPairs_impl_arc_n12 x3382 s.1 x3383 s.2).map (Sum.elim (fun (t : Int × Int) => Sum.inl (t.1, t.2)) (fun (t : Int) => Sum.inr t)) : Option ((Int × Int) ⊕ (Int)))) LL (0, 0)

def impl_countPairs_impl_arc_n14 (x3382 : List (Int × Int × Unit)) (x3383 : Int) : Option (Int) :=
  (impl_countPairs_impl_arc_n13 x3382 x3383).map (fun (t : Int) => t)

def impl_countPairs_impl_arc_n15 (x3382 : List (Int × Int × Unit)) : Option (Int) :=
  (impl_countPairs_impl_arc_n2 x3382).bind (fun (t : Int) => impl_countPairs_impl_arc_n14 x3382 t)

def impl_countPairs_impl_arc_n16 (x3481 : Int) : Option (Int) :=
  some x3481

def impl_countPairs_impl_arc_n17 (x3382 : List (Int × Int × Unit)) : Option (Int) :=
  (impl_countPairs_impl_arc_n15 x3382).bind (fun (t : Int) => impl_countPairs_impl_arc_n16 t)

def impl_countPairs_impl_arc_n18 (x3382 : List (Int × Int × Unit)) : Option (Int) :=
  (impl_countPairs_impl_arc_n1).bind (fun (t : Unit) => impl_countPairs_impl_arc_n17 x3382)

@[irreducible] def impl_countPairs_impl_arc (x3382 : List (Int × Int × Unit)) : Option (Int) :=
  impl_countPairs_impl_arc_n18 x3382

/-! loop.example/headtrees/impl.CrossingsOf -/

def impl_CrossingsOf_n1 (x3285 : List Int) : Option (Int) :=
  (impl_TreeOk x3285).bind fun (v3548 : Bool) => cond (!v3548) (some (-1)) ((impl_arcsOf x3285).bind fun (v3550 : List (Int × Int × Unit)) => (impl_countPairs_impl_arc v3550).bind fun (v3551 : Int) => some v3551)

@[irreducible] def impl_CrossingsOf (x3285 : List Int) : Option (Int) :=
  impl_CrossingsOf_n1 x3285

/-! loop.example/headtrees/spec.l3Arcs -/

def spec_l3Arcs_n1 : Option (Unit) :=
  some ()

def spec_l3Arcs_n2 : Option (Unit) :=
  some ()

def spec_l3Arcs_n3 (x3565 : List Int) (x3616 : Int) (x3617 : List (List Int)) : Option ((Int × (List (List Int))) ⊕ ((List (List Int)))) :=
  cond (decide (x3616 < (((List.length x3565 : Nat) : Int)))) ((idx x3565 x3616).bind fun (v3637 : Int) => cond (decide (v3637 > 0)) ((idx x3565 x3616).bind fun (v3640 : Int) => (idx x3565 x3616).bind fun (v3643 : Int) => (room ((List.length x3617) + List.length ([([(imin (IntKind.wrap .i64 (x3616 + 1)) v3640), (imax (IntKind.wrap .i64 (x3616 + 1)) v3643)])]))).bind fun (v3648 : Unit) => some (Sum.inl ((IntKind.wrap .i64 (x3616 + 1)), (x3617 ++ ([([(imin (IntKind.wrap .i64 (x3616 + 1)) v3640), (imax (IntKind.wrap .i64 (x3616 + 1)) v3643)])]))))) (some (Sum.inl ((IntKind.wrap .i64 (x3616 + 1)), x3617)))) (some (Sum.inr x3617))

def spec_l3Arcs_n4 (x3565 : List Int) : Option (((List (List Int)))) :=
  nloop (fun (s : Int × (List (List Int))) => ((spec_l3Arcs_n3 x3565 s.1 s.2).map (Sum.elim (fun (t : Int × (List (List Int))) => Sum.inl (t.1, t.2)) (fun (t : (List (List Int))) => Sum.inr t)) : Option ((Int × (List (List Int))) ⊕ (((List (List Int))))))) LL (0, ([] : List (List Int)))

def spec_l3Arcs_n5 (x3565 : List Int) : Option (((List (List Int)))) :=
  (spec_l3Arcs_n4 x3565).map (fun (t : (List (List Int))) => t)

def spec_l3Arcs_n6 (x3565 : List Int) : Option (((List (List Int)))) :=
  (spec_l3Arcs_n2).bind (fun (t : Unit) => spec_l3Arcs_n5 x3565)

def spec_l3Arcs_n7 (x3617 : List (List Int)) : Option (((List (List Int)))) :=
  some x3617

def spec_l3Arcs_n8 (x3565 : List Int) : Option (((List (List Int)))) :=
  (spec_l3Arcs_n6 x3565).bind (fun (t : (List (List Int))) => spec_l3Arcs_n7 t)

def spec_l3Arcs_n9 (x3565 : List Int) : Option (((List (List Int)))) :=
  (spec_l3Arcs_n1).bind (fun (t : Unit) => spec_l3Arcs_n8 x3565)

@[irreducible] def spec_l3Arcs (x3565 : List Int) : Option ((List (List Int))) :=
  spec_l3Arcs_n9 x3565

/-! loop.example/headtrees/spec.CrossOk -/

def spec_CrossOk_n1 (x3671 : Int) (x3672 : Int) (x3673 : Int) (x3674 : Int) : Option ((Int × Int × Int × Int) ⊕ Bool) :=
  cond (decide (x3671 < 1)) (some (Sum.inr false)) (cond (decide (x3672 < 1)) (some (Sum.inr false)) (cond (decide (x3673 < 1)) (some (Sum.inr false)) (cond (decide (x3674 < 1)) (some (Sum.inr false)) (cond (x3671 == x3672) (some (Sum.inr false)) (cond (x3673 == x3674) (some (Sum.inr false)) (some (Sum.inl ((imin x3671 x3672), (imax x3671 x3672), (imin x3673 x3674), (imax x3673 x3674)))))))))

def spec_CrossOk_n2 (x3711 : Int) (x3712 : Int) (x3713 : Int) (x3714 : Int) : Option (Bool) :=
  cond (decide (x3711 < x3713)) (cond (decide (x3713 < x3712)) (cond (decide (x3712 < x3714)) (some true) (cond (decide (x3713 < x3711)) (cond (decide (x3711 < x3714)) (some (decide (x3714 < x3712))) (some false)) (some false))) (cond (decide (x3713 < x3711)) (cond (decide (x3711 < x3714)) (some (decide (x3714 < x3712))) (some false)) (some false))) (cond (decide (x3713 < x3711)) (cond (decide (x3711 < x3714)) (some (decide (x3714 < x3712))) (some false)) (some false))

def spec_CrossOk_n3 (x3671 : Int) (x3672 : Int) (x3673 : Int) (x3674 : Int) : Option (Bool) :=
  (spec_CrossOk_n1 x3671 x3672 x3673 x3674).bind (Sum.elim (fun (t : Int × Int × Int × Int) => spec_CrossOk_n2 t.1 t.2.1 t.2.2.1 t.2.2.2) (fun e => some ((fun (t : Bool) => t) e)))

@[irreducible] def spec_CrossOk (x3671 : Int) (x3672 : Int) (x3673 : Int) (x3674 : Int) : Option (Bool) :=
  spec_CrossOk_n3 x3671 x3672 x3673 x3674

/-! loop.example/headtrees/spec.CrossingsOf -/

def spec_CrossingsOf_n1 (x3558 : List Int) : Option (((List (List Int))) ⊕ Int) :=
  (spec_TreeOk x3558).bind fun (v3563 : Bool) => cond (!v3563) (some (Sum.inr (-1))) ((spec_l3Arcs x3558).bind fun (v3654 : List (List Int)) => some (Sum.inl v3654))

def spec_CrossingsOf_n2 : Option (Unit) :=
  some ()

def spec_CrossingsOf_n3 (x3821 : Int) (x3822 : Int) (x3654 : List (List Int)) : Option (Unit ⊕ Int) :=
  cond (decide (x3822 < (((List.length x3654 : Nat) : Int)))) (some (Sum.inl ())) (some (Sum.inr x3821))

def spec_CrossingsOf_n4 : Option (Unit) :=
  some ()

def spec_CrossingsOf_n5 (x3860 : Int) (x3822 : Int) (x3861 : Int) (x3654 : List (List Int)) : Option ((Int × Int) ⊕ Int) :=
  cond (decide (x3861 < x3822)) ((inb x3861 (List.length x3654)).bind fun (v3879 : Nat) => (x3654[v3879]?).bind fun (v3880 : List Int) => (idx v3880 0).bind fun (v3881 : Int) => (inb x3861 (List.length x3654)).bind fun (v3882 : Nat) => (x3654[v3882]?).bind fun (v3883 : List Int) => (idx v3883 1).bind fun (v3884 : Int) => (inb x3822 (List.length x3654)).bind fun (v3885 : Nat) => (x3654[v3885]?).bind fun (v3886 : List Int) => (idx v3886 0).bind fun (v3887 : Int) => (inb x3822 (List.length x3654)).bind fun (v3888 : Nat) => (x3654[v3888]?).bind fun (v3889 : List Int) => (idx v3889 1).bind fun (v3890 : Int) => (spec_CrossOk v3881 v3884 v3887 v3890).bind fun (v3891 : Bool) => cond v3891 (some (Sum.inl ((IntKind.wrap .i64 (x3860 + 1)), (IntKind.wrap .i64 (x3861 + 1))))) (some (Sum.inl (x3860, (IntKind.wrap .i64 (x3861 + 1)))))) (some (Sum.inr x3860))

def spec_CrossingsOf_n6 (x3821 : Int) (x3822 : Int) (x3654 : List (List Int)) : Option (Int) :=
  nloop (fun (s : Int × Int) => ((spec_CrossingsOf_n5 s.1 x3822 s.2 x3654).map (Sum.elim (fun (t : Int × Int) => Sum.inl (t.1, t.2)) (fun (t : Int) => Sum.inr t)) : Option ((Int × Int) ⊕ (Int)))) LL (x3821, 0)

def spec_CrossingsOf_n7 (x3821 : Int) (x3822 : Int) (x3654 : List (List Int)) : Option (Int) :=
  (spec_CrossingsOf_n6 x3821 x3822 x3654).map (fun (t : Int) => t)

def spec_CrossingsOf_n8 (x3821 : Int) (x3822 : Int) (x3654 : List (List Int)) : Option (Int) :=
  (spec_CrossingsOf_n4).bind (fun (t : Unit) => spec_CrossingsOf_n7 x3821 x3822 x3654)

def spec_CrossingsOf_n9 (x3821 : Int) (x3822 : Int) (x3654 : List (List Int)) : Option (Int) :=
  (spec_CrossingsOf_n8 x3821 x3822 x3654).map (fun (t : Int) => t)

def spec_CrossingsOf_n10 (x3822 : Int) : Option (Int) :=
  some (IntKind.wrap .i64 (x3822 + 1))

def spec_CrossingsOf_n11 (x3821 : Int) (x3822 : Int) (x3654 : List (List Int)) : Option ((Int × Int)) :=
  (spec_CrossingsOf_n9 x3821 x3822 x3654).bind (fun (t : Int) => (spec_CrossingsOf_n10 x3822).map (fun (u : Int) => (t, u)))

def spec_CrossingsOf_n12 (x3821 : Int) (x3822 : Int) (x3654 : List (List Int)) : Option ((Int × Int) ⊕ Int) :=
  (spec_CrossingsOf_n3 x3821 x3822 x3654).bind (Sum.elim (fun (t : Unit) => (spec_CrossingsOf_n11 x3821 x3822 x3654).map (fun (t : Int × Int) => (Sum.inl (t.1, t.2)))) (fun e => some ((fun (t : Int) => (Sum.inr t)) e)))

def spec_CrossingsOf_n13 (x3654 : List (List Int)) : Option (Int) :=
  nloop (fun (s : Int × Int) => ((spec_CrossingsOf_n12 s.1 s.2 x3654).map (Sum.elim (fun (t : Int × Int) => Sum.inl (t.1, t.2)) (fun (t : Int) => Sum.inr t)) : Option ((Int × Int) ⊕ (Int)))) LL (0, 0)

def spec_CrossingsOf_n14 (x3654 : List (List Int)) : Option (Int) :=
  (spec_CrossingsOf_n13 x3654).map (fun (t : Int) => t)

def spec_CrossingsOf_n15 (x3654 : List (List Int)) : Option (Int) :=
  (spec_CrossingsOf_n2).bind (fun (t : Unit) => spec_CrossingsOf_n14 x3654)

def spec_CrossingsOf_n16 (x3821 : Int) : Option (Int) :=
  some x3821

def spec_CrossingsOf_n17 (x3654 : List (List Int)) : Option (Int) :=
  (spec_CrossingsOf_n15 x3654).bind (fun (t : Int) => spec_CrossingsOf_n16 t)

def spec_CrossingsOf_n18 (x3558 : List Int) : Option (Int) :=
  (spec_CrossingsOf_n1 x3558).bind (Sum.elim (fun (t : (List (List Int))) => spec_CrossingsOf_n17 t) (fun e => some ((fun (t : Int) => t) e)))

@[irreducible] def spec_CrossingsOf (x3558 : List Int) : Option (Int) :=
  spec_CrossingsOf_n18 x3558

/-! loop.example/headtrees/impl.lastToFirst -/

def impl_lastToFirst_n1 (x3930 : Int) : Option (((List Int))) :=
  (mk x3930 x3930).bind fun (v3931 : Nat) => some (List.replicate v3931 (0 : Int))

def impl_lastToFirst_n2 (x3932 : List Int) : Option (Int) :=
  some (((List.length x3932 : Nat) : Int))

def impl_lastToFirst_n3 (x3930 : Int) (x3933 : Int) (x3945 : Int) (x3946 : List Int) : Option ((Int × (List Int)) ⊕ ((List Int))) :=
  cond (decide (x3945 < x3933)) ((inb x3945 (List.length x3946)).bind fun (v3955 : Nat) => some (Sum.inl ((IntKind.wrap .i64 (x3945 + 1)), (x3946.set v3955 (IntKind.wrap .i64 (x3930 - x3945)))))) (some (Sum.inr x3946))

def impl_lastToFirst_n4 (x3930 : Int) (x3933 : Int) (x3932 : List Int) : Option (((List Int))) :=
  nloop (fun (s : Int × (List Int)) => ((impl_lastToFirst_n3 x3930 x3933 s.1 s.2).map (Sum.elim (fun (t : Int × (List Int)) => Sum.inl (t.1, t.2)) (fun (t : (List Int)) => Sum.inr t)) : Option ((Int × (List Int)) ⊕ (((List Int)))))) LL (0, x3932)

def impl_lastToFirst_n5 (x3930 : Int) (x3933 : Int) (x3932 : List Int) : Option (((List Int))) :=
  (impl_lastToFirst_n4 x3930 x3933 x3932).map (fun (t : (List Int)) => t)

def impl_lastToFirst_n6 (x3930 : Int) (x3932 : List Int) : Option (((List Int))) :=
  (impl_lastToFirst_n2 x3932).bind (fun (t : Int) => impl_lastToFirst_n5 x3930 t x3932)

def impl_lastToFirst_n7 (x3946 : List Int) : Option (((List Int))) :=
  some x3946

def impl_lastToFirst_n8 (x3930 : Int) (x3932 : List Int) : Option (((List Int))) :=
  (impl_lastToFirst_n6 x3930 x3932).bind (fun (t : (List Int)) => impl_lastToFirst_n7 t)

def impl_lastToFirst_n9 (x3930 : Int) : Option (((List Int))) :=
  (impl_lastToFirst_n1 x3930).bind (fun (t : (List Int)) => impl_lastToFirst_n8 x3930 t)

@[irreducible] def impl_lastToFirst (x3930 : Int) : Option ((List Int)) :=
  impl_lastToFirst_n9 x3930

/-! loop.example/headtrees/impl.OrderOk -/

def impl_OrderOk_n1 (x3964 : List Int) (x3965 : Int) : Option (Unit ⊕ Bool) :=
  cond (decide (x3965 < 1)) (some (Sum.inr false)) (cond (decide (x3965 > 8)) (some (Sum.inr false)) (cond ((((List.length x3964 : Nat) : Int)) != x3965) (some (Sum.inr false)) (some (Sum.inl ()))))

def impl_OrderOk_n2 (x3964 : List Int) : Option (Int) :=
  some (((List.length x3964 : Nat) : Int))

def impl_OrderOk_n3 (x3965 : Int) (x3964 : List Int) (x3975 : Int) (x3999 : Int) (x4000 : List Bool) : Option ((Int × (List Bool)) ⊕ Bool ⊕ Unit) :=
  cond (decide (x3999 < x3975)) ((idx x3964 x3999).bind fun (v4014 : Int) => cond (decide (v4014 < 1)) (some (Sum.inr (Sum.inl false))) (cond (decide (v4014 > x3965)) (some (Sum.inr (Sum.inl false))) ((same (List.length x4000) 9).bind fun (v4017 : Unit) => (inb v4014 9).bind fun (v4018 : Nat) => (x4000[v4018]?).bind fun (v4019 : Bool) => cond v4019 (some (Sum.inr (Sum.inl false))) ((same (List.length x4000) 9).bind fun (v4020 : Unit) => (inb v4014 9).bind fun (v4021 : Nat) => some (Sum.inl ((IntKind.wrap .i64 (x3999 + 1)), (x4000.set v4021 true))))))) (some (Sum.inr (Sum.inr ())))

def impl_OrderOk_n4 (x3965 : Int) (x3964 : List Int) (x3975 : Int) : Option (Bool ⊕ Unit) :=
  nloop (fun (s : Int × (List Bool)) => ((impl_OrderOk_n3 x3965 x3964 x3975 s.1 s.2).map (Sum.elim (fun (t : Int × (List Bool)) => Sum.inl (t.1, t.2)) (Sum.elim (fun (t : Bool) => Sum.inr (Sum.inl t)) (fun (t : Unit) => Sum.inr (Sum.inr t)))) : Option ((Int × (List Bool)) ⊕ (Bool ⊕ Unit)))) LL (0, (List.replicate 9 false))

def impl_OrderOk_n5 (x3965 : Int) (x3964 : List Int) (x3975 : Int) : Option (Unit ⊕ Bool) :=
  (impl_OrderOk_n4 x3965 x3964 x3975).map (Sum.elim (fun (t : Bool) => (Sum.inr t)) (fun (t : Unit) => (Sum.inl ())))

def impl_OrderOk_n6 (x3964 : List Int) (x3965 : Int) : Option (Unit ⊕ Bool) :=
  (impl_OrderOk_n2 x3964).bind (fun (t : Int) => impl_OrderOk_n5 x3965 x3964 t)

def impl_OrderOk_n7 : Option (Bool) :=
  some true

def impl_OrderOk_n8 (x3964 : List Int) (x3965 : Int) : Option (Bool) :=
  (impl_OrderOk_n6 x3964 x3965).bind (Sum.elim (fun (t : Unit) => impl_OrderOk_n7) (fun e => some ((fun (t : Bool) => t) e)))

def impl_OrderOk_n9 (x3964 : List Int) (x3965 : Int) : Option (Bool) :=
  (impl_OrderOk_n1 x3964 x3965).bind (Sum.elim (fun (t : Unit) => impl_OrderOk_n8 x3964 x3965) (fun e => some ((fun (t : Bool) => t) e)))

@[irreducible] def impl_OrderOk (x3964 : List Int) (x3965 : Int) : Option (Bool) :=
  impl_OrderOk_n9 x3964 x3965

/-! loop.example/headtrees/impl.placesIn -/

def impl_placesIn_n1 (x4032 : List Int) : Option (((List Int))) :=
  (mk (IntKind.wrap .i64 ((((List.length x4032 : Nat) : Int)) + 1)) (IntKind.wrap .i64 ((((List.length x4032 : Nat) : Int)) + 1))).bind fun (v4035 : Nat) => some (List.replicate v4035 (0 : Int))

def impl_placesIn_n2 (x4032 : List Int) : Option (Int) :=
  some (((List.length x4032 : Nat) : Int))

def impl_placesIn_n3 (x4032 : List Int) (x4037 : Int) (x4051 : Int) (x4052 : List Int) : Option ((Int × (List Int)) ⊕ ((List Int))) :=
  cond (decide (x4051 < x4037)) ((idx x4032 x4051).bind fun (v4061 : Int) => (inb v4061 (List.length x4052)).bind fun (v4063 : Nat) => some (Sum.inl ((IntKind.wrap .i64 (x4051 + 1)), (x4052.set v4063 (IntKind.wrap .i64 (x4051 + 1)))))) (some (Sum.inr x4052))

def impl_placesIn_n4 (x4032 : List Int) (x4037 : Int) (x4036 : List Int) : Option (((List Int))) :=
  nloop (fun (s : Int × (List Int)) => ((impl_placesIn_n3 x4032 x4037 s.1 s.2).map (Sum.elim (fun (t : Int × (List Int)) => Sum.inl (t.1, t.2)) (fun (t : (List Int)) => Sum.inr t)) : Option ((Int × (List Int)) ⊕ (((List Int)))))) LL (0, x4036)

def impl_placesIn_n5 (x4032 : List Int) (x4037 : Int) (x4036 : List Int) : Option (((List Int))) :=
  (impl_placesIn_n4 x4032 x4037 x4036).map (fun (t : (List Int)) => t)

def impl_placesIn_n6 (x4032 : List Int) (x4036 : List Int) : Option (((List Int))) :=
  (impl_placesIn_n2 x4032).bind (fun (t : Int) => impl_placesIn_n5 x4032 t x4036)

def impl_placesIn_n7 (x4052 : List Int) : Option (((List Int))) :=
  some x4052

def impl_placesIn_n8 (x4032 : List Int) (x4036 : List Int) : Option (((List Int))) :=
  (impl_placesIn_n6 x4032 x4036).bind (fun (t : (List Int)) => impl_placesIn_n7 t)

def impl_placesIn_n9 (x4032 : List Int) : Option (((List Int))) :=
  (impl_placesIn_n1 x4032).bind (fun (t : (List Int)) => impl_placesIn_n8 x4032 t)

@[irreducible] def impl_placesIn (x4032 : List Int) : Option ((List Int)) :=
  impl_placesIn_n9 x4032

/-! loop.example/headtrees/impl.PutInOrder$1 -/

def impl_PutInOrder_1_n1 (x4086 : Int) (x4087 : List Int) : Option (Int) :=
  (inb x4086 (List.length x4087)).bind fun (v4090 : Nat) => (x4087[v4090]?).bind fun (v4091 : Int) => some v4091

@[irreducible] def impl_PutInOrder_1 (x4086 : Int) (x4087 : List Int) : Option (Int) :=
  impl_PutInOrder_1_n1 x4086 x4087

/-! loop.example/headtrees/impl.renamed[int] -/

def impl_renamed_int_n1 (x4074 : List Int) : Option (((List Int))) :=
  (mk (((List.length x4074 : Nat) : Int)) (((List.length x4074 : Nat) : Int))).bind fun (v4077 : Nat) => some (List.replicate v4077 (0 : Int))

def impl_renamed_int_n2 (x4074 : List Int) : Option (Int) :=
  some (((List.length x4074 : Nat) : Int))

def impl_renamed_int_n3 (x4073 : List Int) (x4074 : List Int) (x4079 : Int) (x4103 : Int) (x4075 : List Int) (x4104 : List Int) : Option ((Int × (List Int)) ⊕ ((List Int))) :=
  cond (decide (x4103 < x4079)) ((idx x4074 x4103).bind fun (v4115 : Int) => (idx x4073 (IntKind.wrap .i64 (v4115 - 1))).bind fun (v4117 : Int) => (impl_PutInOrder_1 v4117 x4075).bind fun (v4118 : Int) => (inb x4103 (List.length x4104)).bind fun (v4119 : Nat) => some (Sum.inl ((IntKind.wrap .i64 (x4103 + 1)), (x4104.set v4119 v4118)))) (some (Sum.inr x4104))

def impl_renamed_int_n4 (x4073 : List Int) (x4074 : List Int) (x4079 : Int) (x4075 : List Int) (x4078 : List Int) : Option (((List Int))) :=
  nloop (fun (s : Int × (List Int)) => ((impl_renamed_int_n3 x4073 x4074 x4079 s.1 x4075 s.2).map (Sum.elim (fun (t : Int × (List Int)) => Sum.inl (t.1, t.2)) (fun (t : (List Int)) => Sum.inr t)) : Option ((Int × (List Int)) ⊕ (((List Int)))))) LL (0, x4078)

def impl_renamed_int_n5 (x4073 : List Int) (x4074 : List Int) (x4079 : Int) (x4075 : List Int) (x4078 : List Int) : Option (((List Int))) :=
  (impl_renamed_int_n4 x4073 x4074 x4079 x4075 x4078).map (fun (t : (List Int)) => t)

def impl_renamed_int_n6 (x4073 : List Int) (x4074 : List Int) (x4075 : List Int) (x4078 : List Int) : Option (((List Int))) :=
  (impl_renamed_int_n2 x4074).bind (fun (t : Int) => impl_renamed_int_n5 x4073 x4074 t x4075 x4078)

def impl_renamed_int_n7 (x4104 : List Int) : Option (((List Int))) :=
  some x4104

def impl_renamed_int_n8 (x4073 : List Int) (x4074 : List Int) (x4075 : List Int) (x4078 : List Int) : Option (((List Int))) :=
  (impl_renamed_int_n6 x4073 x4074 x4075 x4078).bind (fun (t : (List Int)) => impl_renamed_int_n7 t)

def impl_renamed_int_n9 (x4073 : List Int) (x4074 : List Int) (x4075 : List Int) : Option (((List Int))) :=
  (impl_renamed_int_n1 x4074).bind (fun (t : (List Int)) => impl_renamed_int_n8 x4073 x4074 x4075 t)

@[irreducible] def impl_renamed_int (x4073 : List Int) (x4074 : List Int) (x4075 : List Int) : Option ((List Int)) :=
  impl_renamed_int_n9 x4073 x4074 x4075

/-! loop.example/headtrees/impl.PutInOrder -/

def impl_PutInOrder_n1 (x3959 : List Int) (x3960 : List Int) : Option ((Bool × (List Int))) :=
  (impl_TreeOk x3959).bind fun (v4123 : Bool) => cond (!v4123) (some (false, ([] : List Int))) ((impl_OrderOk x3960 (((List.length x3959 : Nat) : Int))).bind fun (v4126 : Bool) => cond (!v4126) (some (false, ([] : List Int))) ((impl_placesIn x3960).bind fun (v4128 : List Int) => (impl_renamed_int x3959 x3960 v4128).bind fun (v4129 : List Int) => some (true, v4129)))

@[irreducible] def impl_PutInOrder (x3959 : List Int) (x3960 : List Int) : Option (Bool × (List Int)) :=
  impl_PutInOrder_n1 x3959 x3960

/-! loop.example/headtrees/impl.BackOf -/

def impl_BackOf_n1 (x3924 : List Int) : Option (((List Int))) :=
  (impl_TreeOk x3924).bind fun (v4142 : Bool) => cond (!v4142) (some ([] : List Int)) ((impl_lastToFirst (((List.length x3924 : Nat) : Int))).bind fun (v4145 : List Int) => (impl_PutInOrder x3924 v4145).bind fun (v4146 : Bool × (List Int)) => some (v4146.2))

@[irreducible] def impl_BackOf (x3924 : List Int) : Option ((List Int)) :=
  impl_BackOf_n1 x3924

/-! (loop.example/headtrees/impl.wordSet).isRow -/

def impl_wordSet_isRow_n1 (x4164 : Int) : Option (Bool) :=
  some ((iand .u64 x4164 (IntKind.wrap .u64 (x4164 + (iand .u64 x4164 (IntKind.wrap .u64 (0 - x4164)))))) == 0)

@[irreducible] def impl_wordSet_isRow (x4164 : Int) : Option (Bool) :=
  impl_wordSet_isRow_n1 x4164

/-! loop.example/headtrees/impl.FlatOk -/

def impl_FlatOk_n1 (x4154 : List Int) : Option (Unit ⊕ Bool) :=
  (impl_TreeOk x4154).bind fun (v4155 : Bool) => cond (!v4155) (some (Sum.inr false)) (some (Sum.inl ()))

def impl_FlatOk_n2 (x4154 : List Int) : Option ((Int × (List Int))) :=
  (impl_yieldsOf x4154).bind fun (v4157 : List Int) => some ((((List.length v4157 : Nat) : Int)), v4157)

def impl_FlatOk_n3 (x4158 : Int) (x4185 : Int) (x4157 : List Int) : Option (Int ⊕ Bool ⊕ Unit) :=
  cond (decide (x4185 < x4158)) ((inb x4185 (List.length x4157)).bind fun (v4194 : Nat) => (x4157[v4194]?).bind fun (v4195 : Int) => (impl_wordSet_isRow v4195).bind fun (v4196 : Bool) => cond (!v4196) (some (Sum.inr (Sum.inl false))) (some (Sum.inl (IntKind.wrap .i64 (x4185 + 1))))) (some (Sum.inr (Sum.inr ())))

def impl_FlatOk_n4 (x4158 : Int) (x4157 : List Int) : Option (Bool ⊕ Unit) :=
  nloop (fun (s : Int) => ((impl_FlatOk_n3 x4158 s x4157).map (Sum.elim (fun (t : Int) => Sum.inl t) (Sum.elim (fun (t : Bool) => Sum.inr (Sum.inl t)) (fun (t : Unit) => Sum.inr (Sum.inr t)))) : Option ((Int) ⊕ (Bool ⊕ Unit)))) LL 0

def impl_FlatOk_n5 (x4158 : Int) (x4157 : List Int) : Option (Unit ⊕ Bool) :=
  (impl_FlatOk_n4 x4158 x4157).map (Sum.elim (fun (t : Bool) => (Sum.inr t)) (fun (t : Unit) => (Sum.inl ())))

def impl_FlatOk_n6 (x4154 : List Int) : Option (Unit ⊕ Bool) :=
  (impl_FlatOk_n2 x4154).bind (fun (t : Int × (List Int)) => impl_FlatOk_n5 t.1 t.2)

def impl_FlatOk_n7 : Option (Bool) :=
  some true

def impl_FlatOk_n8 (x4154 : List Int) : Option (Bool) :=
  (impl_FlatOk_n6 x4154).bind (Sum.elim (fun (t : Unit) => impl_FlatOk_n7) (fun e => some ((fun (t : Bool) => t) e)))

def impl_FlatOk_n9 (x4154 : List Int) : Option (Bool) :=
  (impl_FlatOk_n1 x4154).bind (Sum.elim (fun (t : Unit) => impl_FlatOk_n8 x4154) (fun e => some ((fun (t : Bool) => t) e)))

@[irreducible] def impl_FlatOk (x4154 : List Int) : Option (Bool) :=
  impl_FlatOk_n9 x4154

/-! loop.example/headtrees/laws.FnCrossingsOf -/

def laws_FnCrossingsOf_n1 (x3048 : List Int) : Option (Bool) :=
  cond (decide ((((List.length x3048 : Nat) : Int)) > 1048576)) (some true) ((spec_DrawCrossingsOf x3048).bind fun (v4210 : List Int) => (impl_CrossingsOf v4210).bind fun (v4211 : Int) => (spec_CrossingsOf v4210).bind fun (v4212 : Int) => cond (v4211 != v4212) (some false) (cond (decide (v4211 < 0)) (cond (v4211 == (-1)) ((impl_TreeOk v4210).bind fun (v4216 : Bool) => cond (!v4216) ((laws_alive).bind fun (v4218 : Bool) => some v4218) (some false)) (some false)) (cond (v4211 == 0) ((impl_BackOf v4210).bind fun (v4220 : List Int) => (impl_CrossingsOf v4220).bind fun (v4221 : Int) => cond (v4221 == v4211) ((laws_alive).bind fun (v4223 : Bool) => some v4223) (some false)) ((impl_FlatOk v4210).bind fun (v4224 : Bool) => cond (!v4224) (cond (decide ((((List.length v4210 : Nat) : Int)) ≥ 4)) ((impl_BackOf v4210).bind fun (v4228 : List Int) => (impl_CrossingsOf v4228).bind fun (v4229 : Int) => cond (v4229 == v4211) ((laws_alive).bind fun (v4231 : Bool) => some v4231) (some false)) (some false)) (some false)))))

@[irreducible] def laws_FnCrossingsOf (x3048 : List Int) : Option (Bool) :=
  laws_FnCrossingsOf_n1 x3048

/-! loop.example/headtrees/spec.DrawFlatOk -/

def spec_DrawFlatOk_n1 (x4239 : List Int) : Option (((List Int))) :=
  (spec_l20Open x4239).bind fun (v4244 : List Int) => (spec_l20Flat 9 v4244 0).bind fun (v4245 : Int × (List Int)) => some (v4245.2)

@[irreducible] def spec_DrawFlatOk (x4239 : List Int) : Option ((List Int)) :=
  spec_DrawFlatOk_n1 x4239

/-! loop.example/headtrees/spec.l3Row -/

def spec_l3Row_n1 : Option (Unit) :=
  some ()

def spec_l3Row_n2 (x4271 : Int) : Option (Int ⊕ Int) :=
  (rem x4271 2).bind fun (v4274 : Int) => cond (v4274 == 0) ((quo .i64 x4271 2).bind fun (v4276 : Int) => some (Sum.inl v4276)) (some (Sum.inr x4271))

def spec_l3Row_n3 (x4265 : Int) : Option (Int) :=
  nloop (fun (s : Int) => ((spec_l3Row_n2 s).map (Sum.elim (fun (t : Int) => Sum.inl t) (fun (t : Int) => Sum.inr t)) : Option ((Int) ⊕ (Int)))) LL x4265

def spec_l3Row_n4 (x4265 : Int) : Option (Int) :=
  (spec_l3Row_n3 x4265).map (fun (t : Int) => t)

def spec_l3Row_n5 (x4271 : Int) : Option (Bool) :=
  some ((iand .i64 x4271 (IntKind.wrap .i64 (x4271 + 1))) == 0)

def spec_l3Row_n6 (x4265 : Int) : Option (Bool) :=
  (spec_l3Row_n4 x4265).bind (fun (t : Int) => spec_l3Row_n5 t)

def spec_l3Row_n7 (x4265 : Int) : Option (Bool) :=
  (spec_l3Row_n1).bind (fun (t : Unit) => spec_l3Row_n6 x4265)

@[irreducible] def spec_l3Row (x4265 : Int) : Option (Bool) :=
  spec_l3Row_n7 x4265

/-! loop.example/headtrees/spec.FlatOk -/

def spec_FlatOk_n1 : Option (Unit) :=
  some ()

def spec_FlatOk_n2 : Option (Unit) :=
  some ()

def spec_FlatOk_n3 (x4257 : List Int) (x4292 : Int) : Option (Int ⊕ Bool ⊕ Unit) :=
  cond (decide (x4292 ≤ (((List.length x4257 : Nat) : Int)))) ((spec_TreeOk x4257).bind fun (v4304 : Bool) => cond v4304 ((spec_l2Yield x4257 x4292).bind fun (v4305 : Int) => (spec_l3Row v4305).bind fun (v4306 : Bool) => cond (!v4306) (some (Sum.inr (Sum.inl false))) (some (Sum.inl (IntKind.wrap .i64 (x4292 + 1))))) (some (Sum.inr (Sum.inr ())))) (some (Sum.inr (Sum.inr ())))

def spec_FlatOk_n4 (x4257 : List Int) : Option (Bool ⊕ Unit) :=
  nloop (fun (s : Int) => ((spec_FlatOk_n3 x4257 s).map (Sum.elim (fun (t : Int) => Sum.inl t) (Sum.elim (fun (t : Bool) => Sum.inr (Sum.inl t)) (fun (t : Unit) => Sum.inr (Sum.inr t)))) : Option ((Int) ⊕ (Bool ⊕ Unit)))) LL 1

def spec_FlatOk_n5 (x4257 : List Int) : Option (Unit ⊕ Bool) :=
  (spec_FlatOk_n4 x4257).map (Sum.elim (fun (t : Bool) => (Sum.inr t)) (fun (t : Unit) => (Sum.inl ())))

def spec_FlatOk_n6 (x4257 : List Int) : Option (Unit ⊕ Bool) :=
  (spec_FlatOk_n2).bind (fun (t : Unit) => spec_FlatOk_n5 x4257)

def spec_FlatOk_n7 (x4257 : List Int) : Option (Bool) :=
  (spec_TreeOk x4257).bind fun (v4310 : Bool) => some v4310

def spec_FlatOk_n8 (x4257 : List Int) : Option (Bool) :=
  (spec_FlatOk_n6 x4257).bind (Sum.elim (fun (t : Unit) => spec_FlatOk_n7 x4257) (fun e => some ((fun (t : Bool) => t) e)))

def spec_FlatOk_n9 (x4257 : List Int) : Option (Bool) :=
  (spec_FlatOk_n1).bind (fun (t : Unit) => spec_FlatOk_n8 x4257)

@[irreducible] def spec_FlatOk (x4257 : List Int) : Option (Bool) :=
  spec_FlatOk_n9 x4257

/-! loop.example/headtrees/impl.CoveredOk -/

def impl_CoveredOk_n1 (x4422 : List Int) (x4423 : Int) : Option (Unit ⊕ Bool) :=
  (impl_wordOk x4422 x4423).bind fun (v4424 : Bool) => cond (!v4424) (some (Sum.inr false)) (some (Sum.inl ()))

def impl_CoveredOk_n2 (x4422 : List Int) : Option ((Int × (List (Int × Int × Unit)))) :=
  (impl_arcsOf x4422).bind fun (v4426 : List (Int × Int × Unit)) => some ((((List.length v4426 : Nat) : Int)), v4426)

def impl_CoveredOk_n3 (x4423 : Int) (x4427 : Int) (x4447 : Int) (x4426 : List (Int × Int × Unit)) : Option (Int ⊕ Bool ⊕ Unit) :=
  cond (decide (x4447 < x4427)) ((inb x4447 (List.length x4426)).bind fun (v4459 : Nat) => (x4426[v4459]?).bind fun (v4460 : Int × Int × Unit) => (impl_arc_covers (v4460.1) ((v4460.2).1) x4423).bind fun (v4465 : Bool) => cond v4465 (some (Sum.inr (Sum.inl true))) (some (Sum.inl (IntKind.wrap .i64 (x4447 + 1))))) (some (Sum.inr (Sum.inr ())))

def impl_CoveredOk_n4 (x4423 : Int) (x4427 : Int) (x4426 : List (Int × Int × Unit)) : Option (Bool ⊕ Unit) :=
  nloop (fun (s : Int) => ((impl_CoveredOk_n3 x4423 x4427 s x4426).map (Sum.elim (fun (t : Int) => Sum.inl t) (Sum.elim (fun (t : Bool) => Sum.inr (Sum.inl t)) (fun (t : Unit) => Sum.inr (Sum.inr t)))) : Option ((Int) ⊕ (Bool ⊕ Unit)))) LL 0

def impl_CoveredOk_n5 (x4423 : Int) (x4427 : Int) (x4426 : List (Int × Int × Unit)) : Option (Unit ⊕ Bool) :=
  (impl_CoveredOk_n4 x4423 x4427 x4426).map (Sum.elim (fun (t : Bool) => (Sum.inr t)) (fun (t : Unit) => (Sum.inl ())))

def impl_CoveredOk_n6 (x4422 : List Int) (x4423 : Int) : Option (Unit ⊕ Bool) :=
  (impl_CoveredOk_n2 x4422).bind (fun (t : Int × (List (Int × Int × Unit))) => impl_CoveredOk_n5 x4423 t.1 t.2)

def impl_CoveredOk_n7 : Option (Bool) :=
  some false

def impl_CoveredOk_n8 (x4422 : List Int) (x4423 : Int) : Option (Bool) :=
  (impl_CoveredOk_n6 x4422 x4423).bind (Sum.elim (fun (t : Unit) => impl_CoveredOk_n7) (fun e => some ((fun (t : Bool) => t) e)))

def impl_CoveredOk_n9 (x4422 : List Int) (x4423 : Int) : Option (Bool) :=
  (impl_CoveredOk_n1 x4422 x4423).bind (Sum.elim (fun (t : Unit) => impl_CoveredOk_n8 x4422 x4423) (fun e => some ((fun (t : Bool) => t) e)))

@[irreducible] def impl_CoveredOk (x4422 : List Int) (x4423 : Int) : Option (Bool) :=
  impl_CoveredOk_n9 x4422 x4423

/-! loop.example/headtrees/laws.FnFlatOk -/

def laws_FnFlatOk_n1 (x4234 : List Int) : Option ((Bool × (List Int)) ⊕ Bool) :=
  cond (decide ((((List.length x4234 : Nat) : Int)) > 1048576)) (some (Sum.inr true)) ((spec_DrawFlatOk x4234).bind fun (v4326 : List Int) => (impl_FlatOk v4326).bind fun (v4327 : Bool) => (spec_FlatOk v4326).bind fun (v4328 : Bool) => cond (v4327 != v4328) (some (Sum.inr false)) ((spec_TreeOk v4326).bind fun (v4330 : Bool) => cond (!v4330) (cond (!v4327) ((laws_alive).bind fun (v4333 : Bool) => some (Sum.inr v4333)) (some (Sum.inr false))) (some (Sum.inl (v4327, v4326)))))

def laws_FnFlatOk_n2 : Option (Unit) :=
  some ()

def laws_FnFlatOk_n3 (x4374 : Bool) (x4375 : Int) (x4326 : List Int) : Option (Unit ⊕ Bool) :=
  cond (decide (x4375 ≤ (((List.length x4326 : Nat) : Int)))) (some (Sum.inl ())) (some (Sum.inr x4374))

def laws_FnFlatOk_n4 (x4375 : Int) (x4326 : List Int) : Option ((Int × Int)) :=
  (inb (IntKind.wrap .i64 (x4375 - 1)) (List.length x4326)).bind fun (v4382 : Nat) => (x4326[v4382]?).bind fun (v4383 : Int) => some (v4383, (IntKind.wrap .i64 ((imin x4375 v4383) + 1)))

def laws_FnFlatOk_n5 (x4401 : Bool) (x4375 : Int) (x4383 : Int) (x4402 : Int) (x4326 : List Int) : Option ((Bool × Int) ⊕ Bool) :=
  cond (decide (x4383 > 0)) (cond (decide (x4402 < (imax x4375 x4383))) (cond x4401 ((impl_UnderOk x4326 x4402 x4383).bind fun (v4413 : Bool) => some (Sum.inl (v4413, (IntKind.wrap .i64 (x4402 + 1))))) (some (Sum.inl (false, (IntKind.wrap .i64 (x4402 + 1)))))) (some (Sum.inr x4401))) (some (Sum.inr x4401))

def laws_FnFlatOk_n6 (x4374 : Bool) (x4375 : Int) (x4383 : Int) (x4385 : Int) (x4326 : List Int) : Option (Bool) :=
  nloop (fun (s : Bool × Int) => ((laws_FnFlatOk_n5 s.1 x4375 x4383 s.2 x4326).map (Sum.elim (fun (t : Bool × Int) => Sum.inl (t.1, t.2)) (fun (t : Bool) => Sum.inr t)) : Option ((Bool × Int) ⊕ (Bool)))) LL (x4374, x4385)

def laws_FnFlatOk_n7 (x4374 : Bool) (x4375 : Int) (x4383 : Int) (x4385 : Int) (x4326 : List Int) : Option (Bool) :=
  (laws_FnFlatOk_n6 x4374 x4375 x4383 x4385 x4326).map (fun (t : Bool) => t)

def laws_FnFlatOk_n8 (x4374 : Bool) (x4375 : Int) (x4326 : List Int) : Option (Bool) :=
  (laws_FnFlatOk_n4 x4375 x4326).bind (fun (t : Int × Int) => laws_FnFlatOk_n7 x4374 x4375 t.1 t.2 x4326)

def laws_FnFlatOk_n9 (x4374 : Bool) (x4375 : Int) (x4326 : List Int) : Option (Bool) :=
  (laws_FnFlatOk_n8 x4374 x4375 x4326).map (fun (t : Bool) => t)

def laws_FnFlatOk_n10 (x4375 : Int) : Option (Int) :=
  some (IntKind.wrap .i64 (x4375 + 1))

def laws_FnFlatOk_n11 (x4374 : Bool) (x4375 : Int) (x4326 : List Int) : Option ((Bool × Int)) :=
  (laws_FnFlatOk_n9 x4374 x4375 x4326).bind (fun (t : Bool) => (laws_FnFlatOk_n10 x4375).map (fun (u : Int) => (t, u)))

def laws_FnFlatOk_n12 (x4374 : Bool) (x4375 : Int) (x4326 : List Int) : Option ((Bool × Int) ⊕ Bool) :=
  (laws_FnFlatOk_n3 x4374 x4375 x4326).bind (Sum.elim (fun (t : Unit) => (laws_FnFlatOk_n11 x4374 x4375 x4326).map (fun (t : Bool × Int) => (Sum.inl (t.1, t.2)))) (fun e => some ((fun (t : Bool) => (Sum.inr t)) e)))

def laws_FnFlatOk_n13 (x4326 : List Int) : Option (Bool) :=
  nloop (fun (s : Bool × Int) => ((laws_FnFlatOk_n12 s.1 s.2 x4326).map (Sum.elim (fun (t : Bool × Int) => Sum.inl (t.1, t.2)) (fun (t : Bool) => Sum.inr t)) : Option ((Bool × Int) ⊕ (Bool)))) LL (true, 1)

def laws_FnFlatOk_n14 (x4326 : List Int) : Option (Bool) :=
  (laws_FnFlatOk_n13 x4326).map (fun (t : Bool) => t)

def laws_FnFlatOk_n15 (x4326 : List Int) : Option (Bool) :=
  (laws_FnFlatOk_n2).bind (fun (t : Unit) => laws_FnFlatOk_n14 x4326)

def laws_FnFlatOk_n16 (x4327 : Bool) (x4374 : Bool) (x4326 : List Int) : Option (Bool) :=
  (impl_CrossingsOf x4326).bind fun (v4474 : Int) => cond (v4474 == 0) ((impl_RootOf x4326).bind fun (v4476 : Int) => (impl_CoveredOk x4326 v4476).bind fun (v4477 : Bool) => cond (x4327 == (!v4477)) (some (x4327 == x4374)) (some false)) (cond (x4327 == false) (some (x4327 == x4374)) (some false))

def laws_FnFlatOk_n17 (x4327 : Bool) (x4326 : List Int) : Option (Bool) :=
  (laws_FnFlatOk_n15 x4326).bind (fun (t : Bool) => laws_FnFlatOk_n16 x4327 t x4326)

def laws_FnFlatOk_n18 (x4234 : List Int) : Option (Bool) :=
  (laws_FnFlatOk_n1 x4234).bind (Sum.elim (fun (t : Bool × (List Int)) => laws_FnFlatOk_n17 t.1 t.2) (fun e => some ((fun (t : Bool) => t) e)))

@[irreducible] def laws_FnFlatOk (x4234 : List Int) : Option (Bool) :=
  laws_FnFlatOk_n18 x4234

/-! loop.example/headtrees/spec.DrawBackOf -/

def spec_DrawBackOf_n1 (x4490 : List Int) : Option (((List Int))) :=
  (spec_l20Open x4490).bind fun (v4495 : List Int) => (spec_l20Flat 9 v4495 0).bind fun (v4496 : Int × (List Int)) => some (v4496.2)

@[irreducible] def spec_DrawBackOf (x4490 : List Int) : Option ((List Int)) :=
  spec_DrawBackOf_n1 x4490

/-! loop.example/headtrees/spec.BackOf -/

def spec_BackOf_n1 (x4508 : List Int) : Option (Int) :=
  some (((List.length x4508 : Nat) : Int))

def spec_BackOf_n2 (x4509 : Int) : Option (Int) :=
  some (IntKind.wrap .i64 (x4509 - 1))

def spec_BackOf_n3 (x4508 : List Int) (x4509 : Int) (x4547 : Int) (x4548 : List Int) : Option ((Int × (List Int)) ⊕ ((List Int))) :=
  cond (decide (x4547 ≥ 0)) ((spec_TreeOk x4508).bind fun (v4567 : Bool) => cond v4567 ((idx x4508 x4547).bind fun (v4568 : Int) => cond (v4568 == 0) ((room ((List.length x4548) + List.length ([0]))).bind fun (v4572 : Unit) => some (Sum.inl ((IntKind.wrap .i64 (x4547 - 1)), (x4548 ++ ([0]))))) ((idx x4508 x4547).bind fun (v4576 : Int) => (room ((List.length x4548) + List.length ([(IntKind.wrap .i64 ((IntKind.wrap .i64 (x4509 + 1)) - v4576))]))).bind fun (v4580 : Unit) => some (Sum.inl ((IntKind.wrap .i64 (x4547 - 1)), (x4548 ++ ([(IntKind.wrap .i64 ((IntKind.wrap .i64 (x4509 + 1)) - v4576))])))))) (some (Sum.inr x4548))) (some (Sum.inr x4548))

def spec_BackOf_n4 (x4508 : List Int) (x4509 : Int) (x4510 : Int) : Option (((List Int))) :=
  nloop (fun (s : Int × (List Int)) => ((spec_BackOf_n3 x4508 x4509 s.1 s.2).map (Sum.elim (fun (t : Int × (List Int)) => Sum.inl (t.1, t.2)) (fun (t : (List Int)) => Sum.inr t)) : Option ((Int × (List Int)) ⊕ (((List Int)))))) LL (x4510, ([] : List Int))

def spec_BackOf_n5 (x4508 : List Int) (x4509 : Int) (x4510 : Int) : Option (((List Int))) :=
  (spec_BackOf_n4 x4508 x4509 x4510).map (fun (t : (List Int)) => t)

def spec_BackOf_n6 (x4508 : List Int) (x4509 : Int) : Option (((List Int))) :=
  (spec_BackOf_n2 x4509).bind (fun (t : Int) => spec_BackOf_n5 x4508 x4509 t)

def spec_BackOf_n7 (x4548 : List Int) : Option (((List Int))) :=
  some x4548

def spec_BackOf_n8 (x4508 : List Int) (x4509 : Int) : Option (((List Int))) :=
  (spec_BackOf_n6 x4508 x4509).bind (fun (t : (List Int)) => spec_BackOf_n7 t)

def spec_BackOf_n9 (x4508 : List Int) : Option (((List Int))) :=
  (spec_BackOf_n1 x4508).bind (fun (t : Int) => spec_BackOf_n8 x4508 t)

@[irreducible] def spec_BackOf (x4508 : List Int) : Option ((List Int)) :=
  spec_BackOf_n9 x4508

/-! loop.example/headtrees/laws.FnBackOf -/

def laws_FnBackOf_n1 (x4485 : List Int) : Option (((List Int) × (List Int) × (List Int) × (List Int)) ⊕ Bool) :=
  cond (decide ((((List.length x4485 : Nat) : Int)) > 1048576)) (some (Sum.inr true)) ((spec_DrawBackOf x4485).bind fun (v4629 : List Int) => (impl_BackOf v4629).bind fun (v4630 : List Int) => (spec_BackOf v4629).bind fun (v4631 : List Int) => (laws_sameInts v4630 v4631).bind fun (v4632 : Bool) => cond (!v4632) (some (Sum.inr false)) (cond ((((List.length v4630 : Nat) : Int)) == 0) ((impl_TreeOk v4629).bind fun (v4636 : Bool) => cond (!v4636) ((laws_alive).bind fun (v4638 : Bool) => some (Sum.inr v4638)) (some (Sum.inr false))) ((impl_DepthOf v4629).bind fun (v4639 : List Int) => (impl_DepthOf v4630).bind fun (v4640 : List Int) => cond ((((List.length v4639 : Nat) : Int)) != (((List.length v4629 : Nat) : Int))) (some (Sum.inr false)) (cond ((((List.length v4640 : Nat) : Int)) != (((List.length v4629 : Nat) : Int))) (some (Sum.inr false)) (some (Sum.inl (v4629, v4630, v4639, v4640)))))))

def laws_FnBackOf_n2 : Option (Unit) :=
  some ()

def laws_FnBackOf_n3 (x4670 : Int) (x4639 : List Int) (x4640 : List Int) : Option (Int ⊕ Bool ⊕ Unit) :=
  cond (decide (x4670 < (((List.length x4639 : Nat) : Int)))) ((inb x4670 (List.length x4640)).bind fun (v4685 : Nat) => (x4640[v4685]?).bind fun (v4686 : Int) => (inb (IntKind.wrap .i64 ((IntKind.wrap .i64 ((((List.length x4639 : Nat) : Int)) - 1)) - x4670)) (List.length x4639)).bind fun (v4690 : Nat) => (x4639[v4690]?).bind fun (v4691 : Int) => cond (v4686 != v4691) (some (Sum.inr (Sum.inl false))) (some (Sum.inl (IntKind.wrap .i64 (x4670 + 1))))) (some (Sum.inr (Sum.inr ())))

def laws_FnBackOf_n4 (x4639 : List Int) (x4640 : List Int) : Option (Bool ⊕ Unit) :=
  nloop (fun (s : Int) => ((laws_FnBackOf_n3 s x4639 x4640).map (Sum.elim (fun (t : Int) => Sum.inl t) (Sum.elim (fun (t : Bool) => Sum.inr (Sum.inl t)) (fun (t : Unit) => Sum.inr (Sum.inr t)))) : Option ((Int) ⊕ (Bool ⊕ Unit)))) LL 0

def laws_FnBackOf_n5 (x4639 : List Int) (x4640 : List Int) : Option (Unit ⊕ Bool) :=
  (laws_FnBackOf_n4 x4639 x4640).map (Sum.elim (fun (t : Bool) => (Sum.inr t)) (fun (t : Unit) => (Sum.inl ())))

def laws_FnBackOf_n6 (x4639 : List Int) (x4640 : List Int) : Option (Unit ⊕ Bool) :=
  (laws_FnBackOf_n2).bind (fun (t : Unit) => laws_FnBackOf_n5 x4639 x4640)

def laws_FnBackOf_n7 (x4629 : List Int) (x4630 : List Int) : Option (Bool) :=
  (impl_TreeOk x4630).bind fun (v4700 : Bool) => cond v4700 ((impl_BackOf x4630).bind fun (v4701 : List Int) => (laws_sameInts v4701 x4629).bind fun (v4702 : Bool) => cond v4702 ((impl_FlatOk x4630).bind fun (v4703 : Bool) => (impl_FlatOk x4629).bind fun (v4704 : Bool) => some (v4703 == v4704)) (some false)) (some false)

def laws_FnBackOf_n8 (x4629 : List Int) (x4630 : List Int) (x4639 : List Int) (x4640 : List Int) : Option (Bool) :=
  (laws_FnBackOf_n6 x4639 x4640).bind (Sum.elim (fun (t : Unit) => laws_FnBackOf_n7 x4629 x4630) (fun e => some ((fun (t : Bool) => t) e)))

def laws_FnBackOf_n9 (x4485 : List Int) : Option (Bool) :=
  (laws_FnBackOf_n1 x4485).bind (Sum.elim (fun (t : (List Int) × (List Int) × (List Int) × (List Int)) => laws_FnBackOf_n8 t.1 t.2.1 t.2.2.1 t.2.2.2) (fun e => some ((fun (t : Bool) => t) e)))

@[irreducible] def laws_FnBackOf (x4485 : List Int) : Option (Bool) :=
  laws_FnBackOf_n9 x4485

/-! loop.example/headtrees/laws.toIntS -/

def laws_toIntS_n1 (x4715 : List Int) : Option (((List Int))) :=
  (mk (((List.length x4715 : Nat) : Int)) (((List.length x4715 : Nat) : Int))).bind fun (v4717 : Nat) => some (List.replicate v4717 (0 : Int))

def laws_toIntS_n2 : Option (Unit) :=
  some ()

def laws_toIntS_n3 (x4715 : List Int) (x4732 : Int) (x4733 : List Int) : Option ((Int × (List Int)) ⊕ ((List Int))) :=
  cond (decide (x4732 < (((List.length x4715 : Nat) : Int)))) ((idx x4715 x4732).bind fun (v4743 : Int) => (inb x4732 (List.length x4733)).bind fun (v4744 : Nat) => some (Sum.inl ((IntKind.wrap .i64 (x4732 + 1)), (x4733.set v4744 v4743)))) (some (Sum.inr x4733))

def laws_toIntS_n4 (x4715 : List Int) (x4718 : List Int) : Option (((List Int))) :=
  nloop (fun (s : Int × (List Int)) => ((laws_toIntS_n3 x4715 s.1 s.2).map (Sum.elim (fun (t : Int × (List Int)) => Sum.inl (t.1, t.2)) (fun (t : (List Int)) => Sum.inr t)) : Option ((Int × (List Int)) ⊕ (((List Int)))))) LL (0, x4718)

def laws_toIntS_n5 (x4715 : List Int) (x4718 : List Int) : Option (((List Int))) :=
  (laws_toIntS_n4 x4715 x4718).map (fun (t : (List Int)) => t)

def laws_toIntS_n6 (x4715 : List Int) (x4718 : List Int) : Option (((List Int))) :=
  (laws_toIntS_n2).bind (fun (t : Unit) => laws_toIntS_n5 x4715 x4718)

def laws_toIntS_n7 (x4733 : List Int) : Option (((List Int))) :=
  some x4733

def laws_toIntS_n8 (x4715 : List Int) (x4718 : List Int) : Option (((List Int))) :=
  (laws_toIntS_n6 x4715 x4718).bind (fun (t : (List Int)) => laws_toIntS_n7 t)

def laws_toIntS_n9 (x4715 : List Int) : Option (((List Int))) :=
  (laws_toIntS_n1 x4715).bind (fun (t : (List Int)) => laws_toIntS_n8 x4715 t)

@[irreducible] def laws_toIntS (x4715 : List Int) : Option ((List Int)) :=
  laws_toIntS_n9 x4715

/-! loop.example/headtrees/laws.eqIntS -/

def laws_eqIntS_n1 (x4766 : List Int) (x4767 : List Int) : Option (Unit ⊕ Bool) :=
  cond ((((List.length x4766 : Nat) : Int)) != (((List.length x4767 : Nat) : Int))) (some (Sum.inr false)) (some (Sum.inl ()))

def laws_eqIntS_n2 : Option (Unit) :=
  some ()

def laws_eqIntS_n3 (x4766 : List Int) (x4767 : List Int) (x4784 : Int) : Option (Int ⊕ Bool ⊕ Unit) :=
  cond (decide (x4784 < (((List.length x4766 : Nat) : Int)))) ((idx x4766 x4784).bind fun (v4794 : Int) => (idx x4767 x4784).bind fun (v4795 : Int) => cond (v4794 != v4795) (some (Sum.inr (Sum.inl false))) (some (Sum.inl (IntKind.wrap .i64 (x4784 + 1))))) (some (Sum.inr (Sum.inr ())))

def laws_eqIntS_n4 (x4766 : List Int) (x4767 : List Int) : Option (Bool ⊕ Unit) :=
  nloop (fun (s : Int) => ((laws_eqIntS_n3 x4766 x4767 s).map (Sum.elim (fun (t : Int) => Sum.inl t) (Sum.elim (fun (t : Bool) => Sum.inr (Sum.inl t)) (fun (t : Unit) => Sum.inr (Sum.inr t)))) : Option ((Int) ⊕ (Bool ⊕ Unit)))) LL 0

def laws_eqIntS_n5 (x4766 : List Int) (x4767 : List Int) : Option (Unit ⊕ Bool) :=
  (laws_eqIntS_n4 x4766 x4767).map (Sum.elim (fun (t : Bool) => (Sum.inr t)) (fun (t : Unit) => (Sum.inl ())))

def laws_eqIntS_n6 (x4766 : List Int) (x4767 : List Int) : Option (Unit ⊕ Bool) :=
  (laws_eqIntS_n2).bind (fun (t : Unit) => laws_eqIntS_n5 x4766 x4767)

def laws_eqIntS_n7 : Option (Bool) :=
  some true

def laws_eqIntS_n8 (x4766 : List Int) (x4767 : List Int) : Option (Bool) :=
  (laws_eqIntS_n6 x4766 x4767).bind (Sum.elim (fun (t : Unit) => laws_eqIntS_n7) (fun e => some ((fun (t : Bool) => t) e)))

def laws_eqIntS_n9 (x4766 : List Int) (x4767 : List Int) : Option (Bool) :=
  (laws_eqIntS_n1 x4766 x4767).bind (Sum.elim (fun (t : Unit) => laws_eqIntS_n8 x4766 x4767) (fun e => some ((fun (t : Bool) => t) e)))

@[irreducible] def laws_eqIntS (x4766 : List Int) (x4767 : List Int) : Option (Bool) :=
  laws_eqIntS_n9 x4766 x4767

/-! loop.example/headtrees/laws.markIntS -/

def laws_markIntS_n1 : Option (Unit) :=
  some ()

def laws_markIntS_n2 : Option (Unit) :=
  some ()

def laws_markIntS_n3 (x4849 : Int) (x4850 : Int) (x4851 : List Int) : Option ((Int × Int × (List Int)) ⊕ (Int × (List Int))) :=
  cond (decide (x4850 < (((List.length x4851 : Nat) : Int)))) ((inb x4850 (List.length x4851)).bind fun (v4861 : Nat) => some (Sum.inl ((IntKind.wrap .i64 (x4849 + 1)), (IntKind.wrap .i64 (x4850 + 1)), (x4851.set v4861 x4849)))) (some (Sum.inr (x4849, x4851)))

def laws_markIntS_n4 (x4834 : Int) (x4835 : List Int) : Option ((Int × (List Int))) :=
  nloop (fun (s : Int × Int × (List Int)) => ((laws_markIntS_n3 s.1 s.2.1 s.2.2).map (Sum.elim (fun (t : Int × Int × (List Int)) => Sum.inl (t.1, t.2.1, t.2.2)) (fun (t : Int × (List Int)) => Sum.inr t)) : Option ((Int × Int × (List Int)) ⊕ ((Int × (List Int)))))) LL (x4834, 0, x4835)

def laws_markIntS_n5 (x4834 : Int) (x4835 : List Int) : Option ((Int × (List Int))) :=
  (laws_markIntS_n4 x4834 x4835).map (fun (t : Int × (List Int)) => (t.1, t.2))

def laws_markIntS_n6 (x4834 : Int) (x4835 : List Int) : Option ((Int × (List Int))) :=
  (laws_markIntS_n2).bind (fun (t : Unit) => laws_markIntS_n5 x4834 x4835)

def laws_markIntS_n7 (x4849 : Int) (x4851 : List Int) : Option ((Int × (List Int))) :=
  some (x4849, x4851)

def laws_markIntS_n8 (x4834 : Int) (x4835 : List Int) : Option ((Int × (List Int))) :=
  (laws_markIntS_n6 x4834 x4835).bind (fun (t : Int × (List Int)) => laws_markIntS_n7 t.1 t.2)

def laws_markIntS_n9 (x4834 : Int) (x4835 : List Int) : Option ((Int × (List Int))) :=
  (laws_markIntS_n1).bind (fun (t : Unit) => laws_markIntS_n8 x4834 x4835)

@[irreducible] def laws_markIntS (x4834 : Int) (x4835 : List Int) : Option (Int × (List Int)) :=
  laws_markIntS_n9 x4834 x4835

/-! loop.example/headtrees/laws.heldIntS -/

def laws_heldIntS_n1 : Option (Unit) :=
  some ()

def laws_heldIntS_n2 : Option (Unit) :=
  some ()

def laws_heldIntS_n3 (x4962 : List Int) (x4977 : Int) (x4978 : Int) : Option ((Int × Int) ⊕ Int ⊕ Int) :=
  cond (decide (x4978 < (((List.length x4962 : Nat) : Int)))) ((idx x4962 x4978).bind fun (v4988 : Int) => cond (v4988 != x4977) (some (Sum.inr (Sum.inl (-1)))) (some (Sum.inl ((IntKind.wrap .i64 (x4977 + 1)), (IntKind.wrap .i64 (x4978 + 1)))))) (some (Sum.inr (Sum.inr x4977)))

def laws_heldIntS_n4 (x4962 : List Int) (x4963 : Int) : Option (Int ⊕ Int) :=
  nloop (fun (s : Int × Int) => ((laws_heldIntS_n3 x4962 s.1 s.2).map (Sum.elim (fun (t : Int × Int) => Sum.inl (t.1, t.2)) (Sum.elim (fun (t : Int) => Sum.inr (Sum.inl t)) (fun (t : Int) => Sum.inr (Sum.inr t)))) : Option ((Int × Int) ⊕ (Int ⊕ Int)))) LL (x4963, 0)

def laws_heldIntS_n5 (x4962 : List Int) (x4963 : Int) : Option (Int ⊕ Int) :=
  (laws_heldIntS_n4 x4962 x4963).map (Sum.elim (fun (t : Int) => (Sum.inr t)) (fun (t : Int) => (Sum.inl t)))

def laws_heldIntS_n6 (x4962 : List Int) (x4963 : Int) : Option (Int ⊕ Int) :=
  (laws_heldIntS_n2).bind (fun (t : Unit) => laws_heldIntS_n5 x4962 x4963)

def laws_heldIntS_n7 (x4977 : Int) : Option (Int) :=
  some x4977

def laws_heldIntS_n8 (x4962 : List Int) (x4963 : Int) : Option (Int) :=
  (laws_heldIntS_n6 x4962 x4963).bind (Sum.elim (fun (t : Int) => laws_heldIntS_n7 t) (fun e => some ((fun (t : Int) => t) e)))

def laws_heldIntS_n9 (x4962 : List Int) (x4963 : Int) : Option (Int) :=
  (laws_heldIntS_n1).bind (fun (t : Unit) => laws_heldIntS_n8 x4962 x4963)

@[irreducible] def laws_heldIntS (x4962 : List Int) (x4963 : Int) : Option (Int) :=
  laws_heldIntS_n9 x4962 x4963

/-! loop.example/headtrees/laws.FnExactYieldOf -/

def laws_FnExactYieldOf_n1 (x4709 : List Int) (x4710 : Int) : Option (Bool) :=
  cond (decide ((((List.length x4709 : Nat) : Int)) > 1048576)) (some true) ((laws_toIntS x4709).bind fun (v5237 : List Int) => (spec_YieldOf v5237 x4710).bind fun (v5238 : List Int) => (laws_toIntS x4709).bind fun (v5239 : List Int) => (impl_YieldOf v5239 x4710).bind fun (v5240 : List Int) => (laws_eqIntS v5240 v5238).bind fun (v5241 : Bool) => cond (!v5241) (some false) ((laws_toIntS x4709).bind fun (v5243 : List Int) => (laws_eqIntS v5239 v5243).bind fun (v5244 : Bool) => cond (!v5244) (some false) ((laws_markIntS 1 v5239).bind fun (v5246 : Int × (List Int)) => cond (decide ((v5246.1) < 0)) (some false) ((laws_eqIntS v5240 v5238).bind fun (v5250 : Bool) => cond (!v5250) (some false) ((laws_markIntS 1 v5240).bind fun (v5252 : Int × (List Int)) => (laws_heldIntS (v5252.2) 1).bind fun (v5255 : Int) => cond (decide (v5255 < 0)) (some false) (cond (v5255 != (v5252.1)) (some false) ((laws_toIntS x4709).bind fun (v5258 : List Int) => (impl_YieldOf v5258 x4710).bind fun (v5259 : List Int) => (laws_eqIntS v5259 v5238).bind fun (v5260 : Bool) => cond (!v5260) (some false) ((laws_heldIntS (v5252.2) 1).bind fun (v5262 : Int) => cond (decide (v5262 < 0)) (some false) (cond (v5262 != (v5252.1)) (some false) (some true))))))))))

@[irreducible] def laws_FnExactYieldOf (x4709 : List Int) (x4710 : Int) : Option (Bool) :=
  laws_FnExactYieldOf_n1 x4709 x4710

/-! loop.example/headtrees/laws.FnExactDependsOf -/

def laws_FnExactDependsOf_n1 (x5268 : List Int) (x5269 : Int) : Option (Bool) :=
  cond (decide ((((List.length x5268 : Nat) : Int)) > 1048576)) (some true) ((laws_toIntS x5268).bind fun (v5669 : List Int) => (spec_DependsOf v5669 x5269).bind fun (v5670 : List Int) => (laws_toIntS x5268).bind fun (v5671 : List Int) => (impl_DependsOf v5671 x5269).bind fun (v5672 : List Int) => (laws_eqIntS v5672 v5670).bind fun (v5673 : Bool) => cond (!v5673) (some false) ((laws_toIntS x5268).bind fun (v5675 : List Int) => (laws_eqIntS v5671 v5675).bind fun (v5676 : Bool) => cond (!v5676) (some false) ((laws_markIntS 1 v5671).bind fun (v5678 : Int × (List Int)) => cond (decide ((v5678.1) < 0)) (some false) ((laws_eqIntS v5672 v5670).bind fun (v5682 : Bool) => cond (!v5682) (some false) ((laws_markIntS 1 v5672).bind fun (v5684 : Int × (List Int)) => (laws_heldIntS (v5684.2) 1).bind fun (v5687 : Int) => cond (decide (v5687 < 0)) (some false) (cond (v5687 != (v5684.1)) (some false) ((laws_toIntS x5268).bind fun (v5690 : List Int) => (impl_DependsOf v5690 x5269).bind fun (v5691 : List Int) => (laws_eqIntS v5691 v5670).bind fun (v5692 : Bool) => cond (!v5692) (some false) ((laws_heldIntS (v5684.2) 1).bind fun (v5694 : Int) => cond (decide (v5694 < 0)) (some false) (cond (v5694 != (v5684.1)) (some false) (some true))))))))))

@[irreducible] def laws_FnExactDependsOf (x5268 : List Int) (x5269 : Int) : Option (Bool) :=
  laws_FnExactDependsOf_n1 x5268 x5269

/-! loop.example/headtrees/laws.FnExactUnderOk -/

def laws_FnExactUnderOk_n1 (x5701 : List Int) (x5702 : Int) (x5703 : Int) : Option (Bool) :=
  cond (decide ((((List.length x5701 : Nat) : Int)) > 1048576)) (some true) ((laws_toIntS x5701).bind fun (v5750 : List Int) => (spec_UnderOk v5750 x5702 x5703).bind fun (v5751 : Bool) => (laws_toIntS x5701).bind fun (v5752 : List Int) => (impl_UnderOk v5752 x5702 x5703).bind fun (v5753 : Bool) => cond (v5753 != v5751) (some false) ((laws_toIntS x5701).bind fun (v5755 : List Int) => (laws_eqIntS v5752 v5755).bind fun (v5756 : Bool) => cond (!v5756) (some false) (some true)))

@[irreducible] def laws_FnExactUnderOk (x5701 : List Int) (x5702 : Int) (x5703 : Int) : Option (Bool) :=
  laws_FnExactUnderOk_n1 x5701 x5702 x5703

/-! loop.example/headtrees/laws.FnExactMeetOf -/

def laws_FnExactMeetOf_n1 (x5762 : List Int) (x5763 : Int) (x5764 : Int) : Option (Bool) :=
  cond (decide ((((List.length x5762 : Nat) : Int)) > 1048576)) (some true) ((laws_toIntS x5762).bind fun (v5811 : List Int) => (spec_MeetOf v5811 x5763 x5764).bind fun (v5812 : Int) => (laws_toIntS x5762).bind fun (v5813 : List Int) => (impl_MeetOf v5813 x5763 x5764).bind fun (v5814 : Int) => cond (v5814 != v5812) (some false) ((laws_toIntS x5762).bind fun (v5816 : List Int) => (laws_eqIntS v5813 v5816).bind fun (v5817 : Bool) => cond (!v5817) (some false) (some true)))

@[irreducible] def laws_FnExactMeetOf (x5762 : List Int) (x5763 : Int) (x5764 : Int) : Option (Bool) :=
  laws_FnExactMeetOf_n1 x5762 x5763 x5764

/-! loop.example/headtrees/laws.FnExactFlatOk -/

def laws_FnExactFlatOk_n1 (x5821 : List Int) : Option (Bool) :=
  cond (decide ((((List.length x5821 : Nat) : Int)) > 1048576)) (some true) ((laws_toIntS x5821).bind fun (v5868 : List Int) => (spec_FlatOk v5868).bind fun (v5869 : Bool) => (laws_toIntS x5821).bind fun (v5870 : List Int) => (impl_FlatOk v5870).bind fun (v5871 : Bool) => cond (v5871 != v5869) (some false) ((laws_toIntS x5821).bind fun (v5873 : List Int) => (laws_eqIntS v5870 v5873).bind fun (v5874 : Bool) => cond (!v5874) (some false) (some true)))

@[irreducible] def laws_FnExactFlatOk (x5821 : List Int) : Option (Bool) :=
  laws_FnExactFlatOk_n1 x5821

end Go.Rv
