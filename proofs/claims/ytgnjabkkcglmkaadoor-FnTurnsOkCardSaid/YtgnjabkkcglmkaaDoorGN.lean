/-
  Plain functions, written by program for functions of the checked code. Conditions: none.
-/
import Derived.Test.YtgnjabkkcglmkaaDoorFB
set_option linter.unusedVariables false
namespace Go.Rv
/-! loop.example/headtrees/spec.l20Open -/

def spec_l20Open_n1 (x13 : List Int) : Option (((List Int))) :=
  cond (decide ((((List.length x13 : Nat) : Int)) > 2000)) ((inc 2000 (List.length x13)).bind fun (v29 : Nat) => some ((x13.take v29).drop 0)) (some x13)

@[irreducible] def spec_l20Open (x13 : List Int) : Option ((List Int)) :=
  spec_l20Open_n1 x13

/-! (*loop.example/headtrees/spec.l20Rd).pick -/

def spec_l20Rd_pick_n1 (x42 : Int) (x43 : List Int) (x44 : Int) : Option ((Int × Int)) :=
  cond (decide (x42 < 1)) (some (0, (IntKind.wrap .i64 (x44 + 1)))) (cond ((((List.length x43 : Nat) : Int)) == 0) (some (0, (IntKind.wrap .i64 (x44 + 1)))) (cond (decide ((IntKind.wrap .i64 ((IntKind.wrap .i64 (x44 + 1)) - 1)) < (((List.length x43 : Nat) : Int)))) ((idx x43 (IntKind.wrap .i64 ((IntKind.wrap .i64 (x44 + 1)) - 1))).bind fun (v171 : Int) => (rem (IntKind.wrap .i64 v171) x42).bind fun (v173 : Int) => some (v173, (IntKind.wrap .i64 (x44 + 1)))) ((rem (IntKind.wrap .i64 ((IntKind.wrap .i64 (x44 + 1)) - 1)) (((List.length x43 : Nat) : Int))).bind fun (v175 : Int) => (idx x43 v175).bind fun (v176 : Int) => (rem (IntKind.wrap .i64 ((IntKind.wrap .i64 ((IntKind.wrap .i64 ((IntKind.wrap .i64 (x44 + 1)) - 1)) * 7)) + 3)) (((List.length x43 : Nat) : Int))).bind fun (v182 : Int) => (idx x43 v182).bind fun (v183 : Int) => (quo .i64 (IntKind.wrap .i64 ((IntKind.wrap .i64 (x44 + 1)) - 1)) (((List.length x43 : Nat) : Int))).bind fun (v190 : Int) => (quo .i64 (IntKind.wrap .i64 ((IntKind.wrap .i64 ((IntKind.wrap .i64 ((IntKind.wrap .i64 ((IntKind.wrap .i64 v176) * 131)) + (IntKind.wrap .i64 ((IntKind.wrap .i64 v183) * 1117)))) + (IntKind.wrap .i64 ((IntKind.wrap .i64 ((IntKind.wrap .i64 (x44 + 1)) - 1)) * 29)))) + (IntKind.wrap .i64 (v190 * 53)))) 64).bind fun (v193 : Int) => (rem (ixor .i64 (IntKind.wrap .i64 ((IntKind.wrap .i64 ((IntKind.wrap .i64 ((IntKind.wrap .i64 ((IntKind.wrap .i64 v176) * 131)) + (IntKind.wrap .i64 ((IntKind.wrap .i64 v183) * 1117)))) + (IntKind.wrap .i64 ((IntKind.wrap .i64 ((IntKind.wrap .i64 (x44 + 1)) - 1)) * 29)))) + (IntKind.wrap .i64 (v190 * 53)))) v193) x42).bind fun (v195 : Int) => some (v195, (IntKind.wrap .i64 (x44 + 1))))))

@[irreducible] def spec_l20Rd_pick (x42 : Int) (x43 : List Int) (x44 : Int) : Option (Int × Int) :=
  spec_l20Rd_pick_n1 x42 x43 x44

/-! loop.example/headtrees/spec.l20Order -/

def spec_l20Order_n1 (x206 : List Int) (x207 : Int) : Option ((Int × Int)) :=
  (spec_l20Rd_pick 2 x206 x207).bind fun (v209 : Int × Int) => some ((v209.1), (v209.2))

def spec_l20Order_n2 : Option (Unit) :=
  some ()

def spec_l20Order_n3 (x205 : Int) (x210 : Int) (x353 : Int) (x206 : List Int) (x354 : Int) (x355 : List Int) : Option ((Int × Int × (List Int)) ⊕ (Int × (List Int))) :=
  cond (decide (x353 ≤ x205)) (cond (x210 == 0) ((spec_l20Rd_pick x353 x206 x354).bind fun (v427 : Int × Int) => (inc (v427.1) (List.length x355)).bind fun (v431 : Nat) => (room ((List.length ([] : List Int)) + List.length ((x355.drop 0).take (v431 - 0)))).bind fun (v435 : Unit) => (room ((List.length (([] : List Int) ++ ((x355.drop 0).take (v431 - 0)))) + List.length ([x353]))).bind fun (v439 : Unit) => (inc (v427.1) (List.length x355)).bind fun (v442 : Nat) => (room ((List.length ((([] : List Int) ++ ((x355.drop 0).take (v431 - 0))) ++ ([x353]))) + List.length ((x355.drop v442).take ((List.length x355) - v442)))).bind fun (v446 : Unit) => some (Sum.inl ((IntKind.wrap .i64 (x353 + 1)), (v427.2), (((([] : List Int) ++ ((x355.drop 0).take (v431 - 0))) ++ ([x353])) ++ ((x355.drop v442).take ((List.length x355) - v442)))))) ((spec_l20Rd_pick 3 x206 x354).bind fun (v449 : Int × Int) => cond ((v449.1) == 0) ((spec_l20Rd_pick x353 x206 (v449.2)).bind fun (v453 : Int × Int) => (inc (v453.1) (List.length x355)).bind fun (v457 : Nat) => (room ((List.length ([] : List Int)) + List.length ((x355.drop 0).take (v457 - 0)))).bind fun (v461 : Unit) => (room ((List.length (([] : List Int) ++ ((x355.drop 0).take (v457 - 0)))) + List.length ([x353]))).bind fun (v465 : Unit) => (inc (v453.1) (List.length x355)).bind fun (v468 : Nat) => (room ((List.length ((([] : List Int) ++ ((x355.drop 0).take (v457 - 0))) ++ ([x353]))) + List.length ((x355.drop v468).take ((List.length x355) - v468)))).bind fun (v472 : Unit) => some (Sum.inl ((IntKind.wrap .i64 (x353 + 1)), (v453.2), (((([] : List Int) ++ ((x355.drop 0).take (v457 - 0))) ++ ([x353])) ++ ((x355.drop v468).take ((List.length x355) - v468)))))) ((inc (((List.length x355 : Nat) : Int)) (List.length x355)).bind fun (v476 : Nat) => (room ((List.length ([] : List Int)) + List.length ((x355.drop 0).take (v476 - 0)))).bind fun (v480 : Unit) => (room ((List.length (([] : List Int) ++ ((x355.drop 0).take (v476 - 0)))) + List.length ([x353]))).bind fun (v484 : Unit) => (inc (((List.length x355 : Nat) : Int)) (List.length x355)).bind fun (v487 : Nat) => (room ((List.length ((([] : List Int) ++ ((x355.drop 0).take (v476 - 0))) ++ ([x353]))) + List.length ((x355.drop v487).take ((List.length x355) - v487)))).bind fun (v491 : Unit) => some (Sum.inl ((IntKind.wrap .i64 (x353 + 1)), (v449.2), (((([] : List Int) ++ ((x355.drop 0).take (v476 - 0))) ++ ([x353])) ++ ((x355.drop v487).take ((List.length x355) - v487)))))))) (some (Sum.inr (x354, x355)))

def spec_l20Order_n4 (x205 : Int) (x210 : Int) (x206 : List Int) (x211 : Int) : Option ((Int × (List Int))) :=
  nloop (fun (s : Int × Int × (List Int)) => ((spec_l20Order_n3 x205 x210 s.1 x206 s.2.1 s.2.2).map (Sum.elim (fun (t : Int × Int × (List Int)) => Sum.inl (t.1, t.2.1, t.2.2)) (fun (t : Int × (List Int)) => Sum.inr t)) : Option ((Int × Int × (List Int)) ⊕ ((Int × (List Int)))))) LL (1, x211, ([] : List Int))

def spec_l20Order_n5 (x205 : Int) (x210 : Int) (x206 : List Int) (x211 : Int) : Option ((Int × (List Int))) :=
  (spec_l20Order_n4 x205 x210 x206 x211).map (fun (t : Int × (List Int)) => (t.1, t.2))

def spec_l20Order_n6 (x205 : Int) (x210 : Int) (x206 : List Int) (x211 : Int) : Option ((Int × (List Int))) :=
  (spec_l20Order_n2).bind (fun (t : Unit) => spec_l20Order_n5 x205 x210 x206 x211)

def spec_l20Order_n7 (x354 : Int) (x355 : List Int) : Option ((Int × (List Int))) :=
  some (x354, x355)

def spec_l20Order_n8 (x205 : Int) (x210 : Int) (x206 : List Int) (x211 : Int) : Option ((Int × (List Int))) :=
  (spec_l20Order_n6 x205 x210 x206 x211).bind (fun (t : Int × (List Int)) => spec_l20Order_n7 t.1 t.2)

def spec_l20Order_n9 (x205 : Int) (x206 : List Int) (x207 : Int) : Option ((Int × (List Int))) :=
  (spec_l20Order_n1 x206 x207).bind (fun (t : Int × Int) => spec_l20Order_n8 x205 t.1 x206 t.2)

@[irreducible] def spec_l20Order (x205 : Int) (x206 : List Int) (x207 : Int) : Option (Int × (List Int)) :=
  spec_l20Order_n9 x205 x206 x207

/-! (*loop.example/headtrees/spec.l20Rd).odd -/

def spec_l20Rd_odd_n1 (x662 : Int) (x663 : List Int) (x664 : Int) : Option ((Bool × Int)) :=
  cond (decide (x662 > 0)) ((spec_l20Rd_pick x662 x663 x664).bind fun (v672 : Int × Int) => some (((v672.1) == (IntKind.wrap .i64 (x662 - 1))), (v672.2))) (some (false, x664))

@[irreducible] def spec_l20Rd_odd (x662 : Int) (x663 : List Int) (x664 : Int) : Option (Bool × Int) :=
  spec_l20Rd_odd_n1 x662 x663 x664

/-! loop.example/headtrees/spec.l20Tree -/

def spec_l20Tree_n1 (x39 : List Int) (x40 : Int) : Option ((Int × Int × Int × (List Int) × (List Int))) :=
  (spec_l20Rd_pick 7 x39 x40).bind fun (v509 : Int × Int) => (spec_l20Order (IntKind.wrap .i64 (1 + (v509.1))) x39 (v509.2)).bind fun (v513 : Int × (List Int)) => (mk (IntKind.wrap .i64 (1 + (v509.1))) (IntKind.wrap .i64 (1 + (v509.1)))).bind fun (v516 : Nat) => (spec_l20Rd_pick 2 x39 (v513.1)).bind fun (v518 : Int × Int) => some ((IntKind.wrap .i64 (1 + (v509.1))), (v518.1), (v518.2), (v513.2), (List.replicate v516 (0 : Int)))

def spec_l20Tree_n2 : Option (Unit) :=
  some ()

def spec_l20Tree_n3 (x512 : Int) (x519 : Int) (x590 : Int) (x39 : List Int) (x591 : Int) (x515 : List Int) (x592 : List Int) : Option ((Int × Int × (List Int)) ⊕ (Int × (List Int))) :=
  cond (decide (x590 < x512)) ((spec_l20Rd_pick x590 x39 x591).bind fun (v626 : Int × Int) => cond (x519 == 1) ((spec_l20Rd_pick 2 x39 (v626.2)).bind fun (v630 : Int × Int) => cond ((v630.1) == 0) ((inb x590 (List.length x515)).bind fun (v635 : Nat) => (x515[v635]?).bind fun (v636 : Int) => (inb (IntKind.wrap .i64 (x590 - 1)) (List.length x515)).bind fun (v638 : Nat) => (x515[v638]?).bind fun (v639 : Int) => (inb (IntKind.wrap .i64 (v636 - 1)) (List.length x592)).bind fun (v640 : Nat) => some (Sum.inl ((IntKind.wrap .i64 (x590 + 1)), (v630.2), (x592.set v640 v639)))) ((inb x590 (List.length x515)).bind fun (v643 : Nat) => (x515[v643]?).bind fun (v644 : Int) => (inb (v626.1) (List.length x515)).bind fun (v646 : Nat) => (x515[v646]?).bind fun (v647 : Int) => (inb (IntKind.wrap .i64 (v644 - 1)) (List.length x592)).bind fun (v648 : Nat) => some (Sum.inl ((IntKind.wrap .i64 (x590 + 1)), (v630.2), (x592.set v648 v647))))) ((inb x590 (List.length x515)).bind fun (v651 : Nat) => (x515[v651]?).bind fun (v652 : Int) => (inb (v626.1) (List.length x515)).bind fun (v654 : Nat) => (x515[v654]?).bind fun (v655 : Int) => (inb (IntKind.wrap .i64 (v652 - 1)) (List.length x592)).bind fun (v656 : Nat) => some (Sum.inl ((IntKind.wrap .i64 (x590 + 1)), (v626.2), (x592.set v656 v655))))) (some (Sum.inr (x591, x592)))

def spec_l20Tree_n4 (x512 : Int) (x519 : Int) (x39 : List Int) (x520 : Int) (x515 : List Int) (x517 : List Int) : Option ((Int × (List Int))) :=
  nloop (fun (s : Int × Int × (List Int)) => ((spec_l20Tree_n3 x512 x519 s.1 x39 s.2.1 x515 s.2.2).map (Sum.elim (fun (t : Int × Int × (List Int)) => Sum.inl (t.1, t.2.1, t.2.2)) (fun (t : Int × (List Int)) => Sum.inr t)) : Option ((Int × Int × (List Int)) ⊕ ((Int × (List Int)))))) LL (1, x520, x517)

def spec_l20Tree_n5 (x512 : Int) (x519 : Int) (x39 : List Int) (x520 : Int) (x515 : List Int) (x517 : List Int) : Option ((Int × (List Int))) :=
  (spec_l20Tree_n4 x512 x519 x39 x520 x515 x517).map (fun (t : Int × (List Int)) => (t.1, t.2))

def spec_l20Tree_n6 (x512 : Int) (x519 : Int) (x39 : List Int) (x520 : Int) (x515 : List Int) (x517 : List Int) : Option ((Int × (List Int))) :=
  (spec_l20Tree_n2).bind (fun (t : Unit) => spec_l20Tree_n5 x512 x519 x39 x520 x515 x517)

def spec_l20Tree_n7 (x38 : Int) (x512 : Int) (x39 : List Int) (x591 : Int) (x592 : List Int) : Option ((Int × (List Int))) :=
  (spec_l20Rd_odd x38 x39 x591).bind fun (v737 : Bool × Int) => cond (v737.1) ((spec_l20Rd_pick 4 x39 (v737.2)).bind fun (v740 : Int × Int) => cond ((v740.1) == 0) (some ((v740.2), ([] : List Int))) (cond ((v740.1) == 1) (some ((v740.2), ([2, 1, 0]))) (cond ((v740.1) == 2) ((spec_l20Rd_pick x512 x39 (v740.2)).bind fun (v747 : Int × Int) => (inb (v747.1) (List.length x592)).bind fun (v750 : Nat) => (room ((List.length (x592.set v750 0)) + List.length ([0]))).bind fun (v754 : Unit) => some ((v747.2), ((x592.set v750 0) ++ ([0])))) ((spec_l20Rd_pick 3 x39 (v740.2)).bind fun (v758 : Int × Int) => (inb (v758.1) (List.length ([1, (IntKind.wrap .i64 (x512 + 1)), (-1)]))).bind fun (v761 : Nat) => (([1, (IntKind.wrap .i64 (x512 + 1)), (-1)])[v761]?).bind fun (v762 : Int) => (inb 0 (List.length x592)).bind fun (v763 : Nat) => some ((v758.2), (x592.set v763 v762)))))) (some ((v737.2), x592))

def spec_l20Tree_n8 (x38 : Int) (x512 : Int) (x519 : Int) (x39 : List Int) (x520 : Int) (x515 : List Int) (x517 : List Int) : Option ((Int × (List Int))) :=
  (spec_l20Tree_n6 x512 x519 x39 x520 x515 x517).bind (fun (t : Int × (List Int)) => spec_l20Tree_n7 x38 x512 x39 t.1 t.2)

def spec_l20Tree_n9 (x38 : Int) (x39 : List Int) (x40 : Int) : Option ((Int × (List Int))) :=
  (spec_l20Tree_n1 x39 x40).bind (fun (t : Int × Int × Int × (List Int) × (List Int)) => spec_l20Tree_n8 x38 t.1 t.2.1 x39 t.2.2.1 t.2.2.2.1 t.2.2.2.2)

@[irreducible] def spec_l20Tree (x38 : Int) (x39 : List Int) (x40 : Int) : Option (Int × (List Int)) :=
  spec_l20Tree_n9 x38 x39 x40

/-! loop.example/headtrees/spec.l1In -/

def spec_l1In_n1 (x781 : Int) (x782 : Int) (x783 : Int) : Option (Bool) :=
  cond (decide (x781 ≥ x782)) (some (decide (x781 ≤ x783))) (some false)

@[irreducible] def spec_l1In (x781 : Int) (x782 : Int) (x783 : Int) : Option (Bool) :=
  spec_l1In_n1 x781 x782 x783

/-! loop.example/headtrees/spec.TreeOk -/

def spec_TreeOk_n1 (x777 : List Int) : Option (Int ⊕ Bool) :=
  (spec_l1In (((List.length x777 : Nat) : Int)) 1 8).bind fun (v792 : Bool) => cond (!v792) (some (Sum.inr false)) (some (Sum.inl (((List.length x777 : Nat) : Int))))

def spec_TreeOk_n2 : Option (Unit) :=
  some ()

def spec_TreeOk_n3 (x791 : Int) (x858 : Int) (x859 : Int) : Option (Unit ⊕ Int) :=
  cond (decide (x859 < x791)) (some (Sum.inl ())) (some (Sum.inr x858))

def spec_TreeOk_n4 (x777 : List Int) (x791 : Int) (x858 : Int) (x859 : Int) : Option ((Int × Int) ⊕ Bool) :=
  (idx x777 x859).bind fun (v876 : Int) => (spec_l1In v876 0 x791).bind fun (v877 : Bool) => cond (!v877) (some (Sum.inr false)) ((idx x777 x859).bind fun (v879 : Int) => cond (v879 == (IntKind.wrap .i64 (x859 + 1))) (some (Sum.inr false)) ((idx x777 x859).bind fun (v882 : Int) => cond (v882 == 0) (some (Sum.inl ((IntKind.wrap .i64 (x858 + 1)), (IntKind.wrap .i64 (x859 + 1))))) (some (Sum.inl (x858, (IntKind.wrap .i64 (x859 + 1)))))))

def spec_TreeOk_n5 : Option (Unit) :=
  some ()

def spec_TreeOk_n6 (x777 : List Int) (x791 : Int) (x904 : Int) (x905 : Int) : Option ((Int × Int) ⊕ Bool ⊕ Int) :=
  cond (decide (x904 > 0)) (cond (decide (x905 < x791)) ((idx x777 (IntKind.wrap .i64 (x904 - 1))).bind fun (v917 : Int) => (spec_l1In v917 0 x791).bind fun (v918 : Bool) => cond (!v918) (some (Sum.inr (Sum.inl false))) (some (Sum.inl (v917, (IntKind.wrap .i64 (x905 + 1)))))) (some (Sum.inr (Sum.inr x904)))) (some (Sum.inr (Sum.inr x904)))

def spec_TreeOk_n7 (x777 : List Int) (x791 : Int) (x888 : Int) : Option (Bool ⊕ Int) :=
  nloop (fun (s : Int × Int) => ((spec_TreeOk_n6 x777 x791 s.1 s.2).map (Sum.elim (fun (t : Int × Int) => Sum.inl (t.1, t.2)) (Sum.elim (fun (t : Bool) => Sum.inr (Sum.inl t)) (fun (t : Int) => Sum.inr (Sum.inr t)))) : Option ((Int × Int) ⊕ (Bool ⊕ Int)))) LL (x888, 0)

def spec_TreeOk_n8 (x777 : List Int) (x791 : Int) (x888 : Int) : Option (Int ⊕ Bool) :=
  (spec_TreeOk_n7 x777 x791 x888).map (Sum.elim (fun (t : Bool) => (Sum.inr t)) (fun (t : Int) => (Sum.inl t)))

def spec_TreeOk_n9 (x777 : List Int) (x791 : Int) (x888 : Int) : Option (Int ⊕ Bool) :=
  (spec_TreeOk_n5).bind (fun (t : Unit) => spec_TreeOk_n8 x777 x791 x888)

def spec_TreeOk_n10 (x904 : Int) : Option (Unit ⊕ Bool) :=
  cond (decide (x904 > 0)) (some (Sum.inr false)) (some (Sum.inl ()))

def spec_TreeOk_n11 (x777 : List Int) (x791 : Int) (x888 : Int) : Option (Unit ⊕ Bool) :=
  (spec_TreeOk_n9 x777 x791 x888).bind (Sum.elim (fun (t : Int) => spec_TreeOk_n10 t) (fun e => some ((fun (t : Bool) => (Sum.inr t)) e)))

def spec_TreeOk_n12 (x777 : List Int) (x791 : Int) (x858 : Int) (x859 : Int) : Option (Int ⊕ Bool) :=
  (spec_TreeOk_n4 x777 x791 x858 x859).bind (Sum.elim (fun (t : Int × Int) => (spec_TreeOk_n11 x777 x791 t.2).map (Sum.elim (fun (u : Unit) => (Sum.inl t.1)) (fun (u : Bool) => (Sum.inr u)))) (fun e => some ((fun (t : Bool) => (Sum.inr t)) e)))

def spec_TreeOk_n13 (x777 : List Int) (x791 : Int) (x858 : Int) (x859 : Int) : Option (Int ⊕ Bool) :=
  (spec_TreeOk_n12 x777 x791 x858 x859).map (Sum.elim (fun (t : Int) => (Sum.inl t)) (fun (t : Bool) => (Sum.inr t)))

def spec_TreeOk_n14 (x859 : Int) : Option (Int) :=
  some (IntKind.wrap .i64 (x859 + 1))

def spec_TreeOk_n15 (x777 : List Int) (x791 : Int) (x858 : Int) (x859 : Int) : Option ((Int × Int) ⊕ Bool) :=
  (spec_TreeOk_n13 x777 x791 x858 x859).bind (Sum.elim (fun (t : Int) => (spec_TreeOk_n14 x859).map (fun (u : Int) => (Sum.inl (t, u)))) (fun e => some ((fun (t : Bool) => (Sum.inr t)) e)))

def spec_TreeOk_n16 (x777 : List Int) (x791 : Int) (x858 : Int) (x859 : Int) : Option ((Int × Int) ⊕ Bool ⊕ Int) :=
  (spec_TreeOk_n3 x791 x858 x859).bind (Sum.elim (fun (t : Unit) => (spec_TreeOk_n15 x777 x791 x858 x859).map (Sum.elim (fun (t : Int × Int) => (Sum.inl (t.1, t.2))) (fun (t : Bool) => (Sum.inr (Sum.inl t))))) (fun e => some ((fun (t : Int) => (Sum.inr (Sum.inr t))) e)))

def spec_TreeOk_n17 (x777 : List Int) (x791 : Int) : Option (Bool ⊕ Int) :=
  nloop (fun (s : Int × Int) => ((spec_TreeOk_n16 x777 x791 s.1 s.2).map (Sum.elim (fun (t : Int × Int) => Sum.inl (t.1, t.2)) (Sum.elim (fun (t : Bool) => Sum.inr (Sum.inl t)) (fun (t : Int) => Sum.inr (Sum.inr t)))) : Option ((Int × Int) ⊕ (Bool ⊕ Int)))) LL (0, 0)

def spec_TreeOk_n18 (x777 : List Int) (x791 : Int) : Option (Int ⊕ Bool) :=
  (spec_TreeOk_n17 x777 x791).map (Sum.elim (fun (t : Bool) => (Sum.inr t)) (fun (t : Int) => (Sum.inl t)))

def spec_TreeOk_n19 (x777 : List Int) (x791 : Int) : Option (Int ⊕ Bool) :=
  (spec_TreeOk_n2).bind (fun (t : Unit) => spec_TreeOk_n18 x777 x791)

def spec_TreeOk_n20 (x858 : Int) : Option (Bool) :=
  some (x858 == 1)

def spec_TreeOk_n21 (x777 : List Int) (x791 : Int) : Option (Bool) :=
  (spec_TreeOk_n19 x777 x791).bind (Sum.elim (fun (t : Int) => spec_TreeOk_n20 t) (fun e => some ((fun (t : Bool) => t) e)))

def spec_TreeOk_n22 (x777 : List Int) : Option (Bool) :=
  (spec_TreeOk_n1 x777).bind (Sum.elim (fun (t : Int) => spec_TreeOk_n21 x777 t) (fun e => some ((fun (t : Bool) => t) e)))

@[irreducible] def spec_TreeOk (x777 : List Int) : Option (Bool) :=
  spec_TreeOk_n22 x777

/-! loop.example/headtrees/spec.OrderOk -/

def spec_OrderOk_n1 : Option (Unit) :=
  some ()

def spec_OrderOk_n2 : Option (Unit) :=
  some ()

def spec_OrderOk_n3 (x937 : List Int) (x969 : Int) : Option (Unit ⊕ Unit) :=
  cond (decide (x969 < (((List.length x937 : Nat) : Int)))) (some (Sum.inl ())) (some (Sum.inr ()))

def spec_OrderOk_n4 (x937 : List Int) (x938 : Int) (x969 : Int) : Option (Unit ⊕ Bool) :=
  (idx x937 x969).bind fun (v975 : Int) => (spec_l1In v975 1 x938).bind fun (v976 : Bool) => cond (!v976) (some (Sum.inr false)) (some (Sum.inl ()))

def spec_OrderOk_n5 (x937 : List Int) (x969 : Int) (x988 : Int) : Option (Int ⊕ Bool ⊕ Unit) :=
  cond (decide (x988 < x969)) ((idx x937 x988).bind fun (v995 : Int) => (idx x937 x969).bind fun (v996 : Int) => cond (v995 == v996) (some (Sum.inr (Sum.inl false))) (some (Sum.inl (IntKind.wrap .i64 (x988 + 1))))) (some (Sum.inr (Sum.inr ())))

def spec_OrderOk_n6 (x937 : List Int) (x969 : Int) : Option (Bool ⊕ Unit) :=
  nloop (fun (s : Int) => ((spec_OrderOk_n5 x937 x969 s).map (Sum.elim (fun (t : Int) => Sum.inl t) (Sum.elim (fun (t : Bool) => Sum.inr (Sum.inl t)) (fun (t : Unit) => Sum.inr (Sum.inr t)))) : Option ((Int) ⊕ (Bool ⊕ Unit)))) LL 0

def spec_OrderOk_n7 (x937 : List Int) (x969 : Int) : Option (Unit ⊕ Bool) :=
  (spec_OrderOk_n6 x937 x969).map (Sum.elim (fun (t : Bool) => (Sum.inr t)) (fun (t : Unit) => (Sum.inl ())))

def spec_OrderOk_n8 (x937 : List Int) (x938 : Int) (x969 : Int) : Option (Unit ⊕ Bool) :=
  (spec_OrderOk_n4 x937 x938 x969).bind (Sum.elim (fun (t : Unit) => spec_OrderOk_n7 x937 x969) (fun e => some ((fun (t : Bool) => (Sum.inr t)) e)))

def spec_OrderOk_n9 (x937 : List Int) (x938 : Int) (x969 : Int) : Option (Unit ⊕ Bool) :=
  (spec_OrderOk_n8 x937 x938 x969).map (Sum.elim (fun (t : Unit) => (Sum.inl ())) (fun (t : Bool) => (Sum.inr t)))

def spec_OrderOk_n10 (x969 : Int) : Option (Int) :=
  some (IntKind.wrap .i64 (x969 + 1))

def spec_OrderOk_n11 (x937 : List Int) (x938 : Int) (x969 : Int) : Option (Int ⊕ Bool) :=
  (spec_OrderOk_n9 x937 x938 x969).bind (Sum.elim (fun (t : Unit) => (spec_OrderOk_n10 x969).map (fun (t : Int) => (Sum.inl t))) (fun e => some ((fun (t : Bool) => (Sum.inr t)) e)))

def spec_OrderOk_n12 (x937 : List Int) (x938 : Int) (x969 : Int) : Option (Int ⊕ Bool ⊕ Unit) :=
  (spec_OrderOk_n3 x937 x969).bind (Sum.elim (fun (t : Unit) => (spec_OrderOk_n11 x937 x938 x969).map (Sum.elim (fun (t : Int) => (Sum.inl t)) (fun (t : Bool) => (Sum.inr (Sum.inl t))))) (fun e => some ((fun (t : Unit) => (Sum.inr (Sum.inr t))) e)))

def spec_OrderOk_n13 (x937 : List Int) (x938 : Int) : Option (Bool ⊕ Unit) :=
  nloop (fun (s : Int) => ((spec_OrderOk_n12 x937 x938 s).map (Sum.elim (fun (t : Int) => Sum.inl t) (Sum.elim (fun (t : Bool) => Sum.inr (Sum.inl t)) (fun (t : Unit) => Sum.inr (Sum.inr t)))) : Option ((Int) ⊕ (Bool ⊕ Unit)))) LL 0

def spec_OrderOk_n14 (x937 : List Int) (x938 : Int) : Option (Unit ⊕ Bool) :=
  (spec_OrderOk_n13 x937 x938).map (Sum.elim (fun (t : Bool) => (Sum.inr t)) (fun (t : Unit) => (Sum.inl ())))

def spec_OrderOk_n15 (x937 : List Int) (x938 : Int) : Option (Unit ⊕ Bool) :=
  (spec_OrderOk_n2).bind (fun (t : Unit) => spec_OrderOk_n14 x937 x938)

def spec_OrderOk_n16 (x937 : List Int) (x938 : Int) : Option (Bool) :=
  (spec_l1In x938 1 8).bind fun (v1003 : Bool) => cond v1003 (some ((((List.length x937 : Nat) : Int)) == x938)) (some false)

def spec_OrderOk_n17 (x937 : List Int) (x938 : Int) : Option (Bool) :=
  (spec_OrderOk_n15 x937 x938).bind (Sum.elim (fun (t : Unit) => spec_OrderOk_n16 x937 x938) (fun e => some ((fun (t : Bool) => t) e)))

def spec_OrderOk_n18 (x937 : List Int) (x938 : Int) : Option (Bool) :=
  (spec_OrderOk_n1).bind (fun (t : Unit) => spec_OrderOk_n17 x937 x938)

@[irreducible] def spec_OrderOk (x937 : List Int) (x938 : Int) : Option (Bool) :=
  spec_OrderOk_n18 x937 x938

/-! loop.example/headtrees/spec.PutInOrder -/

def spec_PutInOrder_n1 (x932 : List Int) (x933 : List Int) : Option (((List Int)) ⊕ (Bool × (List Int))) :=
  (spec_TreeOk x932).bind fun (v1009 : Bool) => cond (!v1009) (some (Sum.inr (false, ([] : List Int)))) ((spec_OrderOk x933 (((List.length x932 : Nat) : Int))).bind fun (v1012 : Bool) => cond (!v1012) (some (Sum.inr (false, ([] : List Int)))) ((mk (IntKind.wrap .i64 ((((List.length x932 : Nat) : Int)) + 1)) (IntKind.wrap .i64 ((((List.length x932 : Nat) : Int)) + 1))).bind fun (v1016 : Nat) => some (Sum.inl (List.replicate v1016 (0 : Int)))))

def spec_PutInOrder_n2 : Option (Unit) :=
  some ()

def spec_PutInOrder_n3 (x933 : List Int) (x1033 : Int) (x1034 : List Int) : Option ((Int × (List Int)) ⊕ ((List Int))) :=
  cond (decide (x1033 < (((List.length x933 : Nat) : Int)))) ((idx x933 x1033).bind fun (v1045 : Int) => (inb v1045 (List.length x1034)).bind fun (v1047 : Nat) => some (Sum.inl ((IntKind.wrap .i64 (x1033 + 1)), (x1034.set v1047 (IntKind.wrap .i64 (x1033 + 1)))))) (some (Sum.inr x1034))

def spec_PutInOrder_n4 (x933 : List Int) (x1017 : List Int) : Option (((List Int))) :=
  nloop (fun (s : Int × (List Int)) => ((spec_PutInOrder_n3 x933 s.1 s.2).map (Sum.elim (fun (t : Int × (List Int)) => Sum.inl (t.1, t.2)) (fun (t : (List Int)) => Sum.inr t)) : Option ((Int × (List Int)) ⊕ (((List Int)))))) LL (0, x1017)

def spec_PutInOrder_n5 (x933 : List Int) (x1017 : List Int) : Option (((List Int))) :=
  (spec_PutInOrder_n4 x933 x1017).map (fun (t : (List Int)) => t)

def spec_PutInOrder_n6 (x933 : List Int) (x1017 : List Int) : Option (((List Int))) :=
  (spec_PutInOrder_n2).bind (fun (t : Unit) => spec_PutInOrder_n5 x933 x1017)

def spec_PutInOrder_n7 : Option (Unit) :=
  some ()

def spec_PutInOrder_n8 : Option (Unit) :=
  some ()

def spec_PutInOrder_n9 (x932 : List Int) (x933 : List Int) (x1075 : Int) (x1034 : List Int) (x1076 : List Int) : Option ((Int × (List Int)) ⊕ ((List Int))) :=
  cond (decide (x1075 < (((List.length x933 : Nat) : Int)))) ((idx x933 x1075).bind fun (v1092 : Int) => (idx x932 (IntKind.wrap .i64 (v1092 - 1))).bind fun (v1094 : Int) => (inb v1094 (List.length x1034)).bind fun (v1095 : Nat) => (x1034[v1095]?).bind fun (v1096 : Int) => (room ((List.length x1076) + List.length ([v1096]))).bind fun (v1099 : Unit) => some (Sum.inl ((IntKind.wrap .i64 (x1075 + 1)), (x1076 ++ ([v1096]))))) (some (Sum.inr x1076))

def spec_PutInOrder_n10 (x932 : List Int) (x933 : List Int) (x1034 : List Int) : Option (((List Int))) :=
  nloop (fun (s : Int × (List Int)) => ((spec_PutInOrder_n9 x932 x933 s.1 x1034 s.2).map (Sum.elim (fun (t : Int × (List Int)) => Sum.inl (t.1, t.2)) (fun (t : (List Int)) => Sum.inr t)) : Option ((Int × (List Int)) ⊕ (((List Int)))))) LL (0, ([] : List Int))

def spec_PutInOrder_n11 (x932 : List Int) (x933 : List Int) (x1034 : List Int) : Option (((List Int))) :=
  (spec_PutInOrder_n10 x932 x933 x1034).map (fun (t : (List Int)) => t)

def spec_PutInOrder_n12 (x932 : List Int) (x933 : List Int) (x1034 : List Int) : Option (((List Int))) :=
  (spec_PutInOrder_n8).bind (fun (t : Unit) => spec_PutInOrder_n11 x932 x933 x1034)

def spec_PutInOrder_n13 (x1076 : List Int) : Option ((Bool × (List Int))) :=
  some (true, x1076)

def spec_PutInOrder_n14 (x932 : List Int) (x933 : List Int) (x1034 : List Int) : Option ((Bool × (List Int))) :=
  (spec_PutInOrder_n12 x932 x933 x1034).bind (fun (t : (List Int)) => spec_PutInOrder_n13 t)

def spec_PutInOrder_n15 (x932 : List Int) (x933 : List Int) (x1034 : List Int) : Option ((Bool × (List Int))) :=
  (spec_PutInOrder_n7).bind (fun (t : Unit) => spec_PutInOrder_n14 x932 x933 x1034)

def spec_PutInOrder_n16 (x932 : List Int) (x933 : List Int) (x1017 : List Int) : Option ((Bool × (List Int))) :=
  (spec_PutInOrder_n6 x933 x1017).bind (fun (t : (List Int)) => spec_PutInOrder_n15 x932 x933 t)

def spec_PutInOrder_n17 (x932 : List Int) (x933 : List Int) : Option ((Bool × (List Int))) :=
  (spec_PutInOrder_n1 x932 x933).bind (Sum.elim (fun (t : (List Int)) => spec_PutInOrder_n16 x932 x933 t) (fun e => some ((fun (t : Bool × (List Int)) => t) e)))

@[irreducible] def spec_PutInOrder (x932 : List Int) (x933 : List Int) : Option (Bool × (List Int)) :=
  spec_PutInOrder_n17 x932 x933

/-! loop.example/headtrees/spec.l20Fill -/

def spec_l20Fill_n1 (R0 : Int → Int → Int → (List Int) → Int → (List Int) → Option (Int × (List Int))) (x1173 : Int) (x1174 : Int) (x1175 : Int) (x1176 : List Int) (x1177 : Int) (x1178 : List Int) : Option ((Int × Int × (List Int)) ⊕ (Int × (List Int))) :=
  cond (decide (x1173 > x1174)) (some (Sum.inr (x1177, x1178))) ((spec_l20Rd_pick (IntKind.wrap .i64 ((IntKind.wrap .i64 (x1174 - x1173)) + 1)) x1176 x1177).bind fun (v1246 : Int × Int) => (inb (IntKind.wrap .i64 ((IntKind.wrap .i64 (x1173 + (v1246.1))) - 1)) (List.length x1178)).bind fun (v1251 : Nat) => some (Sum.inl ((IntKind.wrap .i64 (x1173 + (v1246.1))), (v1246.2), (x1178.set v1251 x1175))))

def spec_l20Fill_n2 (R0 : Int → Int → Int → (List Int) → Int → (List Int) → Option (Int × (List Int))) (x1249 : Int) (x1264 : Int) (x1176 : List Int) (x1265 : Int) (x1266 : List Int) : Option ((Int × Int × (List Int)) ⊕ (Int × (List Int))) :=
  cond (decide (x1264 < x1249)) ((spec_l20Rd_pick (IntKind.wrap .i64 (x1249 - x1264)) x1176 x1265).bind fun (v1270 : Int × Int) => (R0 x1264 (IntKind.wrap .i64 (x1264 + (v1270.1))) x1249 x1176 (v1270.2) x1266).bind fun (v1274 : Int × (List Int)) => some (Sum.inl ((IntKind.wrap .i64 ((IntKind.wrap .i64 (x1264 + (v1270.1))) + 1)), (v1274.1), (v1274.2)))) (some (Sum.inr (x1265, x1266)))

def spec_l20Fill_n3 (R0 : Int → Int → Int → (List Int) → Int → (List Int) → Option (Int × (List Int))) (x1249 : Int) (x1173 : Int) (x1176 : List Int) (x1248 : Int) (x1252 : List Int) : Option ((Int × (List Int))) :=
  nloop (fun (s : Int × Int × (List Int)) => ((spec_l20Fill_n2 R0 x1249 s.1 x1176 s.2.1 s.2.2).map (Sum.elim (fun (t : Int × Int × (List Int)) => Sum.inl (t.1, t.2.1, t.2.2)) (fun (t : Int × (List Int)) => Sum.inr t)) : Option ((Int × Int × (List Int)) ⊕ ((Int × (List Int)))))) LL (x1173, x1248, x1252)

def spec_l20Fill_n4 (R0 : Int → Int → Int → (List Int) → Int → (List Int) → Option (Int × (List Int))) (x1249 : Int) (x1173 : Int) (x1176 : List Int) (x1248 : Int) (x1252 : List Int) : Option ((Int × (List Int))) :=
  (spec_l20Fill_n3 R0 x1249 x1173 x1176 x1248 x1252).map (fun (t : Int × (List Int)) => (t.1, t.2))

def spec_l20Fill_n5 (R0 : Int → Int → Int → (List Int) → Int → (List Int) → Option (Int × (List Int))) (x1249 : Int) : Option (Int) :=
  some (IntKind.wrap .i64 (x1249 + 1))

def spec_l20Fill_n6 (R0 : Int → Int → Int → (List Int) → Int → (List Int) → Option (Int × (List Int))) (x1174 : Int) (x1249 : Int) (x1291 : Int) (x1176 : List Int) (x1292 : Int) (x1293 : List Int) : Option ((Int × Int × (List Int)) ⊕ (Int × (List Int))) :=
  cond (decide (x1291 ≤ x1174)) ((spec_l20Rd_pick (IntKind.wrap .i64 ((IntKind.wrap .i64 (x1174 - x1291)) + 1)) x1176 x1292).bind fun (v1298 : Int × Int) => (R0 x1291 (IntKind.wrap .i64 (x1291 + (v1298.1))) x1249 x1176 (v1298.2) x1293).bind fun (v1302 : Int × (List Int)) => some (Sum.inl ((IntKind.wrap .i64 ((IntKind.wrap .i64 (x1291 + (v1298.1))) + 1)), (v1302.1), (v1302.2)))) (some (Sum.inr (x1292, x1293)))

def spec_l20Fill_n7 (R0 : Int → Int → Int → (List Int) → Int → (List Int) → Option (Int × (List Int))) (x1174 : Int) (x1249 : Int) (x1278 : Int) (x1176 : List Int) (x1265 : Int) (x1266 : List Int) : Option ((Int × (List Int))) :=
  nloop (fun (s : Int × Int × (List Int)) => ((spec_l20Fill_n6 R0 x1174 x1249 s.1 x1176 s.2.1 s.2.2).map (Sum.elim (fun (t : Int × Int × (List Int)) => Sum.inl (t.1, t.2.1, t.2.2)) (fun (t : Int × (List Int)) => Sum.inr t)) : Option ((Int × Int × (List Int)) ⊕ ((Int × (List Int)))))) LL (x1278, x1265, x1266)

def spec_l20Fill_n8 (R0 : Int → Int → Int → (List Int) → Int → (List Int) → Option (Int × (List Int))) (x1174 : Int) (x1249 : Int) (x1278 : Int) (x1176 : List Int) (x1265 : Int) (x1266 : List Int) : Option ((Int × (List Int))) :=
  (spec_l20Fill_n7 R0 x1174 x1249 x1278 x1176 x1265 x1266).map (fun (t : Int × (List Int)) => (t.1, t.2))

def spec_l20Fill_n9 (R0 : Int → Int → Int → (List Int) → Int → (List Int) → Option (Int × (List Int))) (x1174 : Int) (x1249 : Int) (x1176 : List Int) (x1265 : Int) (x1266 : List Int) : Option ((Int × (List Int))) :=
  (spec_l20Fill_n5 R0 x1249).bind (fun (t : Int) => spec_l20Fill_n8 R0 x1174 x1249 t x1176 x1265 x1266)

def spec_l20Fill_n10 (R0 : Int → Int → Int → (List Int) → Int → (List Int) → Option (Int × (List Int))) (x1174 : Int) (x1249 : Int) (x1173 : Int) (x1176 : List Int) (x1248 : Int) (x1252 : List Int) : Option ((Int × (List Int))) :=
  (spec_l20Fill_n4 R0 x1249 x1173 x1176 x1248 x1252).bind (fun (t : Int × (List Int)) => spec_l20Fill_n9 R0 x1174 x1249 x1176 t.1 t.2)

def spec_l20Fill_n11 (R0 : Int → Int → Int → (List Int) → Int → (List Int) → Option (Int × (List Int))) (x1173 : Int) (x1174 : Int) (x1175 : Int) (x1176 : List Int) (x1177 : Int) (x1178 : List Int) : Option ((Int × (List Int)) ⊕ (Int × (List Int))) :=
  (spec_l20Fill_n1 R0 x1173 x1174 x1175 x1176 x1177 x1178).bind (Sum.elim (fun (t : Int × Int × (List Int)) => (spec_l20Fill_n10 R0 x1174 t.1 x1173 x1176 t.2.1 t.2.2).map (fun (u : Int × (List Int)) => (Sum.inl (u.1, u.2)))) (fun e => some ((fun (t : Int × (List Int)) => (Sum.inr t)) e)))

def spec_l20Fill_one (R0 : Int → Int → Int → (List Int) → Int → (List Int) → Option (Int × (List Int))) (x1173 : Int) (x1174 : Int) (x1175 : Int) (x1176 : List Int) (x1177 : Int) (x1178 : List Int) : Option (Int × (List Int)) :=
  (spec_l20Fill_n11 R0 x1173 x1174 x1175 x1176 x1177 x1178).map (Sum.elim (fun (t : Int × (List Int)) => (t.1, t.2)) (fun (t : Int × (List Int)) => t))

def spec_l20Fill_knot : Nat → (Int → Int → Int → (List Int) → Int → (List Int) → Option (Int × (List Int)))
  | 0 => (fun _ _ _ _ _ _ => none)
  | n + 1 => (fun y0 y1 y2 y3 y4 y5 => spec_l20Fill_one (spec_l20Fill_knot n) y0 y1 y2 y3 y4 y5)

def spec_l20Fill_fuel (n : Nat) : Int → Int → Int → (List Int) → Int → (List Int) → Option (Int × (List Int)) := (spec_l20Fill_knot n)

@[irreducible] def spec_l20Fill (x1173 : Int) (x1174 : Int) (x1175 : Int) (x1176 : List Int) (x1177 : Int) (x1178 : List Int) : Option (Int × (List Int)) := spec_l20Fill_fuel RR x1173 x1174 x1175 x1176 x1177 x1178

/-! loop.example/headtrees/spec.l20Flat -/

def spec_l20Flat_n1 (x1126 : Int) (x1127 : List Int) (x1128 : Int) : Option ((Int × (List Int))) :=
  (spec_l20Rd_pick 3 x1127 x1128).bind fun (v1327 : Int × Int) => cond ((v1327.1) == 0) ((spec_l20Tree x1126 x1127 (v1327.2)).bind fun (v1331 : Int × (List Int)) => some ((v1331.1), (v1331.2))) ((spec_l20Rd_pick 7 x1127 (v1327.2)).bind fun (v1334 : Int × Int) => (mk (IntKind.wrap .i64 (1 + (v1334.1))) (IntKind.wrap .i64 (1 + (v1334.1)))).bind fun (v1338 : Nat) => (spec_l20Fill 1 (IntKind.wrap .i64 (1 + (v1334.1))) 0 x1127 (v1334.2) (List.replicate v1338 (0 : Int))).bind fun (v1340 : Int × (List Int)) => some ((v1340.1), (v1340.2)))

@[irreducible] def spec_l20Flat (x1126 : Int) (x1127 : List Int) (x1128 : Int) : Option (Int × (List Int)) :=
  spec_l20Flat_n1 x1126 x1127 x1128

/-! loop.example/headtrees/spec.l20Wild -/

def spec_l20Wild_n1 (x35 : Int) (x36 : List Int) (x37 : Int) : Option ((Int × (List Int))) :=
  (spec_l20Tree x35 x36 x37).bind fun (v1384 : Int × (List Int)) => (spec_l20Rd_pick 2 x36 (v1384.1)).bind fun (v1387 : Int × Int) => cond ((v1387.1) == 0) ((spec_TreeOk (v1384.2)).bind fun (v1391 : Bool) => cond v1391 ((spec_l20Order (((List.length (v1384.2) : Nat) : Int)) x36 (v1387.2)).bind fun (v1393 : Int × (List Int)) => (spec_PutInOrder (v1384.2) (v1393.2)).bind fun (v1396 : Bool × (List Int)) => some ((v1393.1), (v1396.2))) ((spec_l20Rd_pick 3 x36 (v1387.2)).bind fun (v1399 : Int × Int) => cond ((v1399.1) == 0) ((spec_l20Flat x35 x36 (v1399.2)).bind fun (v1403 : Int × (List Int)) => some ((v1403.1), (v1403.2))) (some ((v1399.2), (v1384.2))))) ((spec_l20Rd_pick 3 x36 (v1387.2)).bind fun (v1406 : Int × Int) => cond ((v1406.1) == 0) ((spec_l20Flat x35 x36 (v1406.2)).bind fun (v1410 : Int × (List Int)) => some ((v1410.1), (v1410.2))) (some ((v1406.2), (v1384.2))))

@[irreducible] def spec_l20Wild (x35 : Int) (x36 : List Int) (x37 : Int) : Option (Int × (List Int)) :=
  spec_l20Wild_n1 x35 x36 x37

/-! loop.example/headtrees/spec.DrawGapsOf -/

def spec_DrawGapsOf_n1 (x10 : List Int) : Option ((Int × (List Int))) :=
  (spec_l20Open x10).bind fun (v1427 : List Int) => (spec_l20Wild 12 v1427 0).bind fun (v1428 : Int × (List Int)) => (spec_l20Rd_pick (IntKind.wrap .i64 ((((List.length (v1428.2) : Nat) : Int)) + 2)) v1427 (v1428.1)).bind fun (v1433 : Int × Int) => some ((v1433.1), (v1428.2))

@[irreducible] def spec_DrawGapsOf (x10 : List Int) : Option (Int × (List Int)) :=
  spec_DrawGapsOf_n1 x10

/-! loop.example/headtrees/impl.oneRoot -/

def impl_oneRoot_n1 : Option (Unit) :=
  some ()

def impl_oneRoot_n2 (x1453 : List Int) : Option (Int) :=
  some (((List.length x1453 : Nat) : Int))

def impl_oneRoot_n3 (x1453 : List Int) (x1475 : Int) (x1454 : Int) (x1476 : Int) : Option ((Int × Int) ⊕ Bool ⊕ Int) :=
  cond (decide (x1476 < x1454)) ((idx x1453 x1476).bind fun (v1487 : Int) => cond (decide (v1487 < 0)) (some (Sum.inr (Sum.inl false))) (cond (decide (v1487 > (((List.length x1453 : Nat) : Int)))) (some (Sum.inr (Sum.inl false))) (cond (v1487 == 0) (some (Sum.inl ((IntKind.wrap .i64 (x1475 + 1)), (IntKind.wrap .i64 (x1476 + 1))))) (some (Sum.inl (x1475, (IntKind.wrap .i64 (x1476 + 1)))))))) (some (Sum.inr (Sum.inr x1475)))

def impl_oneRoot_n4 (x1453 : List Int) (x1454 : Int) : Option (Bool ⊕ Int) :=
  nloop (fun (s : Int × Int) => ((impl_oneRoot_n3 x1453 s.1 x1454 s.2).map (Sum.elim (fun (t : Int × Int) => Sum.inl (t.1, t.2)) (Sum.elim (fun (t : Bool) => Sum.inr (Sum.inl t)) (fun (t : Int) => Sum.inr (Sum.inr t)))) : Option ((Int × Int) ⊕ (Bool ⊕ Int)))) LL (0, 0)

def impl_oneRoot_n5 (x1453 : List Int) (x1454 : Int) : Option (Int ⊕ Bool) :=
  (impl_oneRoot_n4 x1453 x1454).map (Sum.elim (fun (t : Bool) => (Sum.inr t)) (fun (t : Int) => (Sum.inl t)))

def impl_oneRoot_n6 (x1453 : List Int) : Option (Int ⊕ Bool) :=
  (impl_oneRoot_n2 x1453).bind (fun (t : Int) => impl_oneRoot_n5 x1453 t)

def impl_oneRoot_n7 (x1475 : Int) : Option (Bool) :=
  some (x1475 == 1)

def impl_oneRoot_n8 (x1453 : List Int) : Option (Bool) :=
  (impl_oneRoot_n6 x1453).bind (Sum.elim (fun (t : Int) => impl_oneRoot_n7 t) (fun e => some ((fun (t : Bool) => t) e)))

def impl_oneRoot_n9 (x1453 : List Int) : Option (Bool) :=
  (impl_oneRoot_n1).bind (fun (t : Unit) => impl_oneRoot_n8 x1453)

@[irreducible] def impl_oneRoot (x1453 : List Int) : Option (Bool) :=
  impl_oneRoot_n9 x1453

/-! (*loop.example/headtrees/impl.walker).up -/

def impl_walker_up_n1 (x1509 : List Int) (x1510 : Int) (x1511 : Int) : Option ((Bool × Int × Int)) :=
  (idx x1509 (IntKind.wrap .i64 (x1510 - 1))).bind fun (v1529 : Int) => cond (v1529 == 0) (some (false, x1510, x1511)) (some (true, v1529, (IntKind.wrap .i64 (x1511 + 1))))

@[irreducible] def impl_walker_up (x1509 : List Int) (x1510 : Int) (x1511 : Int) : Option (Bool × Int × Int) :=
  impl_walker_up_n1 x1509 x1510 x1511

/-! loop.example/headtrees/impl.stepsToRoot -/

def impl_stepsToRoot_n1 : Option (Unit) :=
  some ()

def impl_stepsToRoot_n2 (x1507 : List Int) (x1545 : Int) (x1546 : Int) : Option ((Int × Int) ⊕ (Int × Bool) ⊕ (Int × Int)) :=
  (impl_walker_up x1507 x1545 x1546).bind fun (v1551 : Bool × Int × Int) => cond (v1551.1) (cond (decide ((v1551.2.2) ≥ (((List.length x1507 : Nat) : Int)))) (some (Sum.inr (Sum.inl (0, false)))) (some (Sum.inl ((v1551.2.1), (v1551.2.2))))) (some (Sum.inr (Sum.inr ((v1551.2.1), (v1551.2.2)))))

def impl_stepsToRoot_n3 (x1507 : List Int) (x1508 : Int) : Option ((Int × Bool) ⊕ (Int × Int)) :=
  nloop (fun (s : Int × Int) => ((impl_stepsToRoot_n2 x1507 s.1 s.2).map (Sum.elim (fun (t : Int × Int) => Sum.inl (t.1, t.2)) (Sum.elim (fun (t : Int × Bool) => Sum.inr (Sum.inl t)) (fun (t : Int × Int) => Sum.inr (Sum.inr t)))) : Option ((Int × Int) ⊕ ((Int × Bool) ⊕ (Int × Int))))) LL (x1508, 0)

def impl_stepsToRoot_n4 (x1507 : List Int) (x1508 : Int) : Option ((Int × Int) ⊕ (Int × Bool)) :=
  (impl_stepsToRoot_n3 x1507 x1508).map (Sum.elim (fun (t : Int × Bool) => (Sum.inr t)) (fun (t : Int × Int) => (Sum.inl (t.1, t.2))))

def impl_stepsToRoot_n5 (x1554 : Int) : Option ((Int × Bool)) :=
  some (x1554, true)

def impl_stepsToRoot_n6 (x1507 : List Int) (x1508 : Int) : Option ((Int × Bool)) :=
  (impl_stepsToRoot_n4 x1507 x1508).bind (Sum.elim (fun (t : Int × Int) => impl_stepsToRoot_n5 t.2) (fun e => some ((fun (t : Int × Bool) => t) e)))

def impl_stepsToRoot_n7 (x1507 : List Int) (x1508 : Int) : Option ((Int × Bool)) :=
  (impl_stepsToRoot_n1).bind (fun (t : Unit) => impl_stepsToRoot_n6 x1507 x1508)

@[irreducible] def impl_stepsToRoot (x1507 : List Int) (x1508 : Int) : Option (Int × Bool) :=
  impl_stepsToRoot_n7 x1507 x1508

/-! loop.example/headtrees/impl.TreeOk -/

def impl_TreeOk_n1 (x1448 : List Int) : Option (Unit ⊕ Bool) :=
  cond (decide ((((List.length x1448 : Nat) : Int)) < 1)) (some (Sum.inr false)) (cond (decide ((((List.length x1448 : Nat) : Int)) > 8)) (some (Sum.inr false)) ((impl_oneRoot x1448).bind fun (v1500 : Bool) => cond (!v1500) (some (Sum.inr false)) (some (Sum.inl ()))))

def impl_TreeOk_n2 (x1448 : List Int) : Option (Int) :=
  some (((List.length x1448 : Nat) : Int))

def impl_TreeOk_n3 (x1448 : List Int) (x1502 : Int) (x1570 : Int) : Option (Int ⊕ Bool ⊕ Unit) :=
  cond (decide (x1570 < x1502)) ((impl_stepsToRoot x1448 (IntKind.wrap .i64 (x1570 + 1))).bind fun (v1581 : Int × Bool) => cond (!(v1581.2)) (some (Sum.inr (Sum.inl false))) (some (Sum.inl (IntKind.wrap .i64 (x1570 + 1))))) (some (Sum.inr (Sum.inr ())))

def impl_TreeOk_n4 (x1448 : List Int) (x1502 : Int) : Option (Bool ⊕ Unit) :=
  nloop (fun (s : Int) => ((impl_TreeOk_n3 x1448 x1502 s).map (Sum.elim (fun (t : Int) => Sum.inl t) (Sum.elim (fun (t : Bool) => Sum.inr (Sum.inl t)) (fun (t : Unit) => Sum.inr (Sum.inr t)))) : Option ((Int) ⊕ (Bool ⊕ Unit)))) LL 0

def impl_TreeOk_n5 (x1448 : List Int) (x1502 : Int) : Option (Unit ⊕ Bool) :=
  (impl_TreeOk_n4 x1448 x1502).map (Sum.elim (fun (t : Bool) => (Sum.inr t)) (fun (t : Unit) => (Sum.inl ())))

def impl_TreeOk_n6 (x1448 : List Int) : Option (Unit ⊕ Bool) :=
  (impl_TreeOk_n2 x1448).bind (fun (t : Int) => impl_TreeOk_n5 x1448 t)

def impl_TreeOk_n7 : Option (Bool) :=
  some true

def impl_TreeOk_n8 (x1448 : List Int) : Option (Bool) :=
  (impl_TreeOk_n6 x1448).bind (Sum.elim (fun (t : Unit) => impl_TreeOk_n7) (fun e => some ((fun (t : Bool) => t) e)))

def impl_TreeOk_n9 (x1448 : List Int) : Option (Bool) :=
  (impl_TreeOk_n1 x1448).bind (Sum.elim (fun (t : Unit) => impl_TreeOk_n8 x1448) (fun e => some ((fun (t : Bool) => t) e)))

@[irreducible] def impl_TreeOk (x1448 : List Int) : Option (Bool) :=
  impl_TreeOk_n9 x1448

/-! loop.example/headtrees/impl.wordOk -/

def impl_wordOk_n1 (x1446 : List Int) (x1447 : Int) : Option (Bool) :=
  (impl_TreeOk x1446).bind fun (v1591 : Bool) => cond v1591 (cond (decide (x1447 ≥ 1)) (some (decide (x1447 ≤ (((List.length x1446 : Nat) : Int))))) (some false)) (some false)

@[irreducible] def impl_wordOk (x1446 : List Int) (x1447 : Int) : Option (Bool) :=
  impl_wordOk_n1 x1446 x1447

/-! loop.example/headtrees/impl.RootOf -/

def impl_RootOf_n1 (x1607 : List Int) : Option (Unit ⊕ Int) :=
  (impl_TreeOk x1607).bind fun (v1610 : Bool) => cond (!v1610) (some (Sum.inr (-1))) (some (Sum.inl ()))

def impl_RootOf_n2 (x1607 : List Int) (x1620 : Int) (x1621 : Int) : Option ((Int × Int) ⊕ (Int × Int)) :=
  (impl_walker_up x1607 x1620 x1621).bind fun (v1626 : Bool × Int × Int) => cond (v1626.1) (some (Sum.inl ((v1626.2.1), (v1626.2.2)))) (some (Sum.inr ((v1626.2.1), (v1626.2.2))))

def impl_RootOf_n3 (x1607 : List Int) : Option ((Int × Int)) :=
  nloop (fun (s : Int × Int) => ((impl_RootOf_n2 x1607 s.1 s.2).map (Sum.elim (fun (t : Int × Int) => Sum.inl (t.1, t.2)) (fun (t : Int × Int) => Sum.inr t)) : Option ((Int × Int) ⊕ ((Int × Int))))) LL (1, 0)

def impl_RootOf_n4 (x1607 : List Int) : Option ((Int × Int)) :=
  (impl_RootOf_n3 x1607).map (fun (t : Int × Int) => (t.1, t.2))

def impl_RootOf_n5 (x1628 : Int) : Option (Int) :=
  some x1628

def impl_RootOf_n6 (x1607 : List Int) : Option (Int) :=
  (impl_RootOf_n4 x1607).bind (fun (t : Int × Int) => impl_RootOf_n5 t.1)

def impl_RootOf_n7 (x1607 : List Int) : Option (Int) :=
  (impl_RootOf_n1 x1607).bind (Sum.elim (fun (t : Unit) => impl_RootOf_n6 x1607) (fun e => some ((fun (t : Int) => t) e)))

@[irreducible] def impl_RootOf (x1607 : List Int) : Option (Int) :=
  impl_RootOf_n7 x1607

/-! loop.example/headtrees/impl.only -/

def impl_only_n1 (x1635 : Int) : Option (Int) :=
  (shl .u64 1 (IntKind.wrap .i64 (x1635 - 1))).bind fun (v1639 : Int) => some v1639

@[irreducible] def impl_only (x1635 : Int) : Option (Int) :=
  impl_only_n1 x1635

/-! loop.example/headtrees/impl.dependents -/

def impl_dependents_n1 : Option (Unit) :=
  some ()

def impl_dependents_n2 (x1641 : List Int) : Option (Int) :=
  some (((List.length x1641 : Nat) : Int))

def impl_dependents_n3 (x1641 : List Int) (x1642 : Int) (x1662 : Int) (x1643 : Int) (x1663 : Int) : Option ((Int × Int) ⊕ Int) :=
  cond (decide (x1663 < x1643)) ((idx x1641 x1663).bind fun (v1673 : Int) => cond (v1673 == x1642) ((impl_only (IntKind.wrap .i64 (x1663 + 1))).bind fun (v1676 : Int) => some (Sum.inl ((ior .u64 x1662 v1676), (IntKind.wrap .i64 (x1663 + 1))))) (some (Sum.inl (x1662, (IntKind.wrap .i64 (x1663 + 1)))))) (some (Sum.inr x1662))

def impl_dependents_n4 (x1641 : List Int) (x1642 : Int) (x1643 : Int) : Option (Int) :=
  nloop (fun (s : Int × Int) => ((impl_dependents_n3 x1641 x1642 s.1 x1643 s.2).map (Sum.elim (fun (t : Int × Int) => Sum.inl (t.1, t.2)) (fun (t : Int) => Sum.inr t)) : Option ((Int × Int) ⊕ (Int)))) LL (0, 0)

def impl_dependents_n5 (x1641 : List Int) (x1642 : Int) (x1643 : Int) : Option (Int) :=
  (impl_dependents_n4 x1641 x1642 x1643).map (fun (t : Int) => t)

def impl_dependents_n6 (x1641 : List Int) (x1642 : Int) : Option (Int) :=
  (impl_dependents_n2 x1641).bind (fun (t : Int) => impl_dependents_n5 x1641 x1642 t)

def impl_dependents_n7 (x1662 : Int) : Option (Int) :=
  some x1662

def impl_dependents_n8 (x1641 : List Int) (x1642 : Int) : Option (Int) :=
  (impl_dependents_n6 x1641 x1642).bind (fun (t : Int) => impl_dependents_n7 t)

def impl_dependents_n9 (x1641 : List Int) (x1642 : Int) : Option (Int) :=
  (impl_dependents_n1).bind (fun (t : Unit) => impl_dependents_n8 x1641 x1642)

@[irreducible] def impl_dependents (x1641 : List Int) (x1642 : Int) : Option (Int) :=
  impl_dependents_n9 x1641 x1642

/-! math/bits.OnesCount64 -/

def math_bits_OnesCount64_n1 (x1686 : Int) : Option (Int) :=
  (shr .u64 x1686 1).bind fun (v1687 : Int) => some (IntKind.wrap .u64 ((iand .u64 v1687 6148914691236517205) + (iand .u64 x1686 6148914691236517205)))

def math_bits_OnesCount64_n2 (x1691 : Int) : Option (Int) :=
  (shr .u64 x1691 2).bind fun (v1705 : Int) => some (IntKind.wrap .u64 ((iand .u64 v1705 3689348814741910323) + (iand .u64 x1691 3689348814741910323)))

def math_bits_OnesCount64_n3 (x1708 : Int) : Option (Int) :=
  (shr .u64 x1708 4).bind fun (v1713 : Int) => some (iand .u64 (IntKind.wrap .u64 (v1713 + x1708)) 1085102592571150095)

def math_bits_OnesCount64_n4 (x1715 : Int) : Option (Int) :=
  (shr .u64 x1715 8).bind fun (v1718 : Int) => some (IntKind.wrap .u64 (x1715 + v1718))

def math_bits_OnesCount64_n5 (x1719 : Int) : Option (Int) :=
  (shr .u64 x1719 16).bind fun (v1723 : Int) => some (IntKind.wrap .u64 (x1719 + v1723))

def math_bits_OnesCount64_n6 (x1724 : Int) : Option (Int) :=
  (shr .u64 x1724 32).bind fun (v1728 : Int) => some (IntKind.wrap .u64 (x1724 + v1728))

def math_bits_OnesCount64_n7 (x1729 : Int) : Option (Int) :=
  some (iand .i64 (IntKind.wrap .i64 x1729) 127)

def math_bits_OnesCount64_n8 (x1734 : Int) : Option (Int) :=
  some x1734

def math_bits_OnesCount64_n9 (x1729 : Int) : Option (Int) :=
  (math_bits_OnesCount64_n7 x1729).bind (fun (t : Int) => math_bits_OnesCount64_n8 t)

def math_bits_OnesCount64_n10 (x1724 : Int) : Option (Int) :=
  (math_bits_OnesCount64_n6 x1724).bind (fun (t : Int) => math_bits_OnesCount64_n9 t)

def math_bits_OnesCount64_n11 (x1719 : Int) : Option (Int) :=
  (math_bits_OnesCount64_n5 x1719).bind (fun (t : Int) => math_bits_OnesCount64_n10 t)

def math_bits_OnesCount64_n12 (x1715 : Int) : Option (Int) :=
  (math_bits_OnesCount64_n4 x1715).bind (fun (t : Int) => math_bits_OnesCount64_n11 t)

def math_bits_OnesCount64_n13 (x1708 : Int) : Option (Int) :=
  (math_bits_OnesCount64_n3 x1708).bind (fun (t : Int) => math_bits_OnesCount64_n12 t)

def math_bits_OnesCount64_n14 (x1691 : Int) : Option (Int) :=
  (math_bits_OnesCount64_n2 x1691).bind (fun (t : Int) => math_bits_OnesCount64_n13 t)

def math_bits_OnesCount64_n15 (x1686 : Int) : Option (Int) :=
  (math_bits_OnesCount64_n1 x1686).bind (fun (t : Int) => math_bits_OnesCount64_n14 t)

@[irreducible] def math_bits_OnesCount64 (x1686 : Int) : Option (Int) :=
  math_bits_OnesCount64_n15 x1686

/-! math/bits.OnesCount -/

def math_bits_OnesCount_n1 (x1685 : Int) : Option (Int) :=
  (math_bits_OnesCount64 x1685).bind fun (v1736 : Int) => some v1736

@[irreducible] def math_bits_OnesCount (x1685 : Int) : Option (Int) :=
  math_bits_OnesCount_n1 x1685

/-! (loop.example/headtrees/impl.wordSet).count -/

def impl_wordSet_count_n1 (x1684 : Int) : Option (Int) :=
  (math_bits_OnesCount x1684).bind fun (v1738 : Int) => some v1738

@[irreducible] def impl_wordSet_count (x1684 : Int) : Option (Int) :=
  impl_wordSet_count_n1 x1684

/-! math/bits.TrailingZeros64 -/

def math_bits_TrailingZeros64_n1 (x1745 : Int) : Option (Int) :=
  cond (x1745 == 0) (some 64) ((shr .u64 (IntKind.wrap .u64 ((iand .u64 x1745 (IntKind.wrap .u64 (0 - x1745))) * 285870213051353865)) 58).bind fun (v1762 : Int) => (same (List.length tab1) 64).bind fun (v1763 : Unit) => (idx tab1 v1762).bind fun (v1764 : Int) => some (IntKind.wrap .i64 v1764))

@[irreducible] def math_bits_TrailingZeros64 (x1745 : Int) : Option (Int) :=
  math_bits_TrailingZeros64_n1 x1745

/-! math/bits.TrailingZeros -/

def math_bits_TrailingZeros_n1 (x1744 : Int) : Option (Int) :=
  (math_bits_TrailingZeros64 x1744).bind fun (v1768 : Int) => some v1768

@[irreducible] def math_bits_TrailingZeros (x1744 : Int) : Option (Int) :=
  math_bits_TrailingZeros_n1 x1744

/-! (loop.example/headtrees/impl.wordSet).list -/

def impl_wordSet_list_n1 (x1683 : Int) : Option (((List Int))) :=
  (impl_wordSet_count x1683).bind fun (v1739 : Int) => (mk 0 v1739).bind fun (v1740 : Nat) => some (List.replicate v1740 (0 : Int))

def impl_wordSet_list_n2 : Option (Unit) :=
  some ()

def impl_wordSet_list_n3 (x1784 : Int) (x1785 : List Int) : Option ((Int × (List Int)) ⊕ ((List Int))) :=
  cond (x1784 != 0) ((math_bits_TrailingZeros x1784).bind fun (v1795 : Int) => (room ((List.length x1785) + List.length ([(IntKind.wrap .i64 (v1795 + 1))]))).bind fun (v1799 : Unit) => some (Sum.inl ((iand .u64 x1784 (IntKind.wrap .u64 (x1784 - 1))), (x1785 ++ ([(IntKind.wrap .i64 (v1795 + 1))]))))) (some (Sum.inr x1785))

def impl_wordSet_list_n4 (x1683 : Int) (x1741 : List Int) : Option (((List Int))) :=
  nloop (fun (s : Int × (List Int)) => ((impl_wordSet_list_n3 s.1 s.2).map (Sum.elim (fun (t : Int × (List Int)) => Sum.inl (t.1, t.2)) (fun (t : (List Int)) => Sum.inr t)) : Option ((Int × (List Int)) ⊕ (((List Int)))))) LL (x1683, x1741)

def impl_wordSet_list_n5 (x1683 : Int) (x1741 : List Int) : Option (((List Int))) :=
  (impl_wordSet_list_n4 x1683 x1741).map (fun (t : (List Int)) => t)

def impl_wordSet_list_n6 (x1683 : Int) (x1741 : List Int) : Option (((List Int))) :=
  (impl_wordSet_list_n2).bind (fun (t : Unit) => impl_wordSet_list_n5 x1683 x1741)

def impl_wordSet_list_n7 (x1785 : List Int) : Option (((List Int))) :=
  some x1785

def impl_wordSet_list_n8 (x1683 : Int) (x1741 : List Int) : Option (((List Int))) :=
  (impl_wordSet_list_n6 x1683 x1741).bind (fun (t : (List Int)) => impl_wordSet_list_n7 t)

def impl_wordSet_list_n9 (x1683 : Int) : Option (((List Int))) :=
  (impl_wordSet_list_n1 x1683).bind (fun (t : (List Int)) => impl_wordSet_list_n8 x1683 t)

@[irreducible] def impl_wordSet_list (x1683 : Int) : Option ((List Int)) :=
  impl_wordSet_list_n9 x1683

/-! loop.example/headtrees/impl.fillYields -/

def impl_fillYields_n1 (R0 : (List Int) → Int → (List Int) → Option (Int × (List Int))) (x1633 : Int) : Option (Int) :=
  (impl_only x1633).bind fun (v1819 : Int) => some v1819

def impl_fillYields_n2 (R0 : (List Int) → Int → (List Int) → Option (Int × (List Int))) (x1632 : List Int) (x1633 : Int) : Option ((Int × (List Int))) :=
  (impl_dependents x1632 x1633).bind fun (v1820 : Int) => (impl_wordSet_list v1820).bind fun (v1821 : List Int) => some ((((List.length v1821 : Nat) : Int)), v1821)

def impl_fillYields_n3 (R0 : (List Int) → Int → (List Int) → Option (Int × (List Int))) (x1632 : List Int) (x1840 : Int) (x1822 : Int) (x1841 : Int) (x1842 : List Int) (x1821 : List Int) : Option ((Int × Int × (List Int)) ⊕ (Int × (List Int))) :=
  cond (decide (x1841 < x1822)) ((inb x1841 (List.length x1821)).bind fun (v1853 : Nat) => (x1821[v1853]?).bind fun (v1854 : Int) => (R0 x1632 v1854 x1842).bind fun (v1855 : Int × (List Int)) => some (Sum.inl ((ior .u64 x1840 (v1855.1)), (IntKind.wrap .i64 (x1841 + 1)), (v1855.2)))) (some (Sum.inr (x1840, x1842)))

def impl_fillYields_n4 (R0 : (List Int) → Int → (List Int) → Option (Int × (List Int))) (x1632 : List Int) (x1819 : Int) (x1822 : Int) (x1634 : List Int) (x1821 : List Int) : Option ((Int × (List Int))) :=
  nloop (fun (s : Int × Int × (List Int)) => ((impl_fillYields_n3 R0 x1632 s.1 x1822 s.2.1 s.2.2 x1821).map (Sum.elim (fun (t : Int × Int × (List Int)) => Sum.inl (t.1, t.2.1, t.2.2)) (fun (t : Int × (List Int)) => Sum.inr t)) : Option ((Int × Int × (List Int)) ⊕ ((Int × (List Int)))))) LL (x1819, 0, x1634)

def impl_fillYields_n5 (R0 : (List Int) → Int → (List Int) → Option (Int × (List Int))) (x1632 : List Int) (x1819 : Int) (x1822 : Int) (x1634 : List Int) (x1821 : List Int) : Option ((Int × (List Int))) :=
  (impl_fillYields_n4 R0 x1632 x1819 x1822 x1634 x1821).map (fun (t : Int × (List Int)) => (t.1, t.2))

def impl_fillYields_n6 (R0 : (List Int) → Int → (List Int) → Option (Int × (List Int))) (x1632 : List Int) (x1633 : Int) (x1819 : Int) (x1634 : List Int) : Option ((Int × (List Int))) :=
  (impl_fillYields_n2 R0 x1632 x1633).bind (fun (t : Int × (List Int)) => impl_fillYields_n5 R0 x1632 x1819 t.1 x1634 t.2)

def impl_fillYields_n7 (R0 : (List Int) → Int → (List Int) → Option (Int × (List Int))) (x1633 : Int) (x1840 : Int) (x1842 : List Int) : Option ((Int × (List Int))) :=
  (inb (IntKind.wrap .i64 (x1633 - 1)) (List.length x1842)).bind fun (v1867 : Nat) => some (x1840, (x1842.set v1867 x1840))

def impl_fillYields_n8 (R0 : (List Int) → Int → (List Int) → Option (Int × (List Int))) (x1632 : List Int) (x1633 : Int) (x1819 : Int) (x1634 : List Int) : Option ((Int × (List Int))) :=
  (impl_fillYields_n6 R0 x1632 x1633 x1819 x1634).bind (fun (t : Int × (List Int)) => impl_fillYields_n7 R0 x1633 t.1 t.2)

def impl_fillYields_n9 (R0 : (List Int) → Int → (List Int) → Option (Int × (List Int))) (x1632 : List Int) (x1633 : Int) (x1634 : List Int) : Option ((Int × (List Int))) :=
  (impl_fillYields_n1 R0 x1633).bind (fun (t : Int) => impl_fillYields_n8 R0 x1632 x1633 t x1634)

def impl_fillYields_one (R0 : (List Int) → Int → (List Int) → Option (Int × (List Int))) (x1632 : List Int) (x1633 : Int) (x1634 : List Int) : Option (Int × (List Int)) :=
  impl_fillYields_n9 R0 x1632 x1633 x1634

def impl_fillYields_knot : Nat → ((List Int) → Int → (List Int) → Option (Int × (List Int)))
  | 0 => (fun _ _ _ => none)
  | n + 1 => (fun y0 y1 y2 => impl_fillYields_one (impl_fillYields_knot n) y0 y1 y2)

def impl_fillYields_fuel (n : Nat) : (List Int) → Int → (List Int) → Option (Int × (List Int)) := (impl_fillYields_knot n)

@[irreducible] def impl_fillYields (x1632 : List Int) (x1633 : Int) (x1634 : List Int) : Option (Int × (List Int)) := impl_fillYields_fuel RR x1632 x1633 x1634

/-! loop.example/headtrees/impl.yieldsOf -/

def impl_yieldsOf_n1 (x1600 : List Int) : Option (((List Int))) :=
  (mk (((List.length x1600 : Nat) : Int)) (((List.length x1600 : Nat) : Int))).bind fun (v1880 : Nat) => (impl_RootOf x1600).bind fun (v1882 : Int) => (impl_fillYields x1600 v1882 (List.replicate v1880 (0 : Int))).bind fun (v1883 : Int × (List Int)) => some (v1883.2)

@[irreducible] def impl_yieldsOf (x1600 : List Int) : Option ((List Int)) :=
  impl_yieldsOf_n1 x1600

/-! (loop.example/headtrees/impl.wordSet).begins -/

def impl_wordSet_begins_n1 (x1891 : Int) : Option (Int) :=
  (shl .u64 x1891 1).bind fun (v1894 : Int) => some (iandn .u64 x1891 v1894)

@[irreducible] def impl_wordSet_begins (x1891 : Int) : Option (Int) :=
  impl_wordSet_begins_n1 x1891

/-! (loop.example/headtrees/impl.wordSet).gaps -/

def impl_wordSet_gaps_n1 (x1890 : Int) : Option (Int) :=
  (impl_wordSet_begins x1890).bind fun (v1899 : Int) => (impl_wordSet_count v1899).bind fun (v1900 : Int) => some (IntKind.wrap .i64 (v1900 - 1))

@[irreducible] def impl_wordSet_gaps (x1890 : Int) : Option (Int) :=
  impl_wordSet_gaps_n1 x1890

/-! loop.example/headtrees/impl.GapsOf -/

def impl_GapsOf_n1 (x1444 : List Int) (x1445 : Int) : Option (Int) :=
  (impl_wordOk x1444 x1445).bind fun (v1903 : Bool) => cond (!v1903) (some (-1)) ((impl_yieldsOf x1444).bind fun (v1905 : List Int) => (inb (IntKind.wrap .i64 (x1445 - 1)) (List.length v1905)).bind fun (v1907 : Nat) => (v1905[v1907]?).bind fun (v1908 : Int) => (impl_wordSet_gaps v1908).bind fun (v1909 : Int) => some v1909)

@[irreducible] def impl_GapsOf (x1444 : List Int) (x1445 : Int) : Option (Int) :=
  impl_GapsOf_n1 x1444 x1445

/-! loop.example/headtrees/spec.l2Yield -/

def spec_l2Yield_n1 (R0 : (List Int) → Int → Option Int) (x1931 : Int) : Option (Int) :=
  (shl .i64 1 (IntKind.wrap .i64 (x1931 - 1))).bind fun (v1962 : Int) => some v1962

def spec_l2Yield_n2 (R0 : (List Int) → Int → Option Int) : Option (Unit) :=
  some ()

def spec_l2Yield_n3 (R0 : (List Int) → Int → Option Int) (x1930 : List Int) (x1931 : Int) (x1983 : Int) (x1984 : Int) : Option ((Int × Int) ⊕ Int) :=
  cond (decide (x1984 < (((List.length x1930 : Nat) : Int)))) ((idx x1930 x1984).bind fun (v1996 : Int) => cond (v1996 == x1931) ((R0 x1930 (IntKind.wrap .i64 (x1984 + 1))).bind fun (v1999 : Int) => some (Sum.inl ((ior .i64 x1983 v1999), (IntKind.wrap .i64 (x1984 + 1))))) (some (Sum.inl (x1983, (IntKind.wrap .i64 (x1984 + 1)))))) (some (Sum.inr x1983))

def spec_l2Yield_n4 (R0 : (List Int) → Int → Option Int) (x1930 : List Int) (x1931 : Int) (x1962 : Int) : Option (Int) :=
  nloop (fun (s : Int × Int) => ((spec_l2Yield_n3 R0 x1930 x1931 s.1 s.2).map (Sum.elim (fun (t : Int × Int) => Sum.inl (t.1, t.2)) (fun (t : Int) => Sum.inr t)) : Option ((Int × Int) ⊕ (Int)))) LL (x1962, 0)

def spec_l2Yield_n5 (R0 : (List Int) → Int → Option Int) (x1930 : List Int) (x1931 : Int) (x1962 : Int) : Option (Int) :=
  (spec_l2Yield_n4 R0 x1930 x1931 x1962).map (fun (t : Int) => t)

def spec_l2Yield_n6 (R0 : (List Int) → Int → Option Int) (x1930 : List Int) (x1931 : Int) (x1962 : Int) : Option (Int) :=
  (spec_l2Yield_n2 R0).bind (fun (t : Unit) => spec_l2Yield_n5 R0 x1930 x1931 x1962)

def spec_l2Yield_n7 (R0 : (List Int) → Int → Option Int) (x1983 : Int) : Option (Int) :=
  some x1983

def spec_l2Yield_n8 (R0 : (List Int) → Int → Option Int) (x1930 : List Int) (x1931 : Int) (x1962 : Int) : Option (Int) :=
  (spec_l2Yield_n6 R0 x1930 x1931 x1962).bind (fun (t : Int) => spec_l2Yield_n7 R0 t)

def spec_l2Yield_n9 (R0 : (List Int) → Int → Option Int) (x1930 : List Int) (x1931 : Int) : Option (Int) :=
  (spec_l2Yield_n1 R0 x1931).bind (fun (t : Int) => spec_l2Yield_n8 R0 x1930 x1931 t)

def spec_l2Yield_one (R0 : (List Int) → Int → Option Int) (x1930 : List Int) (x1931 : Int) : Option (Int) :=
  spec_l2Yield_n9 R0 x1930 x1931

def spec_l2Yield_knot : Nat → ((List Int) → Int → Option Int)
  | 0 => (fun _ _ => none)
  | n + 1 => (fun y0 y1 => spec_l2Yield_one (spec_l2Yield_knot n) y0 y1)

def spec_l2Yield_fuel (n : Nat) : (List Int) → Int → Option Int := (spec_l2Yield_knot n)

@[irreducible] def spec_l2Yield (x1930 : List Int) (x1931 : Int) : Option (Int) := spec_l2Yield_fuel RR x1930 x1931

/-! loop.example/headtrees/spec.l5Rows -/

def spec_l5Rows_n1 : Option (Unit) :=
  some ()

def spec_l5Rows_n2 (x2020 : Int) (x2021 : Int) : Option ((Int × Int) ⊕ Int) :=
  cond (decide (x2020 > 0)) ((rem x2020 4).bind fun (v2028 : Int) => cond (v2028 == 1) ((quo .i64 x2020 2).bind fun (v2031 : Int) => some (Sum.inl (v2031, (IntKind.wrap .i64 (x2021 + 1))))) ((quo .i64 x2020 2).bind fun (v2032 : Int) => some (Sum.inl (v2032, x2021)))) (some (Sum.inr x2021))

def spec_l5Rows_n3 (x2006 : Int) : Option (Int) :=
  nloop (fun (s : Int × Int) => ((spec_l5Rows_n2 s.1 s.2).map (Sum.elim (fun (t : Int × Int) => Sum.inl (t.1, t.2)) (fun (t : Int) => Sum.inr t)) : Option ((Int × Int) ⊕ (Int)))) LL (x2006, 0)

def spec_l5Rows_n4 (x2006 : Int) : Option (Int) :=
  (spec_l5Rows_n3 x2006).map (fun (t : Int) => t)

def spec_l5Rows_n5 (x2021 : Int) : Option (Int) :=
  some x2021

def spec_l5Rows_n6 (x2006 : Int) : Option (Int) :=
  (spec_l5Rows_n4 x2006).bind (fun (t : Int) => spec_l5Rows_n5 t)

def spec_l5Rows_n7 (x2006 : Int) : Option (Int) :=
  (spec_l5Rows_n1).bind (fun (t : Unit) => spec_l5Rows_n6 x2006)

@[irreducible] def spec_l5Rows (x2006 : Int) : Option (Int) :=
  spec_l5Rows_n7 x2006

/-! loop.example/headtrees/spec.GapsOf -/

def spec_GapsOf_n1 (x1918 : List Int) (x1919 : Int) : Option (Int) :=
  (spec_TreeOk x1918).bind fun (v2037 : Bool) => cond (!v2037) (some (-1)) ((spec_l1In x1919 1 (((List.length x1918 : Nat) : Int))).bind fun (v2040 : Bool) => cond (!v2040) (some (-1)) ((spec_l2Yield x1918 x1919).bind fun (v2042 : Int) => (spec_l5Rows v2042).bind fun (v2043 : Int) => some (IntKind.wrap .i64 (v2043 - 1))))

@[irreducible] def spec_GapsOf (x1918 : List Int) (x1919 : Int) : Option (Int) :=
  spec_GapsOf_n1 x1918 x1919

/-! loop.example/headtrees/laws.alive -/

def laws_alive_n1 : Option (Bool) :=
  (impl_TreeOk ([0])).bind fun (v2064 : Bool) => cond v2064 ((impl_TreeOk ([1])).bind fun (v2066 : Bool) => some (!v2066)) (some false)

@[irreducible] def laws_alive : Option (Bool) :=
  laws_alive_n1

/-! loop.example/headtrees/impl.DependsOf -/

def impl_DependsOf_n1 (x2081 : List Int) (x2082 : Int) : Option (((List Int))) :=
  (impl_TreeOk x2081).bind fun (v2095 : Bool) => cond (!v2095) (some ([] : List Int)) (cond (decide (x2082 < 0)) (some ([] : List Int)) (cond (decide (x2082 > (((List.length x2081 : Nat) : Int)))) (some ([] : List Int)) ((impl_dependents x2081 x2082).bind fun (v2100 : Int) => (impl_wordSet_list v2100).bind fun (v2101 : List Int) => some v2101)))

@[irreducible] def impl_DependsOf (x2081 : List Int) (x2082 : Int) : Option ((List Int)) :=
  impl_DependsOf_n1 x2081 x2082

/-! loop.example/headtrees/impl.YieldOf -/

def impl_YieldOf_n1 (x2122 : List Int) (x2123 : Int) : Option (((List Int))) :=
  (impl_wordOk x2122 x2123).bind fun (v2133 : Bool) => cond (!v2133) (some ([] : List Int)) ((impl_yieldsOf x2122).bind fun (v2135 : List Int) => (inb (IntKind.wrap .i64 (x2123 - 1)) (List.length v2135)).bind fun (v2137 : Nat) => (v2135[v2137]?).bind fun (v2138 : Int) => (impl_wordSet_list v2138).bind fun (v2139 : List Int) => some v2139)

@[irreducible] def impl_YieldOf (x2122 : List Int) (x2123 : Int) : Option ((List Int)) :=
  impl_YieldOf_n1 x2122 x2123

/-! loop.example/headtrees/impl.lastToFirst -/

def impl_lastToFirst_n1 (x2151 : Int) : Option (((List Int))) :=
  (mk x2151 x2151).bind fun (v2152 : Nat) => some (List.replicate v2152 (0 : Int))

def impl_lastToFirst_n2 (x2153 : List Int) : Option (Int) :=
  some (((List.length x2153 : Nat) : Int))

def impl_lastToFirst_n3 (x2151 : Int) (x2154 : Int) (x2166 : Int) (x2167 : List Int) : Option ((Int × (List Int)) ⊕ ((List Int))) :=
  cond (decide (x2166 < x2154)) ((inb x2166 (List.length x2167)).bind fun (v2176 : Nat) => some (Sum.inl ((IntKind.wrap .i64 (x2166 + 1)), (x2167.set v2176 (IntKind.wrap .i64 (x2151 - x2166)))))) (some (Sum.inr x2167))

def impl_lastToFirst_n4 (x2151 : Int) (x2154 : Int) (x2153 : List Int) : Option (((List Int))) :=
  nloop (fun (s : Int × (List Int)) => ((impl_lastToFirst_n3 x2151 x2154 s.1 s.2).map (Sum.elim (fun (t : Int × (List Int)) => Sum.inl (t.1, t.2)) (fun (t : (List Int)) => Sum.inr t)) : Option ((Int × (List Int)) ⊕ (((List Int)))))) LL (0, x2153)

def impl_lastToFirst_n5 (x2151 : Int) (x2154 : Int) (x2153 : List Int) : Option (((List Int))) :=
  (impl_lastToFirst_n4 x2151 x2154 x2153).map (fun (t : (List Int)) => t)

def impl_lastToFirst_n6 (x2151 : Int) (x2153 : List Int) : Option (((List Int))) :=
  (impl_lastToFirst_n2 x2153).bind (fun (t : Int) => impl_lastToFirst_n5 x2151 t x2153)

def impl_lastToFirst_n7 (x2167 : List Int) : Option (((List Int))) :=
  some x2167

def impl_lastToFirst_n8 (x2151 : Int) (x2153 : List Int) : Option (((List Int))) :=
  (impl_lastToFirst_n6 x2151 x2153).bind (fun (t : (List Int)) => impl_lastToFirst_n7 t)

def impl_lastToFirst_n9 (x2151 : Int) : Option (((List Int))) :=
  (impl_lastToFirst_n1 x2151).bind (fun (t : (List Int)) => impl_lastToFirst_n8 x2151 t)

@[irreducible] def impl_lastToFirst (x2151 : Int) : Option ((List Int)) :=
  impl_lastToFirst_n9 x2151

/-! loop.example/headtrees/impl.OrderOk -/

def impl_OrderOk_n1 (x2185 : List Int) (x2186 : Int) : Option (Unit ⊕ Bool) :=
  cond (decide (x2186 < 1)) (some (Sum.inr false)) (cond (decide (x2186 > 8)) (some (Sum.inr false)) (cond ((((List.length x2185 : Nat) : Int)) != x2186) (some (Sum.inr false)) (some (Sum.inl ()))))

def impl_OrderOk_n2 (x2185 : List Int) : Option (Int) :=
  some (((List.length x2185 : Nat) : Int))

def impl_OrderOk_n3 (x2186 : Int) (x2185 : List Int) (x2196 : Int) (x2220 : Int) (x2221 : List Bool) : Option ((Int × (List Bool)) ⊕ Bool ⊕ Unit) :=
  cond (decide (x2220 < x2196)) ((idx x2185 x2220).bind fun (v2235 : Int) => cond (decide (v2235 < 1)) (some (Sum.inr (Sum.inl false))) (cond (decide (v2235 > x2186)) (some (Sum.inr (Sum.inl false))) ((same (List.length x2221) 9).bind fun (v2238 : Unit) => (inb v2235 9).bind fun (v2239 : Nat) => (x2221[v2239]?).bind fun (v2240 : Bool) => cond v2240 (some (Sum.inr (Sum.inl false))) ((same (List.length x2221) 9).bind fun (v2241 : Unit) => (inb v2235 9).bind fun (v2242 : Nat) => some (Sum.inl ((IntKind.wrap .i64 (x2220 + 1)), (x2221.set v2242 true))))))) (some (Sum.inr (Sum.inr ())))

def impl_OrderOk_n4 (x2186 : Int) (x2185 : List Int) (x2196 : Int) : Option (Bool ⊕ Unit) :=
  nloop (fun (s : Int × (List Bool)) => ((impl_OrderOk_n3 x2186 x2185 x2196 s.1 s.2).map (Sum.elim (fun (t : Int × (List Bool)) => Sum.inl (t.1, t.2)) (Sum.elim (fun (t : Bool) => Sum.inr (Sum.inl t)) (fun (t : Unit) => Sum.inr (Sum.inr t)))) : Option ((Int × (List Bool)) ⊕ (Bool ⊕ Unit)))) LL (0, (List.replicate 9 false))

def impl_OrderOk_n5 (x2186 : Int) (x2185 : List Int) (x2196 : Int) : Option (Unit ⊕ Bool) :=
  (impl_OrderOk_n4 x2186 x2185 x2196).map (Sum.elim (fun (t : Bool) => (Sum.inr t)) (fun (t : Unit) => (Sum.inl ())))

def impl_OrderOk_n6 (x2185 : List Int) (x2186 : Int) : Option (Unit ⊕ Bool) :=
  (impl_OrderOk_n2 x2185).bind (fun (t : Int) => impl_OrderOk_n5 x2186 x2185 t)

def impl_OrderOk_n7 : Option (Bool) :=
  some true

def impl_OrderOk_n8 (x2185 : List Int) (x2186 : Int) : Option (Bool) :=
  (impl_OrderOk_n6 x2185 x2186).bind (Sum.elim (fun (t : Unit) => impl_OrderOk_n7) (fun e => some ((fun (t : Bool) => t) e)))

def impl_OrderOk_n9 (x2185 : List Int) (x2186 : Int) : Option (Bool) :=
  (impl_OrderOk_n1 x2185 x2186).bind (Sum.elim (fun (t : Unit) => impl_OrderOk_n8 x2185 x2186) (fun e => some ((fun (t : Bool) => t) e)))

@[irreducible] def impl_OrderOk (x2185 : List Int) (x2186 : Int) : Option (Bool) :=
  impl_OrderOk_n9 x2185 x2186

/-! loop.example/headtrees/impl.placesIn -/

def impl_placesIn_n1 (x2253 : List Int) : Option (((List Int))) :=
  (mk (IntKind.wrap .i64 ((((List.length x2253 : Nat) : Int)) + 1)) (IntKind.wrap .i64 ((((List.length x2253 : Nat) : Int)) + 1))).bind fun (v2256 : Nat) => some (List.replicate v2256 (0 : Int))

def impl_placesIn_n2 (x2253 : List Int) : Option (Int) :=
  some (((List.length x2253 : Nat) : Int))

def impl_placesIn_n3 (x2253 : List Int) (x2258 : Int) (x2272 : Int) (x2273 : List Int) : Option ((Int × (List Int)) ⊕ ((List Int))) :=
  cond (decide (x2272 < x2258)) ((idx x2253 x2272).bind fun (v2282 : Int) => (inb v2282 (List.length x2273)).bind fun (v2284 : Nat) => some (Sum.inl ((IntKind.wrap .i64 (x2272 + 1)), (x2273.set v2284 (IntKind.wrap .i64 (x2272 + 1)))))) (some (Sum.inr x2273))

def impl_placesIn_n4 (x2253 : List Int) (x2258 : Int) (x2257 : List Int) : Option (((List Int))) :=
  nloop (fun (s : Int × (List Int)) => ((impl_placesIn_n3 x2253 x2258 s.1 s.2).map (Sum.elim (fun (t : Int × (List Int)) => Sum.inl (t.1, t.2)) (fun (t : (List Int)) => Sum.inr t)) : Option ((Int × (List Int)) ⊕ (((List Int)))))) LL (0, x2257)

def impl_placesIn_n5 (x2253 : List Int) (x2258 : Int) (x2257 : List Int) : Option (((List Int))) :=
  (impl_placesIn_n4 x2253 x2258 x2257).map (fun (t : (List Int)) => t)

def impl_placesIn_n6 (x2253 : List Int) (x2257 : List Int) : Option (((List Int))) :=
  (impl_placesIn_n2 x2253).bind (fun (t : Int) => impl_placesIn_n5 x2253 t x2257)

def impl_placesIn_n7 (x2273 : List Int) : Option (((List Int))) :=
  some x2273

def impl_placesIn_n8 (x2253 : List Int) (x2257 : List Int) : Option (((List Int))) :=
  (impl_placesIn_n6 x2253 x2257).bind (fun (t : (List Int)) => impl_placesIn_n7 t)

def impl_placesIn_n9 (x2253 : List Int) : Option (((List Int))) :=
  (impl_placesIn_n1 x2253).bind (fun (t : (List Int)) => impl_placesIn_n8 x2253 t)

@[irreducible] def impl_placesIn (x2253 : List Int) : Option ((List Int)) :=
  impl_placesIn_n9 x2253

/-! loop.example/headtrees/impl.PutInOrder$1 -/

def impl_PutInOrder_1_n1 (x2307 : Int) (x2308 : List Int) : Option (Int) :=
  (inb x2307 (List.length x2308)).bind fun (v2311 : Nat) => (x2308[v2311]?).bind fun (v2312 : Int) => some v2312

@[irreducible] def impl_PutInOrder_1 (x2307 : Int) (x2308 : List Int) : Option (Int) :=
  impl_PutInOrder_1_n1 x2307 x2308

/-! loop.example/headtrees/impl.renamed[int] -/

def impl_renamed_int_n1 (x2295 : List Int) : Option (((List Int))) :=
  (mk (((List.length x2295 : Nat) : Int)) (((List.length x2295 : Nat) : Int))).bind fun (v2298 : Nat) => some (List.replicate v2298 (0 : Int))

def impl_renamed_int_n2 (x2295 : List Int) : Option (Int) :=
  some (((List.length x2295 : Nat) : Int))

def impl_renamed_int_n3 (x2294 : List Int) (x2295 : List Int) (x2300 : Int) (x2324 : Int) (x2296 : List Int) (x2325 : List Int) : Option ((Int × (List Int)) ⊕ ((List Int))) :=
  cond (decide (x2324 < x2300)) ((idx x2295 x2324).bind fun (v2336 : Int) => (idx x2294 (IntKind.wrap .i64 (v2336 - 1))).bind fun (v2338 : Int) => (impl_PutInOrder_1 v2338 x2296).bind fun (v2339 : Int) => (inb x2324 (List.length x2325)).bind fun (v2340 : Nat) => some (Sum.inl ((IntKind.wrap .i64 (x2324 + 1)), (x2325.set v2340 v2339)))) (some (Sum.inr x2325))

def impl_renamed_int_n4 (x2294 : List Int) (x2295 : List Int) (x2300 : Int) (x2296 : List Int) (x2299 : List Int) : Option (((List Int))) :=
  nloop (fun (s : Int × (List Int)) => ((impl_renamed_int_n3 x2294 x2295 x2300 s.1 x2296 s.2).map (Sum.elim (fun (t : Int × (List Int)) => Sum.inl (t.1, t.2)) (fun (t : (List Int)) => Sum.inr t)) : Option ((Int × (List Int)) ⊕ (((List Int)))))) LL (0, x2299)

def impl_renamed_int_n5 (x2294 : List Int) (x2295 : List Int) (x2300 : Int) (x2296 : List Int) (x2299 : List Int) : Option (((List Int))) :=
  (impl_renamed_int_n4 x2294 x2295 x2300 x2296 x2299).map (fun (t : (List Int)) => t)

def impl_renamed_int_n6 (x2294 : List Int) (x2295 : List Int) (x2296 : List Int) (x2299 : List Int) : Option (((List Int))) :=
  (impl_renamed_int_n2 x2295).bind (fun (t : Int) => impl_renamed_int_n5 x2294 x2295 t x2296 x2299)

def impl_renamed_int_n7 (x2325 : List Int) : Option (((List Int))) :=
  some x2325

def impl_renamed_int_n8 (x2294 : List Int) (x2295 : List Int) (x2296 : List Int) (x2299 : List Int) : Option (((List Int))) :=
  (impl_renamed_int_n6 x2294 x2295 x2296 x2299).bind (fun (t : (List Int)) => impl_renamed_int_n7 t)

def impl_renamed_int_n9 (x2294 : List Int) (x2295 : List Int) (x2296 : List Int) : Option (((List Int))) :=
  (impl_renamed_int_n1 x2295).bind (fun (t : (List Int)) => impl_renamed_int_n8 x2294 x2295 x2296 t)

@[irreducible] def impl_renamed_int (x2294 : List Int) (x2295 : List Int) (x2296 : List Int) : Option ((List Int)) :=
  impl_renamed_int_n9 x2294 x2295 x2296

/-! loop.example/headtrees/impl.PutInOrder -/

def impl_PutInOrder_n1 (x2180 : List Int) (x2181 : List Int) : Option ((Bool × (List Int))) :=
  (impl_TreeOk x2180).bind fun (v2344 : Bool) => cond (!v2344) (some (false, ([] : List Int))) ((impl_OrderOk x2181 (((List.length x2180 : Nat) : Int))).bind fun (v2347 : Bool) => cond (!v2347) (some (false, ([] : List Int))) ((impl_placesIn x2181).bind fun (v2349 : List Int) => (impl_renamed_int x2180 x2181 v2349).bind fun (v2350 : List Int) => some (true, v2350)))

@[irreducible] def impl_PutInOrder (x2180 : List Int) (x2181 : List Int) : Option (Bool × (List Int)) :=
  impl_PutInOrder_n1 x2180 x2181

/-! loop.example/headtrees/impl.BackOf -/

def impl_BackOf_n1 (x2145 : List Int) : Option (((List Int))) :=
  (impl_TreeOk x2145).bind fun (v2363 : Bool) => cond (!v2363) (some ([] : List Int)) ((impl_lastToFirst (((List.length x2145 : Nat) : Int))).bind fun (v2366 : List Int) => (impl_PutInOrder x2145 v2366).bind fun (v2367 : Bool × (List Int)) => some (v2367.2))

@[irreducible] def impl_BackOf (x2145 : List Int) : Option ((List Int)) :=
  impl_BackOf_n1 x2145

/-! loop.example/headtrees/laws.FnGapsOf -/

def laws_FnGapsOf_n1 (x2 : List Int) : Option (Bool) :=
  cond (decide ((((List.length x2 : Nat) : Int)) > 1048576)) (some true) ((spec_DrawGapsOf x2).bind fun (v2405 : Int × (List Int)) => (impl_GapsOf (v2405.2) (v2405.1)).bind fun (v2408 : Int) => (spec_GapsOf (v2405.2) (v2405.1)).bind fun (v2409 : Int) => cond (v2408 != v2409) (some false) (cond (decide (v2408 < 0)) (cond (v2408 == (-1)) ((laws_alive).bind fun (v2413 : Bool) => some v2413) (some false)) ((impl_DependsOf (v2405.2) (v2405.1)).bind fun (v2414 : List Int) => cond ((((List.length v2414 : Nat) : Int)) == 0) ((impl_YieldOf (v2405.2) (v2405.1)).bind fun (v2417 : List Int) => cond (decide (v2408 < (((List.length v2417 : Nat) : Int)))) (cond (!true) ((impl_BackOf (v2405.2)).bind fun (v2421 : List Int) => (impl_GapsOf v2421 (IntKind.wrap .i64 ((IntKind.wrap .i64 ((((List.length (v2405.2) : Nat) : Int)) + 1)) - (v2405.1)))).bind fun (v2425 : Int) => some (v2425 == v2408)) (cond (v2408 == 0) ((impl_BackOf (v2405.2)).bind fun (v2428 : List Int) => (impl_GapsOf v2428 (IntKind.wrap .i64 ((IntKind.wrap .i64 ((((List.length (v2405.2) : Nat) : Int)) + 1)) - (v2405.1)))).bind fun (v2432 : Int) => some (v2432 == v2408)) (some false))) (some false)) ((impl_RootOf (v2405.2)).bind fun (v2434 : Int) => (impl_YieldOf (v2405.2) (v2405.1)).bind fun (v2436 : List Int) => cond (decide (v2408 < (((List.length v2436 : Nat) : Int)))) (cond (!(v2434 == (v2405.1))) ((impl_BackOf (v2405.2)).bind fun (v2440 : List Int) => (impl_GapsOf v2440 (IntKind.wrap .i64 ((IntKind.wrap .i64 ((((List.length (v2405.2) : Nat) : Int)) + 1)) - (v2405.1)))).bind fun (v2444 : Int) => some (v2444 == v2408)) (cond (v2408 == 0) ((impl_BackOf (v2405.2)).bind fun (v2447 : List Int) => (impl_GapsOf v2447 (IntKind.wrap .i64 ((IntKind.wrap .i64 ((((List.length (v2405.2) : Nat) : Int)) + 1)) - (v2405.1)))).bind fun (v2451 : Int) => some (v2451 == v2408)) (some false))) (some false)))))

@[irreducible] def laws_FnGapsOf (x2 : List Int) : Option (Bool) :=
  laws_FnGapsOf_n1 x2

/-! loop.example/headtrees/spec.DrawMostGaps -/

def spec_DrawMostGaps_n1 (x2460 : List Int) : Option (((List Int))) :=
  (spec_l20Open x2460).bind fun (v2466 : List Int) => (spec_l20Wild 9 v2466 0).bind fun (v2467 : Int × (List Int)) => some (v2467.2)

@[irreducible] def spec_DrawMostGaps (x2460 : List Int) : Option ((List Int)) :=
  spec_DrawMostGaps_n1 x2460

/-! loop.example/headtrees/impl.MostGaps -/

def impl_MostGaps_n1 (x2474 : List Int) : Option (Unit ⊕ Int) :=
  (impl_TreeOk x2474).bind fun (v2477 : Bool) => cond (!v2477) (some (Sum.inr (-1))) (some (Sum.inl ()))

def impl_MostGaps_n2 (x2474 : List Int) : Option ((Int × (List Int))) :=
  (impl_yieldsOf x2474).bind fun (v2479 : List Int) => some ((((List.length v2479 : Nat) : Int)), v2479)

def impl_MostGaps_n3 (x2494 : Int) (x2480 : Int) (x2495 : Int) (x2479 : List Int) : Option ((Int × Int) ⊕ Int) :=
  cond (decide (x2495 < x2480)) ((inb x2495 (List.length x2479)).bind fun (v2504 : Nat) => (x2479[v2504]?).bind fun (v2505 : Int) => (impl_wordSet_gaps v2505).bind fun (v2506 : Int) => some (Sum.inl ((imax x2494 v2506), (IntKind.wrap .i64 (x2495 + 1))))) (some (Sum.inr x2494))

def impl_MostGaps_n4 (x2480 : Int) (x2479 : List Int) : Option (Int) :=
  nloop (fun (s : Int × Int) => ((impl_MostGaps_n3 s.1 x2480 s.2 x2479).map (Sum.elim (fun (t : Int × Int) => Sum.inl (t.1, t.2)) (fun (t : Int) => Sum.inr t)) : Option ((Int × Int) ⊕ (Int)))) LL (0, 0)

def impl_MostGaps_n5 (x2480 : Int) (x2479 : List Int) : Option (Int) :=
  (impl_MostGaps_n4 x2480 x2479).map (fun (t : Int) => t)

def impl_MostGaps_n6 (x2474 : List Int) : Option (Int) :=
  (impl_MostGaps_n2 x2474).bind (fun (t : Int × (List Int)) => impl_MostGaps_n5 t.1 t.2)

def impl_MostGaps_n7 (x2494 : Int) : Option (Int) :=
  some x2494

def impl_MostGaps_n8 (x2474 : List Int) : Option (Int) :=
  (impl_MostGaps_n6 x2474).bind (fun (t : Int) => impl_MostGaps_n7 t)

def impl_MostGaps_n9 (x2474 : List Int) : Option (Int) :=
  (impl_MostGaps_n1 x2474).bind (Sum.elim (fun (t : Unit) => impl_MostGaps_n8 x2474) (fun e => some ((fun (t : Int) => t) e)))

@[irreducible] def impl_MostGaps (x2474 : List Int) : Option (Int) :=
  impl_MostGaps_n9 x2474

/-! loop.example/headtrees/spec.MostGaps -/

def spec_MostGaps_n1 : Option (Unit) :=
  some ()

def spec_MostGaps_n2 : Option (Unit) :=
  some ()

def spec_MostGaps_n3 (x2515 : List Int) (x2530 : Int) (x2531 : Int) : Option ((Int × Int) ⊕ Int) :=
  cond (decide (x2531 ≤ (((List.length x2515 : Nat) : Int)))) ((spec_TreeOk x2515).bind fun (v2542 : Bool) => cond v2542 ((spec_GapsOf x2515 x2531).bind fun (v2543 : Int) => some (Sum.inl ((imax x2530 v2543), (IntKind.wrap .i64 (x2531 + 1))))) (some (Sum.inr x2530))) (some (Sum.inr x2530))

def spec_MostGaps_n4 (x2515 : List Int) : Option (Int) :=
  nloop (fun (s : Int × Int) => ((spec_MostGaps_n3 x2515 s.1 s.2).map (Sum.elim (fun (t : Int × Int) => Sum.inl (t.1, t.2)) (fun (t : Int) => Sum.inr t)) : Option ((Int × Int) ⊕ (Int)))) LL ((-1), 1)

def spec_MostGaps_n5 (x2515 : List Int) : Option (Int) :=
  (spec_MostGaps_n4 x2515).map (fun (t : Int) => t)

def spec_MostGaps_n6 (x2515 : List Int) : Option (Int) :=
  (spec_MostGaps_n2).bind (fun (t : Unit) => spec_MostGaps_n5 x2515)

def spec_MostGaps_n7 (x2530 : Int) : Option (Int) :=
  some x2530

def spec_MostGaps_n8 (x2515 : List Int) : Option (Int) :=
  (spec_MostGaps_n6 x2515).bind (fun (t : Int) => spec_MostGaps_n7 t)

def spec_MostGaps_n9 (x2515 : List Int) : Option (Int) :=
  (spec_MostGaps_n1).bind (fun (t : Unit) => spec_MostGaps_n8 x2515)

@[irreducible] def spec_MostGaps (x2515 : List Int) : Option (Int) :=
  spec_MostGaps_n9 x2515

/-! (loop.example/headtrees/impl.wordSet).isRow -/

def impl_wordSet_isRow_n1 (x2581 : Int) : Option (Bool) :=
  some ((iand .u64 x2581 (IntKind.wrap .u64 (x2581 + (iand .u64 x2581 (IntKind.wrap .u64 (0 - x2581)))))) == 0)

@[irreducible] def impl_wordSet_isRow (x2581 : Int) : Option (Bool) :=
  impl_wordSet_isRow_n1 x2581

/-! loop.example/headtrees/impl.FlatOk -/

def impl_FlatOk_n1 (x2571 : List Int) : Option (Unit ⊕ Bool) :=
  (impl_TreeOk x2571).bind fun (v2572 : Bool) => cond (!v2572) (some (Sum.inr false)) (some (Sum.inl ()))

def impl_FlatOk_n2 (x2571 : List Int) : Option ((Int × (List Int))) :=
  (impl_yieldsOf x2571).bind fun (v2574 : List Int) => some ((((List.length v2574 : Nat) : Int)), v2574)

def impl_FlatOk_n3 (x2575 : Int) (x2602 : Int) (x2574 : List Int) : Option (Int ⊕ Bool ⊕ Unit) :=
  cond (decide (x2602 < x2575)) ((inb x2602 (List.length x2574)).bind fun (v2611 : Nat) => (x2574[v2611]?).bind fun (v2612 : Int) => (impl_wordSet_isRow v2612).bind fun (v2613 : Bool) => cond (!v2613) (some (Sum.inr (Sum.inl false))) (some (Sum.inl (IntKind.wrap .i64 (x2602 + 1))))) (some (Sum.inr (Sum.inr ())))

def impl_FlatOk_n4 (x2575 : Int) (x2574 : List Int) : Option (Bool ⊕ Unit) :=
  nloop (fun (s : Int) => ((impl_FlatOk_n3 x2575 s x2574).map (Sum.elim (fun (t : Int) => Sum.inl t) (Sum.elim (fun (t : Bool) => Sum.inr (Sum.inl t)) (fun (t : Unit) => Sum.inr (Sum.inr t)))) : Option ((Int) ⊕ (Bool ⊕ Unit)))) LL 0

def impl_FlatOk_n5 (x2575 : Int) (x2574 : List Int) : Option (Unit ⊕ Bool) :=
  (impl_FlatOk_n4 x2575 x2574).map (Sum.elim (fun (t : Bool) => (Sum.inr t)) (fun (t : Unit) => (Sum.inl ())))

def impl_FlatOk_n6 (x2571 : List Int) : Option (Unit ⊕ Bool) :=
  (impl_FlatOk_n2 x2571).bind (fun (t : Int × (List Int)) => impl_FlatOk_n5 t.1 t.2)

def impl_FlatOk_n7 : Option (Bool) :=
  some true

def impl_FlatOk_n8 (x2571 : List Int) : Option (Bool) :=
  (impl_FlatOk_n6 x2571).bind (Sum.elim (fun (t : Unit) => impl_FlatOk_n7) (fun e => some ((fun (t : Bool) => t) e)))

def impl_FlatOk_n9 (x2571 : List Int) : Option (Bool) :=
  (impl_FlatOk_n1 x2571).bind (Sum.elim (fun (t : Unit) => impl_FlatOk_n8 x2571) (fun e => some ((fun (t : Bool) => t) e)))

@[irreducible] def impl_FlatOk (x2571 : List Int) : Option (Bool) :=
  impl_FlatOk_n9 x2571

/-! loop.example/headtrees/impl.arcBetween -/

def impl_arcBetween_n1 (x2635 : Int) (x2636 : Int) : Option ((Bool × Int × Int)) :=
  cond (decide (x2635 < 1)) (some (false, 0, 0)) (cond (decide (x2636 < 1)) (some (false, 0, 0)) (cond (x2635 == x2636) (some (false, 0, 0)) (some (true, (imin x2635 x2636), (imax x2635 x2636)))))

@[irreducible] def impl_arcBetween (x2635 : Int) (x2636 : Int) : Option (Bool × Int × Int) :=
  impl_arcBetween_n1 x2635 x2636

/-! loop.example/headtrees/impl.arcsOf -/

def impl_arcsOf_n1 (x2624 : List Int) : Option (((List (Int × Int × Unit)))) :=
  (mk 0 (((List.length x2624 : Nat) : Int))).bind fun (v2627 : Nat) => some (List.replicate v2627 ((0 : Int), ((0 : Int), ())))

def impl_arcsOf_n2 (x2624 : List Int) : Option (Int) :=
  some (((List.length x2624 : Nat) : Int))

def impl_arcsOf_n3 (x2624 : List Int) (x2629 : Int) (x2681 : Int) (x2682 : List (Int × Int × Unit)) : Option ((Int × (List (Int × Int × Unit))) ⊕ ((List (Int × Int × Unit)))) :=
  cond (decide (x2681 < x2629)) ((idx x2624 x2681).bind fun (v2699 : Int) => (impl_arcBetween (IntKind.wrap .i64 (x2681 + 1)) v2699).bind fun (v2701 : Bool × Int × Int) => cond (v2701.1) ((room ((List.length x2682) + List.length ([((v2701.2.1), ((v2701.2.2), ()))]))).bind fun (v2709 : Unit) => some (Sum.inl ((IntKind.wrap .i64 (x2681 + 1)), (x2682 ++ ([((v2701.2.1), ((v2701.2.2), ()))]))))) (some (Sum.inl ((IntKind.wrap .i64 (x2681 + 1)), x2682)))) (some (Sum.inr x2682))

def impl_arcsOf_n4 (x2624 : List Int) (x2629 : Int) (x2628 : List (Int × Int × Unit)) : Option (((List (Int × Int × Unit)))) :=
  nloop (fun (s : Int × (List (Int × Int × Unit))) => ((impl_arcsOf_n3 x2624 x2629 s.1 s.2).map (Sum.elim (fun (t : Int × (List (Int × Int × Unit))) => Sum.inl (t.1, t.2)) (fun (t : (List (Int × Int × Unit))) => Sum.inr t)) : Option ((Int × (List (Int × Int × Unit))) ⊕ (((List (Int × Int × Unit))))))) LL (0, x2628)

def impl_arcsOf_n5 (x2624 : List Int) (x2629 : Int) (x2628 : List (Int × Int × Unit)) : Option (((List (Int × Int × Unit)))) :=
  (impl_arcsOf_n4 x2624 x2629 x2628).map (fun (t : (List (Int × Int × Unit))) => t)

def impl_arcsOf_n6 (x2624 : List Int) (x2628 : List (Int × Int × Unit)) : Option (((List (Int × Int × Unit)))) :=
  (impl_arcsOf_n2 x2624).bind (fun (t : Int) => impl_arcsOf_n5 x2624 t x2628)

def impl_arcsOf_n7 (x2682 : List (Int × Int × Unit)) : Option (((List (Int × Int × Unit)))) :=
  some x2682

def impl_arcsOf_n8 (x2624 : List Int) (x2628 : List (Int × Int × Unit)) : Option (((List (Int × Int × Unit)))) :=
  (impl_arcsOf_n6 x2624 x2628).bind (fun (t : (List (Int × Int × Unit))) => impl_arcsOf_n7 t)

def impl_arcsOf_n9 (x2624 : List Int) : Option (((List (Int × Int × Unit)))) :=
  (impl_arcsOf_n1 x2624).bind (fun (t : (List (Int × Int × Unit))) => impl_arcsOf_n8 x2624 t)

@[irreducible] def impl_arcsOf (x2624 : List Int) : Option ((List (Int × Int × Unit))) :=
  impl_arcsOf_n9 x2624

/-! (loop.example/headtrees/impl.arc).covers -/

def impl_arc_covers_n1 (x2747 : Int) (x2748 : Int) (x2749 : Int) : Option (Bool) :=
  cond (decide (x2747 < x2749)) (some (decide (x2749 < x2748))) (some false)

@[irreducible] def impl_arc_covers (x2747 : Int) (x2748 : Int) (x2749 : Int) : Option (Bool) :=
  impl_arc_covers_n1 x2747 x2748 x2749

/-! (loop.example/headtrees/impl.arc).leavesOut -/

def impl_arc_leavesOut_n1 (x2756 : Int) (x2757 : Int) (x2758 : Int) : Option (Bool) :=
  cond (decide (x2758 < x2756)) (some true) (some (decide (x2757 < x2758)))

@[irreducible] def impl_arc_leavesOut (x2756 : Int) (x2757 : Int) (x2758 : Int) : Option (Bool) :=
  impl_arc_leavesOut_n1 x2756 x2757 x2758

/-! (loop.example/headtrees/impl.arc).crosses -/

def impl_arc_crosses_n1 (x2743 : Int) (x2744 : Int) (x2745 : Int) (x2746 : Int) : Option (Bool) :=
  (impl_arc_covers x2743 x2744 x2745).bind fun (v2769 : Bool) => cond v2769 ((impl_arc_leavesOut x2743 x2744 x2746).bind fun (v2770 : Bool) => cond v2770 (some true) ((impl_arc_covers x2743 x2744 x2746).bind fun (v2771 : Bool) => cond v2771 ((impl_arc_leavesOut x2743 x2744 x2745).bind fun (v2772 : Bool) => some v2772) (some false))) ((impl_arc_covers x2743 x2744 x2746).bind fun (v2773 : Bool) => cond v2773 ((impl_arc_leavesOut x2743 x2744 x2745).bind fun (v2774 : Bool) => some v2774) (some false))

@[irreducible] def impl_arc_crosses (x2743 : Int) (x2744 : Int) (x2745 : Int) (x2746 : Int) : Option (Bool) :=
  impl_arc_crosses_n1 x2743 x2744 x2745 x2746

/-! loop.example/headtrees/impl.countPairs[loop.example/headtrees/impl.arc] -/

def impl_countPairs_impl_arc_n1 : Option (Unit) :=
  some ()

def impl_countPairs_impl_arc_n2 (x2716 : List (Int × Int × Unit)) : Option (Int) :=
  some (((List.length x2716 : Nat) : Int))

def impl_countPairs_impl_arc_n3 (x2815 : Int) (x2717 : Int) (x2816 : Int) : Option (Unit ⊕ Int) :=
  cond (decide (x2816 < x2717)) (some (Sum.inl ())) (some (Sum.inr x2815))

def impl_countPairs_impl_arc_n4 (x2716 : List (Int × Int × Unit)) (x2816 : Int) : Option (((List (Int × Int × Unit)) × Int × Int × Int)) :=
  (idx x2716 x2816).bind fun (v2824 : Int × Int × Unit) => (inc (IntKind.wrap .i64 (x2816 + 1)) (List.length x2716)).bind fun (v2831 : Nat) => some (((x2716.take (List.length x2716)).drop v2831), (((List.length ((x2716.take (List.length x2716)).drop v2831) : Nat) : Int)), (v2824.1), ((v2824.2).1))

def impl_countPairs_impl_arc_n5 (x2856 : Int) (x2832 : List (Int × Int × Unit)) (x2833 : Int) (x2857 : Int) (x2825 : Int) (x2827 : Int) : Option ((Int × Int) ⊕ Int) :=
  cond (decide (x2857 < x2833)) ((idx x2832 x2857).bind fun (v2869 : Int × Int × Unit) => (impl_arc_crosses x2825 x2827 (v2869.1) ((v2869.2).1)).bind fun (v2874 : Bool) => cond v2874 (some (Sum.inl ((IntKind.wrap .i64 (x2856 + 1)), (IntKind.wrap .i64 (x2857 + 1))))) (some (Sum.inl (x2856, (IntKind.wrap .i64 (x2857 + 1)))))) (some (Sum.inr x2856))

def impl_countPairs_impl_arc_n6 (x2815 : Int) (x2832 : List (Int × Int × Unit)) (x2833 : Int) (x2825 : Int) (x2827 : Int) : Option (Int) :=
  nloop (fun (s : Int × Int) => ((impl_countPairs_impl_arc_n5 s.1 x2832 x2833 s.2 x2825 x2827).map (Sum.elim (fun (t : Int × Int) => Sum.inl (t.1, t.2)) (fun (t : Int) => Sum.inr t)) : Option ((Int × Int) ⊕ (Int)))) LL (x2815, 0)

def impl_countPairs_impl_arc_n7 (x2815 : Int) (x2832 : List (Int × Int × Unit)) (x2833 : Int) (x2825 : Int) (x2827 : Int) : Option (Int) :=
  (impl_countPairs_impl_arc_n6 x2815 x2832 x2833 x2825 x2827).map (fun (t : Int) => t)

def impl_countPairs_impl_arc_n8 (x2716 : List (Int × Int × Unit)) (x2815 : Int) (x2816 : Int) : Option (Int) :=
  (impl_countPairs_impl_arc_n4 x2716 x2816).bind (fun (t : (List (Int × Int × Unit)) × Int × Int × Int) => impl_countPairs_impl_arc_n7 x2815 t.1 t.2.1 t.2.2.1 t.2.2.2)

def impl_countPairs_impl_arc_n9 (x2716 : List (Int × Int × Unit)) (x2815 : Int) (x2816 : Int) : Option (Int) :=
  (impl_countPairs_impl_arc_n8 x2716 x2815 x2816).map (fun (t : Int) => t)

def impl_countPairs_impl_arc_n10 (x2816 : Int) : Option (Int) :=
  some (IntKind.wrap .i64 (x2816 + 1))

def impl_countPairs_impl_arc_n11 (x2716 : List (Int × Int × Unit)) (x2815 : Int) (x2816 : Int) : Option ((Int × Int)) :=
  (impl_countPairs_impl_arc_n9 x2716 x2815 x2816).bind (fun (t : Int) => (impl_countPairs_impl_arc_n10 x2816).map (fun (u : Int) => (t, u)))

def impl_countPairs_impl_arc_n12 (x2716 : List (Int × Int × Unit)) (x2815 : Int) (x2717 : Int) (x2816 : Int) : Option ((Int × Int) ⊕ Int) :=
  (impl_countPairs_impl_arc_n3 x2815 x2717 x2816).bind (Sum.elim (fun (t : Unit) => (impl_countPairs_impl_arc_n11 x2716 x2815 x2816).map (fun (t : Int × Int) => (Sum.inl (t.1, t.2)))) (fun e => some ((fun (t : Int) => (Sum.inr t)) e)))

def impl_countPairs_impl_arc_n13 (x2716 : List (Int × Int × Unit)) (x2717 : Int) : Option (Int) :=
  nloop (fun (s : Int × Int) => ((impl_countPairs_impl_arc_n12 x2716 s.1 x2717 s.2).map (Sum.elim (fun (t : Int × Int) => Sum.inl (t.1, t.2)) (fun (t : Int) => Sum.inr t)) : Option ((Int × Int) ⊕ (Int)))) LL (0, 0)

def impl_countPairs_impl_arc_n14 (x2716 : List (Int × Int × Unit)) (x2717 : Int) : Option (Int) :=
  (impl_countPairs_impl_arc_n13 x2716 x2717).map (fun (t : Int) => t)

def impl_countPairs_impl_arc_n15 (x2716 : List (Int × Int × Unit)) : Option (Int) :=
  (impl_countPairs_impl_arc_n2 x2716).bind (fun (t : Int) => impl_countPairs_impl_arc_n14 x2716 t)

def impl_countPairs_impl_arc_n16 (x2815 : Int) : Option (Int) :=
  some x2815

def impl_countPairs_impl_arc_n17 (x2716 : List (Int × Int × Unit)) : Option (Int) :=
  (impl_countPairs_impl_arc_n15 x2716).bind (fun (t : Int) => impl_countPairs_impl_arc_n16 t)

def impl_countPairs_impl_arc_n18 (x2716 : List (Int × Int × Unit)) : Option (Int) :=
  (impl_countPairs_impl_arc_n1).bind (fun (t : Unit) => impl_countPairs_impl_arc_n17 x2716)

@[irreducible] def impl_countPairs_impl_arc (x2716 : List (Int × Int × Unit)) : Option (Int) :=
  impl_countPairs_impl_arc_n18 x2716

/-! loop.example/headtrees/impl.CrossingsOf -/

def impl_CrossingsOf_n1 (x2619 : List Int) : Option (Int) :=
  (impl_TreeOk x2619).bind fun (v2882 : Bool) => cond (!v2882) (some (-1)) ((impl_arcsOf x2619).bind fun (v2884 : List (Int × Int × Unit)) => (impl_countPairs_impl_arc v2884).bind fun (v2885 : Int) => some v2885)

@[irreducible] def impl_CrossingsOf (x2619 : List Int) : Option (Int) :=
  impl_CrossingsOf_n1 x2619

/-! loop.example/headtrees/laws.FnMostGaps -/

def laws_FnMostGaps_n1 (x2455 : List Int) : Option (Bool) :=
  cond (decide ((((List.length x2455 : Nat) : Int)) > 1048576)) (some true) ((spec_DrawMostGaps x2455).bind fun (v2892 : List Int) => (impl_MostGaps v2892).bind fun (v2893 : Int) => (spec_MostGaps v2892).bind fun (v2894 : Int) => cond (v2893 != v2894) (some false) (cond (decide (v2893 < 0)) (cond (v2893 == (-1)) ((impl_TreeOk v2892).bind fun (v2898 : Bool) => cond (!v2898) ((laws_alive).bind fun (v2900 : Bool) => some v2900) (some false)) (some false)) ((impl_FlatOk v2892).bind fun (v2902 : Bool) => cond ((v2893 == 0) == v2902) ((impl_CrossingsOf v2892).bind fun (v2904 : Int) => cond (decide (v2904 > 0)) (some true) (some (decide (v2893 ≤ 1)))) (some false))))

@[irreducible] def laws_FnMostGaps (x2455 : List Int) : Option (Bool) :=
  laws_FnMostGaps_n1 x2455

/-! loop.example/headtrees/spec.DrawTurnsOk -/

def spec_DrawTurnsOk_n1 (x2914 : List Int) : Option (((List Int) × Int × Int)) :=
  (spec_l20Open x2914).bind fun (v3230 : List Int) => (spec_l20Wild 12 v3230 0).bind fun (v3231 : Int × (List Int)) => (spec_l20Rd_pick 3 v3230 (v3231.1)).bind fun (v3234 : Int × Int) => cond ((v3234.1) == 0) ((spec_l20Rd_pick 4 v3230 (v3234.2)).bind fun (v3238 : Int × Int) => (inb (v3238.1) (List.length ([([5, 5, 1, 2, 0]), ([0, 1, 1, 2, 3]), ([6, 6, 1, 2, 1, 0]), ([3, 4, 0, 3, 1, 2])]))).bind fun (v3246 : Nat) => (([([5, 5, 1, 2, 0]), ([0, 1, 1, 2, 3]), ([6, 6, 1, 2, 1, 0]), ([3, 4, 0, 3, 1, 2])])[v3246]?).bind fun (v3247 : List Int) => (spec_l20Rd_pick 3 v3230 (v3238.2)).bind fun (v3248 : Int × Int) => cond (decide ((v3248.1) > 0)) ((idx ([1, 3, 2, 2]) (v3238.1)).bind fun (v3253 : Int) => (idx ([2, 2, 1, 1]) (v3238.1)).bind fun (v3255 : Int) => some (v3247, v3253, v3255)) ((spec_l20Rd_pick (IntKind.wrap .i64 ((((List.length v3247 : Nat) : Int)) + 1)) v3230 (v3248.2)).bind fun (v3258 : Int × Int) => (spec_l20Rd_pick (IntKind.wrap .i64 ((((List.length v3247 : Nat) : Int)) + 2)) v3230 (v3258.2)).bind fun (v3264 : Int × Int) => some (v3247, (IntKind.wrap .i64 (1 + (v3258.1))), (v3264.1)))) ((spec_l20Rd_pick (IntKind.wrap .i64 ((((List.length (v3231.2) : Nat) : Int)) + 1)) v3230 (v3234.2)).bind fun (v3269 : Int × Int) => (spec_l20Rd_pick (IntKind.wrap .i64 ((((List.length (v3231.2) : Nat) : Int)) + 2)) v3230 (v3269.2)).bind fun (v3275 : Int × Int) => some ((v3231.2), (IntKind.wrap .i64 (1 + (v3269.1))), (v3275.1)))

@[irreducible] def spec_DrawTurnsOk (x2914 : List Int) : Option ((List Int) × Int × Int) :=
  spec_DrawTurnsOk_n1 x2914

/-! loop.example/headtrees/impl.CrossOk -/

def impl_CrossOk_n1 (x3365 : Int) (x3366 : Int) (x3367 : Int) (x3368 : Int) : Option (Bool) :=
  (impl_arcBetween x3365 x3366).bind fun (v3390 : Bool × Int × Int) => (impl_arcBetween x3367 x3368).bind fun (v3394 : Bool × Int × Int) => cond (v3390.1) (cond (v3394.1) ((impl_arc_crosses (v3390.2.1) (v3390.2.2) (v3394.2.1) (v3394.2.2)).bind fun (v3398 : Bool) => some v3398) (some false)) (some false)

@[irreducible] def impl_CrossOk (x3365 : Int) (x3366 : Int) (x3367 : Int) (x3368 : Int) : Option (Bool) :=
  impl_CrossOk_n1 x3365 x3366 x3367 x3368

/-! loop.example/headtrees/impl.goByTurns$1$1 -/

def impl_goByTurns_1_1_n1 (x3361 : Int) (x3362 : Int) (x3363 : Int) (x3364 : Int) : Option (Bool) :=
  (impl_CrossOk x3363 x3364 x3361 x3362).bind fun (v3401 : Bool) => some v3401

@[irreducible] def impl_goByTurns_1_1 (x3361 : Int) (x3362 : Int) (x3363 : Int) (x3364 : Int) : Option (Bool) :=
  impl_goByTurns_1_1_n1 x3361 x3362 x3363 x3364

/-! loop.example/headtrees/impl.countPairs[int] (impl_countPairs_int_v2) -/

def impl_countPairs_int_v2_n1 : Option (Unit) :=
  some ()

def impl_countPairs_int_v2_n2 (x3344 : List Int) : Option (Int) :=
  some (((List.length x3344 : Nat) : Int))

def impl_countPairs_int_v2_n3 (x3429 : Int) (x3347 : Int) (x3430 : Int) : Option (Unit ⊕ Int) :=
  cond (decide (x3430 < x3347)) (some (Sum.inl ())) (some (Sum.inr x3429))

def impl_countPairs_int_v2_n4 (x3344 : List Int) (x3430 : Int) : Option ((Int × (List Int) × Int)) :=
  (idx x3344 x3430).bind fun (v3434 : Int) => (inc (IntKind.wrap .i64 (x3430 + 1)) (List.length x3344)).bind fun (v3437 : Nat) => some (v3434, ((x3344.take (List.length x3344)).drop v3437), (((List.length ((x3344.take (List.length x3344)).drop v3437) : Nat) : Int)))

def impl_countPairs_int_v2_n5 (x3454 : Int) (x3434 : Int) (x3438 : List Int) (x3439 : Int) (x3455 : Int) (x3345 : Int) (x3346 : Int) : Option ((Int × Int) ⊕ Int) :=
  cond (decide (x3455 < x3439)) ((idx x3438 x3455).bind fun (v3463 : Int) => (impl_goByTurns_1_1 x3434 v3463 x3345 x3346).bind fun (v3464 : Bool) => cond v3464 (some (Sum.inl ((IntKind.wrap .i64 (x3454 + 1)), (IntKind.wrap .i64 (x3455 + 1))))) (some (Sum.inl (x3454, (IntKind.wrap .i64 (x3455 + 1)))))) (some (Sum.inr x3454))

def impl_countPairs_int_v2_n6 (x3429 : Int) (x3434 : Int) (x3438 : List Int) (x3439 : Int) (x3345 : Int) (x3346 : Int) : Option (Int) :=
  nloop (fun (s : Int × Int) => ((impl_countPairs_int_v2_n5 s.1 x3434 x3438 x3439 s.2 x3345 x3346).map (Sum.elim (fun (t : Int × Int) => Sum.inl (t.1, t.2)) (fun (t : Int) => Sum.inr t)) : Option ((Int × Int) ⊕ (Int)))) LL (x3429, 0)

def impl_countPairs_int_v2_n7 (x3429 : Int) (x3434 : Int) (x3438 : List Int) (x3439 : Int) (x3345 : Int) (x3346 : Int) : Option (Int) :=
  (impl_countPairs_int_v2_n6 x3429 x3434 x3438 x3439 x3345 x3346).map (fun (t : Int) => t)

def impl_countPairs_int_v2_n8 (x3344 : List Int) (x3429 : Int) (x3430 : Int) (x3345 : Int) (x3346 : Int) : Option (Int) :=
  (impl_countPairs_int_v2_n4 x3344 x3430).bind (fun (t : Int × (List Int) × Int) => impl_countPairs_int_v2_n7 x3429 t.1 t.2.1 t.2.2 x3345 x3346)

def impl_countPairs_int_v2_n9 (x3344 : List Int) (x3429 : Int) (x3430 : Int) (x3345 : Int) (x3346 : Int) : Option (Int) :=
  (impl_countPairs_int_v2_n8 x3344 x3429 x3430 x3345 x3346).map (fun (t : Int) => t)

def impl_countPairs_int_v2_n10 (x3430 : Int) : Option (Int) :=
  some (IntKind.wrap .i64 (x3430 + 1))

def impl_countPairs_int_v2_n11 (x3344 : List Int) (x3429 : Int) (x3430 : Int) (x3345 : Int) (x3346 : Int) : Option ((Int × Int)) :=
  (impl_countPairs_int_v2_n9 x3344 x3429 x3430 x3345 x3346).bind (fun (t : Int) => (impl_countPairs_int_v2_n10 x3430).map (fun (u : Int) => (t, u)))

def impl_countPairs_int_v2_n12 (x3344 : List Int) (x3429 : Int) (x3347 : Int) (x3430 : Int) (x3345 : Int) (x3346 : Int) : Option ((Int × Int) ⊕ Int) :=
  (impl_countPairs_int_v2_n3 x3429 x3347 x3430).bind (Sum.elim (fun (t : Unit) => (impl_countPairs_int_v2_n11 x3344 x3429 x3430 x3345 x3346).map (fun (t : Int × Int) => (Sum.inl (t.1, t.2)))) (fun e => some ((fun (t : Int) => (Sum.inr t)) e)))

def impl_countPairs_int_v2_n13 (x3344 : List Int) (x3347 : Int) (x3345 : Int) (x3346 : Int) : Option (Int) :=
  nloop (fun (s : Int × Int) => ((impl_countPairs_int_v2_n12 x3344 s.1 x3347 s.2 x3345 x3346).map (Sum.elim (fun (t : Int × Int) => Sum.inl (t.1, t.2)) (fun (t : Int) => Sum.inr t)) : Option ((Int × Int) ⊕ (Int)))) LL (0, 0)

def impl_countPairs_int_v2_n14 (x3344 : List Int) (x3347 : Int) (x3345 : Int) (x3346 : Int) : Option (Int) :=
  (impl_countPairs_int_v2_n13 x3344 x3347 x3345 x3346).map (fun (t : Int) => t)

def impl_countPairs_int_v2_n15 (x3344 : List Int) (x3345 : Int) (x3346 : Int) : Option (Int) :=
  (impl_countPairs_int_v2_n2 x3344).bind (fun (t : Int) => impl_countPairs_int_v2_n14 x3344 t x3345 x3346)

def impl_countPairs_int_v2_n16 (x3429 : Int) : Option (Int) :=
  some x3429

def impl_countPairs_int_v2_n17 (x3344 : List Int) (x3345 : Int) (x3346 : Int) : Option (Int) :=
  (impl_countPairs_int_v2_n15 x3344 x3345 x3346).bind (fun (t : Int) => impl_countPairs_int_v2_n16 t)

def impl_countPairs_int_v2_n18 (x3344 : List Int) (x3345 : Int) (x3346 : Int) : Option (Int) :=
  (impl_countPairs_int_v2_n1).bind (fun (t : Unit) => impl_countPairs_int_v2_n17 x3344 x3345 x3346)

@[irreducible] def impl_countPairs_int_v2 (x3344 : List Int) (x3345 : Int) (x3346 : Int) : Option (Int) :=
  impl_countPairs_int_v2_n18 x3344 x3345 x3346

/-! loop.example/headtrees/impl.goByTurns$1 -/

def impl_goByTurns_1_n1 (x3341 : Int) (x3342 : Int) (x3343 : List Int) : Option (Bool) :=
  (impl_countPairs_int_v2 x3343 x3341 x3342).bind fun (v3473 : Int) => some (decide (v3473 > 0))

@[irreducible] def impl_goByTurns_1 (x3341 : Int) (x3342 : Int) (x3343 : List Int) : Option (Bool) :=
  impl_goByTurns_1_n1 x3341 x3342 x3343

/-! loop.example/headtrees/impl.countPairs[int] -/

def impl_countPairs_int_n1 : Option (Unit) :=
  some ()

def impl_countPairs_int_n2 (x3325 : List Int) : Option (Int) :=
  some (((List.length x3325 : Nat) : Int))

def impl_countPairs_int_n3 (x3502 : Int) (x3327 : Int) (x3503 : Int) : Option (Unit ⊕ Int) :=
  cond (decide (x3503 < x3327)) (some (Sum.inl ())) (some (Sum.inr x3502))

def impl_countPairs_int_n4 (x3325 : List Int) (x3503 : Int) : Option ((Int × (List Int) × Int)) :=
  (idx x3325 x3503).bind fun (v3507 : Int) => (inc (IntKind.wrap .i64 (x3503 + 1)) (List.length x3325)).bind fun (v3510 : Nat) => some (v3507, ((x3325.take (List.length x3325)).drop v3510), (((List.length ((x3325.take (List.length x3325)).drop v3510) : Nat) : Int)))

def impl_countPairs_int_n5 (x3527 : Int) (x3507 : Int) (x3511 : List Int) (x3512 : Int) (x3528 : Int) (x3326 : List Int) : Option ((Int × Int) ⊕ Int) :=
  cond (decide (x3528 < x3512)) ((idx x3511 x3528).bind fun (v3536 : Int) => (impl_goByTurns_1 x3507 v3536 x3326).bind fun (v3537 : Bool) => cond v3537 (some (Sum.inl ((IntKind.wrap .i64 (x3527 + 1)), (IntKind.wrap .i64 (x3528 + 1))))) (some (Sum.inl (x3527, (IntKind.wrap .i64 (x3528 + 1)))))) (some (Sum.inr x3527))

def impl_countPairs_int_n6 (x3502 : Int) (x3507 : Int) (x3511 : List Int) (x3512 : Int) (x3326 : List Int) : Option (Int) :=
  nloop (fun (s : Int × Int) => ((impl_countPairs_int_n5 s.1 x3507 x3511 x3512 s.2 x3326).map (Sum.elim (fun (t : Int × Int) => Sum.inl (t.1, t.2)) (fun (t : Int) => Sum.inr t)) : Option ((Int × Int) ⊕ (Int)))) LL (x3502, 0)

def impl_countPairs_int_n7 (x3502 : Int) (x3507 : Int) (x3511 : List Int) (x3512 : Int) (x3326 : List Int) : Option (Int) :=
  (impl_countPairs_int_n6 x3502 x3507 x3511 x3512 x3326).map (fun (t : Int) => t)

def impl_countPairs_int_n8 (x3325 : List Int) (x3502 : Int) (x3503 : Int) (x3326 : List Int) : Option (Int) :=
  (impl_countPairs_int_n4 x3325 x3503).bind (fun (t : Int × (List Int) × Int) => impl_countPairs_int_n7 x3502 t.1 t.2.1 t.2.2 x3326)

def impl_countPairs_int_n9 (x3325 : List Int) (x3502 : Int) (x3503 : Int) (x3326 : List Int) : Option (Int) :=
  (impl_countPairs_int_n8 x3325 x3502 x3503 x3326).map (fun (t : Int) => t)

def impl_countPairs_int_n10 (x3503 : Int) : Option (Int) :=
  some (IntKind.wrap .i64 (x3503 + 1))

def impl_countPairs_int_n11 (x3325 : List Int) (x3502 : Int) (x3503 : Int) (x3326 : List Int) : Option ((Int × Int)) :=
  (impl_countPairs_int_n9 x3325 x3502 x3503 x3326).bind (fun (t : Int) => (impl_countPairs_int_n10 x3503).map (fun (u : Int) => (t, u)))

def impl_countPairs_int_n12 (x3325 : List Int) (x3502 : Int) (x3327 : Int) (x3503 : Int) (x3326 : List Int) : Option ((Int × Int) ⊕ Int) :=
  (impl_countPairs_int_n3 x3502 x3327 x3503).bind (Sum.elim (fun (t : Unit) => (impl_countPairs_int_n11 x3325 x3502 x3503 x3326).map (fun (t : Int × Int) => (Sum.inl (t.1, t.2)))) (fun e => some ((fun (t : Int) => (Sum.inr t)) e)))

def impl_countPairs_int_n13 (x3325 : List Int) (x3327 : Int) (x3326 : List Int) : Option (Int) :=
  nloop (fun (s : Int × Int) => ((impl_countPairs_int_n12 x3325 s.1 x3327 s.2 x3326).map (Sum.elim (fun (t : Int × Int) => Sum.inl (t.1, t.2)) (fun (t : Int) => Sum.inr t)) : Option ((Int × Int) ⊕ (Int)))) LL (0, 0)

def impl_countPairs_int_n14 (x3325 : List Int) (x3327 : Int) (x3326 : List Int) : Option (Int) :=
  (impl_countPairs_int_n13 x3325 x3327 x3326).map (fun (t : Int) => t)

def impl_countPairs_int_n15 (x3325 : List Int) (x3326 : List Int) : Option (Int) :=
  (impl_countPairs_int_n2 x3325).bind (fun (t : Int) => impl_countPairs_int_n14 x3325 t x3326)

def impl_countPairs_int_n16 (x3502 : Int) : Option (Int) :=
  some x3502

def impl_countPairs_int_n17 (x3325 : List Int) (x3326 : List Int) : Option (Int) :=
  (impl_countPairs_int_n15 x3325 x3326).bind (fun (t : Int) => impl_countPairs_int_n16 t)

def impl_countPairs_int_n18 (x3325 : List Int) (x3326 : List Int) : Option (Int) :=
  (impl_countPairs_int_n1).bind (fun (t : Unit) => impl_countPairs_int_n17 x3325 x3326)

@[irreducible] def impl_countPairs_int (x3325 : List Int) (x3326 : List Int) : Option (Int) :=
  impl_countPairs_int_n18 x3325 x3326

/-! loop.example/headtrees/impl.goByTurns -/

def impl_goByTurns_n1 (x3314 : Int) (x3315 : Int) : Option (Bool) :=
  cond ((iand .u64 x3314 x3315) != 0) (some false) ((impl_wordSet_list x3315).bind fun (v3553 : List Int) => (impl_wordSet_list x3314).bind fun (v3554 : List Int) => (impl_countPairs_int v3554 v3553).bind fun (v3555 : Int) => some (decide (v3555 > 0)))

@[irreducible] def impl_goByTurns (x3314 : Int) (x3315 : Int) : Option (Bool) :=
  impl_goByTurns_n1 x3314 x3315

/-! loop.example/headtrees/impl.TurnsOk -/

def impl_TurnsOk_n1 (x3291 : List Int) (x3292 : Int) (x3293 : Int) : Option (Bool) :=
  (impl_wordOk x3291 x3292).bind fun (v3559 : Bool) => cond (!v3559) (some false) ((impl_wordOk x3291 x3293).bind fun (v3561 : Bool) => cond (!v3561) (some false) ((impl_yieldsOf x3291).bind fun (v3563 : List Int) => (inb (IntKind.wrap .i64 (x3292 - 1)) (List.length v3563)).bind fun (v3565 : Nat) => (v3563[v3565]?).bind fun (v3566 : Int) => (inb (IntKind.wrap .i64 (x3293 - 1)) (List.length v3563)).bind fun (v3568 : Nat) => (v3563[v3568]?).bind fun (v3569 : Int) => (impl_goByTurns v3566 v3569).bind fun (v3570 : Bool) => some v3570))

@[irreducible] def impl_TurnsOk (x3291 : List Int) (x3292 : Int) (x3293 : Int) : Option (Bool) :=
  impl_TurnsOk_n1 x3291 x3292 x3293

/-! loop.example/headtrees/spec.l5Turns -/

def spec_l5Turns_n1 : Option (Unit) :=
  some ()

def spec_l5Turns_n2 : Option (Unit) :=
  some ()

def spec_l5Turns_n3 (x3622 : Int) (x3623 : Int) (x3651 : Int) (x3652 : Int) (x3653 : Int) : Option ((Int × Int × Int) ⊕ Int) :=
  cond (decide (x3653 < 8)) ((shr .i64 x3622 x3653).bind fun (v3666 : Int) => (rem v3666 2).bind fun (v3667 : Int) => (shr .i64 x3623 x3653).bind fun (v3668 : Int) => (rem v3668 2).bind fun (v3669 : Int) => cond (decide ((IntKind.wrap .i64 (v3667 + (IntKind.wrap .i64 (2 * v3669)))) > 0)) (cond ((IntKind.wrap .i64 (v3667 + (IntKind.wrap .i64 (2 * v3669)))) != x3651) (some (Sum.inl ((IntKind.wrap .i64 (v3667 + (IntKind.wrap .i64 (2 * v3669)))), (IntKind.wrap .i64 (x3652 + 1)), (IntKind.wrap .i64 (x3653 + 1))))) (some (Sum.inl (x3651, x3652, (IntKind.wrap .i64 (x3653 + 1)))))) (some (Sum.inl (x3651, x3652, (IntKind.wrap .i64 (x3653 + 1)))))) (some (Sum.inr x3652))

def spec_l5Turns_n4 (x3622 : Int) (x3623 : Int) : Option (Int) :=
  nloop (fun (s : Int × Int × Int) => ((spec_l5Turns_n3 x3622 x3623 s.1 s.2.1 s.2.2).map (Sum.elim (fun (t : Int × Int × Int) => Sum.inl (t.1, t.2.1, t.2.2)) (fun (t : Int) => Sum.inr t)) : Option ((Int × Int × Int) ⊕ (Int)))) LL (0, 0, 0)

def spec_l5Turns_n5 (x3622 : Int) (x3623 : Int) : Option (Int) :=
  (spec_l5Turns_n4 x3622 x3623).map (fun (t : Int) => t)

def spec_l5Turns_n6 (x3622 : Int) (x3623 : Int) : Option (Int) :=
  (spec_l5Turns_n2).bind (fun (t : Unit) => spec_l5Turns_n5 x3622 x3623)

def spec_l5Turns_n7 (x3652 : Int) : Option (Bool) :=
  some (decide (x3652 ≥ 4))

def spec_l5Turns_n8 (x3622 : Int) (x3623 : Int) : Option (Bool) :=
  (spec_l5Turns_n6 x3622 x3623).bind (fun (t : Int) => spec_l5Turns_n7 t)

def spec_l5Turns_n9 (x3622 : Int) (x3623 : Int) : Option (Bool) :=
  (spec_l5Turns_n1).bind (fun (t : Unit) => spec_l5Turns_n8 x3622 x3623)

@[irreducible] def spec_l5Turns (x3622 : Int) (x3623 : Int) : Option (Bool) :=
  spec_l5Turns_n9 x3622 x3623

/-! loop.example/headtrees/spec.TurnsOk -/

def spec_TurnsOk_n1 (x3580 : List Int) (x3581 : Int) (x3582 : Int) : Option (Bool) :=
  (spec_TreeOk x3580).bind fun (v3684 : Bool) => cond (!v3684) (some false) ((spec_l1In x3581 1 (((List.length x3580 : Nat) : Int))).bind fun (v3687 : Bool) => cond (!v3687) (some false) ((spec_l1In x3582 1 (((List.length x3580 : Nat) : Int))).bind fun (v3690 : Bool) => cond (!v3690) (some false) ((spec_l2Yield x3580 x3581).bind fun (v3692 : Int) => (spec_l2Yield x3580 x3582).bind fun (v3693 : Int) => cond ((iand .i64 v3692 v3693) == 0) ((spec_l5Turns v3692 v3693).bind fun (v3696 : Bool) => some v3696) (some false))))

@[irreducible] def spec_TurnsOk (x3580 : List Int) (x3581 : Int) (x3582 : Int) : Option (Bool) :=
  spec_TurnsOk_n1 x3580 x3581 x3582

/-! (loop.example/headtrees/impl.wordSet).hasAll -/

def impl_wordSet_hasAll_n1 (x3729 : Int) (x3730 : Int) : Option (Bool) :=
  some ((iand .u64 x3729 x3730) == x3730)

@[irreducible] def impl_wordSet_hasAll (x3729 : Int) (x3730 : Int) : Option (Bool) :=
  impl_wordSet_hasAll_n1 x3729 x3730

/-! loop.example/headtrees/impl.UnderOk -/

def impl_UnderOk_n1 (x3713 : List Int) (x3714 : Int) (x3715 : Int) : Option (Bool) :=
  (impl_wordOk x3713 x3714).bind fun (v3736 : Bool) => cond (!v3736) (some false) ((impl_wordOk x3713 x3715).bind fun (v3738 : Bool) => cond (!v3738) (some false) ((impl_yieldsOf x3713).bind fun (v3741 : List Int) => (inb (IntKind.wrap .i64 (x3715 - 1)) (List.length v3741)).bind fun (v3742 : Nat) => (v3741[v3742]?).bind fun (v3743 : Int) => (impl_only x3714).bind fun (v3744 : Int) => (impl_wordSet_hasAll v3743 v3744).bind fun (v3745 : Bool) => some v3745))

@[irreducible] def impl_UnderOk (x3713 : List Int) (x3714 : Int) (x3715 : Int) : Option (Bool) :=
  impl_UnderOk_n1 x3713 x3714 x3715

/-! loop.example/headtrees/laws.FnTurnsOk -/

def laws_FnTurnsOk_n1 (x2909 : List Int) : Option (Bool) :=
  cond (decide ((((List.length x2909 : Nat) : Int)) > 1048576)) (some true) ((spec_DrawTurnsOk x2909).bind fun (v3758 : (List Int) × Int × Int) => (impl_TurnsOk (v3758.1) (v3758.2.1) (v3758.2.2)).bind fun (v3762 : Bool) => (spec_TurnsOk (v3758.1) (v3758.2.1) (v3758.2.2)).bind fun (v3763 : Bool) => cond (v3762 != v3763) (some false) ((impl_TurnsOk (v3758.1) (v3758.2.2) (v3758.2.1)).bind fun (v3765 : Bool) => cond (v3765 == v3762) (cond (!v3762) ((laws_alive).bind fun (v3768 : Bool) => some v3768) ((impl_UnderOk (v3758.1) (v3758.2.1) (v3758.2.2)).bind fun (v3769 : Bool) => cond (!v3769) ((impl_UnderOk (v3758.1) (v3758.2.2) (v3758.2.1)).bind fun (v3771 : Bool) => cond (!v3771) ((impl_GapsOf (v3758.1) (v3758.2.1)).bind fun (v3773 : Int) => cond (decide (v3773 > 0)) ((impl_GapsOf (v3758.1) (v3758.2.2)).bind fun (v3775 : Int) => cond (decide (v3775 > 0)) ((laws_alive).bind fun (v3777 : Bool) => some v3777) (some false)) (some false)) (some false)) (some false))) (some false)))

@[irreducible] def laws_FnTurnsOk (x2909 : List Int) : Option (Bool) :=
  laws_FnTurnsOk_n1 x2909

/-! loop.example/headtrees/spec.DrawNestedOk -/

def spec_DrawNestedOk_n1 (x3785 : List Int) : Option (((List Int))) :=
  (spec_l20Open x3785).bind fun (v3790 : List Int) => (spec_l20Wild 9 v3790 0).bind fun (v3791 : Int × (List Int)) => some (v3791.2)

@[irreducible] def spec_DrawNestedOk (x3785 : List Int) : Option ((List Int)) :=
  spec_DrawNestedOk_n1 x3785

/-! loop.example/headtrees/impl.countPairs[loop.example/headtrees/impl.wordSet] -/

def impl_countPairs_impl_wordSet_n1 : Option (Unit) :=
  some ()

def impl_countPairs_impl_wordSet_n2 (x3801 : List Int) : Option (Int) :=
  some (((List.length x3801 : Nat) : Int))

def impl_countPairs_impl_wordSet_n3 (x3843 : Int) (x3802 : Int) (x3844 : Int) : Option (Unit ⊕ Int) :=
  cond (decide (x3844 < x3802)) (some (Sum.inl ())) (some (Sum.inr x3843))

def impl_countPairs_impl_wordSet_n4 (x3801 : List Int) (x3844 : Int) : Option ((Int × (List Int) × Int)) :=
  (idx x3801 x3844).bind fun (v3848 : Int) => (inc (IntKind.wrap .i64 (x3844 + 1)) (List.length x3801)).bind fun (v3851 : Nat) => some (v3848, ((x3801.take (List.length x3801)).drop v3851), (((List.length ((x3801.take (List.length x3801)).drop v3851) : Nat) : Int)))

def impl_countPairs_impl_wordSet_n5 (x3868 : Int) (x3848 : Int) (x3852 : List Int) (x3853 : Int) (x3869 : Int) : Option ((Int × Int) ⊕ Int) :=
  cond (decide (x3869 < x3853)) ((idx x3852 x3869).bind fun (v3877 : Int) => (impl_goByTurns x3848 v3877).bind fun (v3878 : Bool) => cond v3878 (some (Sum.inl ((IntKind.wrap .i64 (x3868 + 1)), (IntKind.wrap .i64 (x3869 + 1))))) (some (Sum.inl (x3868, (IntKind.wrap .i64 (x3869 + 1)))))) (some (Sum.inr x3868))

def impl_countPairs_impl_wordSet_n6 (x3843 : Int) (x3848 : Int) (x3852 : List Int) (x3853 : Int) : Option (Int) :=
  nloop (fun (s : Int × Int) => ((impl_countPairs_impl_wordSet_n5 s.1 x3848 x3852 x3853 s.2).map (Sum.elim (fun (t : Int × Int) => Sum.inl (t.1, t.2)) (fun (t : Int) => Sum.inr t)) : Option ((Int × Int) ⊕ (Int)))) LL (x3843, 0)

def impl_countPairs_impl_wordSet_n7 (x3843 : Int) (x3848 : Int) (x3852 : List Int) (x3853 : Int) : Option (Int) :=
  (impl_countPairs_impl_wordSet_n6 x3843 x3848 x3852 x3853).map (fun (t : Int) => t)

def impl_countPairs_impl_wordSet_n8 (x3801 : List Int) (x3843 : Int) (x3844 : Int) : Option (Int) :=
  (impl_countPairs_impl_wordSet_n4 x3801 x3844).bind (fun (t : Int × (List Int) × Int) => impl_countPairs_impl_wordSet_n7 x3843 t.1 t.2.1 t.2.2)

def impl_countPairs_impl_wordSet_n9 (x3801 : List Int) (x3843 : Int) (x3844 : Int) : Option (Int) :=
  (impl_countPairs_impl_wordSet_n8 x3801 x3843 x3844).map (fun (t : Int) => t)

def impl_countPairs_impl_wordSet_n10 (x3844 : Int) : Option (Int) :=
  some (IntKind.wrap .i64 (x3844 + 1))

def impl_countPairs_impl_wordSet_n11 (x3801 : List Int) (x3843 : Int) (x3844 : Int) : Option ((Int × Int)) :=
  (impl_countPairs_impl_wordSet_n9 x3801 x3843 x3844).bind (fun (t : Int) => (impl_countPairs_impl_wordSet_n10 x3844).map (fun (u : Int) => (t, u)))

def impl_countPairs_impl_wordSet_n12 (x3801 : List Int) (x3843 : Int) (x3802 : Int) (x3844 : Int) : Option ((Int × Int) ⊕ Int) :=
  (impl_countPairs_impl_wordSet_n3 x3843 x3802 x3844).bind (Sum.elim (fun (t : Unit) => (impl_countPairs_impl_wordSet_n11 x3801 x3843 x3844).map (fun (t : Int × Int) => (Sum.inl (t.1, t.2)))) (fun e => some ((fun (t : Int) => (Sum.inr t)) e)))

def impl_countPairs_impl_wordSet_n13 (x3801 : List Int) (x3802 : Int) : Option (Int) :=
  nloop (fun (s : Int × Int) => ((impl_countPairs_impl_wordSet_n12 x3801 s.1 x3802 s.2).map (Sum.elim (fun (t : Int × Int) => Sum.inl (t.1, t.2)) (fun (t : Int) => Sum.inr t)) : Option ((Int × Int) ⊕ (Int)))) LL (0, 0)

def impl_countPairs_impl_wordSet_n14 (x3801 : List Int) (x3802 : Int) : Option (Int) :=
  (impl_countPairs_impl_wordSet_n13 x3801 x3802).map (fun (t : Int) => t)

def impl_countPairs_impl_wordSet_n15 (x3801 : List Int) : Option (Int) :=
  (impl_countPairs_impl_wordSet_n2 x3801).bind (fun (t : Int) => impl_countPairs_impl_wordSet_n14 x3801 t)

def impl_countPairs_impl_wordSet_n16 (x3843 : Int) : Option (Int) :=
  some x3843

def impl_countPairs_impl_wordSet_n17 (x3801 : List Int) : Option (Int) :=
  (impl_countPairs_impl_wordSet_n15 x3801).bind (fun (t : Int) => impl_countPairs_impl_wordSet_n16 t)

def impl_countPairs_impl_wordSet_n18 (x3801 : List Int) : Option (Int) :=
  (impl_countPairs_impl_wordSet_n1).bind (fun (t : Unit) => impl_countPairs_impl_wordSet_n17 x3801)

@[irreducible] def impl_countPairs_impl_wordSet (x3801 : List Int) : Option (Int) :=
  impl_countPairs_impl_wordSet_n18 x3801

/-! loop.example/headtrees/impl.NestedOk -/

def impl_NestedOk_n1 (x3798 : List Int) : Option (Bool) :=
  (impl_TreeOk x3798).bind fun (v3887 : Bool) => cond v3887 ((impl_yieldsOf x3798).bind fun (v3888 : List Int) => (impl_countPairs_impl_wordSet v3888).bind fun (v3889 : Int) => some (v3889 == 0)) (some false)

@[irreducible] def impl_NestedOk (x3798 : List Int) : Option (Bool) :=
  impl_NestedOk_n1 x3798

/-! loop.example/headtrees/spec.NestedOk -/

def spec_NestedOk_n1 : Option (Unit) :=
  some ()

def spec_NestedOk_n2 : Option (Unit) :=
  some ()

def spec_NestedOk_n3 (x3897 : List Int) (x3914 : Int) : Option (Unit ⊕ Unit) :=
  cond (decide (x3914 ≤ (((List.length x3897 : Nat) : Int)))) (some (Sum.inl ())) (some (Sum.inr ()))

def spec_NestedOk_n4 : Option (Unit) :=
  some ()

def spec_NestedOk_n5 (x3897 : List Int) (x3914 : Int) (x3923 : Int) : Option (Int ⊕ Bool ⊕ Unit) :=
  cond (decide (x3923 < x3914)) ((spec_TurnsOk x3897 x3914 x3923).bind fun (v3928 : Bool) => cond v3928 (some (Sum.inr (Sum.inl false))) (some (Sum.inl (IntKind.wrap .i64 (x3923 + 1))))) (some (Sum.inr (Sum.inr ())))

def spec_NestedOk_n6 (x3897 : List Int) (x3914 : Int) : Option (Bool ⊕ Unit) :=
  nloop (fun (s : Int) => ((spec_NestedOk_n5 x3897 x3914 s).map (Sum.elim (fun (t : Int) => Sum.inl t) (Sum.elim (fun (t : Bool) => Sum.inr (Sum.inl t)) (fun (t : Unit) => Sum.inr (Sum.inr t)))) : Option ((Int) ⊕ (Bool ⊕ Unit)))) LL 1

def spec_NestedOk_n7 (x3897 : List Int) (x3914 : Int) : Option (Unit ⊕ Bool) :=
  (spec_NestedOk_n6 x3897 x3914).map (Sum.elim (fun (t : Bool) => (Sum.inr t)) (fun (t : Unit) => (Sum.inl ())))

def spec_NestedOk_n8 (x3897 : List Int) (x3914 : Int) : Option (Unit ⊕ Bool) :=
  (spec_NestedOk_n4).bind (fun (t : Unit) => spec_NestedOk_n7 x3897 x3914)

def spec_NestedOk_n9 (x3897 : List Int) (x3914 : Int) : Option (Unit ⊕ Bool) :=
  (spec_NestedOk_n8 x3897 x3914).map (Sum.elim (fun (t : Unit) => (Sum.inl ())) (fun (t : Bool) => (Sum.inr t)))

def spec_NestedOk_n10 (x3914 : Int) : Option (Int) :=
  some (IntKind.wrap .i64 (x3914 + 1))

def spec_NestedOk_n11 (x3897 : List Int) (x3914 : Int) : Option (Int ⊕ Bool) :=
  (spec_NestedOk_n9 x3897 x3914).bind (Sum.elim (fun (t : Unit) => (spec_NestedOk_n10 x3914).map (fun (t : Int) => (Sum.inl t))) (fun e => some ((fun (t : Bool) => (Sum.inr t)) e)))

def spec_NestedOk_n12 (x3897 : List Int) (x3914 : Int) : Option (Int ⊕ Bool ⊕ Unit) :=
  (spec_NestedOk_n3 x3897 x3914).bind (Sum.elim (fun (t : Unit) => (spec_NestedOk_n11 x3897 x3914).map (Sum.elim (fun (t : Int) => (Sum.inl t)) (fun (t : Bool) => (Sum.inr (Sum.inl t))))) (fun e => some ((fun (t : Unit) => (Sum.inr (Sum.inr t))) e)))

def spec_NestedOk_n13 (x3897 : List Int) : Option (Bool ⊕ Unit) :=
  nloop (fun (s : Int) => ((spec_NestedOk_n12 x3897 s).map (Sum.elim (fun (t : Int) => Sum.inl t) (Sum.elim (fun (t : Bool) => Sum.inr (Sum.inl t)) (fun (t : Unit) => Sum.inr (Sum.inr t)))) : Option ((Int) ⊕ (Bool ⊕ Unit)))) LL 1

def spec_NestedOk_n14 (x3897 : List Int) : Option (Unit ⊕ Bool) :=
  (spec_NestedOk_n13 x3897).map (Sum.elim (fun (t : Bool) => (Sum.inr t)) (fun (t : Unit) => (Sum.inl ())))

def spec_NestedOk_n15 (x3897 : List Int) : Option (Unit ⊕ Bool) :=
  (spec_NestedOk_n2).bind (fun (t : Unit) => spec_NestedOk_n14 x3897)

def spec_NestedOk_n16 (x3897 : List Int) : Option (Bool) :=
  (spec_TreeOk x3897).bind fun (v3932 : Bool) => some v3932

def spec_NestedOk_n17 (x3897 : List Int) : Option (Bool) :=
  (spec_NestedOk_n15 x3897).bind (Sum.elim (fun (t : Unit) => spec_NestedOk_n16 x3897) (fun e => some ((fun (t : Bool) => t) e)))

def spec_NestedOk_n18 (x3897 : List Int) : Option (Bool) :=
  (spec_NestedOk_n1).bind (fun (t : Unit) => spec_NestedOk_n17 x3897)

@[irreducible] def spec_NestedOk (x3897 : List Int) : Option (Bool) :=
  spec_NestedOk_n18 x3897

/-! loop.example/headtrees/laws.FnNestedOk -/

def laws_FnNestedOk_n1 (x3780 : List Int) : Option (Bool) :=
  cond (decide ((((List.length x3780 : Nat) : Int)) > 1048576)) (some true) ((spec_DrawNestedOk x3780).bind fun (v3976 : List Int) => (impl_NestedOk v3976).bind fun (v3977 : Bool) => (spec_NestedOk v3976).bind fun (v3978 : Bool) => cond (v3977 != v3978) (some false) ((spec_TreeOk v3976).bind fun (v3980 : Bool) => cond (!v3980) (cond (!v3977) ((laws_alive).bind fun (v3983 : Bool) => some v3983) (some false)) ((impl_CrossingsOf v3976).bind fun (v3984 : Int) => cond (decide (v3984 > 0)) ((impl_FlatOk v3976).bind fun (v3986 : Bool) => cond (!v3986) ((impl_BackOf v3976).bind fun (v3988 : List Int) => (impl_NestedOk v3988).bind fun (v3989 : Bool) => some (v3989 == v3977)) (cond v3977 ((impl_BackOf v3976).bind fun (v3991 : List Int) => (impl_NestedOk v3991).bind fun (v3992 : Bool) => some (v3992 == v3977)) (some false))) (cond v3977 ((impl_FlatOk v3976).bind fun (v3994 : Bool) => cond (!v3994) ((impl_BackOf v3976).bind fun (v3996 : List Int) => (impl_NestedOk v3996).bind fun (v3997 : Bool) => some (v3997 == v3977)) (cond v3977 ((impl_BackOf v3976).bind fun (v3999 : List Int) => (impl_NestedOk v3999).bind fun (v4000 : Bool) => some (v4000 == v3977)) (some false))) (some false)))))

@[irreducible] def laws_FnNestedOk (x3780 : List Int) : Option (Bool) :=
  laws_FnNestedOk_n1 x3780

/-! loop.example/headtrees/spec.DrawRowsOf -/

def spec_DrawRowsOf_n1 (x4009 : List Int) : Option ((Int × (List Int))) :=
  (spec_DrawGapsOf x4009).bind fun (v4013 : Int × (List Int)) => some ((v4013.1), (v4013.2))

@[irreducible] def spec_DrawRowsOf (x4009 : List Int) : Option (Int × (List Int)) :=
  spec_DrawRowsOf_n1 x4009

/-! (loop.example/headtrees/impl.wordSet).ends -/

def impl_wordSet_ends_n1 (x4041 : Int) : Option (Int) :=
  (shr .u64 x4041 1).bind fun (v4044 : Int) => some (iandn .u64 x4041 v4044)

@[irreducible] def impl_wordSet_ends (x4041 : Int) : Option (Int) :=
  impl_wordSet_ends_n1 x4041

/-! loop.example/headtrees/impl.RowsOf -/

def impl_RowsOf_n1 (x4024 : List Int) (x4025 : Int) : Option ((Int × (List Int) × (List (List Int))) ⊕ ((List (List Int)))) :=
  (impl_wordOk x4024 x4025).bind fun (v4087 : Bool) => cond (!v4087) (some (Sum.inr ([] : List (List Int)))) ((impl_yieldsOf x4024).bind fun (v4089 : List Int) => (inb (IntKind.wrap .i64 (x4025 - 1)) (List.length v4089)).bind fun (v4091 : Nat) => (v4089[v4091]?).bind fun (v4092 : Int) => (impl_wordSet_ends v4092).bind fun (v4093 : Int) => (impl_wordSet_list v4093).bind fun (v4094 : List Int) => (mk (((List.length v4094 : Nat) : Int)) (((List.length v4094 : Nat) : Int))).bind fun (v4096 : Nat) => some (Sum.inl (v4092, v4094, (List.replicate v4096 []))))

def impl_RowsOf_n2 (x4092 : Int) : Option ((Int × (List Int))) :=
  (impl_wordSet_begins x4092).bind fun (v4098 : Int) => (impl_wordSet_list v4098).bind fun (v4099 : List Int) => some ((((List.length v4099 : Nat) : Int)), v4099)

def impl_RowsOf_n3 (x4100 : Int) (x4120 : Int) (x4094 : List Int) (x4121 : List (List Int)) (x4099 : List Int) : Option ((Int × (List (List Int))) ⊕ ((List (List Int)))) :=
  cond (decide (x4120 < x4100)) ((inb x4120 (List.length x4099)).bind fun (v4133 : Nat) => (x4099[v4133]?).bind fun (v4134 : Int) => (inb x4120 (List.length x4094)).bind fun (v4135 : Nat) => (x4094[v4135]?).bind fun (v4136 : Int) => (inb x4120 (List.length x4121)).bind fun (v4138 : Nat) => some (Sum.inl ((IntKind.wrap .i64 (x4120 + 1)), (x4121.set v4138 ([v4134, v4136]))))) (some (Sum.inr x4121))

def impl_RowsOf_n4 (x4100 : Int) (x4094 : List Int) (x4097 : List (List Int)) (x4099 : List Int) : Option (((List (List Int)))) :=
  nloop (fun (s : Int × (List (List Int))) => ((impl_RowsOf_n3 x4100 s.1 x4094 s.2 x4099).map (Sum.elim (fun (t : Int × (List (List Int))) => Sum.inl (t.1, t.2)) (fun (t : (List (List Int))) => Sum.inr t)) : Option ((Int × (List (List Int))) ⊕ (((List (List Int))))))) LL (0, x4097)

def impl_RowsOf_n5 (x4100 : Int) (x4094 : List Int) (x4097 : List (List Int)) (x4099 : List Int) : Option (((List (List Int)))) :=
  (impl_RowsOf_n4 x4100 x4094 x4097 x4099).map (fun (t : (List (List Int))) => t)

def impl_RowsOf_n6 (x4092 : Int) (x4094 : List Int) (x4097 : List (List Int)) : Option (((List (List Int)))) :=
  (impl_RowsOf_n2 x4092).bind (fun (t : Int × (List Int)) => impl_RowsOf_n5 t.1 x4094 x4097 t.2)

def impl_RowsOf_n7 (x4121 : List (List Int)) : Option (((List (List Int)))) :=
  some x4121

def impl_RowsOf_n8 (x4092 : Int) (x4094 : List Int) (x4097 : List (List Int)) : Option (((List (List Int)))) :=
  (impl_RowsOf_n6 x4092 x4094 x4097).bind (fun (t : (List (List Int))) => impl_RowsOf_n7 t)

def impl_RowsOf_n9 (x4024 : List Int) (x4025 : Int) : Option (((List (List Int)))) :=
  (impl_RowsOf_n1 x4024 x4025).bind (Sum.elim (fun (t : Int × (List Int) × (List (List Int))) => impl_RowsOf_n8 t.1 t.2.1 t.2.2) (fun e => some ((fun (t : (List (List Int))) => t) e)))

@[irreducible] def impl_RowsOf (x4024 : List Int) (x4025 : Int) : Option ((List (List Int))) :=
  impl_RowsOf_n9 x4024 x4025

/-! loop.example/headtrees/spec.l2Words -/

def spec_l2Words_n1 : Option (Unit) :=
  some ()

def spec_l2Words_n2 : Option (Unit) :=
  some ()

def spec_l2Words_n3 (x4176 : Int) (x4203 : Int) (x4204 : List Int) : Option ((Int × (List Int)) ⊕ ((List Int))) :=
  (shr .i64 x4176 x4203).bind fun (v4217 : Int) => cond (decide (v4217 > 0)) ((shr .i64 x4176 x4203).bind fun (v4219 : Int) => (rem v4219 2).bind fun (v4220 : Int) => cond (v4220 == 1) ((room ((List.length x4204) + List.length ([(IntKind.wrap .i64 (x4203 + 1))]))).bind fun (v4225 : Unit) => some (Sum.inl ((IntKind.wrap .i64 (x4203 + 1)), (x4204 ++ ([(IntKind.wrap .i64 (x4203 + 1))]))))) (some (Sum.inl ((IntKind.wrap .i64 (x4203 + 1)), x4204)))) (some (Sum.inr x4204))

def spec_l2Words_n4 (x4176 : Int) : Option (((List Int))) :=
  nloop (fun (s : Int × (List Int)) => ((spec_l2Words_n3 x4176 s.1 s.2).map (Sum.elim (fun (t : Int × (List Int)) => Sum.inl (t.1, t.2)) (fun (t : (List Int)) => Sum.inr t)) : Option ((Int × (List Int)) ⊕ (((List Int)))))) LL (0, ([] : List Int))

def spec_l2Words_n5 (x4176 : Int) : Option (((List Int))) :=
  (spec_l2Words_n4 x4176).map (fun (t : (List Int)) => t)

def spec_l2Words_n6 (x4176 : Int) : Option (((List Int))) :=
  (spec_l2Words_n2).bind (fun (t : Unit) => spec_l2Words_n5 x4176)

def spec_l2Words_n7 (x4204 : List Int) : Option (((List Int))) :=
  some x4204

def spec_l2Words_n8 (x4176 : Int) : Option (((List Int))) :=
  (spec_l2Words_n6 x4176).bind (fun (t : (List Int)) => spec_l2Words_n7 t)

def spec_l2Words_n9 (x4176 : Int) : Option (((List Int))) :=
  (spec_l2Words_n1).bind (fun (t : Unit) => spec_l2Words_n8 x4176)

@[irreducible] def spec_l2Words (x4176 : Int) : Option ((List Int)) :=
  spec_l2Words_n9 x4176

/-! loop.example/headtrees/spec.YieldOf -/

def spec_YieldOf_n1 (x4163 : List Int) (x4164 : Int) : Option (((List Int))) :=
  (spec_TreeOk x4163).bind fun (v4232 : Bool) => cond (!v4232) (some ([] : List Int)) ((spec_l1In x4164 1 (((List.length x4163 : Nat) : Int))).bind fun (v4235 : Bool) => cond (!v4235) (some ([] : List Int)) ((spec_l2Yield x4163 x4164).bind fun (v4237 : Int) => (spec_l2Words v4237).bind fun (v4238 : List Int) => some v4238))

@[irreducible] def spec_YieldOf (x4163 : List Int) (x4164 : Int) : Option ((List Int)) :=
  spec_YieldOf_n1 x4163 x4164

/-! loop.example/headtrees/spec.RowsOf -/

def spec_RowsOf_n1 (x4161 : List Int) (x4162 : Int) : Option (((List Int))) :=
  (spec_YieldOf x4161 x4162).bind fun (v4294 : List Int) => some v4294

def spec_RowsOf_n2 : Option (Unit) :=
  some ()

def spec_RowsOf_n3 (x4382 : Int) (x4383 : List (List Int)) (x4294 : List Int) : Option ((Int × (List (List Int))) ⊕ ((List (List Int)))) :=
  cond (decide (x4382 < (((List.length x4294 : Nat) : Int)))) (cond (decide (x4382 > 0)) ((inb x4382 (List.length x4294)).bind fun (v4429 : Nat) => (x4294[v4429]?).bind fun (v4430 : Int) => (inb (IntKind.wrap .i64 (x4382 - 1)) (List.length x4294)).bind fun (v4432 : Nat) => (x4294[v4432]?).bind fun (v4433 : Int) => cond (v4430 == (IntKind.wrap .i64 (v4433 + 1))) ((inb (IntKind.wrap .i64 ((((List.length x4383 : Nat) : Int)) - 1)) (List.length x4383)).bind fun (v4440 : Nat) => (x4383[v4440]?).bind fun (v4441 : List Int) => (idx v4441 0).bind fun (v4442 : Int) => (inb x4382 (List.length x4294)).bind fun (v4443 : Nat) => (x4294[v4443]?).bind fun (v4444 : Int) => (inb (IntKind.wrap .i64 ((((List.length x4383 : Nat) : Int)) - 1)) (List.length x4383)).bind fun (v4446 : Nat) => some (Sum.inl ((IntKind.wrap .i64 (x4382 + 1)), (x4383.set v4446 ([v4442, v4444]))))) ((inb x4382 (List.length x4294)).bind fun (v4449 : Nat) => (x4294[v4449]?).bind fun (v4450 : Int) => (inb x4382 (List.length x4294)).bind fun (v4451 : Nat) => (x4294[v4451]?).bind fun (v4452 : Int) => (room ((List.length x4383) + List.length ([([v4450, v4452])]))).bind fun (v4456 : Unit) => some (Sum.inl ((IntKind.wrap .i64 (x4382 + 1)), (x4383 ++ ([([v4450, v4452])])))))) ((inb x4382 (List.length x4294)).bind fun (v4459 : Nat) => (x4294[v4459]?).bind fun (v4460 : Int) => (inb x4382 (List.length x4294)).bind fun (v4461 : Nat) => (x4294[v4461]?).bind fun (v4462 : Int) => (room ((List.length x4383) + List.length ([([v4460, v4462])]))).bind fun (v4466 : Unit) => some (Sum.inl ((IntKind.wrap .i64 (x4382 + 1)), (x4383 ++ ([([v4460, v4462])])))))) (some (Sum.inr x4383))

def spec_RowsOf_n4 (x4294 : List Int) : Option (((List (List Int)))) :=
  nloop (fun (s : Int × (List (List Int))) => ((spec_RowsOf_n3 s.1 s.2 x4294).map (Sum.elim (fun (t : Int × (List (List Int))) => Sum.inl (t.1, t.2)) (fun (t : (List (List Int))) => Sum.inr t)) : Option ((Int × (List (List Int))) ⊕ (((List (List Int))))))) LL (0, ([] : List (List Int)))

def spec_RowsOf_n5 (x4294 : List Int) : Option (((List (List Int)))) :=
  (spec_RowsOf_n4 x4294).map (fun (t : (List (List Int))) => t)

def spec_RowsOf_n6 (x4294 : List Int) : Option (((List (List Int)))) :=
  (spec_RowsOf_n2).bind (fun (t : Unit) => spec_RowsOf_n5 x4294)

def spec_RowsOf_n7 (x4383 : List (List Int)) : Option (((List (List Int)))) :=
  some x4383

def spec_RowsOf_n8 (x4294 : List Int) : Option (((List (List Int)))) :=
  (spec_RowsOf_n6 x4294).bind (fun (t : (List (List Int))) => spec_RowsOf_n7 t)

def spec_RowsOf_n9 (x4161 : List Int) (x4162 : Int) : Option (((List (List Int)))) :=
  (spec_RowsOf_n1 x4161 x4162).bind (fun (t : (List Int)) => spec_RowsOf_n8 t)

@[irreducible] def spec_RowsOf (x4161 : List Int) (x4162 : Int) : Option ((List (List Int))) :=
  spec_RowsOf_n9 x4161 x4162

/-! loop.example/headtrees/laws.sameInts -/

def laws_sameInts_n1 (x4500 : List Int) (x4501 : List Int) : Option (Unit ⊕ Bool) :=
  cond ((((List.length x4500 : Nat) : Int)) != (((List.length x4501 : Nat) : Int))) (some (Sum.inr false)) (some (Sum.inl ()))

def laws_sameInts_n2 : Option (Unit) :=
  some ()

def laws_sameInts_n3 (x4500 : List Int) (x4501 : List Int) (x4518 : Int) : Option (Int ⊕ Bool ⊕ Unit) :=
  cond (decide (x4518 < (((List.length x4500 : Nat) : Int)))) ((idx x4500 x4518).bind fun (v4528 : Int) => (idx x4501 x4518).bind fun (v4529 : Int) => cond (v4528 != v4529) (some (Sum.inr (Sum.inl false))) (some (Sum.inl (IntKind.wrap .i64 (x4518 + 1))))) (some (Sum.inr (Sum.inr ())))

def laws_sameInts_n4 (x4500 : List Int) (x4501 : List Int) : Option (Bool ⊕ Unit) :=
  nloop (fun (s : Int) => ((laws_sameInts_n3 x4500 x4501 s).map (Sum.elim (fun (t : Int) => Sum.inl t) (Sum.elim (fun (t : Bool) => Sum.inr (Sum.inl t)) (fun (t : Unit) => Sum.inr (Sum.inr t)))) : Option ((Int) ⊕ (Bool ⊕ Unit)))) LL 0

def laws_sameInts_n5 (x4500 : List Int) (x4501 : List Int) : Option (Unit ⊕ Bool) :=
  (laws_sameInts_n4 x4500 x4501).map (Sum.elim (fun (t : Bool) => (Sum.inr t)) (fun (t : Unit) => (Sum.inl ())))

def laws_sameInts_n6 (x4500 : List Int) (x4501 : List Int) : Option (Unit ⊕ Bool) :=
  (laws_sameInts_n2).bind (fun (t : Unit) => laws_sameInts_n5 x4500 x4501)

def laws_sameInts_n7 : Option (Bool) :=
  some true

def laws_sameInts_n8 (x4500 : List Int) (x4501 : List Int) : Option (Bool) :=
  (laws_sameInts_n6 x4500 x4501).bind (Sum.elim (fun (t : Unit) => laws_sameInts_n7) (fun e => some ((fun (t : Bool) => t) e)))

def laws_sameInts_n9 (x4500 : List Int) (x4501 : List Int) : Option (Bool) :=
  (laws_sameInts_n1 x4500 x4501).bind (Sum.elim (fun (t : Unit) => laws_sameInts_n8 x4500 x4501) (fun e => some ((fun (t : Bool) => t) e)))

@[irreducible] def laws_sameInts (x4500 : List Int) (x4501 : List Int) : Option (Bool) :=
  laws_sameInts_n9 x4500 x4501

/-! loop.example/headtrees/laws.FnRowsOf -/

def laws_FnRowsOf_n1 (x4004 : List Int) : Option (((List Int) × Int × (List (List Int)) × (List (List Int))) ⊕ Bool) :=
  cond (decide ((((List.length x4004 : Nat) : Int)) > 1048576)) (some (Sum.inr true)) ((spec_DrawRowsOf x4004).bind fun (v4484 : Int × (List Int)) => (impl_RowsOf (v4484.2) (v4484.1)).bind fun (v4487 : List (List Int)) => (spec_RowsOf (v4484.2) (v4484.1)).bind fun (v4488 : List (List Int)) => cond ((((List.length v4487 : Nat) : Int)) != (((List.length v4488 : Nat) : Int))) (some (Sum.inr false)) (some (Sum.inl ((v4484.2), (v4484.1), v4487, v4488))))

def laws_FnRowsOf_n2 : Option (Unit) :=
  some ()

def laws_FnRowsOf_n3 (x4603 : Int) (x4604 : Int) (x4487 : List (List Int)) (x4488 : List (List Int)) : Option ((Int × Int) ⊕ Bool ⊕ Int) :=
  cond (decide (x4604 < (((List.length x4488 : Nat) : Int)))) ((inb x4604 (List.length x4487)).bind fun (v4645 : Nat) => (x4487[v4645]?).bind fun (v4646 : List Int) => (inb x4604 (List.length x4488)).bind fun (v4647 : Nat) => (x4488[v4647]?).bind fun (v4648 : List Int) => (laws_sameInts v4646 v4648).bind fun (v4649 : Bool) => cond (!v4649) (some (Sum.inr (Sum.inl false))) (cond (decide (x4604 > 0)) ((inb x4604 (List.length x4488)).bind fun (v4652 : Nat) => (x4488[v4652]?).bind fun (v4653 : List Int) => (idx v4653 0).bind fun (v4654 : Int) => (inb (IntKind.wrap .i64 (x4604 - 1)) (List.length x4488)).bind fun (v4656 : Nat) => (x4488[v4656]?).bind fun (v4657 : List Int) => (idx v4657 1).bind fun (v4658 : Int) => cond (decide (v4654 < (IntKind.wrap .i64 (v4658 + 2)))) (some (Sum.inr (Sum.inl false))) ((inb x4604 (List.length x4488)).bind fun (v4661 : Nat) => (x4488[v4661]?).bind fun (v4662 : List Int) => (idx v4662 1).bind fun (v4663 : Int) => (inb x4604 (List.length x4488)).bind fun (v4665 : Nat) => (x4488[v4665]?).bind fun (v4666 : List Int) => (idx v4666 0).bind fun (v4667 : Int) => some (Sum.inl ((IntKind.wrap .i64 ((IntKind.wrap .i64 ((IntKind.wrap .i64 (x4603 + v4663)) - v4667)) + 1)), (IntKind.wrap .i64 (x4604 + 1)))))) ((inb x4604 (List.length x4488)).bind fun (v4671 : Nat) => (x4488[v4671]?).bind fun (v4672 : List Int) => (idx v4672 1).bind fun (v4673 : Int) => (inb x4604 (List.length x4488)).bind fun (v4675 : Nat) => (x4488[v4675]?).bind fun (v4676 : List Int) => (idx v4676 0).bind fun (v4677 : Int) => some (Sum.inl ((IntKind.wrap .i64 ((IntKind.wrap .i64 ((IntKind.wrap .i64 (x4603 + v4673)) - v4677)) + 1)), (IntKind.wrap .i64 (x4604 + 1))))))) (some (Sum.inr (Sum.inr x4603)))

def laws_FnRowsOf_n4 (x4487 : List (List Int)) (x4488 : List (List Int)) : Option (Bool ⊕ Int) :=
  nloop (fun (s : Int × Int) => ((laws_FnRowsOf_n3 s.1 s.2 x4487 x4488).map (Sum.elim (fun (t : Int × Int) => Sum.inl (t.1, t.2)) (Sum.elim (fun (t : Bool) => Sum.inr (Sum.inl t)) (fun (t : Int) => Sum.inr (Sum.inr t)))) : Option ((Int × Int) ⊕ (Bool ⊕ Int)))) LL (0, 0)

def laws_FnRowsOf_n5 (x4487 : List (List Int)) (x4488 : List (List Int)) : Option (Int ⊕ Bool) :=
  (laws_FnRowsOf_n4 x4487 x4488).map (Sum.elim (fun (t : Bool) => (Sum.inr t)) (fun (t : Int) => (Sum.inl t)))

def laws_FnRowsOf_n6 (x4487 : List (List Int)) (x4488 : List (List Int)) : Option (Int ⊕ Bool) :=
  (laws_FnRowsOf_n2).bind (fun (t : Unit) => laws_FnRowsOf_n5 x4487 x4488)

def laws_FnRowsOf_n7 (x4486 : List Int) (x4485 : Int) (x4603 : Int) (x4487 : List (List Int)) : Option (Bool) :=
  (impl_GapsOf x4486 x4485).bind fun (v4692 : Int) => cond ((((List.length x4487 : Nat) : Int)) == (IntKind.wrap .i64 (v4692 + 1))) ((impl_YieldOf x4486 x4485).bind fun (v4695 : List Int) => cond (x4603 == (((List.length v4695 : Nat) : Int))) ((laws_alive).bind fun (v4698 : Bool) => some v4698) (some false)) (some false)

def laws_FnRowsOf_n8 (x4486 : List Int) (x4485 : Int) (x4487 : List (List Int)) (x4488 : List (List Int)) : Option (Bool) :=
  (laws_FnRowsOf_n6 x4487 x4488).bind (Sum.elim (fun (t : Int) => laws_FnRowsOf_n7 x4486 x4485 t x4487) (fun e => some ((fun (t : Bool) => t) e)))

def laws_FnRowsOf_n9 (x4004 : List Int) : Option (Bool) :=
  (laws_FnRowsOf_n1 x4004).bind (Sum.elim (fun (t : (List Int) × Int × (List (List Int)) × (List (List Int))) => laws_FnRowsOf_n8 t.1 t.2.1 t.2.2.1 t.2.2.2) (fun e => some ((fun (t : Bool) => t) e)))

@[irreducible] def laws_FnRowsOf (x4004 : List Int) : Option (Bool) :=
  laws_FnRowsOf_n9 x4004

/-! loop.example/headtrees/laws.toIntS -/

def laws_toIntS_n1 (x4708 : List Int) : Option (((List Int))) :=
  (mk (((List.length x4708 : Nat) : Int)) (((List.length x4708 : Nat) : Int))).bind fun (v4710 : Nat) => some (List.replicate v4710 (0 : Int))

def laws_toIntS_n2 : Option (Unit) :=
  some ()

def laws_toIntS_n3 (x4708 : List Int) (x4725 : Int) (x4726 : List Int) : Option ((Int × (List Int)) ⊕ ((List Int))) :=
  cond (decide (x4725 < (((List.length x4708 : Nat) : Int)))) ((idx x4708 x4725).bind fun (v4736 : Int) => (inb x4725 (List.length x4726)).bind fun (v4737 : Nat) => some (Sum.inl ((IntKind.wrap .i64 (x4725 + 1)), (x4726.set v4737 v4736)))) (some (Sum.inr x4726))

def laws_toIntS_n4 (x4708 : List Int) (x4711 : List Int) : Option (((List Int))) :=
  nloop (fun (s : Int × (List Int)) => ((laws_toIntS_n3 x4708 s.1 s.2).map (Sum.elim (fun (t : Int × (List Int)) => Sum.inl (t.1, t.2)) (fun (t : (List Int)) => Sum.inr t)) : Option ((Int × (List Int)) ⊕ (((List Int)))))) LL (0, x4711)

def laws_toIntS_n5 (x4708 : List Int) (x4711 : List Int) : Option (((List Int))) :=
  (laws_toIntS_n4 x4708 x4711).map (fun (t : (List Int)) => t)

def laws_toIntS_n6 (x4708 : List Int) (x4711 : List Int) : Option (((List Int))) :=
  (laws_toIntS_n2).bind (fun (t : Unit) => laws_toIntS_n5 x4708 x4711)

def laws_toIntS_n7 (x4726 : List Int) : Option (((List Int))) :=
  some x4726

def laws_toIntS_n8 (x4708 : List Int) (x4711 : List Int) : Option (((List Int))) :=
  (laws_toIntS_n6 x4708 x4711).bind (fun (t : (List Int)) => laws_toIntS_n7 t)

def laws_toIntS_n9 (x4708 : List Int) : Option (((List Int))) :=
  (laws_toIntS_n1 x4708).bind (fun (t : (List Int)) => laws_toIntS_n8 x4708 t)

@[irreducible] def laws_toIntS (x4708 : List Int) : Option ((List Int)) :=
  laws_toIntS_n9 x4708

/-! loop.example/headtrees/laws.eqIntS -/

def laws_eqIntS_n1 (x4768 : List Int) (x4769 : List Int) : Option (Unit ⊕ Bool) :=
  cond ((((List.length x4768 : Nat) : Int)) != (((List.length x4769 : Nat) : Int))) (some (Sum.inr false)) (some (Sum.inl ()))

def laws_eqIntS_n2 : Option (Unit) :=
  some ()

def laws_eqIntS_n3 (x4768 : List Int) (x4769 : List Int) (x4786 : Int) : Option (Int ⊕ Bool ⊕ Unit) :=
  cond (decide (x4786 < (((List.length x4768 : Nat) : Int)))) ((idx x4768 x4786).bind fun (v4796 : Int) => (idx x4769 x4786).bind fun (v4797 : Int) => cond (v4796 != v4797) (some (Sum.inr (Sum.inl false))) (some (Sum.inl (IntKind.wrap .i64 (x4786 + 1))))) (some (Sum.inr (Sum.inr ())))

def laws_eqIntS_n4 (x4768 : List Int) (x4769 : List Int) : Option (Bool ⊕ Unit) :=
  nloop (fun (s : Int) => ((laws_eqIntS_n3 x4768 x4769 s).map (Sum.elim (fun (t : Int) => Sum.inl t) (Sum.elim (fun (t : Bool) => Sum.inr (Sum.inl t)) (fun (t : Unit) => Sum.inr (Sum.inr t)))) : Option ((Int) ⊕ (Bool ⊕ Unit)))) LL 0

def laws_eqIntS_n5 (x4768 : List Int) (x4769 : List Int) : Option (Unit ⊕ Bool) :=
  (laws_eqIntS_n4 x4768 x4769).map (Sum.elim (fun (t : Bool) => (Sum.inr t)) (fun (t : Unit) => (Sum.inl ())))

def laws_eqIntS_n6 (x4768 : List Int) (x4769 : List Int) : Option (Unit ⊕ Bool) :=
  (laws_eqIntS_n2).bind (fun (t : Unit) => laws_eqIntS_n5 x4768 x4769)

def laws_eqIntS_n7 : Option (Bool) :=
  some true

def laws_eqIntS_n8 (x4768 : List Int) (x4769 : List Int) : Option (Bool) :=
  (laws_eqIntS_n6 x4768 x4769).bind (Sum.elim (fun (t : Unit) => laws_eqIntS_n7) (fun e => some ((fun (t : Bool) => t) e)))

def laws_eqIntS_n9 (x4768 : List Int) (x4769 : List Int) : Option (Bool) :=
  (laws_eqIntS_n1 x4768 x4769).bind (Sum.elim (fun (t : Unit) => laws_eqIntS_n8 x4768 x4769) (fun e => some ((fun (t : Bool) => t) e)))

@[irreducible] def laws_eqIntS (x4768 : List Int) (x4769 : List Int) : Option (Bool) :=
  laws_eqIntS_n9 x4768 x4769

/-! loop.example/headtrees/laws.FnExactGapsOf -/

def laws_FnExactGapsOf_n1 (x4702 : List Int) (x4703 : Int) : Option (Bool) :=
  cond (decide ((((List.length x4702 : Nat) : Int)) > 1048576)) (some true) ((laws_toIntS x4702).bind fun (v4815 : List Int) => (spec_GapsOf v4815 x4703).bind fun (v4816 : Int) => (laws_toIntS x4702).bind fun (v4817 : List Int) => (impl_GapsOf v4817 x4703).bind fun (v4818 : Int) => cond (v4818 != v4816) (some false) ((laws_toIntS x4702).bind fun (v4820 : List Int) => (laws_eqIntS v4817 v4820).bind fun (v4821 : Bool) => cond (!v4821) (some false) (some true)))

@[irreducible] def laws_FnExactGapsOf (x4702 : List Int) (x4703 : Int) : Option (Bool) :=
  laws_FnExactGapsOf_n1 x4702 x4703

/-! loop.example/headtrees/laws.FnExactMostGaps -/

def laws_FnExactMostGaps_n1 (x4825 : List Int) : Option (Bool) :=
  cond (decide ((((List.length x4825 : Nat) : Int)) > 1048576)) (some true) ((laws_toIntS x4825).bind fun (v4872 : List Int) => (spec_MostGaps v4872).bind fun (v4873 : Int) => (laws_toIntS x4825).bind fun (v4874 : List Int) => (impl_MostGaps v4874).bind fun (v4875 : Int) => cond (v4875 != v4873) (some false) ((laws_toIntS x4825).bind fun (v4877 : List Int) => (laws_eqIntS v4874 v4877).bind fun (v4878 : Bool) => cond (!v4878) (some false) (some true)))

@[irreducible] def laws_FnExactMostGaps (x4825 : List Int) : Option (Bool) :=
  laws_FnExactMostGaps_n1 x4825

/-! loop.example/headtrees/laws.FnExactNestedOk -/

def laws_FnExactNestedOk_n1 (x4882 : List Int) : Option (Bool) :=
  cond (decide ((((List.length x4882 : Nat) : Int)) > 1048576)) (some true) ((laws_toIntS x4882).bind fun (v4929 : List Int) => (spec_NestedOk v4929).bind fun (v4930 : Bool) => (laws_toIntS x4882).bind fun (v4931 : List Int) => (impl_NestedOk v4931).bind fun (v4932 : Bool) => cond (v4932 != v4930) (some false) ((laws_toIntS x4882).bind fun (v4934 : List Int) => (laws_eqIntS v4931 v4934).bind fun (v4935 : Bool) => cond (!v4935) (some false) (some true)))

@[irreducible] def laws_FnExactNestedOk (x4882 : List Int) : Option (Bool) :=
  laws_FnExactNestedOk_n1 x4882

end Go.Rv
