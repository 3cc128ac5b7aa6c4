/-
  Plain functions, written by program for functions of the checked code. Conditions: none.
-/
import Derived.Test.YtcidinfpacpdaaaDoorFB
set_option linter.unusedVariables false
namespace Go.Rv
def spec_l20Open_n1 (x12 : List Int) : Option (((List Int))) :=
  cond (decide ((((List.length x12 : Nat) : Int)) > 2000)) ((inc 2000 (List.length x12)).bind fun (v29 : Nat) => some ((x12.take v29).drop 0)) (some x12)

@[irreducible] def spec_l20Open (x12 : List Int) : Option ((List Int)) :=
  spec_l20Open_n1 x12

def spec_l20Rd_pick_n1 (x34 : Int) (x35 : List Int) (x36 : Int) : Option ((Int × Int)) :=
  cond (decide (x34 < 1)) (some (0, (IntKind.wrap .i64 (x36 + 1)))) (cond ((((List.length x35 : Nat) : Int)) == 0) (some (0, (IntKind.wrap .i64 (x36 + 1)))) (cond (decide ((IntKind.wrap .i64 ((IntKind.wrap .i64 (x36 + 1)) - 1)) < (((List.length x35 : Nat) : Int)))) ((idx x35 (IntKind.wrap .i64 ((IntKind.wrap .i64 (x36 + 1)) - 1))).bind fun (v164 : Int) => (rem (IntKind.wrap .i64 v164) x34).bind fun (v166 : Int) => some (v166, (IntKind.wrap .i64 (x36 + 1)))) ((rem (IntKind.wrap .i64 ((IntKind.wrap .i64 (x36 + 1)) - 1)) (((List.length x35 : Nat) : Int))).bind fun (v168 : Int) => (idx x35 v168).bind fun (v169 : Int) => (rem (IntKind.wrap .i64 ((IntKind.wrap .i64 ((IntKind.wrap .i64 ((IntKind.wrap .i64 (x36 + 1)) - 1)) * 7)) + 3)) (((List.length x35 : Nat) : Int))).bind fun (v175 : Int) => (idx x35 v175).bind fun (v176 : Int) => (quo .i64 (IntKind.wrap .i64 ((IntKind.wrap .i64 (x36 + 1)) - 1)) (((List.length x35 : Nat) : Int))).bind fun (v183 : Int) => (quo .i64 (IntKind.wrap .i64 ((IntKind.wrap .i64 ((IntKind.wrap .i64 ((IntKind.wrap .i64 ((IntKind.wrap .i64 v169) * 131)) + (IntKind.wrap .i64 ((IntKind.wrap .i64 v176) * 1117)))) + (IntKind.wrap .i64 ((IntKind.wrap .i64 ((IntKind.wrap .i64 (x36 + 1)) - 1)) * 29)))) + (IntKind.wrap .i64 (v183 * 53)))) 64).bind fun (v186 : Int) => (rem (ixor .i64 (IntKind.wrap .i64 ((IntKind.wrap .i64 ((IntKind.wrap .i64 ((IntKind.wrap .i64 ((IntKind.wrap .i64 v169) * 131)) + (IntKind.wrap .i64 ((IntKind.wrap .i64 v176) * 1117)))) + (IntKind.wrap .i64 ((IntKind.wrap .i64 ((IntKind.wrap .i64 (x36 + 1)) - 1)) * 29)))) + (IntKind.wrap .i64 (v183 * 53)))) v186) x34).bind fun (v188 : Int) => some (v188, (IntKind.wrap .i64 (x36 + 1))))))

@[irreducible] def spec_l20Rd_pick (x34 : Int) (x35 : List Int) (x36 : Int) : Option (Int × Int) :=
  spec_l20Rd_pick_n1 x34 x35 x36

def spec_l20Order_n1 (x313 : List Int) (x314 : Int) : Option ((Int × Int)) :=
  (spec_l20Rd_pick 2 x313 x314).bind fun (v315 : Int × Int) => some ((v315.1), (v315.2))

def spec_l20Order_n2 : Option (Unit) :=
  some ()

def spec_l20Order_n3 (x312 : Int) (x316 : Int) (x459 : Int) (x313 : List Int) (x460 : Int) (x461 : List Int) : Option ((Int × Int × (List Int)) ⊕ (Int × (List Int))) :=
  cond (decide (x459 ≤ x312)) (cond (x316 == 0) ((spec_l20Rd_pick x459 x313 x460).bind fun (v533 : Int × Int) => (inc (v533.1) (List.length x461)).bind fun (v537 : Nat) => (room ((List.length ([] : List Int)) + List.length ((x461.drop 0).take (v537 - 0)))).bind fun (v541 : Unit) => (room ((List.length (([] : List Int) ++ ((x461.drop 0).take (v537 - 0)))) + List.length ([x459]))).bind fun (v545 : Unit) => (inc (v533.1) (List.length x461)).bind fun (v548 : Nat) => (room ((List.length ((([] : List Int) ++ ((x461.drop 0).take (v537 - 0))) ++ ([x459]))) + List.length ((x461.drop v548).take ((List.length x461) - v548)))).bind fun (v552 : Unit) => some (Sum.inl ((IntKind.wrap .i64 (x459 + 1)), (v533.2), (((([] : List Int) ++ ((x461.drop 0).take (v537 - 0))) ++ ([x459])) ++ ((x461.drop v548).take ((List.length x461) - v548)))))) ((spec_l20Rd_pick 3 x313 x460).bind fun (v555 : Int × Int) => cond ((v555.1) == 0) ((spec_l20Rd_pick x459 x313 (v555.2)).bind fun (v559 : Int × Int) => (inc (v559.1) (List.length x461)).bind fun (v563 : Nat) => (room ((List.length ([] : List Int)) + List.length ((x461.drop 0).take (v563 - 0)))).bind fun (v567 : Unit) => (room ((List.length (([] : List Int) ++ ((x461.drop 0).take (v563 - 0)))) + List.length ([x459]))).bind fun (v571 : Unit) => (inc (v559.1) (List.length x461)).bind fun (v574 : Nat) => (room ((List.length ((([] : List Int) ++ ((x461.drop 0).take (v563 - 0))) ++ ([x459]))) + List.length ((x461.drop v574).take ((List.length x461) - v574)))).bind fun (v578 : Unit) => some (Sum.inl ((IntKind.wrap .i64 (x459 + 1)), (v559.2), (((([] : List Int) ++ ((x461.drop 0).take (v563 - 0))) ++ ([x459])) ++ ((x461.drop v574).take ((List.length x461) - v574)))))) ((inc (((List.length x461 : Nat) : Int)) (List.length x461)).bind fun (v582 : Nat) => (room ((List.length ([] : List Int)) + List.length ((x461.drop 0).take (v582 - 0)))).bind fun (v586 : Unit) => (room ((List.length (([] : List Int) ++ ((x461.drop 0).take (v582 - 0)))) + List.length ([x459]))).bind fun (v590 : Unit) => (inc (((List.length x461 : Nat) : Int)) (List.length x461)).bind fun (v593 : Nat) => (room ((List.length ((([] : List Int) ++ ((x461.drop 0).take (v582 - 0))) ++ ([x459]))) + List.length ((x461.drop v593).take ((List.length x461) - v593)))).bind fun (v597 : Unit) => some (Sum.inl ((IntKind.wrap .i64 (x459 + 1)), (v555.2), (((([] : List Int) ++ ((x461.drop 0).take (v582 - 0))) ++ ([x459])) ++ ((x461.drop v593).take ((List.length x461) - v593)))))))) (some (Sum.inr (x460, x461)))

def spec_l20Order_n4 (x312 : Int) (x316 : Int) (x313 : List Int) (x317 : Int) : Option ((Int × (List Int))) :=
  nloop (fun (s : Int × Int × (List Int)) => ((spec_l20Order_n3 x312 x316 s.1 x313 s.2.1 s.2.2).map (Sum.elim (fun (t : Int × Int × (List Int)) => Sum.inl (t.1, t.2.1, t.2.2)) (fun (t : Int × (List Int)) => Sum.inr t)) : Option ((Int × Int × (List Int)) ⊕ ((Int × (List Int)))))) LL (1, x317, ([] : List Int))

def spec_l20Order_n5 (x312 : Int) (x316 : Int) (x313 : List Int) (x317 : Int) : Option ((Int × (List Int))) :=
  (spec_l20Order_n4 x312 x316 x313 x317).map (fun (t : Int × (List Int)) => (t.1, t.2))

def spec_l20Order_n6 (x312 : Int) (x316 : Int) (x313 : List Int) (x317 : Int) : Option ((Int × (List Int))) :=
  (spec_l20Order_n2).bind (fun (t : Unit) => spec_l20Order_n5 x312 x316 x313 x317)

def spec_l20Order_n7 (x460 : Int) (x461 : List Int) : Option ((Int × (List Int))) :=
  some (x460, x461)

def spec_l20Order_n8 (x312 : Int) (x316 : Int) (x313 : List Int) (x317 : Int) : Option ((Int × (List Int))) :=
  (spec_l20Order_n6 x312 x316 x313 x317).bind (fun (t : Int × (List Int)) => spec_l20Order_n7 t.1 t.2)

def spec_l20Order_n9 (x312 : Int) (x313 : List Int) (x314 : Int) : Option ((Int × (List Int))) :=
  (spec_l20Order_n1 x313 x314).bind (fun (t : Int × Int) => spec_l20Order_n8 x312 t.1 x313 t.2)

@[irreducible] def spec_l20Order (x312 : Int) (x313 : List Int) (x314 : Int) : Option (Int × (List Int)) :=
  spec_l20Order_n9 x312 x313 x314

def spec_l20Rd_odd_n1 (x768 : Int) (x769 : List Int) (x770 : Int) : Option ((Bool × Int)) :=
  cond (decide (x768 > 0)) ((spec_l20Rd_pick x768 x769 x770).bind fun (v778 : Int × Int) => some (((v778.1) == (IntKind.wrap .i64 (x768 - 1))), (v778.2))) (some (false, x770))

@[irreducible] def spec_l20Rd_odd (x768 : Int) (x769 : List Int) (x770 : Int) : Option (Bool × Int) :=
  spec_l20Rd_odd_n1 x768 x769 x770

def spec_l20Tree_n1 (x302 : List Int) (x303 : Int) : Option ((Int × Int × Int × (List Int) × (List Int))) :=
  (spec_l20Rd_pick 7 x302 x303).bind fun (v615 : Int × Int) => (spec_l20Order (IntKind.wrap .i64 (1 + (v615.1))) x302 (v615.2)).bind fun (v619 : Int × (List Int)) => (mk (IntKind.wrap .i64 (1 + (v615.1))) (IntKind.wrap .i64 (1 + (v615.1)))).bind fun (v622 : Nat) => (spec_l20Rd_pick 2 x302 (v619.1)).bind fun (v624 : Int × Int) => some ((IntKind.wrap .i64 (1 + (v615.1))), (v624.1), (v624.2), (v619.2), (List.replicate v622 (0 : Int)))

def spec_l20Tree_n2 : Option (Unit) :=
  some ()

def spec_l20Tree_n3 (x618 : Int) (x625 : Int) (x696 : Int) (x302 : List Int) (x697 : Int) (x621 : List Int) (x698 : List Int) : Option ((Int × Int × (List Int)) ⊕ (Int × (List Int))) :=
  cond (decide (x696 < x618)) ((spec_l20Rd_pick x696 x302 x697).bind fun (v732 : Int × Int) => cond (x625 == 1) ((spec_l20Rd_pick 2 x302 (v732.2)).bind fun (v736 : Int × Int) => cond ((v736.1) == 0) ((inb x696 (List.length x621)).bind fun (v741 : Nat) => (x621[v741]?).bind fun (v742 : Int) => (inb (IntKind.wrap .i64 (x696 - 1)) (List.length x621)).bind fun (v744 : Nat) => (x621[v744]?).bind fun (v745 : Int) => (inb (IntKind.wrap .i64 (v742 - 1)) (List.length x698)).bind fun (v746 : Nat) => some (Sum.inl ((IntKind.wrap .i64 (x696 + 1)), (v736.2), (x698.set v746 v745)))) ((inb x696 (List.length x621)).bind fun (v749 : Nat) => (x621[v749]?).bind fun (v750 : Int) => (inb (v732.1) (List.length x621)).bind fun (v752 : Nat) => (x621[v752]?).bind fun (v753 : Int) => (inb (IntKind.wrap .i64 (v750 - 1)) (List.length x698)).bind fun (v754 : Nat) => some (Sum.inl ((IntKind.wrap .i64 (x696 + 1)), (v736.2), (x698.set v754 v753))))) ((inb x696 (List.length x621)).bind fun (v757 : Nat) => (x621[v757]?).bind fun (v758 : Int) => (inb (v732.1) (List.length x621)).bind fun (v760 : Nat) => (x621[v760]?).bind fun (v761 : Int) => (inb (IntKind.wrap .i64 (v758 - 1)) (List.length x698)).bind fun (v762 : Nat) => some (Sum.inl ((IntKind.wrap .i64 (x696 + 1)), (v732.2), (x698.set v762 v761))))) (some (Sum.inr (x697, x698)))

def spec_l20Tree_n4 (x618 : Int) (x625 : Int) (x302 : List Int) (x626 : Int) (x621 : List Int) (x623 : List Int) : Option ((Int × (List Int))) :=
  nloop (fun (s : Int × Int × (List Int)) => ((spec_l20Tree_n3 x618 x625 s.1 x302 s.2.1 x621 s.2.2).map (Sum.elim (fun (t : Int × Int × (List Int)) => Sum.inl (t.1, t.2.1, t.2.2)) (fun (t : Int × (List Int)) => Sum.inr t)) : Option ((Int × Int × (List Int)) ⊕ ((Int × (List Int)))))) LL (1, x626, x623)

def spec_l20Tree_n5 (x618 : Int) (x625 : Int) (x302 : List Int) (x626 : Int) (x621 : List Int) (x623 : List Int) : Option ((Int × (List Int))) :=
  (spec_l20Tree_n4 x618 x625 x302 x626 x621 x623).map (fun (t : Int × (List Int)) => (t.1, t.2))

def spec_l20Tree_n6 (x618 : Int) (x625 : Int) (x302 : List Int) (x626 : Int) (x621 : List Int) (x623 : List Int) : Option ((Int × (List Int))) :=
  (spec_l20Tree_n2).bind (fun (t : Unit) => spec_l20Tree_n5 x618 x625 x302 x626 x621 x623)

def spec_l20Tree_n7 (x301 : Int) (x618 : Int) (x302 : List Int) (x697 : Int) (x698 : List Int) : Option ((Int × (List Int))) :=
  (spec_l20Rd_odd x301 x302 x697).bind fun (v843 : Bool × Int) => cond (v843.1) ((spec_l20Rd_pick 4 x302 (v843.2)).bind fun (v846 : Int × Int) => cond ((v846.1) == 0) (some ((v846.2), ([] : List Int))) (cond ((v846.1) == 1) (some ((v846.2), ([2, 1, 0]))) (cond ((v846.1) == 2) ((spec_l20Rd_pick x618 x302 (v846.2)).bind fun (v853 : Int × Int) => (inb (v853.1) (List.length x698)).bind fun (v856 : Nat) => (room ((List.length (x698.set v856 0)) + List.length ([0]))).bind fun (v860 : Unit) => some ((v853.2), ((x698.set v856 0) ++ ([0])))) ((spec_l20Rd_pick 3 x302 (v846.2)).bind fun (v864 : Int × Int) => (inb (v864.1) (List.length ([1, (IntKind.wrap .i64 (x618 + 1)), (-1)]))).bind fun (v867 : Nat) => (([1, (IntKind.wrap .i64 (x618 + 1)), (-1)])[v867]?).bind fun (v868 : Int) => (inb 0 (List.length x698)).bind fun (v869 : Nat) => some ((v864.2), (x698.set v869 v868)))))) (some ((v843.2), x698))

def spec_l20Tree_n8 (x301 : Int) (x618 : Int) (x625 : Int) (x302 : List Int) (x626 : Int) (x621 : List Int) (x623 : List Int) : Option ((Int × (List Int))) :=
  (spec_l20Tree_n6 x618 x625 x302 x626 x621 x623).bind (fun (t : Int × (List Int)) => spec_l20Tree_n7 x301 x618 x302 t.1 t.2)

def spec_l20Tree_n9 (x301 : Int) (x302 : List Int) (x303 : Int) : Option ((Int × (List Int))) :=
  (spec_l20Tree_n1 x302 x303).bind (fun (t : Int × Int × Int × (List Int) × (List Int)) => spec_l20Tree_n8 x301 t.1 t.2.1 x302 t.2.2.1 t.2.2.2.1 t.2.2.2.2)

@[irreducible] def spec_l20Tree (x301 : Int) (x302 : List Int) (x303 : Int) : Option (Int × (List Int)) :=
  spec_l20Tree_n9 x301 x302 x303

def spec_l1In_n1 (x887 : Int) (x888 : Int) (x889 : Int) : Option (Bool) :=
  cond (decide (x887 ≥ x888)) (some (decide (x887 ≤ x889))) (some false)

@[irreducible] def spec_l1In (x887 : Int) (x888 : Int) (x889 : Int) : Option (Bool) :=
  spec_l1In_n1 x887 x888 x889

def spec_TreeOk_n1 (x883 : List Int) : Option (Int ⊕ Bool) :=
  (spec_l1In (((List.length x883 : Nat) : Int)) 1 8).bind fun (v898 : Bool) => cond (!v898) (some (Sum.inr false)) (some (Sum.inl (((List.length x883 : Nat) : Int))))

def spec_TreeOk_n2 : Option (Unit) :=
  some ()

def spec_TreeOk_n3 (x897 : Int) (x964 : Int) (x965 : Int) : Option (Unit ⊕ Int) :=
  cond (decide (x965 < x897)) (some (Sum.inl ())) (some (Sum.inr x964))

def spec_TreeOk_n4 (x883 : List Int) (x897 : Int) (x964 : Int) (x965 : Int) : Option ((Int × Int) ⊕ Bool) :=
  (idx x883 x965).bind fun (v982 : Int) => (spec_l1In v982 0 x897).bind fun (v983 : Bool) => cond (!v983) (some (Sum.inr false)) ((idx x883 x965).bind fun (v985 : Int) => cond (v985 == (IntKind.wrap .i64 (x965 + 1))) (some (Sum.inr false)) ((idx x883 x965).bind fun (v988 : Int) => cond (v988 == 0) (some (Sum.inl ((IntKind.wrap .i64 (x964 + 1)), (IntKind.wrap .i64 (x965 + 1))))) (some (Sum.inl (x964, (IntKind.wrap .i64 (x965 + 1)))))))

def spec_TreeOk_n5 : Option (Unit) :=
  some ()

def spec_TreeOk_n6 (x883 : List Int) (x897 : Int) (x1010 : Int) (x1011 : Int) : Option ((Int × Int) ⊕ Bool ⊕ Int) :=
  cond (decide (x1010 > 0)) (cond (decide (x1011 < x897)) ((idx x883 (IntKind.wrap .i64 (x1010 - 1))).bind fun (v1023 : Int) => (spec_l1In v1023 0 x897).bind fun (v1024 : Bool) => cond (!v1024) (some (Sum.inr (Sum.inl false))) (some (Sum.inl (v1023, (IntKind.wrap .i64 (x1011 + 1)))))) (some (Sum.inr (Sum.inr x1010)))) (some (Sum.inr (Sum.inr x1010)))

def spec_TreeOk_n7 (x883 : List Int) (x897 : Int) (x994 : Int) : Option (Bool ⊕ Int) :=
  nloop (fun (s : Int × Int) => ((spec_TreeOk_n6 x883 x897 s.1 s.2).map (Sum.elim (fun (t : Int × Int) => Sum.inl (t.1, t.2)) (Sum.elim (fun (t : Bool) => Sum.inr (Sum.inl t)) (fun (t : Int) => Sum.inr (Sum.inr t)))) : Option ((Int × Int) ⊕ (Bool ⊕ Int)))) LL (x994, 0)

def spec_TreeOk_n8 (x883 : List Int) (x897 : Int) (x994 : Int) : Option (Int ⊕ Bool) :=
  (spec_TreeOk_n7 x883 x897 x994).map (Sum.elim (fun (t : Bool) => (Sum.inr t)) (fun (t : Int) => (Sum.inl t)))

def spec_TreeOk_n9 (x883 : List Int) (x897 : Int) (x994 : Int) : Option (Int ⊕ Bool) :=
  (spec_TreeOk_n5).bind (fun (t : Unit) => spec_TreeOk_n8 x883 x897 x994)

def spec_TreeOk_n10 (x1010 : Int) : Option (Unit ⊕ Bool) :=
  cond (decide (x1010 > 0)) (some (Sum.inr false)) (some (Sum.inl ()))

def spec_TreeOk_n11 (x883 : List Int) (x897 : Int) (x994 : Int) : Option (Unit ⊕ Bool) :=
  (spec_TreeOk_n9 x883 x897 x994).bind (Sum.elim (fun (t : Int) => spec_TreeOk_n10 t) (fun e => some ((fun (t : Bool) => (Sum.inr t)) e)))

def spec_TreeOk_n12 (x883 : List Int) (x897 : Int) (x964 : Int) (x965 : Int) : Option (Int ⊕ Bool) :=
  (spec_TreeOk_n4 x883 x897 x964 x965).bind (Sum.elim (fun (t : Int × Int) => (spec_TreeOk_n11 x883 x897 t.2).map (Sum.elim (fun (u : Unit) => (Sum.inl t.1)) (fun (u : Bool) => (Sum.inr u)))) (fun e => some ((fun (t : Bool) => (Sum.inr t)) e)))

def spec_TreeOk_n13 (x883 : List Int) (x897 : Int) (x964 : Int) (x965 : Int) : Option (Int ⊕ Bool) :=
  (spec_TreeOk_n12 x883 x897 x964 x965).map (Sum.elim (fun (t : Int) => (Sum.inl t)) (fun (t : Bool) => (Sum.inr t)))

def spec_TreeOk_n14 (x965 : Int) : Option (Int) :=
  some (IntKind.wrap .i64 (x965 + 1))

def spec_TreeOk_n15 (x883 : List Int) (x897 : Int) (x964 : Int) (x965 : Int) : Option ((Int × Int) ⊕ Bool) :=
  (spec_TreeOk_n13 x883 x897 x964 x965).bind (Sum.elim (fun (t : Int) => (spec_TreeOk_n14 x965).map (fun (u : Int) => (Sum.inl (t, u)))) (fun e => some ((fun (t : Bool) => (Sum.inr t)) e)))

def spec_TreeOk_n16 (x883 : List Int) (x897 : Int) (x964 : Int) (x965 : Int) : Option ((Int × Int) ⊕ Bool ⊕ Int) :=
  (spec_TreeOk_n3 x897 x964 x965).bind (Sum.elim (fun (t : Unit) => (spec_TreeOk_n15 x883 x897 x964 x965).map (Sum.elim (fun (t : Int × Int) => (Sum.inl (t.1, t.2))) (fun (t : Bool) => (Sum.inr (Sum.inl t))))) (fun e => some ((fun (t : Int) => (Sum.inr (Sum.inr t))) e)))

def spec_TreeOk_n17 (x883 : List Int) (x897 : Int) : Option (Bool ⊕ Int) :=
  nloop (fun (s : Int × Int) => ((spec_TreeOk_n16 x883 x897 s.1 s.2).map (Sum.elim (fun (t : Int × Int) => Sum.inl (t.1, t.2)) (Sum.elim (fun (t : Bool) => Sum.inr (Sum.inl t)) (fun (t : Int) => Sum.inr (Sum.inr t)))) : Option ((Int × Int) ⊕ (Bool ⊕ Int)))) LL (0, 0)

def spec_TreeOk_n18 (x883 : List Int) (x897 : Int) : Option (Int ⊕ Bool) :=
  (spec_TreeOk_n17 x883 x897).map (Sum.elim (fun (t : Bool) => (Sum.inr t)) (fun (t : Int) => (Sum.inl t)))

def spec_TreeOk_n19 (x883 : List Int) (x897 : Int) : Option (Int ⊕ Bool) :=
  (spec_TreeOk_n2).bind (fun (t : Unit) => spec_TreeOk_n18 x883 x897)

def spec_TreeOk_n20 (x964 : Int) : Option (Bool) :=
  some (x964 == 1)

def spec_TreeOk_n21 (x883 : List Int) (x897 : Int) : Option (Bool) :=
  (spec_TreeOk_n19 x883 x897).bind (Sum.elim (fun (t : Int) => spec_TreeOk_n20 t) (fun e => some ((fun (t : Bool) => t) e)))

def spec_TreeOk_n22 (x883 : List Int) : Option (Bool) :=
  (spec_TreeOk_n1 x883).bind (Sum.elim (fun (t : Int) => spec_TreeOk_n21 x883 t) (fun e => some ((fun (t : Bool) => t) e)))

@[irreducible] def spec_TreeOk (x883 : List Int) : Option (Bool) :=
  spec_TreeOk_n22 x883

def spec_OrderOk_n1 : Option (Unit) :=
  some ()

def spec_OrderOk_n2 : Option (Unit) :=
  some ()

def spec_OrderOk_n3 (x1043 : List Int) (x1075 : Int) : Option (Unit ⊕ Unit) :=
  cond (decide (x1075 < (((List.length x1043 : Nat) : Int)))) (some (Sum.inl ())) (some (Sum.inr ()))

def spec_OrderOk_n4 (x1043 : List Int) (x1044 : Int) (x1075 : Int) : Option (Unit ⊕ Bool) :=
  (idx x1043 x1075).bind fun (v1081 : Int) => (spec_l1In v1081 1 x1044).bind fun (v1082 : Bool) => cond (!v1082) (some (Sum.inr false)) (some (Sum.inl ()))

def spec_OrderOk_n5 (x1043 : List Int) (x1075 : Int) (x1094 : Int) : Option (Int ⊕ Bool ⊕ Unit) :=
  cond (decide (x1094 < x1075)) ((idx x1043 x1094).bind fun (v1101 : Int) => (idx x1043 x1075).bind fun (v1102 : Int) => cond (v1101 == v1102) (some (Sum.inr (Sum.inl false))) (some (Sum.inl (IntKind.wrap .i64 (x1094 + 1))))) (some (Sum.inr (Sum.inr ())))

def spec_OrderOk_n6 (x1043 : List Int) (x1075 : Int) : Option (Bool ⊕ Unit) :=
  nloop (fun (s : Int) => ((spec_OrderOk_n5 x1043 x1075 s).map (Sum.elim (fun (t : Int) => Sum.inl t) (Sum.elim (fun (t : Bool) => Sum.inr (Sum.inl t)) (fun (t : Unit) => Sum.inr (Sum.inr t)))) : Option ((Int) ⊕ (Bool ⊕ Unit)))) LL 0

def spec_OrderOk_n7 (x1043 : List Int) (x1075 : Int) : Option (Unit ⊕ Bool) :=
  (spec_OrderOk_n6 x1043 x1075).map (Sum.elim (fun (t : Bool) => (Sum.inr t)) (fun (t : Unit) => (Sum.inl ())))

def spec_OrderOk_n8 (x1043 : List Int) (x1044 : Int) (x1075 : Int) : Option (Unit ⊕ Bool) :=
  (spec_OrderOk_n4 x1043 x1044 x1075).bind (Sum.elim (fun (t : Unit) => spec_OrderOk_n7 x1043 x1075) (fun e => some ((fun (t : Bool) => (Sum.inr t)) e)))

def spec_OrderOk_n9 (x1043 : List Int) (x1044 : Int) (x1075 : Int) : Option (Unit ⊕ Bool) :=
  (spec_OrderOk_n8 x1043 x1044 x1075).map (Sum.elim (fun (t : Unit) => (Sum.inl ())) (fun (t : Bool) => (Sum.inr t)))

def spec_OrderOk_n10 (x1075 : Int) : Option (Int) :=
  some (IntKind.wrap .i64 (x1075 + 1))

def spec_OrderOk_n11 (x1043 : List Int) (x1044 : Int) (x1075 : Int) : Option (Int ⊕ Bool) :=
  (spec_OrderOk_n9 x1043 x1044 x1075).bind (Sum.elim (fun (t : Unit) => (spec_OrderOk_n10 x1075).map (fun (t : Int) => (Sum.inl t))) (fun e => some ((fun (t : Bool) => (Sum.inr t)) e)))

def spec_OrderOk_n12 (x1043 : List Int) (x1044 : Int) (x1075 : Int) : Option (Int ⊕ Bool ⊕ Unit) :=
  (spec_OrderOk_n3 x1043 x1075).bind (Sum.elim (fun (t : Unit) => (spec_OrderOk_n11 x1043 x1044 x1075).map (Sum.elim (fun (t : Int) => (Sum.inl t)) (fun (t : Bool) => (Sum.inr (Sum.inl t))))) (fun e => some ((fun (t : Unit) => (Sum.inr (Sum.inr t))) e)))

def spec_OrderOk_n13 (x1043 : List Int) (x1044 : Int) : Option (Bool ⊕ Unit) :=
  nloop (fun (s : Int) => ((spec_OrderOk_n12 x1043 x1044 s).map (Sum.elim (fun (t : Int) => Sum.inl t) (Sum.elim (fun (t : Bool) => Sum.inr (Sum.inl t)) (fun (t : Unit) => Sum.inr (Sum.inr t)))) : Option ((Int) ⊕ (Bool ⊕ Unit)))) LL 0

def spec_OrderOk_n14 (x1043 : List Int) (x1044 : Int) : Option (Unit ⊕ Bool) :=
  (spec_OrderOk_n13 x1043 x1044).map (Sum.elim (fun (t : Bool) => (Sum.inr t)) (fun (t : Unit) => (Sum.inl ())))

def spec_OrderOk_n15 (x1043 : List Int) (x1044 : Int) : Option (Unit ⊕ Bool) :=
  (spec_OrderOk_n2).bind (fun (t : Unit) => spec_OrderOk_n14 x1043 x1044)

def spec_OrderOk_n16 (x1043 : List Int) (x1044 : Int) : Option (Bool) :=
  (spec_l1In x1044 1 8).bind fun (v1109 : Bool) => cond v1109 (some ((((List.length x1043 : Nat) : Int)) == x1044)) (some false)

def spec_OrderOk_n17 (x1043 : List Int) (x1044 : Int) : Option (Bool) :=
  (spec_OrderOk_n15 x1043 x1044).bind (Sum.elim (fun (t : Unit) => spec_OrderOk_n16 x1043 x1044) (fun e => some ((fun (t : Bool) => t) e)))

def spec_OrderOk_n18 (x1043 : List Int) (x1044 : Int) : Option (Bool) :=
  (spec_OrderOk_n1).bind (fun (t : Unit) => spec_OrderOk_n17 x1043 x1044)

@[irreducible] def spec_OrderOk (x1043 : List Int) (x1044 : Int) : Option (Bool) :=
  spec_OrderOk_n18 x1043 x1044

def spec_PutInOrder_n1 (x1038 : List Int) (x1039 : List Int) : Option (((List Int)) ⊕ (Bool × (List Int))) :=
  (spec_TreeOk x1038).bind fun (v1115 : Bool) => cond (!v1115) (some (Sum.inr (false, ([] : List Int)))) ((spec_OrderOk x1039 (((List.length x1038 : Nat) : Int))).bind fun (v1118 : Bool) => cond (!v1118) (some (Sum.inr (false, ([] : List Int)))) ((mk (IntKind.wrap .i64 ((((List.length x1038 : Nat) : Int)) + 1)) (IntKind.wrap .i64 ((((List.length x1038 : Nat) : Int)) + 1))).bind fun (v1122 : Nat) => some (Sum.inl (List.replicate v1122 (0 : Int)))))

def spec_PutInOrder_n2 : Option (Unit) :=
  some ()

def spec_PutInOrder_n3 (x1039 : List Int) (x1139 : Int) (x1140 : List Int) : Option ((Int × (List Int)) ⊕ ((List Int))) :=
  cond (decide (x1139 < (((List.length x1039 : Nat) : Int)))) ((idx x1039 x1139).bind fun (v1151 : Int) => (inb v1151 (List.length x1140)).bind fun (v1153 : Nat) => some (Sum.inl ((IntKind.wrap .i64 (x1139 + 1)), (x1140.set v1153 (IntKind.wrap .i64 (x1139 + 1)))))) (some (Sum.inr x1140))

def spec_PutInOrder_n4 (x1039 : List Int) (x1123 : List Int) : Option (((List Int))) :=
  nloop (fun (s : Int × (List Int)) => ((spec_PutInOrder_n3 x1039 s.1 s.2).map (Sum.elim (fun (t : Int × (List Int)) => Sum.inl (t.1, t.2)) (fun (t : (List Int)) => Sum.inr t)) : Option ((Int × (List Int)) ⊕ (((List Int)))))) LL (0, x1123)

def spec_PutInOrder_n5 (x1039 : List Int) (x1123 : List Int) : Option (((List Int))) :=
  (spec_PutInOrder_n4 x1039 x1123).map (fun (t : (List Int)) => t)

def spec_PutInOrder_n6 (x1039 : List Int) (x1123 : List Int) : Option (((List Int))) :=
  (spec_PutInOrder_n2).bind (fun (t : Unit) => spec_PutInOrder_n5 x1039 x1123)

def spec_PutInOrder_n7 : Option (Unit) :=
  some ()

def spec_PutInOrder_n8 : Option (Unit) :=
  some ()

def spec_PutInOrder_n9 (x1038 : List Int) (x1039 : List Int) (x1181 : Int) (x1140 : List Int) (x1182 : List Int) : Option ((Int × (List Int)) ⊕ ((List Int))) :=
  cond (decide (x1181 < (((List.length x1039 : Nat) : Int)))) ((idx x1039 x1181).bind fun (v1198 : Int) => (idx x1038 (IntKind.wrap .i64 (v1198 - 1))).bind fun (v1200 : Int) => (inb v1200 (List.length x1140)).bind fun (v1201 : Nat) => (x1140[v1201]?).bind fun (v1202 : Int) => (room ((List.length x1182) + List.length ([v1202]))).bind fun (v1205 : Unit) => some (Sum.inl ((IntKind.wrap .i64 (x1181 + 1)), (x1182 ++ ([v1202]))))) (some (Sum.inr x1182))

def spec_PutInOrder_n10 (x1038 : List Int) (x1039 : List Int) (x1140 : List Int) : Option (((List Int))) :=
  nloop (fun (s : Int × (List Int)) => ((spec_PutInOrder_n9 x1038 x1039 s.1 x1140 s.2).map (Sum.elim (fun (t : Int × (List Int)) => Sum.inl (t.1, t.2)) (fun (t : (List Int)) => Sum.inr t)) : Option ((Int × (List Int)) ⊕ (((List Int)))))) LL (0, ([] : List Int))

def spec_PutInOrder_n11 (x1038 : List Int) (x1039 : List Int) (x1140 : List Int) : Option (((List Int))) :=
  (spec_PutInOrder_n10 x1038 x1039 x1140).map (fun (t : (List Int)) => t)

def spec_PutInOrder_n12 (x1038 : List Int) (x1039 : List Int) (x1140 : List Int) : Option (((List Int))) :=
  (spec_PutInOrder_n8).bind (fun (t : Unit) => spec_PutInOrder_n11 x1038 x1039 x1140)

def spec_PutInOrder_n13 (x1182 : List Int) : Option ((Bool × (List Int))) :=
  some (true, x1182)

def spec_PutInOrder_n14 (x1038 : List Int) (x1039 : List Int) (x1140 : List Int) : Option ((Bool × (List Int))) :=
  (spec_PutInOrder_n12 x1038 x1039 x1140).bind (fun (t : (List Int)) => spec_PutInOrder_n13 t)

def spec_PutInOrder_n15 (x1038 : List Int) (x1039 : List Int) (x1140 : List Int) : Option ((Bool × (List Int))) :=
  (spec_PutInOrder_n7).bind (fun (t : Unit) => spec_PutInOrder_n14 x1038 x1039 x1140)

def spec_PutInOrder_n16 (x1038 : List Int) (x1039 : List Int) (x1123 : List Int) : Option ((Bool × (List Int))) :=
  (spec_PutInOrder_n6 x1039 x1123).bind (fun (t : (List Int)) => spec_PutInOrder_n15 x1038 x1039 t)

def spec_PutInOrder_n17 (x1038 : List Int) (x1039 : List Int) : Option ((Bool × (List Int))) :=
  (spec_PutInOrder_n1 x1038 x1039).bind (Sum.elim (fun (t : (List Int)) => spec_PutInOrder_n16 x1038 x1039 t) (fun e => some ((fun (t : Bool × (List Int)) => t) e)))

@[irreducible] def spec_PutInOrder (x1038 : List Int) (x1039 : List Int) : Option (Bool × (List Int)) :=
  spec_PutInOrder_n17 x1038 x1039

def spec_l20Fill_n1 (R0 : Int → Int → Int → (List Int) → Int → (List Int) → Option (Int × (List Int))) (x1279 : Int) (x1280 : Int) (x1281 : Int) (x1282 : List Int) (x1283 : Int) (x1284 : List Int) : Option ((Int × Int × (List Int)) ⊕ (Int × (List Int))) :=
  cond (decide (x1279 > x1280)) (some (Sum.inr (x1283, x1284))) ((spec_l20Rd_pick (IntKind.wrap .i64 ((IntKind.wrap .i64 (x1280 - x1279)) + 1)) x1282 x1283).bind fun (v1352 : Int × Int) => (inb (IntKind.wrap .i64 ((IntKind.wrap .i64 (x1279 + (v1352.1))) - 1)) (List.length x1284)).bind fun (v1357 : Nat) => some (Sum.inl ((IntKind.wrap .i64 (x1279 + (v1352.1))), (v1352.2), (x1284.set v1357 x1281))))

def spec_l20Fill_n2 (R0 : Int → Int → Int → (List Int) → Int → (List Int) → Option (Int × (List Int))) (x1355 : Int) (x1370 : Int) (x1282 : List Int) (x1371 : Int) (x1372 : List Int) : Option ((Int × Int × (List Int)) ⊕ (Int × (List Int))) :=
  cond (decide (x1370 < x1355)) ((spec_l20Rd_pick (IntKind.wrap .i64 (x1355 - x1370)) x1282 x1371).bind fun (v1376 : Int × Int) => (R0 x1370 (IntKind.wrap .i64 (x1370 + (v1376.1))) x1355 x1282 (v1376.2) x1372).bind fun (v1380 : Int × (List Int)) => some (Sum.inl ((IntKind.wrap .i64 ((IntKind.wrap .i64 (x1370 + (v1376.1))) + 1)), (v1380.1), (v1380.2)))) (some (Sum.inr (x1371, x1372)))

def spec_l20Fill_n3 (R0 : Int → Int → Int → (List Int) → Int → (List Int) → Option (Int × (List Int))) (x1355 : Int) (x1279 : Int) (x1282 : List Int) (x1354 : Int) (x1358 : List Int) : Option ((Int × (List Int))) :=
  nloop (fun (s : Int × Int × (List Int)) => ((spec_l20Fill_n2 R0 x1355 s.1 x1282 s.2.1 s.2.2).map (Sum.elim (fun (t : Int × Int × (List Int)) => Sum.inl (t.1, t.2.1, t.2.2)) (fun (t : Int × (List Int)) => Sum.inr t)) : Option ((Int × Int × (List Int)) ⊕ ((Int × (List Int)))))) LL (x1279, x1354, x1358)

def spec_l20Fill_n4 (R0 : Int → Int → Int → (List Int) → Int → (List Int) → Option (Int × (List Int))) (x1355 : Int) (x1279 : Int) (x1282 : List Int) (x1354 : Int) (x1358 : List Int) : Option ((Int × (List Int))) :=
  (spec_l20Fill_n3 R0 x1355 x1279 x1282 x1354 x1358).map (fun (t : Int × (List Int)) => (t.1, t.2))

def spec_l20Fill_n5 (R0 : Int → Int → Int → (List Int) → Int → (List Int) → Option (Int × (List Int))) (x1355 : Int) : Option (Int) :=
  some (IntKind.wrap .i64 (x1355 + 1))

def spec_l20Fill_n6 (R0 : Int → Int → Int → (List Int) → Int → (List Int) → Option (Int × (List Int))) (x1280 : Int) (x1355 : Int) (x1397 : Int) (x1282 : List Int) (x1398 : Int) (x1399 : List Int) : Option ((Int × Int × (List Int)) ⊕ (Int × (List Int))) :=
  cond (decide (x1397 ≤ x1280)) ((spec_l20Rd_pick (IntKind.wrap .i64 ((IntKind.wrap .i64 (x1280 - x1397)) + 1)) x1282 x1398).bind fun (v1404 : Int × Int) => (R0 x1397 (IntKind.wrap .i64 (x1397 + (v1404.1))) x1355 x1282 (v1404.2) x1399).bind fun (v1408 : Int × (List Int)) => some (Sum.inl ((IntKind.wrap .i64 ((IntKind.wrap .i64 (x1397 + (v1404.1))) + 1)), (v1408.1), (v1408.2)))) (some (Sum.inr (x1398, x1399)))

def spec_l20Fill_n7 (R0 : Int → Int → Int → (List Int) → Int → (List Int) → Option (Int × (List Int))) (x1280 : Int) (x1355 : Int) (x1384 : Int) (x1282 : List Int) (x1371 : Int) (x1372 : List Int) : Option ((Int × (List Int))) :=
  nloop (fun (s : Int × Int × (List Int)) => ((spec_l20Fill_n6 R0 x1280 x1355 s.1 x1282 s.2.1 s.2.2).map (Sum.elim (fun (t : Int × Int × (List Int)) => Sum.inl (t.1, t.2.1, t.2.2)) (fun (t : Int × (List Int)) => Sum.inr t)) : Option ((Int × Int × (List Int)) ⊕ ((Int × (List Int)))))) LL (x1384, x1371, x1372)

def spec_l20Fill_n8 (R0 : Int → Int → Int → (List Int) → Int → (List Int) → Option (Int × (List Int))) (x1280 : Int) (x1355 : Int) (x1384 : Int) (x1282 : List Int) (x1371 : Int) (x1372 : List Int) : Option ((Int × (List Int))) :=
  (spec_l20Fill_n7 R0 x1280 x1355 x1384 x1282 x1371 x1372).map (fun (t : Int × (List Int)) => (t.1, t.2))

def spec_l20Fill_n9 (R0 : Int → Int → Int → (List Int) → Int → (List Int) → Option (Int × (List Int))) (x1280 : Int) (x1355 : Int) (x1282 : List Int) (x1371 : Int) (x1372 : List Int) : Option ((Int × (List Int))) :=
  (spec_l20Fill_n5 R0 x1355).bind (fun (t : Int) => spec_l20Fill_n8 R0 x1280 x1355 t x1282 x1371 x1372)

def spec_l20Fill_n10 (R0 : Int → Int → Int → (List Int) → Int → (List Int) → Option (Int × (List Int))) (x1280 : Int) (x1355 : Int) (x1279 : Int) (x1282 : List Int) (x1354 : Int) (x1358 : List Int) : Option ((Int × (List Int))) :=
  (spec_l20Fill_n4 R0 x1355 x1279 x1282 x1354 x1358).bind (fun (t : Int × (List Int)) => spec_l20Fill_n9 R0 x1280 x1355 x1282 t.1 t.2)

def spec_l20Fill_n11 (R0 : Int → Int → Int → (List Int) → Int → (List Int) → Option (Int × (List Int))) (x1279 : Int) (x1280 : Int) (x1281 : Int) (x1282 : List Int) (x1283 : Int) (x1284 : List Int) : Option ((Int × (List Int)) ⊕ (Int × (List Int))) :=
  (spec_l20Fill_n1 R0 x1279 x1280 x1281 x1282 x1283 x1284).bind (Sum.elim (fun (t : Int × Int × (List Int)) => (spec_l20Fill_n10 R0 x1280 t.1 x1279 x1282 t.2.1 t.2.2).map (fun (u : Int × (List Int)) => (Sum.inl (u.1, u.2)))) (fun e => some ((fun (t : Int × (List Int)) => (Sum.inr t)) e)))

def spec_l20Fill_one (R0 : Int → Int → Int → (List Int) → Int → (List Int) → Option (Int × (List Int))) (x1279 : Int) (x1280 : Int) (x1281 : Int) (x1282 : List Int) (x1283 : Int) (x1284 : List Int) : Option (Int × (List Int)) :=
  (spec_l20Fill_n11 R0 x1279 x1280 x1281 x1282 x1283 x1284).map (Sum.elim (fun (t : Int × (List Int)) => (t.1, t.2)) (fun (t : Int × (List Int)) => t))

def spec_l20Fill_knot : Nat → (Int → Int → Int → (List Int) → Int → (List Int) → Option (Int × (List Int)))
  | 0 => (fun _ _ _ _ _ _ => none)
  | n + 1 => (fun y0 y1 y2 y3 y4 y5 => spec_l20Fill_one (spec_l20Fill_knot n) y0 y1 y2 y3 y4 y5)

def spec_l20Fill_fuel (n : Nat) : Int → Int → Int → (List Int) → Int → (List Int) → Option (Int × (List Int)) := (spec_l20Fill_knot n)

@[irreducible] def spec_l20Fill (x1279 : Int) (x1280 : Int) (x1281 : Int) (x1282 : List Int) (x1283 : Int) (x1284 : List Int) : Option (Int × (List Int)) := spec_l20Fill_fuel RR x1279 x1280 x1281 x1282 x1283 x1284

def spec_l20Flat_n1 (x1232 : Int) (x1233 : List Int) (x1234 : Int) : Option ((Int × (List Int))) :=
  (spec_l20Rd_pick 3 x1233 x1234).bind fun (v1433 : Int × Int) => cond ((v1433.1) == 0) ((spec_l20Tree x1232 x1233 (v1433.2)).bind fun (v1437 : Int × (List Int)) => some ((v1437.1), (v1437.2))) ((spec_l20Rd_pick 7 x1233 (v1433.2)).bind fun (v1440 : Int × Int) => (mk (IntKind.wrap .i64 (1 + (v1440.1))) (IntKind.wrap .i64 (1 + (v1440.1)))).bind fun (v1444 : Nat) => (spec_l20Fill 1 (IntKind.wrap .i64 (1 + (v1440.1))) 0 x1233 (v1440.2) (List.replicate v1444 (0 : Int))).bind fun (v1446 : Int × (List Int)) => some ((v1446.1), (v1446.2)))

@[irreducible] def spec_l20Flat (x1232 : Int) (x1233 : List Int) (x1234 : Int) : Option (Int × (List Int)) :=
  spec_l20Flat_n1 x1232 x1233 x1234

def spec_l20Wild_n1 (x298 : Int) (x299 : List Int) (x300 : Int) : Option ((Int × (List Int))) :=
  (spec_l20Tree x298 x299 x300).bind fun (v1490 : Int × (List Int)) => (spec_l20Rd_pick 2 x299 (v1490.1)).bind fun (v1493 : Int × Int) => cond ((v1493.1) == 0) ((spec_TreeOk (v1490.2)).bind fun (v1497 : Bool) => cond v1497 ((spec_l20Order (((List.length (v1490.2) : Nat) : Int)) x299 (v1493.2)).bind fun (v1499 : Int × (List Int)) => (spec_PutInOrder (v1490.2) (v1499.2)).bind fun (v1502 : Bool × (List Int)) => some ((v1499.1), (v1502.2))) ((spec_l20Rd_pick 3 x299 (v1493.2)).bind fun (v1505 : Int × Int) => cond ((v1505.1) == 0) ((spec_l20Flat x298 x299 (v1505.2)).bind fun (v1509 : Int × (List Int)) => some ((v1509.1), (v1509.2))) (some ((v1505.2), (v1490.2))))) ((spec_l20Rd_pick 3 x299 (v1493.2)).bind fun (v1512 : Int × Int) => cond ((v1512.1) == 0) ((spec_l20Flat x298 x299 (v1512.2)).bind fun (v1516 : Int × (List Int)) => some ((v1516.1), (v1516.2))) (some ((v1512.2), (v1490.2))))

@[irreducible] def spec_l20Wild (x298 : Int) (x299 : List Int) (x300 : Int) : Option (Int × (List Int)) :=
  spec_l20Wild_n1 x298 x299 x300

def spec_DrawStarOk_n1 (x10 : List Int) : Option (((List Int))) :=
  (spec_l20Open x10).bind fun (v32 : List Int) => some v32

def spec_DrawStarOk_n2 (x32 : List Int) : Option ((Bool × Int)) :=
  (spec_l20Rd_pick 2 x32 0).bind fun (v190 : Int × Int) => some (((v190.1) == 0), (v190.2))

def spec_DrawStarOk_n3 (x32 : List Int) (x192 : Int) : Option ((Int × Int × Int × (List Int))) :=
  (spec_l20Rd_pick 7 x32 x192).bind fun (v204 : Int × Int) => (mk (IntKind.wrap .i64 (1 + (v204.1))) (IntKind.wrap .i64 (1 + (v204.1)))).bind fun (v208 : Nat) => (spec_l20Rd_pick (IntKind.wrap .i64 (1 + (v204.1))) x32 (v204.2)).bind fun (v210 : Int × Int) => some ((IntKind.wrap .i64 (1 + (v204.1))), (IntKind.wrap .i64 (1 + (v210.1))), (v210.2), (List.replicate v208 (0 : Int)))

def spec_DrawStarOk_n4 : Option (Unit) :=
  some ()

def spec_DrawStarOk_n5 (x207 : Int) (x213 : Int) (x229 : Int) (x230 : List Int) : Option ((Int × (List Int)) ⊕ ((List Int))) :=
  cond (decide (x229 < x207)) (cond ((IntKind.wrap .i64 (x229 + 1)) != x213) ((inb x229 (List.length x230)).bind fun (v240 : Nat) => some (Sum.inl ((IntKind.wrap .i64 (x229 + 1)), (x230.set v240 x213)))) (some (Sum.inl ((IntKind.wrap .i64 (x229 + 1)), x230)))) (some (Sum.inr x230))

def spec_DrawStarOk_n6 (x207 : Int) (x213 : Int) (x209 : List Int) : Option (((List Int))) :=
  nloop (fun (s : Int × (List Int)) => ((spec_DrawStarOk_n5 x207 x213 s.1 s.2).map (Sum.elim (fun (t : Int × (List Int)) => Sum.inl (t.1, t.2)) (fun (t : (List Int)) => Sum.inr t)) : Option ((Int × (List Int)) ⊕ (((List Int)))))) LL (0, x209)

def spec_DrawStarOk_n7 (x207 : Int) (x213 : Int) (x209 : List Int) : Option (((List Int))) :=
  (spec_DrawStarOk_n6 x207 x213 x209).map (fun (t : (List Int)) => t)

def spec_DrawStarOk_n8 (x207 : Int) (x213 : Int) (x209 : List Int) : Option (((List Int))) :=
  (spec_DrawStarOk_n4).bind (fun (t : Unit) => spec_DrawStarOk_n7 x207 x213 x209)

def spec_DrawStarOk_n9 (x207 : Int) (x213 : Int) (x32 : List Int) (x212 : Int) (x230 : List Int) : Option (((List Int))) :=
  cond (decide (x207 > 1)) ((spec_l20Rd_pick 2 x32 x212).bind fun (v281 : Int × Int) => cond ((v281.1) == 0) ((spec_l20Rd_pick (IntKind.wrap .i64 (x207 - 1)) x32 (v281.2)).bind fun (v286 : Int × Int) => (rem (IntKind.wrap .i64 (x213 + (v286.1))) x207).bind fun (v290 : Int) => (inb (IntKind.wrap .i64 (x213 - 1)) (List.length x230)).bind fun (v293 : Nat) => (inb v290 (List.length (x230.set v293 (IntKind.wrap .i64 (v290 + 1))))).bind fun (v295 : Nat) => some ((x230.set v293 (IntKind.wrap .i64 (v290 + 1))).set v295 0)) (some x230)) (some x230)

def spec_DrawStarOk_n10 (x207 : Int) (x213 : Int) (x32 : List Int) (x212 : Int) (x209 : List Int) : Option (((List Int))) :=
  (spec_DrawStarOk_n8 x207 x213 x209).bind (fun (t : (List Int)) => spec_DrawStarOk_n9 x207 x213 x32 x212 t)

def spec_DrawStarOk_n11 (x32 : List Int) (x192 : Int) : Option (((List Int))) :=
  (spec_DrawStarOk_n3 x32 x192).bind (fun (t : Int × Int × Int × (List Int)) => spec_DrawStarOk_n10 t.1 t.2.1 x32 t.2.2.1 t.2.2.2)

def spec_DrawStarOk_n12 : Option (Unit) :=
  some ()

def spec_DrawStarOk_n13 (x193 : Bool) (x32 : List Int) (x192 : Int) : Option (Unit ⊕ ((List Int))) :=
  cond x193 ((spec_DrawStarOk_n11 x32 x192).map (fun (t : (List Int)) => (Sum.inr t))) ((spec_DrawStarOk_n12).map (fun (t : Unit) => (Sum.inl ())))

def spec_DrawStarOk_n14 (x32 : List Int) : Option (Int ⊕ ((List Int))) :=
  (spec_DrawStarOk_n2 x32).bind (fun (t : Bool × Int) => (spec_DrawStarOk_n13 t.1 x32 t.2).map (Sum.elim (fun (u : Unit) => (Sum.inl t.2)) (fun (u : (List Int)) => (Sum.inr u))))

def spec_DrawStarOk_n15 (x32 : List Int) (x192 : Int) : Option (((List Int))) :=
  (spec_l20Wild 9 x32 x192).bind fun (v1524 : Int × (List Int)) => some (v1524.2)

def spec_DrawStarOk_n16 (x32 : List Int) : Option (((List Int))) :=
  (spec_DrawStarOk_n14 x32).bind (Sum.elim (fun (t : Int) => spec_DrawStarOk_n15 x32 t) (fun e => some ((fun (t : (List Int)) => t) e)))

def spec_DrawStarOk_n17 (x10 : List Int) : Option (((List Int))) :=
  (spec_DrawStarOk_n1 x10).bind (fun (t : (List Int)) => spec_DrawStarOk_n16 t)

@[irreducible] def spec_DrawStarOk (x10 : List Int) : Option ((List Int)) :=
  spec_DrawStarOk_n17 x10

def impl_oneRoot_n1 : Option (Unit) :=
  some ()

def impl_oneRoot_n2 (x1539 : List Int) : Option (Int) :=
  some (((List.length x1539 : Nat) : Int))

def impl_oneRoot_n3 (x1539 : List Int) (x1561 : Int) (x1540 : Int) (x1562 : Int) : Option ((Int × Int) ⊕ Bool ⊕ Int) :=
  cond (decide (x1562 < x1540)) ((idx x1539 x1562).bind fun (v1573 : Int) => cond (decide (v1573 < 0)) (some (Sum.inr (Sum.inl false))) (cond (decide (v1573 > (((List.length x1539 : Nat) : Int)))) (some (Sum.inr (Sum.inl false))) (cond (v1573 == 0) (some (Sum.inl ((IntKind.wrap .i64 (x1561 + 1)), (IntKind.wrap .i64 (x1562 + 1))))) (some (Sum.inl (x1561, (IntKind.wrap .i64 (x1562 + 1)))))))) (some (Sum.inr (Sum.inr x1561)))

def impl_oneRoot_n4 (x1539 : List Int) (x1540 : Int) : Option (Bool ⊕ Int) :=
  nloop (fun (s : Int × Int) => ((impl_oneRoot_n3 x1539 s.1 x1540 s.2).map (Sum.elim (fun (t : Int × Int) => Sum.inl (t.1, t.2)) (Sum.elim (fun (t : Bool) => Sum.inr (Sum.inl t)) (fun (t : Int) => Sum.inr (Sum.inr t)))) : Option ((Int × Int) ⊕ (Bool ⊕ Int)))) LL (0, 0)

def impl_oneRoot_n5 (x1539 : List Int) (x1540 : Int) : Option (Int ⊕ Bool) :=
  (impl_oneRoot_n4 x1539 x1540).map (Sum.elim (fun (t : Bool) => (Sum.inr t)) (fun (t : Int) => (Sum.inl t)))

def impl_oneRoot_n6 (x1539 : List Int) : Option (Int ⊕ Bool) :=
  (impl_oneRoot_n2 x1539).bind (fun (t : Int) => impl_oneRoot_n5 x1539 t)

def impl_oneRoot_n7 (x1561 : Int) : Option (Bool) :=
  some (x1561 == 1)

def impl_oneRoot_n8 (x1539 : List Int) : Option (Bool) :=
  (impl_oneRoot_n6 x1539).bind (Sum.elim (fun (t : Int) => impl_oneRoot_n7 t) (fun e => some ((fun (t : Bool) => t) e)))

def impl_oneRoot_n9 (x1539 : List Int) : Option (Bool) :=
  (impl_oneRoot_n1).bind (fun (t : Unit) => impl_oneRoot_n8 x1539)

@[irreducible] def impl_oneRoot (x1539 : List Int) : Option (Bool) :=
  impl_oneRoot_n9 x1539

def impl_walker_up_n1 (x1595 : List Int) (x1596 : Int) (x1597 : Int) : Option ((Bool × Int × Int)) :=
  (idx x1595 (IntKind.wrap .i64 (x1596 - 1))).bind fun (v1615 : Int) => cond (v1615 == 0) (some (false, x1596, x1597)) (some (true, v1615, (IntKind.wrap .i64 (x1597 + 1))))

@[irreducible] def impl_walker_up (x1595 : List Int) (x1596 : Int) (x1597 : Int) : Option (Bool × Int × Int) :=
  impl_walker_up_n1 x1595 x1596 x1597

def impl_stepsToRoot_n1 : Option (Unit) :=
  some ()

def impl_stepsToRoot_n2 (x1593 : List Int) (x1631 : Int) (x1632 : Int) : Option ((Int × Int) ⊕ (Int × Bool) ⊕ (Int × Int)) :=
  (impl_walker_up x1593 x1631 x1632).bind fun (v1637 : Bool × Int × Int) => cond (v1637.1) (cond (decide ((v1637.2.2) ≥ (((List.length x1593 : Nat) : Int)))) (some (Sum.inr (Sum.inl (0, false)))) (some (Sum.inl ((v1637.2.1), (v1637.2.2))))) (some (Sum.inr (Sum.inr ((v1637.2.1), (v1637.2.2)))))

def impl_stepsToRoot_n3 (x1593 : List Int) (x1594 : Int) : Option ((Int × Bool) ⊕ (Int × Int)) :=
  nloop (fun (s : Int × Int) => ((impl_stepsToRoot_n2 x1593 s.1 s.2).map (Sum.elim (fun (t : Int × Int) => Sum.inl (t.1, t.2)) (Sum.elim (fun (t : Int × Bool) => Sum.inr (Sum.inl t)) (fun (t : Int × Int) => Sum.inr (Sum.inr t)))) : Option ((Int × Int) ⊕ ((Int × Bool) ⊕ (Int × Int))))) LL (x1594, 0)

def impl_stepsToRoot_n4 (x1593 : List Int) (x1594 : Int) : Option ((Int × Int) ⊕ (Int × Bool)) :=
  (impl_stepsToRoot_n3 x1593 x1594).map (Sum.elim (fun (t : Int × Bool) => (Sum.inr t)) (fun (t : Int × Int) => (Sum.inl (t.1, t.2))))

def impl_stepsToRoot_n5 (x1640 : Int) : Option ((Int × Bool)) :=
  some (x1640, true)

def impl_stepsToRoot_n6 (x1593 : List Int) (x1594 : Int) : Option ((Int × Bool)) :=
  (impl_stepsToRoot_n4 x1593 x1594).bind (Sum.elim (fun (t : Int × Int) => impl_stepsToRoot_n5 t.2) (fun e => some ((fun (t : Int × Bool) => t) e)))

def impl_stepsToRoot_n7 (x1593 : List Int) (x1594 : Int) : Option ((Int × Bool)) :=
  (impl_stepsToRoot_n1).bind (fun (t : Unit) => impl_stepsToRoot_n6 x1593 x1594)

@[irreducible] def impl_stepsToRoot (x1593 : List Int) (x1594 : Int) : Option (Int × Bool) :=
  impl_stepsToRoot_n7 x1593 x1594

def impl_TreeOk_n1 (x1534 : List Int) : Option (Unit ⊕ Bool) :=
  cond (decide ((((List.length x1534 : Nat) : Int)) < 1)) (some (Sum.inr false)) (cond (decide ((((List.length x1534 : Nat) : Int)) > 8)) (some (Sum.inr false)) ((impl_oneRoot x1534).bind fun (v1586 : Bool) => cond (!v1586) (some (Sum.inr false)) (some (Sum.inl ()))))

def impl_TreeOk_n2 (x1534 : List Int) : Option (Int) :=
  some (((List.length x1534 : Nat) : Int))

def impl_TreeOk_n3 (x1534 : List Int) (x1588 : Int) (x1656 : Int) : Option (Int ⊕ Bool ⊕ Unit) :=
  cond (decide (x1656 < x1588)) ((impl_stepsToRoot x1534 (IntKind.wrap .i64 (x1656 + 1))).bind fun (v1667 : Int × Bool) => cond (!(v1667.2)) (some (Sum.inr (Sum.inl false))) (some (Sum.inl (IntKind.wrap .i64 (x1656 + 1))))) (some (Sum.inr (Sum.inr ())))

def impl_TreeOk_n4 (x1534 : List Int) (x1588 : Int) : Option (Bool ⊕ Unit) :=
  nloop (fun (s : Int) => ((impl_TreeOk_n3 x1534 x1588 s).map (Sum.elim (fun (t : Int) => Sum.inl t) (Sum.elim (fun (t : Bool) => Sum.inr (Sum.inl t)) (fun (t : Unit) => Sum.inr (Sum.inr t)))) : Option ((Int) ⊕ (Bool ⊕ Unit)))) LL 0

def impl_TreeOk_n5 (x1534 : List Int) (x1588 : Int) : Option (Unit ⊕ Bool) :=
  (impl_TreeOk_n4 x1534 x1588).map (Sum.elim (fun (t : Bool) => (Sum.inr t)) (fun (t : Unit) => (Sum.inl ())))

def impl_TreeOk_n6 (x1534 : List Int) : Option (Unit ⊕ Bool) :=
  (impl_TreeOk_n2 x1534).bind (fun (t : Int) => impl_TreeOk_n5 x1534 t)

def impl_TreeOk_n7 : Option (Bool) :=
  some true

def impl_TreeOk_n8 (x1534 : List Int) : Option (Bool) :=
  (impl_TreeOk_n6 x1534).bind (Sum.elim (fun (t : Unit) => impl_TreeOk_n7) (fun e => some ((fun (t : Bool) => t) e)))

def impl_TreeOk_n9 (x1534 : List Int) : Option (Bool) :=
  (impl_TreeOk_n1 x1534).bind (Sum.elim (fun (t : Unit) => impl_TreeOk_n8 x1534) (fun e => some ((fun (t : Bool) => t) e)))

@[irreducible] def impl_TreeOk (x1534 : List Int) : Option (Bool) :=
  impl_TreeOk_n9 x1534

def impl_arcBetween_n1 (x1688 : Int) (x1689 : Int) : Option ((Bool × Int × Int)) :=
  cond (decide (x1688 < 1)) (some (false, 0, 0)) (cond (decide (x1689 < 1)) (some (false, 0, 0)) (cond (x1688 == x1689) (some (false, 0, 0)) (some (true, (imin x1688 x1689), (imax x1688 x1689)))))

@[irreducible] def impl_arcBetween (x1688 : Int) (x1689 : Int) : Option (Bool × Int × Int) :=
  impl_arcBetween_n1 x1688 x1689

def impl_arcsOf_n1 (x1677 : List Int) : Option (((List (Int × Int × Unit)))) :=
  (mk 0 (((List.length x1677 : Nat) : Int))).bind fun (v1680 : Nat) => some (List.replicate v1680 ((0 : Int), ((0 : Int), ())))

def impl_arcsOf_n2 (x1677 : List Int) : Option (Int) :=
  some (((List.length x1677 : Nat) : Int))

def impl_arcsOf_n3 (x1677 : List Int) (x1682 : Int) (x1734 : Int) (x1735 : List (Int × Int × Unit)) : Option ((Int × (List (Int × Int × Unit))) ⊕ ((List (Int × Int × Unit)))) :=
  cond (decide (x1734 < x1682)) ((idx x1677 x1734).bind fun (v1752 : Int) => (impl_arcBetween (IntKind.wrap .i64 (x1734 + 1)) v1752).bind fun (v1754 : Bool × Int × Int) => cond (v1754.1) ((room ((List.length x1735) + List.length ([((v1754.2.1), ((v1754.2.2), ()))]))).bind fun (v1762 : Unit) => some (Sum.inl ((IntKind.wrap .i64 (x1734 + 1)), (x1735 ++ ([((v1754.2.1), ((v1754.2.2), ()))]))))) (some (Sum.inl ((IntKind.wrap .i64 (x1734 + 1)), x1735)))) (some (Sum.inr x1735))

def impl_arcsOf_n4 (x1677 : List Int) (x1682 : Int) (x1681 : List (Int × Int × Unit)) : Option (((List (Int × Int × Unit)))) :=
  nloop (fun (s : Int × (List (Int × Int × Unit))) => ((impl_arcsOf_n3 x1677 x1682 s.1 s.2).map (Sum.elim (fun (t : Int × (List (Int × Int × Unit))) => Sum.inl (t.1, t.2)) (fun (t : (List (Int × Int × Unit))) => Sum.inr t)) : Option ((Int × (List (Int × Int × Unit))) ⊕ (((List (Int × Int × Unit))))))) LL (0, x1681)

def impl_arcsOf_n5 (x1677 : List Int) (x1682 : Int) (x1681 : List (Int × Int × Unit)) : Option (((List (Int × Int × Unit)))) :=
  (impl_arcsOf_n4 x1677 x1682 x1681).map (fun (t : (List (Int × Int × Unit))) => t)

def impl_arcsOf_n6 (x1677 : List Int) (x1681 : List (Int × Int × Unit)) : Option (((List (Int × Int × Unit)))) :=
  (impl_arcsOf_n2 x1677).bind (fun (t : Int) => impl_arcsOf_n5 x1677 t x1681)

def impl_arcsOf_n7 (x1735 : List (Int × Int × Unit)) : Option (((List (Int × Int × Unit)))) :=
  some x1735

def impl_arcsOf_n8 (x1677 : List Int) (x1681 : List (Int × Int × Unit)) : Option (((List (Int × Int × Unit)))) :=
  (impl_arcsOf_n6 x1677 x1681).bind (fun (t : (List (Int × Int × Unit))) => impl_arcsOf_n7 t)

def impl_arcsOf_n9 (x1677 : List Int) : Option (((List (Int × Int × Unit)))) :=
  (impl_arcsOf_n1 x1677).bind (fun (t : (List (Int × Int × Unit))) => impl_arcsOf_n8 x1677 t)

@[irreducible] def impl_arcsOf (x1677 : List Int) : Option ((List (Int × Int × Unit))) :=
  impl_arcsOf_n9 x1677

def impl_countEnds_n1 : Option (Unit) :=
  some ()

def impl_countEnds_n2 (x1769 : List (Int × Int × Unit)) : Option (Int) :=
  some (((List.length x1769 : Nat) : Int))

def impl_countEnds_n3 (x1769 : List (Int × Int × Unit)) (x1771 : Int) (x1815 : Int) (x1816 : List Int) : Option ((Int × (List Int)) ⊕ ((List Int))) :=
  cond (decide (x1815 < x1771)) ((idx x1769 x1815).bind fun (v1840 : Int × Int × Unit) => (same (List.length x1816) 9).bind fun (v1845 : Unit) => (inb (v1840.1) 9).bind fun (v1846 : Nat) => (x1816[v1846]?).bind fun (v1847 : Int) => (same (List.length x1816) 9).bind fun (v1849 : Unit) => (inb (v1840.1) 9).bind fun (v1850 : Nat) => (same (List.length (x1816.set v1850 (IntKind.wrap .i64 (v1847 + 1)))) 9).bind fun (v1852 : Unit) => (inb ((v1840.2).1) 9).bind fun (v1853 : Nat) => ((x1816.set v1850 (IntKind.wrap .i64 (v1847 + 1)))[v1853]?).bind fun (v1854 : Int) => (same (List.length (x1816.set v1850 (IntKind.wrap .i64 (v1847 + 1)))) 9).bind fun (v1856 : Unit) => (inb ((v1840.2).1) 9).bind fun (v1857 : Nat) => some (Sum.inl ((IntKind.wrap .i64 (x1815 + 1)), ((x1816.set v1850 (IntKind.wrap .i64 (v1847 + 1))).set v1857 (IntKind.wrap .i64 (v1854 + 1)))))) (some (Sum.inr x1816))

def impl_countEnds_n4 (x1769 : List (Int × Int × Unit)) (x1771 : Int) : Option (((List Int))) :=
  nloop (fun (s : Int × (List Int)) => ((impl_countEnds_n3 x1769 x1771 s.1 s.2).map (Sum.elim (fun (t : Int × (List Int)) => Sum.inl (t.1, t.2)) (fun (t : (List Int)) => Sum.inr t)) : Option ((Int × (List Int)) ⊕ (((List Int)))))) LL (0, (List.replicate 9 (0 : Int)))

def impl_countEnds_n5 (x1769 : List (Int × Int × Unit)) (x1771 : Int) : Option (((List Int))) :=
  (impl_countEnds_n4 x1769 x1771).map (fun (t : (List Int)) => t)

def impl_countEnds_n6 (x1769 : List (Int × Int × Unit)) : Option (((List Int))) :=
  (impl_countEnds_n2 x1769).bind (fun (t : Int) => impl_countEnds_n5 x1769 t)

def impl_countEnds_n7 (x1816 : List Int) : Option ((Int × Int × Int × Int × Int × Int × Int × Int × Int)) :=
  (same (List.length x1816) 9).bind fun (v1871 : Unit) => (same (List.length (List.replicate 9 (0 : Int))) 9).bind fun (v1881 : Unit) => some ((x1816.getD 0 (0 : Int)), (x1816.getD 1 (0 : Int)), (x1816.getD 2 (0 : Int)), (x1816.getD 3 (0 : Int)), (x1816.getD 4 (0 : Int)), (x1816.getD 5 (0 : Int)), (x1816.getD 6 (0 : Int)), (x1816.getD 7 (0 : Int)), (x1816.getD 8 (0 : Int)))

def impl_countEnds_n8 (x1769 : List (Int × Int × Unit)) : Option ((Int × Int × Int × Int × Int × Int × Int × Int × Int)) :=
  (impl_countEnds_n6 x1769).bind (fun (t : (List Int)) => impl_countEnds_n7 t)

def impl_countEnds_n9 (x1769 : List (Int × Int × Unit)) : Option ((Int × Int × Int × Int × Int × Int × Int × Int × Int)) :=
  (impl_countEnds_n1).bind (fun (t : Unit) => impl_countEnds_n8 x1769)

@[irreducible] def impl_countEnds (x1769 : List (Int × Int × Unit)) : Option (Int × Int × Int × Int × Int × Int × Int × Int × Int) :=
  impl_countEnds_n9 x1769

def slices_Clone_int_int_n1 (x1949 : List Int) : Option (((List Int))) :=
  (sure (!(List.isEmpty x1949))).bind fun (v1955 : Unit) => (room ((List.length ([] : List Int)) + List.length x1949)).bind fun (v1957 : Unit) => some (([] : List Int) ++ x1949)

@[irreducible] def slices_Clone_int_int (x1949 : List Int) : Option ((List Int)) :=
  slices_Clone_int_int_n1 x1949

def impl_EndsOf_n1 (x1533 : List Int) : Option (((List Int))) :=
  (impl_TreeOk x1533).bind fun (v1960 : Bool) => cond (!v1960) (some ([] : List Int)) ((impl_arcsOf x1533).bind fun (v1962 : List (Int × Int × Unit)) => (impl_countEnds v1962).bind fun (v1963 : Int × Int × Int × Int × Int × Int × Int × Int × Int) => (same (List.length (List.replicate 9 (0 : Int))) 9).bind fun (v1973 : Unit) => (same (List.length ([(v1963.1), (v1963.2.1), (v1963.2.2.1), (v1963.2.2.2.1), (v1963.2.2.2.2.1), (v1963.2.2.2.2.2.1), (v1963.2.2.2.2.2.2.1), (v1963.2.2.2.2.2.2.2.1), (v1963.2.2.2.2.2.2.2.2)])) 9).bind fun (v1976 : Unit) => (inc (IntKind.wrap .i64 ((((List.length x1533 : Nat) : Int)) + 1)) (List.length ([(v1963.1), (v1963.2.1), (v1963.2.2.1), (v1963.2.2.2.1), (v1963.2.2.2.2.1), (v1963.2.2.2.2.2.1), (v1963.2.2.2.2.2.2.1), (v1963.2.2.2.2.2.2.2.1), (v1963.2.2.2.2.2.2.2.2)]))).bind fun (v1980 : Nat) => (inc 1 v1980).bind fun (v1981 : Nat) => (slices_Clone_int_int ((([(v1963.1), (v1963.2.1), (v1963.2.2.1), (v1963.2.2.2.1), (v1963.2.2.2.2.1), (v1963.2.2.2.2.2.1), (v1963.2.2.2.2.2.2.1), (v1963.2.2.2.2.2.2.2.1), (v1963.2.2.2.2.2.2.2.2)]).take v1980).drop v1981)).bind fun (v1984 : List Int) => some v1984)

@[irreducible] def impl_EndsOf (x1533 : List Int) : Option ((List Int)) :=
  impl_EndsOf_n1 x1533

def slices_Index_int_int_n1 : Option (Unit) :=
  some ()

def slices_Index_int_int_n2 (x1991 : List Int) : Option (Int) :=
  some (((List.length x1991 : Nat) : Int))

def slices_Index_int_int_n3 (x1991 : List Int) (x1992 : Int) (x1993 : Int) (x2003 : Int) : Option (Int ⊕ Int ⊕ Unit) :=
  cond (decide (x2003 < x1993)) ((idx x1991 x2003).bind fun (v2010 : Int) => cond (x1992 == v2010) (some (Sum.inr (Sum.inl x2003))) (some (Sum.inl (IntKind.wrap .i64 (x2003 + 1))))) (some (Sum.inr (Sum.inr ())))

def slices_Index_int_int_n4 (x1991 : List Int) (x1992 : Int) (x1993 : Int) : Option (Int ⊕ Unit) :=
  nloop (fun (s : Int) => ((slices_Index_int_int_n3 x1991 x1992 x1993 s).map (Sum.elim (fun (t : Int) => Sum.inl t) (Sum.elim (fun (t : Int) => Sum.inr (Sum.inl t)) (fun (t : Unit) => Sum.inr (Sum.inr t)))) : Option ((Int) ⊕ (Int ⊕ Unit)))) LL 0

def slices_Index_int_int_n5 (x1991 : List Int) (x1992 : Int) (x1993 : Int) : Option (Unit ⊕ Int) :=
  (slices_Index_int_int_n4 x1991 x1992 x1993).map (Sum.elim (fun (t : Int) => (Sum.inr t)) (fun (t : Unit) => (Sum.inl ())))

def slices_Index_int_int_n6 (x1991 : List Int) (x1992 : Int) : Option (Unit ⊕ Int) :=
  (slices_Index_int_int_n2 x1991).bind (fun (t : Int) => slices_Index_int_int_n5 x1991 x1992 t)

def slices_Index_int_int_n7 : Option (Int) :=
  some (-1)

def slices_Index_int_int_n8 (x1991 : List Int) (x1992 : Int) : Option (Int) :=
  (slices_Index_int_int_n6 x1991 x1992).bind (Sum.elim (fun (t : Unit) => slices_Index_int_int_n7) (fun e => some ((fun (t : Int) => t) e)))

def slices_Index_int_int_n9 (x1991 : List Int) (x1992 : Int) : Option (Int) :=
  (slices_Index_int_int_n1).bind (fun (t : Unit) => slices_Index_int_int_n8 x1991 x1992)

@[irreducible] def slices_Index_int_int (x1991 : List Int) (x1992 : Int) : Option (Int) :=
  slices_Index_int_int_n9 x1991 x1992

def slices_Contains_int_int_n1 (x1989 : List Int) (x1990 : Int) : Option (Bool) :=
  (slices_Index_int_int x1989 x1990).bind fun (v2016 : Int) => some (decide (v2016 ≥ 0))

@[irreducible] def slices_Contains_int_int (x1989 : List Int) (x1990 : Int) : Option (Bool) :=
  slices_Contains_int_int_n1 x1989 x1990

def impl_StarOk_n1 (x1532 : List Int) : Option (Bool) :=
  (impl_EndsOf x1532).bind fun (v2019 : List Int) => (slices_Contains_int_int v2019 (IntKind.wrap .i64 ((((List.length x1532 : Nat) : Int)) - 1))).bind fun (v2022 : Bool) => some v2022

@[irreducible] def impl_StarOk (x1532 : List Int) : Option (Bool) :=
  impl_StarOk_n1 x1532

def spec_EndsOf_n1 : Option (Unit) :=
  some ()

def spec_EndsOf_n2 : Option (Unit) :=
  some ()

def spec_EndsOf_n3 (x2029 : List Int) (x2079 : Int) (x2080 : List Int) : Option (Unit ⊕ ((List Int))) :=
  cond (decide (x2079 < (((List.length x2029 : Nat) : Int)))) ((spec_TreeOk x2029).bind fun (v2083 : Bool) => cond v2083 (some (Sum.inl ())) (some (Sum.inr x2080))) (some (Sum.inr x2080))

def spec_EndsOf_n4 (x2029 : List Int) (x2079 : Int) : Option (Int) :=
  (idx x2029 x2079).bind fun (v2084 : Int) => cond (decide (v2084 > 0)) (some 1) (some 0)

def spec_EndsOf_n5 : Option (Unit) :=
  some ()

def spec_EndsOf_n6 (x2029 : List Int) (x2079 : Int) (x2105 : Int) (x2106 : Int) : Option ((Int × Int) ⊕ Int) :=
  cond (decide (x2106 < (((List.length x2029 : Nat) : Int)))) ((idx x2029 x2106).bind fun (v2117 : Int) => cond (v2117 == (IntKind.wrap .i64 (x2079 + 1))) (some (Sum.inl ((IntKind.wrap .i64 (x2105 + 1)), (IntKind.wrap .i64 (x2106 + 1))))) (some (Sum.inl (x2105, (IntKind.wrap .i64 (x2106 + 1)))))) (some (Sum.inr x2105))

def spec_EndsOf_n7 (x2029 : List Int) (x2079 : Int) (x2086 : Int) : Option (Int) :=
  nloop (fun (s : Int × Int) => ((spec_EndsOf_n6 x2029 x2079 s.1 s.2).map (Sum.elim (fun (t : Int × Int) => Sum.inl (t.1, t.2)) (fun (t : Int) => Sum.inr t)) : Option ((Int × Int) ⊕ (Int)))) LL (x2086, 0)

def spec_EndsOf_n8 (x2029 : List Int) (x2079 : Int) (x2086 : Int) : Option (Int) :=
  (spec_EndsOf_n7 x2029 x2079 x2086).map (fun (t : Int) => t)

def spec_EndsOf_n9 (x2029 : List Int) (x2079 : Int) (x2086 : Int) : Option (Int) :=
  (spec_EndsOf_n5).bind (fun (t : Unit) => spec_EndsOf_n8 x2029 x2079 x2086)

def spec_EndsOf_n10 (x2105 : Int) (x2080 : List Int) : Option (((List Int))) :=
  (room ((List.length x2080) + List.length ([x2105]))).bind fun (v2127 : Unit) => some (x2080 ++ ([x2105]))

def spec_EndsOf_n11 (x2029 : List Int) (x2079 : Int) (x2086 : Int) (x2080 : List Int) : Option (((List Int))) :=
  (spec_EndsOf_n9 x2029 x2079 x2086).bind (fun (t : Int) => spec_EndsOf_n10 t x2080)

def spec_EndsOf_n12 (x2029 : List Int) (x2079 : Int) (x2080 : List Int) : Option (((List Int))) :=
  (spec_EndsOf_n4 x2029 x2079).bind (fun (t : Int) => spec_EndsOf_n11 x2029 x2079 t x2080)

def spec_EndsOf_n13 (x2029 : List Int) (x2079 : Int) (x2080 : List Int) : Option (((List Int))) :=
  (spec_EndsOf_n12 x2029 x2079 x2080).map (fun (t : (List Int)) => t)

def spec_EndsOf_n14 (x2079 : Int) : Option (Int) :=
  some (IntKind.wrap .i64 (x2079 + 1))

def spec_EndsOf_n15 (x2029 : List Int) (x2079 : Int) (x2080 : List Int) : Option ((Int × (List Int))) :=
  (spec_EndsOf_n13 x2029 x2079 x2080).bind (fun (t : (List Int)) => (spec_EndsOf_n14 x2079).map (fun (u : Int) => (u, t)))

def spec_EndsOf_n16 (x2029 : List Int) (x2079 : Int) (x2080 : List Int) : Option ((Int × (List Int)) ⊕ ((List Int))) :=
  (spec_EndsOf_n3 x2029 x2079 x2080).bind (Sum.elim (fun (t : Unit) => (spec_EndsOf_n15 x2029 x2079 x2080).map (fun (t : Int × (List Int)) => (Sum.inl (t.1, t.2)))) (fun e => some ((fun (t : (List Int)) => (Sum.inr t)) e)))

def spec_EndsOf_n17 (x2029 : List Int) : Option (((List Int))) :=
  nloop (fun (s : Int × (List Int)) => ((spec_EndsOf_n16 x2029 s.1 s.2).map (Sum.elim (fun (t : Int × (List Int)) => Sum.inl (t.1, t.2)) (fun (t : (List Int)) => Sum.inr t)) : Option ((Int × (List Int)) ⊕ (((List Int)))))) LL (0, ([] : List Int))

def spec_EndsOf_n18 (x2029 : List Int) : Option (((List Int))) :=
  (spec_EndsOf_n17 x2029).map (fun (t : (List Int)) => t)

def spec_EndsOf_n19 (x2029 : List Int) : Option (((List Int))) :=
  (spec_EndsOf_n2).bind (fun (t : Unit) => spec_EndsOf_n18 x2029)

def spec_EndsOf_n20 (x2080 : List Int) : Option (((List Int))) :=
  some x2080

def spec_EndsOf_n21 (x2029 : List Int) : Option (((List Int))) :=
  (spec_EndsOf_n19 x2029).bind (fun (t : (List Int)) => spec_EndsOf_n20 t)

def spec_EndsOf_n22 (x2029 : List Int) : Option (((List Int))) :=
  (spec_EndsOf_n1).bind (fun (t : Unit) => spec_EndsOf_n21 x2029)

@[irreducible] def spec_EndsOf (x2029 : List Int) : Option ((List Int)) :=
  spec_EndsOf_n22 x2029

def spec_StarOk_n1 (x2028 : List Int) : Option (((List Int))) :=
  (spec_EndsOf x2028).bind fun (v2130 : List Int) => some v2130

def spec_StarOk_n2 : Option (Unit) :=
  some ()

def spec_StarOk_n3 (x2028 : List Int) (x2148 : Int) (x2130 : List Int) : Option (Int ⊕ Bool ⊕ Unit) :=
  cond (decide (x2148 < (((List.length x2130 : Nat) : Int)))) ((inb x2148 (List.length x2130)).bind fun (v2160 : Nat) => (x2130[v2160]?).bind fun (v2161 : Int) => cond (v2161 == (IntKind.wrap .i64 ((((List.length x2028 : Nat) : Int)) - 1))) (some (Sum.inr (Sum.inl true))) (some (Sum.inl (IntKind.wrap .i64 (x2148 + 1))))) (some (Sum.inr (Sum.inr ())))

def spec_StarOk_n4 (x2028 : List Int) (x2130 : List Int) : Option (Bool ⊕ Unit) :=
  nloop (fun (s : Int) => ((spec_StarOk_n3 x2028 s x2130).map (Sum.elim (fun (t : Int) => Sum.inl t) (Sum.elim (fun (t : Bool) => Sum.inr (Sum.inl t)) (fun (t : Unit) => Sum.inr (Sum.inr t)))) : Option ((Int) ⊕ (Bool ⊕ Unit)))) LL 0

def spec_StarOk_n5 (x2028 : List Int) (x2130 : List Int) : Option (Unit ⊕ Bool) :=
  (spec_StarOk_n4 x2028 x2130).map (Sum.elim (fun (t : Bool) => (Sum.inr t)) (fun (t : Unit) => (Sum.inl ())))

def spec_StarOk_n6 (x2028 : List Int) (x2130 : List Int) : Option (Unit ⊕ Bool) :=
  (spec_StarOk_n2).bind (fun (t : Unit) => spec_StarOk_n5 x2028 x2130)

def spec_StarOk_n7 : Option (Bool) :=
  some false

def spec_StarOk_n8 (x2028 : List Int) (x2130 : List Int) : Option (Bool) :=
  (spec_StarOk_n6 x2028 x2130).bind (Sum.elim (fun (t : Unit) => spec_StarOk_n7) (fun e => some ((fun (t : Bool) => t) e)))

def spec_StarOk_n9 (x2028 : List Int) : Option (Bool) :=
  (spec_StarOk_n1 x2028).bind (fun (t : (List Int)) => spec_StarOk_n8 x2028 t)

@[irreducible] def spec_StarOk (x2028 : List Int) : Option (Bool) :=
  spec_StarOk_n9 x2028

def laws_alive_n1 : Option (Bool) :=
  (impl_TreeOk ([0])).bind fun (v2184 : Bool) => cond v2184 ((impl_TreeOk ([1])).bind fun (v2186 : Bool) => some (!v2186)) (some false)

@[irreducible] def laws_alive : Option (Bool) :=
  laws_alive_n1

def impl_RootOf_n1 (x2210 : List Int) : Option (Unit ⊕ Int) :=
  (impl_TreeOk x2210).bind fun (v2213 : Bool) => cond (!v2213) (some (Sum.inr (-1))) (some (Sum.inl ()))

def impl_RootOf_n2 (x2210 : List Int) (x2223 : Int) (x2224 : Int) : Option ((Int × Int) ⊕ (Int × Int)) :=
  (impl_walker_up x2210 x2223 x2224).bind fun (v2229 : Bool × Int × Int) => cond (v2229.1) (some (Sum.inl ((v2229.2.1), (v2229.2.2)))) (some (Sum.inr ((v2229.2.1), (v2229.2.2))))

def impl_RootOf_n3 (x2210 : List Int) : Option ((Int × Int)) :=
  nloop (fun (s : Int × Int) => ((impl_RootOf_n2 x2210 s.1 s.2).map (Sum.elim (fun (t : Int × Int) => Sum.inl (t.1, t.2)) (fun (t : Int × Int) => Sum.inr t)) : Option ((Int × Int) ⊕ ((Int × Int))))) LL (1, 0)

def impl_RootOf_n4 (x2210 : List Int) : Option ((Int × Int)) :=
  (impl_RootOf_n3 x2210).map (fun (t : Int × Int) => (t.1, t.2))

def impl_RootOf_n5 (x2231 : Int) : Option (Int) :=
  some x2231

def impl_RootOf_n6 (x2210 : List Int) : Option (Int) :=
  (impl_RootOf_n4 x2210).bind (fun (t : Int × Int) => impl_RootOf_n5 t.1)

def impl_RootOf_n7 (x2210 : List Int) : Option (Int) :=
  (impl_RootOf_n1 x2210).bind (Sum.elim (fun (t : Unit) => impl_RootOf_n6 x2210) (fun e => some ((fun (t : Int) => t) e)))

@[irreducible] def impl_RootOf (x2210 : List Int) : Option (Int) :=
  impl_RootOf_n7 x2210

def impl_only_n1 (x2259 : Int) : Option (Int) :=
  (shl .u64 1 (IntKind.wrap .i64 (x2259 - 1))).bind fun (v2263 : Int) => some v2263

@[irreducible] def impl_only (x2259 : Int) : Option (Int) :=
  impl_only_n1 x2259

def impl_dependents_n1 : Option (Unit) :=
  some ()

def impl_dependents_n2 (x2250 : List Int) : Option (Int) :=
  some (((List.length x2250 : Nat) : Int))

def impl_dependents_n3 (x2250 : List Int) (x2251 : Int) (x2276 : Int) (x2252 : Int) (x2277 : Int) : Option ((Int × Int) ⊕ Int) :=
  cond (decide (x2277 < x2252)) ((idx x2250 x2277).bind fun (v2287 : Int) => cond (v2287 == x2251) ((impl_only (IntKind.wrap .i64 (x2277 + 1))).bind fun (v2290 : Int) => some (Sum.inl ((ior .u64 x2276 v2290), (IntKind.wrap .i64 (x2277 + 1))))) (some (Sum.inl (x2276, (IntKind.wrap .i64 (x2277 + 1)))))) (some (Sum.inr x2276))

def impl_dependents_n4 (x2250 : List Int) (x2251 : Int) (x2252 : Int) : Option (Int) :=
  nloop (fun (s : Int × Int) => ((impl_dependents_n3 x2250 x2251 s.1 x2252 s.2).map (Sum.elim (fun (t : Int × Int) => Sum.inl (t.1, t.2)) (fun (t : Int) => Sum.inr t)) : Option ((Int × Int) ⊕ (Int)))) LL (0, 0)

def impl_dependents_n5 (x2250 : List Int) (x2251 : Int) (x2252 : Int) : Option (Int) :=
  (impl_dependents_n4 x2250 x2251 x2252).map (fun (t : Int) => t)

def impl_dependents_n6 (x2250 : List Int) (x2251 : Int) : Option (Int) :=
  (impl_dependents_n2 x2250).bind (fun (t : Int) => impl_dependents_n5 x2250 x2251 t)

def impl_dependents_n7 (x2276 : Int) : Option (Int) :=
  some x2276

def impl_dependents_n8 (x2250 : List Int) (x2251 : Int) : Option (Int) :=
  (impl_dependents_n6 x2250 x2251).bind (fun (t : Int) => impl_dependents_n7 t)

def impl_dependents_n9 (x2250 : List Int) (x2251 : Int) : Option (Int) :=
  (impl_dependents_n1).bind (fun (t : Unit) => impl_dependents_n8 x2250 x2251)

@[irreducible] def impl_dependents (x2250 : List Int) (x2251 : Int) : Option (Int) :=
  impl_dependents_n9 x2250 x2251

def impl_before_n1 (x2298 : Int) : Option (Int) :=
  (impl_only x2298).bind fun (v2301 : Int) => some (IntKind.wrap .u64 (v2301 - 1))

@[irreducible] def impl_before (x2298 : Int) : Option (Int) :=
  impl_before_n1 x2298

def impl_dependentsBeside_n1 (x2248 : List Int) (x2249 : Int) : Option ((Int × Int)) :=
  (impl_dependents x2248 x2249).bind fun (v2307 : Int) => (impl_before x2249).bind fun (v2308 : Int) => (impl_before x2249).bind fun (v2310 : Int) => some ((iand .u64 v2307 v2308), (iandn .u64 v2307 v2310))

@[irreducible] def impl_dependentsBeside (x2248 : List Int) (x2249 : Int) : Option (Int × Int) :=
  impl_dependentsBeside_n1 x2248 x2249

def math_bits_OnesCount64_n1 (x2324 : Int) : Option (Int) :=
  (shr .u64 x2324 1).bind fun (v2325 : Int) => some (IntKind.wrap .u64 ((iand .u64 v2325 6148914691236517205) + (iand .u64 x2324 6148914691236517205)))

def math_bits_OnesCount64_n2 (x2329 : Int) : Option (Int) :=
  (shr .u64 x2329 2).bind fun (v2343 : Int) => some (IntKind.wrap .u64 ((iand .u64 v2343 3689348814741910323) + (iand .u64 x2329 3689348814741910323)))

def math_bits_OnesCount64_n3 (x2346 : Int) : Option (Int) :=
  (shr .u64 x2346 4).bind fun (v2351 : Int) => some (iand .u64 (IntKind.wrap .u64 (v2351 + x2346)) 1085102592571150095)

def math_bits_OnesCount64_n4 (x2353 : Int) : Option (Int) :=
  (shr .u64 x2353 8).bind fun (v2356 : Int) => some (IntKind.wrap .u64 (x2353 + v2356))

def math_bits_OnesCount64_n5 (x2357 : Int) : Option (Int) :=
  (shr .u64 x2357 16).bind fun (v2361 : Int) => some (IntKind.wrap .u64 (x2357 + v2361))

def math_bits_OnesCount64_n6 (x2362 : Int) : Option (Int) :=
  (shr .u64 x2362 32).bind fun (v2366 : Int) => some (IntKind.wrap .u64 (x2362 + v2366))

def math_bits_OnesCount64_n7 (x2367 : Int) : Option (Int) :=
  some (iand .i64 (IntKind.wrap .i64 x2367) 127)

def math_bits_OnesCount64_n8 (x2372 : Int) : Option (Int) :=
  some x2372

def math_bits_OnesCount64_n9 (x2367 : Int) : Option (Int) :=
  (math_bits_OnesCount64_n7 x2367).bind (fun (t : Int) => math_bits_OnesCount64_n8 t)

def math_bits_OnesCount64_n10 (x2362 : Int) : Option (Int) :=
  (math_bits_OnesCount64_n6 x2362).bind (fun (t : Int) => math_bits_OnesCount64_n9 t)

def math_bits_OnesCount64_n11 (x2357 : Int) : Option (Int) :=
  (math_bits_OnesCount64_n5 x2357).bind (fun (t : Int) => math_bits_OnesCount64_n10 t)

def math_bits_OnesCount64_n12 (x2353 : Int) : Option (Int) :=
  (math_bits_OnesCount64_n4 x2353).bind (fun (t : Int) => math_bits_OnesCount64_n11 t)

def math_bits_OnesCount64_n13 (x2346 : Int) : Option (Int) :=
  (math_bits_OnesCount64_n3 x2346).bind (fun (t : Int) => math_bits_OnesCount64_n12 t)

def math_bits_OnesCount64_n14 (x2329 : Int) : Option (Int) :=
  (math_bits_OnesCount64_n2 x2329).bind (fun (t : Int) => math_bits_OnesCount64_n13 t)

def math_bits_OnesCount64_n15 (x2324 : Int) : Option (Int) :=
  (math_bits_OnesCount64_n1 x2324).bind (fun (t : Int) => math_bits_OnesCount64_n14 t)

@[irreducible] def math_bits_OnesCount64 (x2324 : Int) : Option (Int) :=
  math_bits_OnesCount64_n15 x2324

def math_bits_OnesCount_n1 (x2323 : Int) : Option (Int) :=
  (math_bits_OnesCount64 x2323).bind fun (v2374 : Int) => some v2374

@[irreducible] def math_bits_OnesCount (x2323 : Int) : Option (Int) :=
  math_bits_OnesCount_n1 x2323

def impl_wordSet_count_n1 (x2322 : Int) : Option (Int) :=
  (math_bits_OnesCount x2322).bind fun (v2376 : Int) => some v2376

@[irreducible] def impl_wordSet_count (x2322 : Int) : Option (Int) :=
  impl_wordSet_count_n1 x2322

def math_bits_TrailingZeros64_n1 (x2383 : Int) : Option (Int) :=
  cond (x2383 == 0) (some 64) ((shr .u64 (IntKind.wrap .u64 ((iand .u64 x2383 (IntKind.wrap .u64 (0 - x2383))) * 285870213051353865)) 58).bind fun (v2400 : Int) => (same (List.length tab1) 64).bind fun (v2401 : Unit) => (idx tab1 v2400).bind fun (v2402 : Int) => some (IntKind.wrap .i64 v2402))

@[irreducible] def math_bits_TrailingZeros64 (x2383 : Int) : Option (Int) :=
  math_bits_TrailingZeros64_n1 x2383

def math_bits_TrailingZeros_n1 (x2382 : Int) : Option (Int) :=
  (math_bits_TrailingZeros64 x2382).bind fun (v2406 : Int) => some v2406

@[irreducible] def math_bits_TrailingZeros (x2382 : Int) : Option (Int) :=
  math_bits_TrailingZeros_n1 x2382

def impl_wordSet_list_n1 (x2321 : Int) : Option (((List Int))) :=
  (impl_wordSet_count x2321).bind fun (v2377 : Int) => (mk 0 v2377).bind fun (v2378 : Nat) => some (List.replicate v2378 (0 : Int))

def impl_wordSet_list_n2 : Option (Unit) :=
  some ()

def impl_wordSet_list_n3 (x2422 : Int) (x2423 : List Int) : Option ((Int × (List Int)) ⊕ ((List Int))) :=
  cond (x2422 != 0) ((math_bits_TrailingZeros x2422).bind fun (v2433 : Int) => (room ((List.length x2423) + List.length ([(IntKind.wrap .i64 (v2433 + 1))]))).bind fun (v2437 : Unit) => some (Sum.inl ((iand .u64 x2422 (IntKind.wrap .u64 (x2422 - 1))), (x2423 ++ ([(IntKind.wrap .i64 (v2433 + 1))]))))) (some (Sum.inr x2423))

def impl_wordSet_list_n4 (x2321 : Int) (x2379 : List Int) : Option (((List Int))) :=
  nloop (fun (s : Int × (List Int)) => ((impl_wordSet_list_n3 s.1 s.2).map (Sum.elim (fun (t : Int × (List Int)) => Sum.inl (t.1, t.2)) (fun (t : (List Int)) => Sum.inr t)) : Option ((Int × (List Int)) ⊕ (((List Int)))))) LL (x2321, x2379)

def impl_wordSet_list_n5 (x2321 : Int) (x2379 : List Int) : Option (((List Int))) :=
  (impl_wordSet_list_n4 x2321 x2379).map (fun (t : (List Int)) => t)

def impl_wordSet_list_n6 (x2321 : Int) (x2379 : List Int) : Option (((List Int))) :=
  (impl_wordSet_list_n2).bind (fun (t : Unit) => impl_wordSet_list_n5 x2321 x2379)

def impl_wordSet_list_n7 (x2423 : List Int) : Option (((List Int))) :=
  some x2423

def impl_wordSet_list_n8 (x2321 : Int) (x2379 : List Int) : Option (((List Int))) :=
  (impl_wordSet_list_n6 x2321 x2379).bind (fun (t : (List Int)) => impl_wordSet_list_n7 t)

def impl_wordSet_list_n9 (x2321 : Int) : Option (((List Int))) :=
  (impl_wordSet_list_n1 x2321).bind (fun (t : (List Int)) => impl_wordSet_list_n8 x2321 t)

@[irreducible] def impl_wordSet_list (x2321 : Int) : Option ((List Int)) :=
  impl_wordSet_list_n9 x2321

def impl_appendFlat_n1 (R0 : (List Int) → Int → (List Int) → Option ((List Int))) (R1 : (List Int) → Int → (List Int) → Option ((List Int))) (x2245 : List Int) (x2246 : Int) (x2247 : List Int) : Option (((List Int))) :=
  (impl_dependentsBeside x2245 x2246).bind fun (v2553 : Int × Int) => (R1 x2245 (v2553.1) x2247).bind fun (v2556 : List Int) => (room ((List.length v2556) + List.length ([x2246]))).bind fun (v2559 : Unit) => (R1 x2245 (v2553.2) (v2556 ++ ([x2246]))).bind fun (v2561 : List Int) => some v2561

def impl_appendFlat_one (R0 : (List Int) → Int → (List Int) → Option ((List Int))) (R1 : (List Int) → Int → (List Int) → Option ((List Int))) (x2245 : List Int) (x2246 : Int) (x2247 : List Int) : Option ((List Int)) :=
  impl_appendFlat_n1 R0 R1 x2245 x2246 x2247

def impl_appendEachFlat_n1 (R0 : (List Int) → Int → (List Int) → Option ((List Int))) (R1 : (List Int) → Int → (List Int) → Option ((List Int))) : Option (Unit) :=
  some ()

def impl_appendEachFlat_n2 (R0 : (List Int) → Int → (List Int) → Option ((List Int))) (R1 : (List Int) → Int → (List Int) → Option ((List Int))) (x2485 : Int) : Option ((Int × (List Int))) :=
  (impl_wordSet_list x2485).bind fun (v2513 : List Int) => some ((((List.length v2513 : Nat) : Int)), v2513)

def impl_appendEachFlat_n3 (R0 : (List Int) → Int → (List Int) → Option ((List Int))) (R1 : (List Int) → Int → (List Int) → Option ((List Int))) (x2484 : List Int) (x2514 : Int) (x2526 : Int) (x2527 : List Int) (x2513 : List Int) : Option ((Int × (List Int)) ⊕ ((List Int))) :=
  cond (decide (x2526 < x2514)) ((inb x2526 (List.length x2513)).bind fun (v2535 : Nat) => (x2513[v2535]?).bind fun (v2536 : Int) => (R0 x2484 v2536 x2527).bind fun (v2537 : List Int) => some (Sum.inl ((IntKind.wrap .i64 (x2526 + 1)), v2537))) (some (Sum.inr x2527))

def impl_appendEachFlat_n4 (R0 : (List Int) → Int → (List Int) → Option ((List Int))) (R1 : (List Int) → Int → (List Int) → Option ((List Int))) (x2484 : List Int) (x2514 : Int) (x2486 : List Int) (x2513 : List Int) : Option (((List Int))) :=
  nloop (fun (s : Int × (List Int)) => ((impl_appendEachFlat_n3 R0 R1 x2484 x2514 s.1 s.2 x2513).map (Sum.elim (fun (t : Int × (List Int)) => Sum.inl (t.1, t.2)) (fun (t : (List Int)) => Sum.inr t)) : Option ((Int × (List Int)) ⊕ (((List Int)))))) LL (0, x2486)

def impl_appendEachFlat_n5 (R0 : (List Int) → Int → (List Int) → Option ((List Int))) (R1 : (List Int) → Int → (List Int) → Option ((List Int))) (x2484 : List Int) (x2514 : Int) (x2486 : List Int) (x2513 : List Int) : Option (((List Int))) :=
  (impl_appendEachFlat_n4 R0 R1 x2484 x2514 x2486 x2513).map (fun (t : (List Int)) => t)

def impl_appendEachFlat_n6 (R0 : (List Int) → Int → (List Int) → Option ((List Int))) (R1 : (List Int) → Int → (List Int) → Option ((List Int))) (x2484 : List Int) (x2485 : Int) (x2486 : List Int) : Option (((List Int))) :=
  (impl_appendEachFlat_n2 R0 R1 x2485).bind (fun (t : Int × (List Int)) => impl_appendEachFlat_n5 R0 R1 x2484 t.1 x2486 t.2)

def impl_appendEachFlat_n7 (R0 : (List Int) → Int → (List Int) → Option ((List Int))) (R1 : (List Int) → Int → (List Int) → Option ((List Int))) (x2527 : List Int) : Option (((List Int))) :=
  some x2527

def impl_appendEachFlat_n8 (R0 : (List Int) → Int → (List Int) → Option ((List Int))) (R1 : (List Int) → Int → (List Int) → Option ((List Int))) (x2484 : List Int) (x2485 : Int) (x2486 : List Int) : Option (((List Int))) :=
  (impl_appendEachFlat_n6 R0 R1 x2484 x2485 x2486).bind (fun (t : (List Int)) => impl_appendEachFlat_n7 R0 R1 t)

def impl_appendEachFlat_n9 (R0 : (List Int) → Int → (List Int) → Option ((List Int))) (R1 : (List Int) → Int → (List Int) → Option ((List Int))) (x2484 : List Int) (x2485 : Int) (x2486 : List Int) : Option (((List Int))) :=
  (impl_appendEachFlat_n1 R0 R1).bind (fun (t : Unit) => impl_appendEachFlat_n8 R0 R1 x2484 x2485 x2486)

def impl_appendEachFlat_one (R0 : (List Int) → Int → (List Int) → Option ((List Int))) (R1 : (List Int) → Int → (List Int) → Option ((List Int))) (x2484 : List Int) (x2485 : Int) (x2486 : List Int) : Option ((List Int)) :=
  impl_appendEachFlat_n9 R0 R1 x2484 x2485 x2486

def impl_appendFlat_knot : Nat → ((List Int) → Int → (List Int) → Option ((List Int))) × ((List Int) → Int → (List Int) → Option ((List Int)))
  | 0 => ((fun _ _ _ => none), (fun _ _ _ => none))
  | n + 1 => ((fun y0 y1 y2 => impl_appendFlat_one (impl_appendFlat_knot n).1 (impl_appendFlat_knot n).2 y0 y1 y2), (fun y0 y1 y2 => impl_appendEachFlat_one (impl_appendFlat_knot n).1 (impl_appendFlat_knot n).2 y0 y1 y2))

def impl_appendFlat_fuel (n : Nat) : (List Int) → Int → (List Int) → Option ((List Int)) := (impl_appendFlat_knot n).1

@[irreducible] def impl_appendFlat (x2245 : List Int) (x2246 : Int) (x2247 : List Int) : Option ((List Int)) := impl_appendFlat_fuel RR x2245 x2246 x2247

def impl_appendEachFlat_fuel (n : Nat) : (List Int) → Int → (List Int) → Option ((List Int)) := (impl_appendFlat_knot n).2

@[irreducible] def impl_appendEachFlat (x2484 : List Int) (x2485 : Int) (x2486 : List Int) : Option ((List Int)) := impl_appendEachFlat_fuel RR x2484 x2485 x2486

def impl_FlatOrder_n1 (x2204 : List Int) : Option (((List Int))) :=
  (impl_TreeOk x2204).bind fun (v2571 : Bool) => cond (!v2571) (some ([] : List Int)) ((impl_RootOf x2204).bind fun (v2574 : Int) => (mk 0 (((List.length x2204 : Nat) : Int))).bind fun (v2575 : Nat) => (impl_appendFlat x2204 v2574 (List.replicate v2575 (0 : Int))).bind fun (v2577 : List Int) => some v2577)

@[irreducible] def impl_FlatOrder (x2204 : List Int) : Option ((List Int)) :=
  impl_FlatOrder_n1 x2204

def impl_OrderOk_n1 (x2585 : List Int) (x2586 : Int) : Option (Unit ⊕ Bool) :=
  cond (decide (x2586 < 1)) (some (Sum.inr false)) (cond (decide (x2586 > 8)) (some (Sum.inr false)) (cond ((((List.length x2585 : Nat) : Int)) != x2586) (some (Sum.inr false)) (some (Sum.inl ()))))

def impl_OrderOk_n2 (x2585 : List Int) : Option (Int) :=
  some (((List.length x2585 : Nat) : Int))

def impl_OrderOk_n3 (x2586 : Int) (x2585 : List Int) (x2596 : Int) (x2620 : Int) (x2621 : List Bool) : Option ((Int × (List Bool)) ⊕ Bool ⊕ Unit) :=
  cond (decide (x2620 < x2596)) ((idx x2585 x2620).bind fun (v2635 : Int) => cond (decide (v2635 < 1)) (some (Sum.inr (Sum.inl false))) (cond (decide (v2635 > x2586)) (some (Sum.inr (Sum.inl false))) ((same (List.length x2621) 9).bind fun (v2638 : Unit) => (inb v2635 9).bind fun (v2639 : Nat) => (x2621[v2639]?).bind fun (v2640 : Bool) => cond v2640 (some (Sum.inr (Sum.inl false))) ((same (List.length x2621) 9).bind fun (v2641 : Unit) => (inb v2635 9).bind fun (v2642 : Nat) => some (Sum.inl ((IntKind.wrap .i64 (x2620 + 1)), (x2621.set v2642 true))))))) (some (Sum.inr (Sum.inr ())))

def impl_OrderOk_n4 (x2586 : Int) (x2585 : List Int) (x2596 : Int) : Option (Bool ⊕ Unit) :=
  nloop (fun (s : Int × (List Bool)) => ((impl_OrderOk_n3 x2586 x2585 x2596 s.1 s.2).map (Sum.elim (fun (t : Int × (List Bool)) => Sum.inl (t.1, t.2)) (Sum.elim (fun (t : Bool) => Sum.inr (Sum.inl t)) (fun (t : Unit) => Sum.inr (Sum.inr t)))) : Option ((Int × (List Bool)) ⊕ (Bool ⊕ Unit)))) LL (0, (List.replicate 9 false))

def impl_OrderOk_n5 (x2586 : Int) (x2585 : List Int) (x2596 : Int) : Option (Unit ⊕ Bool) :=
  (impl_OrderOk_n4 x2586 x2585 x2596).map (Sum.elim (fun (t : Bool) => (Sum.inr t)) (fun (t : Unit) => (Sum.inl ())))

def impl_OrderOk_n6 (x2585 : List Int) (x2586 : Int) : Option (Unit ⊕ Bool) :=
  (impl_OrderOk_n2 x2585).bind (fun (t : Int) => impl_OrderOk_n5 x2586 x2585 t)

def impl_OrderOk_n7 : Option (Bool) :=
  some true

def impl_OrderOk_n8 (x2585 : List Int) (x2586 : Int) : Option (Bool) :=
  (impl_OrderOk_n6 x2585 x2586).bind (Sum.elim (fun (t : Unit) => impl_OrderOk_n7) (fun e => some ((fun (t : Bool) => t) e)))

def impl_OrderOk_n9 (x2585 : List Int) (x2586 : Int) : Option (Bool) :=
  (impl_OrderOk_n1 x2585 x2586).bind (Sum.elim (fun (t : Unit) => impl_OrderOk_n8 x2585 x2586) (fun e => some ((fun (t : Bool) => t) e)))

@[irreducible] def impl_OrderOk (x2585 : List Int) (x2586 : Int) : Option (Bool) :=
  impl_OrderOk_n9 x2585 x2586

def impl_placesIn_n1 (x2653 : List Int) : Option (((List Int))) :=
  (mk (IntKind.wrap .i64 ((((List.length x2653 : Nat) : Int)) + 1)) (IntKind.wrap .i64 ((((List.length x2653 : Nat) : Int)) + 1))).bind fun (v2656 : Nat) => some (List.replicate v2656 (0 : Int))

def impl_placesIn_n2 (x2653 : List Int) : Option (Int) :=
  some (((List.length x2653 : Nat) : Int))

def impl_placesIn_n3 (x2653 : List Int) (x2658 : Int) (x2672 : Int) (x2673 : List Int) : Option ((Int × (List Int)) ⊕ ((List Int))) :=
  cond (decide (x2672 < x2658)) ((idx x2653 x2672).bind fun (v2682 : Int) => (inb v2682 (List.length x2673)).bind fun (v2684 : Nat) => some (Sum.inl ((IntKind.wrap .i64 (x2672 + 1)), (x2673.set v2684 (IntKind.wrap .i64 (x2672 + 1)))))) (some (Sum.inr x2673))

def impl_placesIn_n4 (x2653 : List Int) (x2658 : Int) (x2657 : List Int) : Option (((List Int))) :=
  nloop (fun (s : Int × (List Int)) => ((impl_placesIn_n3 x2653 x2658 s.1 s.2).map (Sum.elim (fun (t : Int × (List Int)) => Sum.inl (t.1, t.2)) (fun (t : (List Int)) => Sum.inr t)) : Option ((Int × (List Int)) ⊕ (((List Int)))))) LL (0, x2657)

def impl_placesIn_n5 (x2653 : List Int) (x2658 : Int) (x2657 : List Int) : Option (((List Int))) :=
  (impl_placesIn_n4 x2653 x2658 x2657).map (fun (t : (List Int)) => t)

def impl_placesIn_n6 (x2653 : List Int) (x2657 : List Int) : Option (((List Int))) :=
  (impl_placesIn_n2 x2653).bind (fun (t : Int) => impl_placesIn_n5 x2653 t x2657)

def impl_placesIn_n7 (x2673 : List Int) : Option (((List Int))) :=
  some x2673

def impl_placesIn_n8 (x2653 : List Int) (x2657 : List Int) : Option (((List Int))) :=
  (impl_placesIn_n6 x2653 x2657).bind (fun (t : (List Int)) => impl_placesIn_n7 t)

def impl_placesIn_n9 (x2653 : List Int) : Option (((List Int))) :=
  (impl_placesIn_n1 x2653).bind (fun (t : (List Int)) => impl_placesIn_n8 x2653 t)

@[irreducible] def impl_placesIn (x2653 : List Int) : Option ((List Int)) :=
  impl_placesIn_n9 x2653

def impl_PutInOrder_1_n1 (x2707 : Int) (x2708 : List Int) : Option (Int) :=
  (inb x2707 (List.length x2708)).bind fun (v2711 : Nat) => (x2708[v2711]?).bind fun (v2712 : Int) => some v2712

@[irreducible] def impl_PutInOrder_1 (x2707 : Int) (x2708 : List Int) : Option (Int) :=
  impl_PutInOrder_1_n1 x2707 x2708

def impl_renamed_int_n1 (x2695 : List Int) : Option (((List Int))) :=
  (mk (((List.length x2695 : Nat) : Int)) (((List.length x2695 : Nat) : Int))).bind fun (v2698 : Nat) => some (List.replicate v2698 (0 : Int))

def impl_renamed_int_n2 (x2695 : List Int) : Option (Int) :=
  some (((List.length x2695 : Nat) : Int))

def impl_renamed_int_n3 (x2694 : List Int) (x2695 : List Int) (x2700 : Int) (x2724 : Int) (x2696 : List Int) (x2725 : List Int) : Option ((Int × (List Int)) ⊕ ((List Int))) :=
  cond (decide (x2724 < x2700)) ((idx x2695 x2724).bind fun (v2736 : Int) => (idx x2694 (IntKind.wrap .i64 (v2736 - 1))).bind fun (v2738 : Int) => (impl_PutInOrder_1 v2738 x2696).bind fun (v2739 : Int) => (inb x2724 (List.length x2725)).bind fun (v2740 : Nat) => some (Sum.inl ((IntKind.wrap .i64 (x2724 + 1)), (x2725.set v2740 v2739)))) (some (Sum.inr x2725))

def impl_renamed_int_n4 (x2694 : List Int) (x2695 : List Int) (x2700 : Int) (x2696 : List Int) (x2699 : List Int) : Option (((List Int))) :=
  nloop (fun (s : Int × (List Int)) => ((impl_renamed_int_n3 x2694 x2695 x2700 s.1 x2696 s.2).map (Sum.elim (fun (t : Int × (List Int)) => Sum.inl (t.1, t.2)) (fun (t : (List Int)) => Sum.inr t)) : Option ((Int × (List Int)) ⊕ (((List Int)))))) LL (0, x2699)

def impl_renamed_int_n5 (x2694 : List Int) (x2695 : List Int) (x2700 : Int) (x2696 : List Int) (x2699 : List Int) : Option (((List Int))) :=
  (impl_renamed_int_n4 x2694 x2695 x2700 x2696 x2699).map (fun (t : (List Int)) => t)

def impl_renamed_int_n6 (x2694 : List Int) (x2695 : List Int) (x2696 : List Int) (x2699 : List Int) : Option (((List Int))) :=
  (impl_renamed_int_n2 x2695).bind (fun (t : Int) => impl_renamed_int_n5 x2694 x2695 t x2696 x2699)

def impl_renamed_int_n7 (x2725 : List Int) : Option (((List Int))) :=
  some x2725

def impl_renamed_int_n8 (x2694 : List Int) (x2695 : List Int) (x2696 : List Int) (x2699 : List Int) : Option (((List Int))) :=
  (impl_renamed_int_n6 x2694 x2695 x2696 x2699).bind (fun (t : (List Int)) => impl_renamed_int_n7 t)

def impl_renamed_int_n9 (x2694 : List Int) (x2695 : List Int) (x2696 : List Int) : Option (((List Int))) :=
  (impl_renamed_int_n1 x2695).bind (fun (t : (List Int)) => impl_renamed_int_n8 x2694 x2695 x2696 t)

@[irreducible] def impl_renamed_int (x2694 : List Int) (x2695 : List Int) (x2696 : List Int) : Option ((List Int)) :=
  impl_renamed_int_n9 x2694 x2695 x2696

def impl_PutInOrder_n1 (x2580 : List Int) (x2581 : List Int) : Option ((Bool × (List Int))) :=
  (impl_TreeOk x2580).bind fun (v2744 : Bool) => cond (!v2744) (some (false, ([] : List Int))) ((impl_OrderOk x2581 (((List.length x2580 : Nat) : Int))).bind fun (v2747 : Bool) => cond (!v2747) (some (false, ([] : List Int))) ((impl_placesIn x2581).bind fun (v2749 : List Int) => (impl_renamed_int x2580 x2581 v2749).bind fun (v2750 : List Int) => some (true, v2750)))

@[irreducible] def impl_PutInOrder (x2580 : List Int) (x2581 : List Int) : Option (Bool × (List Int)) :=
  impl_PutInOrder_n1 x2580 x2581

def impl_MadeFlat_n1 (x2203 : List Int) : Option (((List Int))) :=
  (impl_FlatOrder x2203).bind fun (v2760 : List Int) => (impl_PutInOrder x2203 v2760).bind fun (v2761 : Bool × (List Int)) => some (v2761.2)

@[irreducible] def impl_MadeFlat (x2203 : List Int) : Option ((List Int)) :=
  impl_MadeFlat_n1 x2203

def impl_arc_covers_n1 (x2807 : Int) (x2808 : Int) (x2809 : Int) : Option (Bool) :=
  cond (decide (x2807 < x2809)) (some (decide (x2809 < x2808))) (some false)

@[irreducible] def impl_arc_covers (x2807 : Int) (x2808 : Int) (x2809 : Int) : Option (Bool) :=
  impl_arc_covers_n1 x2807 x2808 x2809

def impl_arc_leavesOut_n1 (x2816 : Int) (x2817 : Int) (x2818 : Int) : Option (Bool) :=
  cond (decide (x2818 < x2816)) (some true) (some (decide (x2817 < x2818)))

@[irreducible] def impl_arc_leavesOut (x2816 : Int) (x2817 : Int) (x2818 : Int) : Option (Bool) :=
  impl_arc_leavesOut_n1 x2816 x2817 x2818

def impl_arc_crosses_n1 (x2803 : Int) (x2804 : Int) (x2805 : Int) (x2806 : Int) : Option (Bool) :=
  (impl_arc_covers x2803 x2804 x2805).bind fun (v2829 : Bool) => cond v2829 ((impl_arc_leavesOut x2803 x2804 x2806).bind fun (v2830 : Bool) => cond v2830 (some true) ((impl_arc_covers x2803 x2804 x2806).bind fun (v2831 : Bool) => cond v2831 ((impl_arc_leavesOut x2803 x2804 x2805).bind fun (v2832 : Bool) => some v2832) (some false))) ((impl_arc_covers x2803 x2804 x2806).bind fun (v2833 : Bool) => cond v2833 ((impl_arc_leavesOut x2803 x2804 x2805).bind fun (v2834 : Bool) => some v2834) (some false))

@[irreducible] def impl_arc_crosses (x2803 : Int) (x2804 : Int) (x2805 : Int) (x2806 : Int) : Option (Bool) :=
  impl_arc_crosses_n1 x2803 x2804 x2805 x2806

def impl_countPairs_impl_arc_n1 : Option (Unit) :=
  some ()

def impl_countPairs_impl_arc_n2 (x2776 : List (Int × Int × Unit)) : Option (Int) :=
  some (((List.length x2776 : Nat) : Int))

def impl_countPairs_impl_arc_n3 (x2875 : Int) (x2777 : Int) (x2876 : Int) : Option (Unit ⊕ Int) :=
  cond (decide (x2876 < x2777)) (some (Sum.inl ())) (some (Sum.inr x2875))

def impl_countPairs_impl_arc_n4 (x2776 : List (Int × Int × Unit)) (x2876 : Int) : Option (((List (Int × Int × Unit)) × Int × Int × Int)) :=
  (idx x2776 x2876).bind fun (v2884 : Int × Int × Unit) => (inc (IntKind.wrap .i64 (x2876 + 1)) (List.length x2776)).bind fun (v2891 : Nat) => some (((x2776.take (List.length x2776)).drop v2891), (((List.length ((x2776.take (List.length x2776)).drop v2891) : Nat) : Int)), (v2884.1), ((v2884.2).1))

def impl_countPairs_impl_arc_n5 (x2916 : Int) (x2892 : List (Int × Int × Unit)) (x2893 : Int) (x2917 : Int) (x2885 : Int) (x2887 : Int) : Option ((Int × Int) ⊕ Int) :=
  cond (decide (x2917 < x2893)) ((idx x2892 x2917).bind fun (v2929 : Int × Int × Unit) => (impl_arc_crosses x2885 x2887 (v2929.1) ((v2929.2).1)).bind fun (v2934 : Bool) => cond v2934 (some (Sum.inl ((IntKind.wrap .i64 (x2916 + 1)), (IntKind.wrap .i64 (x2917 + 1))))) (some (Sum.inl (x2916, (IntKind.wrap .i64 (x2917 + 1)))))) (some (Sum.inr x2916))

def impl_countPairs_impl_arc_n6 (x2875 : Int) (x2892 : List (Int × Int × Unit)) (x2893 : Int) (x2885 : Int) (x2887 : Int) : Option (Int) :=
  nloop (fun (s : Int × Int) => ((impl_countPairs_impl_arc_n5 s.1 x2892 x2893 s.2 x2885 x2887).map (Sum.elim (fun (t : Int × Int) => Sum.inl (t.1, t.2)) (fun (t : Int) => Sum.inr t)) : Option ((Int × Int) ⊕ (Int)))) LL (x2875, 0)

def impl_countPairs_impl_arc_n7 (x2875 : Int) (x2892 : List (Int × Int × Unit)) (x2893 : Int) (x2885 : Int) (x2887 : Int) : Option (Int) :=
  (impl_countPairs_impl_arc_n6 x2875 x2892 x2893 x2885 x2887).map (fun (t : Int) => t)

def impl_countPairs_impl_arc_n8 (x2776 : List (Int × Int × Unit)) (x2875 : Int) (x2876 : Int) : Option (Int) :=
  (impl_countPairs_impl_arc_n4 x2776 x2876).bind (fun (t : (List (Int × Int × Unit)) × Int × Int × Int) => impl_countPairs_impl_arc_n7 x2875 t.1 t.2.1 t.2.2.1 t.2.2.2)

def impl_countPairs_impl_arc_n9 (x2776 : List (Int × Int × Unit)) (x2875 : Int) (x2876 : Int) : Option (Int) :=
  (impl_countPairs_impl_arc_n8 x2776 x2875 x2876).map (fun (t : Int) => t)

def impl_countPairs_impl_arc_n10 (x2876 : Int) : Option (Int) :=
  some (IntKind.wrap .i64 (x2876 + 1))

def impl_countPairs_impl_arc_n11 (x2776 : List (Int × Int × Unit)) (x2875 : Int) (x2876 : Int) : Option ((Int × Int)) :=
  (impl_countPairs_impl_arc_n9 x2776 x2875 x2876).bind (fun (t : Int) => (impl_countPairs_impl_arc_n10 x2876).map (fun (u : Int) => (t, u)))

def impl_countPairs_impl_arc_n12 (x2776 : List (Int × Int × Unit)) (x2875 : Int) (x2777 : Int) (x2876 : Int) : Option ((Int × Int) ⊕ Int) :=
  (impl_countPairs_impl_arc_n3 x2875 x2777 x2876).bind (Sum.elim (fun (t : Unit) => (impl_countPairs_impl_arc_n11 x2776 x2875 x2876).map (fun (t : Int × Int) => (Sum.inl (t.1, t.2)))) (fun e => some ((fun (t : Int) => (Sum.inr t)) e)))

def impl_countPairs_impl_arc_n13 (x2776 : List (Int × Int × Unit)) (x2777 : Int) : Option (Int) :=
  nloop (fun (s : Int × Int) => ((impl_countPairs_impl_arc_n12 x2776 s.1 x2777 s.2).map (Sum.elim (fun (t : Int × Int) => Sum.inl (t.1, t.2)) (fun (t : Int) => Sum.inr t)) : Option ((Int × Int) ⊕ (Int)))) LL (0, 0)

def impl_countPairs_impl_arc_n14 (x2776 : List (Int × Int × Unit)) (x2777 : Int) : Option (Int) :=
  (impl_countPairs_impl_arc_n13 x2776 x2777).map (fun (t : Int) => t)

def impl_countPairs_impl_arc_n15 (x2776 : List (Int × Int × Unit)) : Option (Int) :=
  (impl_countPairs_impl_arc_n2 x2776).bind (fun (t : Int) => impl_countPairs_impl_arc_n14 x2776 t)

def impl_countPairs_impl_arc_n16 (x2875 : Int) : Option (Int) :=
  some x2875

def impl_countPairs_impl_arc_n17 (x2776 : List (Int × Int × Unit)) : Option (Int) :=
  (impl_countPairs_impl_arc_n15 x2776).bind (fun (t : Int) => impl_countPairs_impl_arc_n16 t)

def impl_countPairs_impl_arc_n18 (x2776 : List (Int × Int × Unit)) : Option (Int) :=
  (impl_countPairs_impl_arc_n1).bind (fun (t : Unit) => impl_countPairs_impl_arc_n17 x2776)

@[irreducible] def impl_countPairs_impl_arc (x2776 : List (Int × Int × Unit)) : Option (Int) :=
  impl_countPairs_impl_arc_n18 x2776

def impl_CrossingsOf_n1 (x2770 : List Int) : Option (Int) :=
  (impl_TreeOk x2770).bind fun (v2942 : Bool) => cond (!v2942) (some (-1)) ((impl_arcsOf x2770).bind fun (v2944 : List (Int × Int × Unit)) => (impl_countPairs_impl_arc v2944).bind fun (v2945 : Int) => some v2945)

@[irreducible] def impl_CrossingsOf (x2770 : List Int) : Option (Int) :=
  impl_CrossingsOf_n1 x2770

def laws_FnStarOk_n1 (x2 : List Int) : Option (Bool) :=
  cond (decide ((((List.length x2 : Nat) : Int)) > 1048576)) (some true) ((spec_DrawStarOk x2).bind fun (v2959 : List Int) => (impl_StarOk v2959).bind fun (v2960 : Bool) => (spec_StarOk v2959).bind fun (v2961 : Bool) => cond (v2960 != v2961) (some false) ((spec_TreeOk v2959).bind fun (v2963 : Bool) => cond (!v2963) (cond (!v2960) ((laws_alive).bind fun (v2966 : Bool) => some v2966) (some false)) (cond (!v2960) (cond (decide ((((List.length v2959 : Nat) : Int)) > 3)) ((impl_MadeFlat v2959).bind fun (v2970 : List Int) => (impl_StarOk v2970).bind fun (v2971 : Bool) => some (v2971 == v2960)) (cond v2960 ((impl_MadeFlat v2959).bind fun (v2973 : List Int) => (impl_StarOk v2973).bind fun (v2974 : Bool) => some (v2974 == v2960)) (some false))) ((impl_CrossingsOf v2959).bind fun (v2976 : Int) => cond (v2976 == 0) (cond (decide ((((List.length v2959 : Nat) : Int)) > 3)) ((impl_MadeFlat v2959).bind fun (v2980 : List Int) => (impl_StarOk v2980).bind fun (v2981 : Bool) => some (v2981 == v2960)) (cond v2960 ((impl_MadeFlat v2959).bind fun (v2983 : List Int) => (impl_StarOk v2983).bind fun (v2984 : Bool) => some (v2984 == v2960)) (some false))) (some false)))))

@[irreducible] def laws_FnStarOk (x2 : List Int) : Option (Bool) :=
  laws_FnStarOk_n1 x2

end Go.Rv
