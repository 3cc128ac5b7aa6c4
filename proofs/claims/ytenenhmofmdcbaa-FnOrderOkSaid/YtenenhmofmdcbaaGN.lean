/-
  Plain functions, written by program for functions of the checked code. Conditions: none.
-/
import Derived.Test.YtenenhmofmdcbaaRs
set_option linter.unusedVariables false
namespace Go.Rv
/-! loop.example/headtrees/spec.l20Open -/

def spec_l20Open_n1 (x12 : List Int) : Option (((List Int))) :=
  cond (decide ((((List.length x12 : Nat) : Int)) > 2000)) ((inc 2000 (List.length x12)).bind fun (v29 : Nat) => some ((x12.take v29).drop 0)) (some x12)

@[irreducible] def spec_l20Open (x12 : List Int) : Option ((List Int)) :=
  spec_l20Open_n1 x12

/-! (*loop.example/headtrees/spec.l20Rd).pick -/

def spec_l20Rd_pick_n1 (x38 : Int) (x39 : List Int) (x40 : Int) : Option ((Int × Int)) :=
  cond (decide (x38 < 1)) (some (0, (IntKind.wrap .i64 (x40 + 1)))) (cond ((((List.length x39 : Nat) : Int)) == 0) (some (0, (IntKind.wrap .i64 (x40 + 1)))) (cond (decide ((IntKind.wrap .i64 ((IntKind.wrap .i64 (x40 + 1)) - 1)) < (((List.length x39 : Nat) : Int)))) ((idx x39 (IntKind.wrap .i64 ((IntKind.wrap .i64 (x40 + 1)) - 1))).bind fun (v167 : Int) => (rem (IntKind.wrap .i64 v167) x38).bind fun (v169 : Int) => some (v169, (IntKind.wrap .i64 (x40 + 1)))) ((rem (IntKind.wrap .i64 ((IntKind.wrap .i64 (x40 + 1)) - 1)) (((List.length x39 : Nat) : Int))).bind fun (v171 : Int) => (idx x39 v171).bind fun (v172 : Int) => (rem (IntKind.wrap .i64 ((IntKind.wrap .i64 ((IntKind.wrap .i64 ((IntKind.wrap .i64 (x40 + 1)) - 1)) * 7)) + 3)) (((List.length x39 : Nat) : Int))).bind fun (v178 : Int) => (idx x39 v178).bind fun (v179 : Int) => (quo .i64 (IntKind.wrap .i64 ((IntKind.wrap .i64 (x40 + 1)) - 1)) (((List.length x39 : Nat) : Int))).bind fun (v186 : Int) => (quo .i64 (IntKind.wrap .i64 ((IntKind.wrap .i64 ((IntKind.wrap .i64 ((IntKind.wrap .i64 ((IntKind.wrap .i64 v172) * 131)) + (IntKind.wrap .i64 ((IntKind.wrap .i64 v179) * 1117)))) + (IntKind.wrap .i64 ((IntKind.wrap .i64 ((IntKind.wrap .i64 (x40 + 1)) - 1)) * 29)))) + (IntKind.wrap .i64 (v186 * 53)))) 64).bind fun (v189 : Int) => (rem (ixor .i64 (IntKind.wrap .i64 ((IntKind.wrap .i64 ((IntKind.wrap .i64 ((IntKind.wrap .i64 ((IntKind.wrap .i64 v172) * 131)) + (IntKind.wrap .i64 ((IntKind.wrap .i64 v179) * 1117)))) + (IntKind.wrap .i64 ((IntKind.wrap .i64 ((IntKind.wrap .i64 (x40 + 1)) - 1)) * 29)))) + (IntKind.wrap .i64 (v186 * 53)))) v189) x38).bind fun (v191 : Int) => some (v191, (IntKind.wrap .i64 (x40 + 1))))))

@[irreducible] def spec_l20Rd_pick (x38 : Int) (x39 : List Int) (x40 : Int) : Option (Int × Int) :=
  spec_l20Rd_pick_n1 x38 x39 x40

/-! loop.example/headtrees/spec.l20Order -/

def spec_l20Order_n1 (x202 : List Int) (x203 : Int) : Option ((Int × Int)) :=
  (spec_l20Rd_pick 2 x202 x203).bind fun (v204 : Int × Int) => some ((v204.1), (v204.2))

def spec_l20Order_n2 : Option (Unit) :=
  some ()

def spec_l20Order_n3 (x201 : Int) (x205 : Int) (x348 : Int) (x202 : List Int) (x349 : Int) (x350 : List Int) : Option ((Int × Int × (List Int)) ⊕ (Int × (List Int))) :=
  cond (decide (x348 ≤ x201)) (cond (x205 == 0) ((spec_l20Rd_pick x348 x202 x349).bind fun (v422 : Int × Int) => (inc (v422.1) (List.length x350)).bind fun (v426 : Nat) => (room ((List.length ([] : List Int)) + List.length ((x350.drop 0).take (v426 - 0)))).bind fun (v430 : Unit) => (room ((List.length (([] : List Int) ++ ((x350.drop 0).take (v426 - 0)))) + List.length ([x348]))).bind fun (v434 : Unit) => (inc (v422.1) (List.length x350)).bind fun (v437 : Nat) => (room ((List.length ((([] : List Int) ++ ((x350.drop 0).take (v426 - 0))) ++ ([x348]))) + List.length ((x350.drop v437).take ((List.length x350) - v437)))).bind fun (v441 : Unit) => some (Sum.inl ((IntKind.wrap .i64 (x348 + 1)), (v422.2), (((([] : List Int) ++ ((x350.drop 0).take (v426 - 0))) ++ ([x348])) ++ ((x350.drop v437).take ((List.length x350) - v437)))))) ((spec_l20Rd_pick 3 x202 x349).bind fun (v444 : Int × Int) => cond ((v444.1) == 0) ((spec_l20Rd_pick x348 x202 (v444.2)).bind fun (v448 : Int × Int) => (inc (v448.1) (List.length x350)).bind fun (v452 : Nat) => (room ((List.length ([] : List Int)) + List.length ((x350.drop 0).take (v452 - 0)))).bind fun (v456 : Unit) => (room ((List.length (([] : List Int) ++ ((x350.drop 0).take (v452 - 0)))) + List.length ([x348]))).bind fun (v460 : Unit) => (inc (v448.1) (List.length x350)).bind fun (v463 : Nat) => (room ((List.length ((([] : List Int) ++ ((x350.drop 0).take (v452 - 0))) ++ ([x348]))) + List.length ((x350.drop v463).take ((List.length x350) - v463)))).bind fun (v467 : Unit) => some (Sum.inl ((IntKind.wrap .i64 (x348 + 1)), (v448.2), (((([] : List Int) ++ ((x350.drop 0).take (v452 - 0))) ++ ([x348])) ++ ((x350.drop v463).take ((List.length x350) - v463)))))) ((inc (((List.length x350 : Nat) : Int)) (List.length x350)).bind fun (v471 : Nat) => (room ((List.length ([] : List Int)) + List.length ((x350.drop 0).take (v471 - 0)))).bind fun (v475 : Unit) => (room ((List.length (([] : List Int) ++ ((x350.drop 0).take (v471 - 0)))) + List.length ([x348]))).bind fun (v479 : Unit) => (inc (((List.length x350 : Nat) : Int)) (List.length x350)).bind fun (v482 : Nat) => (room ((List.length ((([] : List Int) ++ ((x350.drop 0).take (v471 - 0))) ++ ([x348]))) + List.length ((x350.drop v482).take ((List.length x350) - v482)))).bind fun (v486 : Unit) => some (Sum.inl ((IntKind.wrap .i64 (x348 + 1)), (v444.2), (((([] : List Int) ++ ((x350.drop 0).take (v471 - 0))) ++ ([x348])) ++ ((x350.drop v482).take ((List.length x350) - v482)))))))) (some (Sum.inr (x349, x350)))

def spec_l20Order_n4 (x201 : Int) (x205 : Int) (x202 : List Int) (x206 : Int) : Option ((Int × (List Int))) :=
  nloop (fun (s : Int × Int × (List Int)) => ((spec_l20Order_n3 x201 x205 s.1 x202 s.2.1 s.2.2).map (Sum.elim (fun (t : Int × Int × (List Int)) => Sum.inl (t.1, t.2.1, t.2.2)) (fun (t : Int × (List Int)) => Sum.inr t)) : Option ((Int × Int × (List Int)) ⊕ ((Int × (List Int)))))) LL (1, x206, ([] : List Int))

def spec_l20Order_n5 (x201 : Int) (x205 : Int) (x202 : List Int) (x206 : Int) : Option ((Int × (List Int))) :=
  (spec_l20Order_n4 x201 x205 x202 x206).map (fun (t : Int × (List Int)) => (t.1, t.2))

def spec_l20Order_n6 (x201 : Int) (x205 : Int) (x202 : List Int) (x206 : Int) : Option ((Int × (List Int))) :=
  (spec_l20Order_n2).bind (fun (t : Unit) => spec_l20Order_n5 x201 x205 x202 x206)

def spec_l20Order_n7 (x349 : Int) (x350 : List Int) : Option ((Int × (List Int))) :=
  some (x349, x350)

def spec_l20Order_n8 (x201 : Int) (x205 : Int) (x202 : List Int) (x206 : Int) : Option ((Int × (List Int))) :=
  (spec_l20Order_n6 x201 x205 x202 x206).bind (fun (t : Int × (List Int)) => spec_l20Order_n7 t.1 t.2)

def spec_l20Order_n9 (x201 : Int) (x202 : List Int) (x203 : Int) : Option ((Int × (List Int))) :=
  (spec_l20Order_n1 x202 x203).bind (fun (t : Int × Int) => spec_l20Order_n8 x201 t.1 x202 t.2)

@[irreducible] def spec_l20Order (x201 : Int) (x202 : List Int) (x203 : Int) : Option (Int × (List Int)) :=
  spec_l20Order_n9 x201 x202 x203

/-! (*loop.example/headtrees/spec.l20Rd).odd -/

def spec_l20Rd_odd_n1 (x657 : Int) (x658 : List Int) (x659 : Int) : Option ((Bool × Int)) :=
  cond (decide (x657 > 0)) ((spec_l20Rd_pick x657 x658 x659).bind fun (v667 : Int × Int) => some (((v667.1) == (IntKind.wrap .i64 (x657 - 1))), (v667.2))) (some (false, x659))

@[irreducible] def spec_l20Rd_odd (x657 : Int) (x658 : List Int) (x659 : Int) : Option (Bool × Int) :=
  spec_l20Rd_odd_n1 x657 x658 x659

/-! loop.example/headtrees/spec.l20Tree -/

def spec_l20Tree_n1 (x35 : List Int) (x36 : Int) : Option ((Int × Int × Int × (List Int) × (List Int))) :=
  (spec_l20Rd_pick 7 x35 x36).bind fun (v504 : Int × Int) => (spec_l20Order (IntKind.wrap .i64 (1 + (v504.1))) x35 (v504.2)).bind fun (v508 : Int × (List Int)) => (mk (IntKind.wrap .i64 (1 + (v504.1))) (IntKind.wrap .i64 (1 + (v504.1)))).bind fun (v511 : Nat) => (spec_l20Rd_pick 2 x35 (v508.1)).bind fun (v513 : Int × Int) => some ((IntKind.wrap .i64 (1 + (v504.1))), (v513.1), (v513.2), (v508.2), (List.replicate v511 (0 : Int)))

def spec_l20Tree_n2 : Option (Unit) :=
  some ()

def spec_l20Tree_n3 (x507 : Int) (x514 : Int) (x585 : Int) (x35 : List Int) (x586 : Int) (x510 : List Int) (x587 : List Int) : Option ((Int × Int × (List Int)) ⊕ (Int × (List Int))) :=
  cond (decide (x585 < x507)) ((spec_l20Rd_pick x585 x35 x586).bind fun (v621 : Int × Int) => cond (x514 == 1) ((spec_l20Rd_pick 2 x35 (v621.2)).bind fun (v625 : Int × Int) => cond ((v625.1) == 0) ((inb x585 (List.length x510)).bind fun (v630 : Nat) => (x510[v630]?).bind fun (v631 : Int) => (inb (IntKind.wrap .i64 (x585 - 1)) (List.length x510)).bind fun (v633 : Nat) => (x510[v633]?).bind fun (v634 : Int) => (inb (IntKind.wrap .i64 (v631 - 1)) (List.length x587)).bind fun (v635 : Nat) => some (Sum.inl ((IntKind.wrap .i64 (x585 + 1)), (v625.2), (x587.set v635 v634)))) ((inb x585 (List.length x510)).bind fun (v638 : Nat) => (x510[v638]?).bind fun (v639 : Int) => (inb (v621.1) (List.length x510)).bind fun (v641 : Nat) => (x510[v641]?).bind fun (v642 : Int) => (inb (IntKind.wrap .i64 (v639 - 1)) (List.length x587)).bind fun (v643 : Nat) => some (Sum.inl ((IntKind.wrap .i64 (x585 + 1)), (v625.2), (x587.set v643 v642))))) ((inb x585 (List.length x510)).bind fun (v646 : Nat) => (x510[v646]?).bind fun (v647 : Int) => (inb (v621.1) (List.length x510)).bind fun (v649 : Nat) => (x510[v649]?).bind fun (v650 : Int) => (inb (IntKind.wrap .i64 (v647 - 1)) (List.length x587)).bind fun (v651 : Nat) => some (Sum.inl ((IntKind.wrap .i64 (x585 + 1)), (v621.2), (x587.set v651 v650))))) (some (Sum.inr (x586, x587)))

def spec_l20Tree_n4 (x507 : Int) (x514 : Int) (x35 : List Int) (x515 : Int) (x510 : List Int) (x512 : List Int) : Option ((Int × (List Int))) :=
  nloop (fun (s : Int × Int × (List Int)) => ((spec_l20Tree_n3 x507 x514 s.1 x35 s.2.1 x510 s.2.2).map (Sum.elim (fun (t : Int × Int × (List Int)) => Sum.inl (t.1, t.2.1, t.2.2)) (fun (t : Int × (List Int)) => Sum.inr t)) : Option ((Int × Int × (List Int)) ⊕ ((Int × (List Int)))))) LL (1, x515, x512)

def spec_l20Tree_n5 (x507 : Int) (x514 : Int) (x35 : List Int) (x515 : Int) (x510 : List Int) (x512 : List Int) : Option ((Int × (List Int))) :=
  (spec_l20Tree_n4 x507 x514 x35 x515 x510 x512).map (fun (t : Int × (List Int)) => (t.1, t.2))

def spec_l20Tree_n6 (x507 : Int) (x514 : Int) (x35 : List Int) (x515 : Int) (x510 : List Int) (x512 : List Int) : Option ((Int × (List Int))) :=
  (spec_l20Tree_n2).bind (fun (t : Unit) => spec_l20Tree_n5 x507 x514 x35 x515 x510 x512)

def spec_l20Tree_n7 (x34 : Int) (x507 : Int) (x35 : List Int) (x586 : Int) (x587 : List Int) : Option ((Int × (List Int))) :=
  (spec_l20Rd_odd x34 x35 x586).bind fun (v732 : Bool × Int) => cond (v732.1) ((spec_l20Rd_pick 4 x35 (v732.2)).bind fun (v735 : Int × Int) => cond ((v735.1) == 0) (some ((v735.2), ([] : List Int))) (cond ((v735.1) == 1) (some ((v735.2), ([2, 1, 0]))) (cond ((v735.1) == 2) ((spec_l20Rd_pick x507 x35 (v735.2)).bind fun (v742 : Int × Int) => (inb (v742.1) (List.length x587)).bind fun (v745 : Nat) => (room ((List.length (x587.set v745 0)) + List.length ([0]))).bind fun (v749 : Unit) => some ((v742.2), ((x587.set v745 0) ++ ([0])))) ((spec_l20Rd_pick 3 x35 (v735.2)).bind fun (v753 : Int × Int) => (inb (v753.1) (List.length ([1, (IntKind.wrap .i64 (x507 + 1)), (-1)]))).bind fun (v756 : Nat) => (([1, (IntKind.wrap .i64 (x507 + 1)), (-1)])[v756]?).bind fun (v757 : Int) => (inb 0 (List.length x587)).bind fun (v758 : Nat) => some ((v753.2), (x587.set v758 v757)))))) (some ((v732.2), x587))

def spec_l20Tree_n8 (x34 : Int) (x507 : Int) (x514 : Int) (x35 : List Int) (x515 : Int) (x510 : List Int) (x512 : List Int) : Option ((Int × (List Int))) :=
  (spec_l20Tree_n6 x507 x514 x35 x515 x510 x512).bind (fun (t : Int × (List Int)) => spec_l20Tree_n7 x34 x507 x35 t.1 t.2)

def spec_l20Tree_n9 (x34 : Int) (x35 : List Int) (x36 : Int) : Option ((Int × (List Int))) :=
  (spec_l20Tree_n1 x35 x36).bind (fun (t : Int × Int × Int × (List Int) × (List Int)) => spec_l20Tree_n8 x34 t.1 t.2.1 x35 t.2.2.1 t.2.2.2.1 t.2.2.2.2)

@[irreducible] def spec_l20Tree (x34 : Int) (x35 : List Int) (x36 : Int) : Option (Int × (List Int)) :=
  spec_l20Tree_n9 x34 x35 x36

/-! loop.example/headtrees/spec.DrawTreeOk -/

def spec_DrawTreeOk_n1 (x10 : List Int) : Option (((List Int))) :=
  (spec_l20Open x10).bind fun (v765 : List Int) => (spec_l20Tree 2 v765 0).bind fun (v766 : Int × (List Int)) => some (v766.2)

@[irreducible] def spec_DrawTreeOk (x10 : List Int) : Option ((List Int)) :=
  spec_DrawTreeOk_n1 x10

/-! loop.example/headtrees/impl.oneRoot -/

def impl_oneRoot_n1 : Option (Unit) :=
  some ()

def impl_oneRoot_n2 (x779 : List Int) : Option (Int) :=
  some (((List.length x779 : Nat) : Int))

def impl_oneRoot_n3 (x779 : List Int) (x801 : Int) (x780 : Int) (x802 : Int) : Option ((Int × Int) ⊕ Bool ⊕ Int) :=
  cond (decide (x802 < x780)) ((idx x779 x802).bind fun (v813 : Int) => cond (decide (v813 < 0)) (some (Sum.inr (Sum.inl false))) (cond (decide (v813 > (((List.length x779 : Nat) : Int)))) (some (Sum.inr (Sum.inl false))) (cond (v813 == 0) (some (Sum.inl ((IntKind.wrap .i64 (x801 + 1)), (IntKind.wrap .i64 (x802 + 1))))) (some (Sum.inl (x801, (IntKind.wrap .i64 (x802 + 1)))))))) (some (Sum.inr (Sum.inr x801)))

def impl_oneRoot_n4 (x779 : List Int) (x780 : Int) : Option (Bool ⊕ Int) :=
  nloop (fun (s : Int × Int) => ((impl_oneRoot_n3 x779 s.1 x780 s.2).map (Sum.elim (fun (t : Int × Int) => Sum.inl (t.1, t.2)) (Sum.elim (fun (t : Bool) => Sum.inr (Sum.inl t)) (fun (t : Int) => Sum.inr (Sum.inr t)))) : Option ((Int × Int) ⊕ (Bool ⊕ Int)))) LL (0, 0)

def impl_oneRoot_n5 (x779 : List Int) (x780 : Int) : Option (Int ⊕ Bool) :=
  (impl_oneRoot_n4 x779 x780).map (Sum.elim (fun (t : Bool) => (Sum.inr t)) (fun (t : Int) => (Sum.inl t)))

def impl_oneRoot_n6 (x779 : List Int) : Option (Int ⊕ Bool) :=
  (impl_oneRoot_n2 x779).bind (fun (t : Int) => impl_oneRoot_n5 x779 t)

def impl_oneRoot_n7 (x801 : Int) : Option (Bool) :=
  some (x801 == 1)

def impl_oneRoot_n8 (x779 : List Int) : Option (Bool) :=
  (impl_oneRoot_n6 x779).bind (Sum.elim (fun (t : Int) => impl_oneRoot_n7 t) (fun e => some ((fun (t : Bool) => t) e)))

def impl_oneRoot_n9 (x779 : List Int) : Option (Bool) :=
  (impl_oneRoot_n1).bind (fun (t : Unit) => impl_oneRoot_n8 x779)

@[irreducible] def impl_oneRoot (x779 : List Int) : Option (Bool) :=
  impl_oneRoot_n9 x779

/-! (*loop.example/headtrees/impl.walker).up -/

def impl_walker_up_n1 (x835 : List Int) (x836 : Int) (x837 : Int) : Option ((Bool × Int × Int)) :=
  (idx x835 (IntKind.wrap .i64 (x836 - 1))).bind fun (v855 : Int) => cond (v855 == 0) (some (false, x836, x837)) (some (true, v855, (IntKind.wrap .i64 (x837 + 1))))

@[irreducible] def impl_walker_up (x835 : List Int) (x836 : Int) (x837 : Int) : Option (Bool × Int × Int) :=
  impl_walker_up_n1 x835 x836 x837

/-! loop.example/headtrees/impl.stepsToRoot -/

def impl_stepsToRoot_n1 : Option (Unit) :=
  some ()

def impl_stepsToRoot_n2 (x833 : List Int) (x871 : Int) (x872 : Int) : Option ((Int × Int) ⊕ (Int × Bool) ⊕ (Int × Int)) :=
  (impl_walker_up x833 x871 x872).bind fun (v877 : Bool × Int × Int) => cond (v877.1) (cond (decide ((v877.2.2) ≥ (((List.length x833 : Nat) : Int)))) (some (Sum.inr (Sum.inl (0, false)))) (some (Sum.inl ((v877.2.1), (v877.2.2))))) (some (Sum.inr (Sum.inr ((v877.2.1), (v877.2.2)))))

def impl_stepsToRoot_n3 (x833 : List Int) (x834 : Int) : Option ((Int × Bool) ⊕ (Int × Int)) :=
  nloop (fun (s : Int × Int) => ((impl_stepsToRoot_n2 x833 s.1 s.2).map (Sum.elim (fun (t : Int × Int) => Sum.inl (t.1, t.2)) (Sum.elim (fun (t : Int × Bool) => Sum.inr (Sum.inl t)) (fun (t : Int × Int) => Sum.inr (Sum.inr t)))) : Option ((Int × Int) ⊕ ((Int × Bool) ⊕ (Int × Int))))) LL (x834, 0)

def impl_stepsToRoot_n4 (x833 : List Int) (x834 : Int) : Option ((Int × Int) ⊕ (Int × Bool)) :=
  (impl_stepsToRoot_n3 x833 x834).map (Sum.elim (fun (t : Int × Bool) => (Sum.inr t)) (fun (t : Int × Int) => (Sum.inl (t.1, t.2))))

def impl_stepsToRoot_n5 (x880 : Int) : Option ((Int × Bool)) :=
  some (x880, true)

def impl_stepsToRoot_n6 (x833 : List Int) (x834 : Int) : Option ((Int × Bool)) :=
  (impl_stepsToRoot_n4 x833 x834).bind (Sum.elim (fun (t : Int × Int) => impl_stepsToRoot_n5 t.2) (fun e => some ((fun (t : Int × Bool) => t) e)))

def impl_stepsToRoot_n7 (x833 : List Int) (x834 : Int) : Option ((Int × Bool)) :=
  (impl_stepsToRoot_n1).bind (fun (t : Unit) => impl_stepsToRoot_n6 x833 x834)

@[irreducible] def impl_stepsToRoot (x833 : List Int) (x834 : Int) : Option (Int × Bool) :=
  impl_stepsToRoot_n7 x833 x834

/-! loop.example/headtrees/impl.TreeOk -/

def impl_TreeOk_n1 (x773 : List Int) : Option (Unit ⊕ Bool) :=
  cond (decide ((((List.length x773 : Nat) : Int)) < 1)) (some (Sum.inr false)) (cond (decide ((((List.length x773 : Nat) : Int)) > 8)) (some (Sum.inr false)) ((impl_oneRoot x773).bind fun (v826 : Bool) => cond (!v826) (some (Sum.inr false)) (some (Sum.inl ()))))

def impl_TreeOk_n2 (x773 : List Int) : Option (Int) :=
  some (((List.length x773 : Nat) : Int))

def impl_TreeOk_n3 (x773 : List Int) (x828 : Int) (x896 : Int) : Option (Int ⊕ Bool ⊕ Unit) :=
  cond (decide (x896 < x828)) ((impl_stepsToRoot x773 (IntKind.wrap .i64 (x896 + 1))).bind fun (v907 : Int × Bool) => cond (!(v907.2)) (some (Sum.inr (Sum.inl false))) (some (Sum.inl (IntKind.wrap .i64 (x896 + 1))))) (some (Sum.inr (Sum.inr ())))

def impl_TreeOk_n4 (x773 : List Int) (x828 : Int) : Option (Bool ⊕ Unit) :=
  nloop (fun (s : Int) => ((impl_TreeOk_n3 x773 x828 s).map (Sum.elim (fun (t : Int) => Sum.inl t) (Sum.elim (fun (t : Bool) => Sum.inr (Sum.inl t)) (fun (t : Unit) => Sum.inr (Sum.inr t)))) : Option ((Int) ⊕ (Bool ⊕ Unit)))) LL 0

def impl_TreeOk_n5 (x773 : List Int) (x828 : Int) : Option (Unit ⊕ Bool) :=
  (impl_TreeOk_n4 x773 x828).map (Sum.elim (fun (t : Bool) => (Sum.inr t)) (fun (t : Unit) => (Sum.inl ())))

def impl_TreeOk_n6 (x773 : List Int) : Option (Unit ⊕ Bool) :=
  (impl_TreeOk_n2 x773).bind (fun (t : Int) => impl_TreeOk_n5 x773 t)

def impl_TreeOk_n7 : Option (Bool) :=
  some true

def impl_TreeOk_n8 (x773 : List Int) : Option (Bool) :=
  (impl_TreeOk_n6 x773).bind (Sum.elim (fun (t : Unit) => impl_TreeOk_n7) (fun e => some ((fun (t : Bool) => t) e)))

def impl_TreeOk_n9 (x773 : List Int) : Option (Bool) :=
  (impl_TreeOk_n1 x773).bind (Sum.elim (fun (t : Unit) => impl_TreeOk_n8 x773) (fun e => some ((fun (t : Bool) => t) e)))

@[irreducible] def impl_TreeOk (x773 : List Int) : Option (Bool) :=
  impl_TreeOk_n9 x773

/-! loop.example/headtrees/spec.l1In -/

def spec_l1In_n1 (x921 : Int) (x922 : Int) (x923 : Int) : Option (Bool) :=
  cond (decide (x921 ≥ x922)) (some (decide (x921 ≤ x923))) (some false)

@[irreducible] def spec_l1In (x921 : Int) (x922 : Int) (x923 : Int) : Option (Bool) :=
  spec_l1In_n1 x921 x922 x923

/-! loop.example/headtrees/spec.TreeOk -/

def spec_TreeOk_n1 (x918 : List Int) : Option (Int ⊕ Bool) :=
  (spec_l1In (((List.length x918 : Nat) : Int)) 1 8).bind fun (v932 : Bool) => cond (!v932) (some (Sum.inr false)) (some (Sum.inl (((List.length x918 : Nat) : Int))))

def spec_TreeOk_n2 : Option (Unit) :=
  some ()

def spec_TreeOk_n3 (x931 : Int) (x998 : Int) (x999 : Int) : Option (Unit ⊕ Int) :=
  cond (decide (x999 < x931)) (some (Sum.inl ())) (some (Sum.inr x998))

def spec_TreeOk_n4 (x918 : List Int) (x931 : Int) (x998 : Int) (x999 : Int) : Option ((Int × Int) ⊕ Bool) :=
  (idx x918 x999).bind fun (v1016 : Int) => (spec_l1In v1016 0 x931).bind fun (v1017 : Bool) => cond (!v1017) (some (Sum.inr false)) ((idx x918 x999).bind fun (v1019 : Int) => cond (v1019 == (IntKind.wrap .i64 (x999 + 1))) (some (Sum.inr false)) ((idx x918 x999).bind fun (v1022 : Int) => cond (v1022 == 0) (some (Sum.inl ((IntKind.wrap .i64 (x998 + 1)), (IntKind.wrap .i64 (x999 + 1))))) (some (Sum.inl (x998, (IntKind.wrap .i64 (x999 + 1)))))))

def spec_TreeOk_n5 : Option (Unit) :=
  some ()

def spec_TreeOk_n6 (x918 : List Int) (x931 : Int) (x1044 : Int) (x1045 : Int) : Option ((Int × Int) ⊕ Bool ⊕ Int) :=
  cond (decide (x1044 > 0)) (cond (decide (x1045 < x931)) ((idx x918 (IntKind.wrap .i64 (x1044 - 1))).bind fun (v1057 : Int) => (spec_l1In v1057 0 x931).bind fun (v1058 : Bool) => cond (!v1058) (some (Sum.inr (Sum.inl false))) (some (Sum.inl (v1057, (IntKind.wrap .i64 (x1045 + 1)))))) (some (Sum.inr (Sum.inr x1044)))) (some (Sum.inr (Sum.inr x1044)))

def spec_TreeOk_n7 (x918 : List Int) (x931 : Int) (x1028 : Int) : Option (Bool ⊕ Int) :=
  nloop (fun (s : Int × Int) => ((spec_TreeOk_n6 x918 x931 s.1 s.2).map (Sum.elim (fun (t : Int × Int) => Sum.inl (t.1, t.2)) (Sum.elim (fun (t : Bool) => Sum.inr (Sum.inl t)) (fun (t : Int) => Sum.inr (Sum.inr t)))) : Option ((Int × Int) ⊕ (Bool ⊕ Int)))) LL (x1028, 0)

def spec_TreeOk_n8 (x918 : List Int) (x931 : Int) (x1028 : Int) : Option (Int ⊕ Bool) :=
  (spec_TreeOk_n7 x918 x931 x1028).map (Sum.elim (fun (t : Bool) => (Sum.inr t)) (fun (t : Int) => (Sum.inl t)))

def spec_TreeOk_n9 (x918 : List Int) (x931 : Int) (x1028 : Int) : Option (Int ⊕ Bool) :=
  (spec_TreeOk_n5).bind (fun (t : Unit) => spec_TreeOk_n8 x918 x931 x1028)

def spec_TreeOk_n10 (x1044 : Int) : Option (Unit ⊕ Bool) :=
  cond (decide (x1044 > 0)) (some (Sum.inr false)) (some (Sum.inl ()))

def spec_TreeOk_n11 (x918 : List Int) (x931 : Int) (x1028 : Int) : Option (Unit ⊕ Bool) :=
  (spec_TreeOk_n9 x918 x931 x1028).bind (Sum.elim (fun (t : Int) => spec_TreeOk_n10 t) (fun e => some ((fun (t : Bool) => (Sum.inr t)) e)))

def spec_TreeOk_n12 (x918 : List Int) (x931 : Int) (x998 : Int) (x999 : Int) : Option (Int ⊕ Bool) :=
  (spec_TreeOk_n4 x918 x931 x998 x999).bind (Sum.elim (fun (t : Int × Int) => (spec_TreeOk_n11 x918 x931 t.2).map (Sum.elim (fun (u : Unit) => (Sum.inl t.1)) (fun (u : Bool) => (Sum.inr u)))) (fun e => some ((fun (t : Bool) => (Sum.inr t)) e)))

def spec_TreeOk_n13 (x918 : List Int) (x931 : Int) (x998 : Int) (x999 : Int) : Option (Int ⊕ Bool) :=
  (spec_TreeOk_n12 x918 x931 x998 x999).map (Sum.elim (fun (t : Int) => (Sum.inl t)) (fun (t : Bool) => (Sum.inr t)))

def spec_TreeOk_n14 (x999 : Int) : Option (Int) :=
  some (IntKind.wrap .i64 (x999 + 1))

def spec_TreeOk_n15 (x918 : List Int) (x931 : Int) (x998 : Int) (x999 : Int) : Option ((Int × Int) ⊕ Bool) :=
  (spec_TreeOk_n13 x918 x931 x998 x999).bind (Sum.elim (fun (t : Int) => (spec_TreeOk_n14 x999).map (fun (u : Int) => (Sum.inl (t, u)))) (fun e => some ((fun (t : Bool) => (Sum.inr t)) e)))

def spec_TreeOk_n16 (x918 : List Int) (x931 : Int) (x998 : Int) (x999 : Int) : Option ((Int × Int) ⊕ Bool ⊕ Int) :=
  (spec_TreeOk_n3 x931 x998 x999).bind (Sum.elim (fun (t : Unit) => (spec_TreeOk_n15 x918 x931 x998 x999).map (Sum.elim (fun (t : Int × Int) => (Sum.inl (t.1, t.2))) (fun (t : Bool) => (Sum.inr (Sum.inl t))))) (fun e => some ((fun (t : Int) => (Sum.inr (Sum.inr t))) e)))

def spec_TreeOk_n17 (x918 : List Int) (x931 : Int) : Option (Bool ⊕ Int) :=
  nloop (fun (s : Int × Int) => ((spec_TreeOk_n16 x918 x931 s.1 s.2).map (Sum.elim (fun (t : Int × Int) => Sum.inl (t.1, t.2)) (Sum.elim (fun (t : Bool) => Sum.inr (Sum.inl t)) (fun (t : Int) => Sum.inr (Sum.inr t)))) : Option ((Int × Int) ⊕ (Bool ⊕ Int)))) LL (0, 0)

def spec_TreeOk_n18 (x918 : List Int) (x931 : Int) : Option (Int ⊕ Bool) :=
  (spec_TreeOk_n17 x918 x931).map (Sum.elim (fun (t : Bool) => (Sum.inr t)) (fun (t : Int) => (Sum.inl t)))

def spec_TreeOk_n19 (x918 : List Int) (x931 : Int) : Option (Int ⊕ Bool) :=
  (spec_TreeOk_n2).bind (fun (t : Unit) => spec_TreeOk_n18 x918 x931)

def spec_TreeOk_n20 (x998 : Int) : Option (Bool) :=
  some (x998 == 1)

def spec_TreeOk_n21 (x918 : List Int) (x931 : Int) : Option (Bool) :=
  (spec_TreeOk_n19 x918 x931).bind (Sum.elim (fun (t : Int) => spec_TreeOk_n20 t) (fun e => some ((fun (t : Bool) => t) e)))

def spec_TreeOk_n22 (x918 : List Int) : Option (Bool) :=
  (spec_TreeOk_n1 x918).bind (Sum.elim (fun (t : Int) => spec_TreeOk_n21 x918 t) (fun e => some ((fun (t : Bool) => t) e)))

@[irreducible] def spec_TreeOk (x918 : List Int) : Option (Bool) :=
  spec_TreeOk_n22 x918

/-! loop.example/headtrees/laws.alive -/

def laws_alive_n1 : Option (Bool) :=
  (impl_TreeOk ([0])).bind fun (v1143 : Bool) => cond v1143 ((impl_TreeOk ([1])).bind fun (v1145 : Bool) => some (!v1145)) (some false)

@[irreducible] def laws_alive : Option (Bool) :=
  laws_alive_n1

/-! loop.example/headtrees/laws.FnTreeOk -/

def laws_FnTreeOk_n1 (x2 : List Int) : Option ((Bool × (List Int)) ⊕ Bool) :=
  cond (decide ((((List.length x2 : Nat) : Int)) > 1048576)) (some (Sum.inr true)) ((spec_DrawTreeOk x2).bind fun (v916 : List Int) => (impl_TreeOk v916).bind fun (v917 : Bool) => (spec_TreeOk v916).bind fun (v1067 : Bool) => cond (v917 != v1067) (some (Sum.inr false)) (some (Sum.inl (v917, v916))))

def laws_FnTreeOk_n2 : Option (Unit) :=
  some ()

def laws_FnTreeOk_n3 (x917 : Bool) (x1100 : Int) (x916 : List Int) : Option (Int ⊕ Bool ⊕ Unit) :=
  cond (decide (x1100 ≤ (((List.length x916 : Nat) : Int)))) (cond x917 (cond (decide ((((List.length x916 : Nat) : Int)) < 8)) ((room ((List.length ([] : List Int)) + List.length x916)).bind fun (v1123 : Unit) => (room ((List.length (([] : List Int) ++ x916)) + List.length ([x1100]))).bind fun (v1127 : Unit) => (impl_TreeOk ((([] : List Int) ++ x916) ++ ([x1100]))).bind fun (v1129 : Bool) => cond (!v1129) (some (Sum.inr (Sum.inl false))) (some (Sum.inl (IntKind.wrap .i64 (x1100 + 1))))) (some (Sum.inr (Sum.inr ())))) (some (Sum.inr (Sum.inr ())))) (some (Sum.inr (Sum.inr ())))

def laws_FnTreeOk_n4 (x917 : Bool) (x916 : List Int) : Option (Bool ⊕ Unit) :=
  nloop (fun (s : Int) => ((laws_FnTreeOk_n3 x917 s x916).map (Sum.elim (fun (t : Int) => Sum.inl t) (Sum.elim (fun (t : Bool) => Sum.inr (Sum.inl t)) (fun (t : Unit) => Sum.inr (Sum.inr t)))) : Option ((Int) ⊕ (Bool ⊕ Unit)))) LL 1

def laws_FnTreeOk_n5 (x917 : Bool) (x916 : List Int) : Option (Unit ⊕ Bool) :=
  (laws_FnTreeOk_n4 x917 x916).map (Sum.elim (fun (t : Bool) => (Sum.inr t)) (fun (t : Unit) => (Sum.inl ())))

def laws_FnTreeOk_n6 (x917 : Bool) (x916 : List Int) : Option (Unit ⊕ Bool) :=
  (laws_FnTreeOk_n2).bind (fun (t : Unit) => laws_FnTreeOk_n5 x917 x916)

def laws_FnTreeOk_n7 : Option (Bool) :=
  (impl_TreeOk ([0])).bind fun (v1150 : Bool) => cond v1150 ((impl_TreeOk ([2, 1])).bind fun (v1152 : Bool) => cond (!v1152) ((laws_alive).bind fun (v1154 : Bool) => some v1154) (some false)) (some false)

def laws_FnTreeOk_n8 (x917 : Bool) (x916 : List Int) : Option (Bool) :=
  (laws_FnTreeOk_n6 x917 x916).bind (Sum.elim (fun (t : Unit) => laws_FnTreeOk_n7) (fun e => some ((fun (t : Bool) => t) e)))

def laws_FnTreeOk_n9 (x2 : List Int) : Option (Bool) :=
  (laws_FnTreeOk_n1 x2).bind (Sum.elim (fun (t : Bool × (List Int)) => laws_FnTreeOk_n8 t.1 t.2) (fun e => some ((fun (t : Bool) => t) e)))

@[irreducible] def laws_FnTreeOk (x2 : List Int) : Option (Bool) :=
  laws_FnTreeOk_n9 x2

/-! loop.example/headtrees/spec.DrawRootOf -/

def spec_DrawRootOf_n1 (x1162 : List Int) : Option (((List Int))) :=
  (spec_l20Open x1162).bind fun (v1168 : List Int) => (spec_l20Tree 9 v1168 0).bind fun (v1169 : Int × (List Int)) => some (v1169.2)

@[irreducible] def spec_DrawRootOf (x1162 : List Int) : Option ((List Int)) :=
  spec_DrawRootOf_n1 x1162

/-! loop.example/headtrees/impl.RootOf -/

def impl_RootOf_n1 (x1176 : List Int) : Option (Unit ⊕ Int) :=
  (impl_TreeOk x1176).bind fun (v1179 : Bool) => cond (!v1179) (some (Sum.inr (-1))) (some (Sum.inl ()))

def impl_RootOf_n2 (x1176 : List Int) (x1189 : Int) (x1190 : Int) : Option ((Int × Int) ⊕ (Int × Int)) :=
  (impl_walker_up x1176 x1189 x1190).bind fun (v1195 : Bool × Int × Int) => cond (v1195.1) (some (Sum.inl ((v1195.2.1), (v1195.2.2)))) (some (Sum.inr ((v1195.2.1), (v1195.2.2))))

def impl_RootOf_n3 (x1176 : List Int) : Option ((Int × Int)) :=
  nloop (fun (s : Int × Int) => ((impl_RootOf_n2 x1176 s.1 s.2).map (Sum.elim (fun (t : Int × Int) => Sum.inl (t.1, t.2)) (fun (t : Int × Int) => Sum.inr t)) : Option ((Int × Int) ⊕ ((Int × Int))))) LL (1, 0)

def impl_RootOf_n4 (x1176 : List Int) : Option ((Int × Int)) :=
  (impl_RootOf_n3 x1176).map (fun (t : Int × Int) => (t.1, t.2))

def impl_RootOf_n5 (x1197 : Int) : Option (Int) :=
  some x1197

def impl_RootOf_n6 (x1176 : List Int) : Option (Int) :=
  (impl_RootOf_n4 x1176).bind (fun (t : Int × Int) => impl_RootOf_n5 t.1)

def impl_RootOf_n7 (x1176 : List Int) : Option (Int) :=
  (impl_RootOf_n1 x1176).bind (Sum.elim (fun (t : Unit) => impl_RootOf_n6 x1176) (fun e => some ((fun (t : Int) => t) e)))

@[irreducible] def impl_RootOf (x1176 : List Int) : Option (Int) :=
  impl_RootOf_n7 x1176

/-! loop.example/headtrees/spec.RootOf -/

def spec_RootOf_n1 : Option (Unit) :=
  some ()

def spec_RootOf_n2 : Option (Unit) :=
  some ()

def spec_RootOf_n3 (x1205 : List Int) (x1222 : Int) : Option (Int ⊕ Int ⊕ Unit) :=
  cond (decide (x1222 < (((List.length x1205 : Nat) : Int)))) ((spec_TreeOk x1205).bind fun (v1234 : Bool) => cond v1234 ((idx x1205 x1222).bind fun (v1235 : Int) => cond (v1235 == 0) (some (Sum.inr (Sum.inl (IntKind.wrap .i64 (x1222 + 1))))) (some (Sum.inl (IntKind.wrap .i64 (x1222 + 1))))) (some (Sum.inr (Sum.inr ())))) (some (Sum.inr (Sum.inr ())))

def spec_RootOf_n4 (x1205 : List Int) : Option (Int ⊕ Unit) :=
  nloop (fun (s : Int) => ((spec_RootOf_n3 x1205 s).map (Sum.elim (fun (t : Int) => Sum.inl t) (Sum.elim (fun (t : Int) => Sum.inr (Sum.inl t)) (fun (t : Unit) => Sum.inr (Sum.inr t)))) : Option ((Int) ⊕ (Int ⊕ Unit)))) LL 0

def spec_RootOf_n5 (x1205 : List Int) : Option (Unit ⊕ Int) :=
  (spec_RootOf_n4 x1205).map (Sum.elim (fun (t : Int) => (Sum.inr t)) (fun (t : Unit) => (Sum.inl ())))

def spec_RootOf_n6 (x1205 : List Int) : Option (Unit ⊕ Int) :=
  (spec_RootOf_n2).bind (fun (t : Unit) => spec_RootOf_n5 x1205)

def spec_RootOf_n7 : Option (Int) :=
  some (-1)

def spec_RootOf_n8 (x1205 : List Int) : Option (Int) :=
  (spec_RootOf_n6 x1205).bind (Sum.elim (fun (t : Unit) => spec_RootOf_n7) (fun e => some ((fun (t : Int) => t) e)))

def spec_RootOf_n9 (x1205 : List Int) : Option (Int) :=
  (spec_RootOf_n1).bind (fun (t : Unit) => spec_RootOf_n8 x1205)

@[irreducible] def spec_RootOf (x1205 : List Int) : Option (Int) :=
  spec_RootOf_n9 x1205

/-! loop.example/headtrees/impl.DepthOf -/

def impl_DepthOf_n1 (x1264 : List Int) : Option (((List Int)) ⊕ ((List Int))) :=
  (impl_TreeOk x1264).bind fun (v1267 : Bool) => cond (!v1267) (some (Sum.inr ([] : List Int))) ((mk (((List.length x1264 : Nat) : Int)) (((List.length x1264 : Nat) : Int))).bind fun (v1270 : Nat) => some (Sum.inl (List.replicate v1270 (0 : Int))))

def impl_DepthOf_n2 (x1264 : List Int) : Option (Int) :=
  some (((List.length x1264 : Nat) : Int))

def impl_DepthOf_n3 (x1264 : List Int) (x1272 : Int) (x1290 : Int) (x1291 : List Int) : Option ((Int × (List Int)) ⊕ ((List Int))) :=
  cond (decide (x1290 < x1272)) ((impl_stepsToRoot x1264 (IntKind.wrap .i64 (x1290 + 1))).bind fun (v1303 : Int × Bool) => (inb x1290 (List.length x1291)).bind fun (v1306 : Nat) => some (Sum.inl ((IntKind.wrap .i64 (x1290 + 1)), (x1291.set v1306 (v1303.1))))) (some (Sum.inr x1291))

def impl_DepthOf_n4 (x1264 : List Int) (x1272 : Int) (x1271 : List Int) : Option (((List Int))) :=
  nloop (fun (s : Int × (List Int)) => ((impl_DepthOf_n3 x1264 x1272 s.1 s.2).map (Sum.elim (fun (t : Int × (List Int)) => Sum.inl (t.1, t.2)) (fun (t : (List Int)) => Sum.inr t)) : Option ((Int × (List Int)) ⊕ (((List Int)))))) LL (0, x1271)

def impl_DepthOf_n5 (x1264 : List Int) (x1272 : Int) (x1271 : List Int) : Option (((List Int))) :=
  (impl_DepthOf_n4 x1264 x1272 x1271).map (fun (t : (List Int)) => t)

def impl_DepthOf_n6 (x1264 : List Int) (x1271 : List Int) : Option (((List Int))) :=
  (impl_DepthOf_n2 x1264).bind (fun (t : Int) => impl_DepthOf_n5 x1264 t x1271)

def impl_DepthOf_n7 (x1291 : List Int) : Option (((List Int))) :=
  some x1291

def impl_DepthOf_n8 (x1264 : List Int) (x1271 : List Int) : Option (((List Int))) :=
  (impl_DepthOf_n6 x1264 x1271).bind (fun (t : (List Int)) => impl_DepthOf_n7 t)

def impl_DepthOf_n9 (x1264 : List Int) : Option (((List Int))) :=
  (impl_DepthOf_n1 x1264).bind (Sum.elim (fun (t : (List Int)) => impl_DepthOf_n8 x1264 t) (fun e => some ((fun (t : (List Int)) => t) e)))

@[irreducible] def impl_DepthOf (x1264 : List Int) : Option ((List Int)) :=
  impl_DepthOf_n9 x1264

/-! loop.example/headtrees/laws.FnRootOf -/

def laws_FnRootOf_n1 (x1157 : List Int) : Option ((Int × (List Int) × (List Int)) ⊕ Bool) :=
  cond (decide ((((List.length x1157 : Nat) : Int)) > 1048576)) (some (Sum.inr true)) ((spec_DrawRootOf x1157).bind fun (v1313 : List Int) => (impl_RootOf v1313).bind fun (v1314 : Int) => (spec_RootOf v1313).bind fun (v1315 : Int) => cond (v1314 != v1315) (some (Sum.inr false)) (cond (decide (v1314 < 0)) (cond (v1314 == (-1)) ((impl_TreeOk v1313).bind fun (v1319 : Bool) => cond (!v1319) ((laws_alive).bind fun (v1321 : Bool) => some (Sum.inr v1321)) (some (Sum.inr false))) (some (Sum.inr false))) ((impl_DepthOf v1313).bind fun (v1322 : List Int) => cond ((((List.length v1322 : Nat) : Int)) != (((List.length v1313 : Nat) : Int))) (some (Sum.inr false)) (some (Sum.inl (v1314, v1313, v1322))))))

def laws_FnRootOf_n2 : Option (Unit) :=
  some ()

def laws_FnRootOf_n3 (x1314 : Int) (x1357 : Int) (x1313 : List Int) (x1322 : List Int) : Option (Int ⊕ Bool ⊕ Unit) :=
  cond (decide (x1357 < (((List.length x1313 : Nat) : Int)))) ((inb x1357 (List.length x1313)).bind fun (v1376 : Nat) => (x1313[v1376]?).bind fun (v1377 : Int) => cond ((v1377 == 0) != ((IntKind.wrap .i64 (x1357 + 1)) == x1314)) (some (Sum.inr (Sum.inl false))) ((inb x1357 (List.length x1322)).bind fun (v1382 : Nat) => (x1322[v1382]?).bind fun (v1383 : Int) => cond ((v1383 == 0) != ((IntKind.wrap .i64 (x1357 + 1)) == x1314)) (some (Sum.inr (Sum.inl false))) (some (Sum.inl (IntKind.wrap .i64 (x1357 + 1)))))) (some (Sum.inr (Sum.inr ())))

def laws_FnRootOf_n4 (x1314 : Int) (x1313 : List Int) (x1322 : List Int) : Option (Bool ⊕ Unit) :=
  nloop (fun (s : Int) => ((laws_FnRootOf_n3 x1314 s x1313 x1322).map (Sum.elim (fun (t : Int) => Sum.inl t) (Sum.elim (fun (t : Bool) => Sum.inr (Sum.inl t)) (fun (t : Unit) => Sum.inr (Sum.inr t)))) : Option ((Int) ⊕ (Bool ⊕ Unit)))) LL 0

def laws_FnRootOf_n5 (x1314 : Int) (x1313 : List Int) (x1322 : List Int) : Option (Unit ⊕ Bool) :=
  (laws_FnRootOf_n4 x1314 x1313 x1322).map (Sum.elim (fun (t : Bool) => (Sum.inr t)) (fun (t : Unit) => (Sum.inl ())))

def laws_FnRootOf_n6 (x1314 : Int) (x1313 : List Int) (x1322 : List Int) : Option (Unit ⊕ Bool) :=
  (laws_FnRootOf_n2).bind (fun (t : Unit) => laws_FnRootOf_n5 x1314 x1313 x1322)

def laws_FnRootOf_n7 : Option (Bool) :=
  some true

def laws_FnRootOf_n8 (x1314 : Int) (x1313 : List Int) (x1322 : List Int) : Option (Bool) :=
  (laws_FnRootOf_n6 x1314 x1313 x1322).bind (Sum.elim (fun (t : Unit) => laws_FnRootOf_n7) (fun e => some ((fun (t : Bool) => t) e)))

def laws_FnRootOf_n9 (x1157 : List Int) : Option (Bool) :=
  (laws_FnRootOf_n1 x1157).bind (Sum.elim (fun (t : Int × (List Int) × (List Int)) => laws_FnRootOf_n8 t.1 t.2.1 t.2.2) (fun e => some ((fun (t : Bool) => t) e)))

@[irreducible] def laws_FnRootOf (x1157 : List Int) : Option (Bool) :=
  laws_FnRootOf_n9 x1157

/-! loop.example/headtrees/spec.DrawDepthOf -/

def spec_DrawDepthOf_n1 (x1396 : List Int) : Option (((List Int))) :=
  (spec_l20Open x1396).bind fun (v1401 : List Int) => (spec_l20Tree 9 v1401 0).bind fun (v1402 : Int × (List Int)) => some (v1402.2)

@[irreducible] def spec_DrawDepthOf (x1396 : List Int) : Option ((List Int)) :=
  spec_DrawDepthOf_n1 x1396

/-! loop.example/headtrees/spec.DepthOf -/

def spec_DepthOf_n1 : Option (Unit) :=
  some ()

def spec_DepthOf_n2 : Option (Unit) :=
  some ()

def spec_DepthOf_n3 (x1414 : List Int) (x1452 : Int) (x1453 : List Int) : Option (Unit ⊕ ((List Int))) :=
  cond (decide (x1452 < (((List.length x1414 : Nat) : Int)))) ((spec_TreeOk x1414).bind fun (v1456 : Bool) => cond v1456 (some (Sum.inl ())) (some (Sum.inr x1453))) (some (Sum.inr x1453))

def spec_DepthOf_n4 : Option (Unit) :=
  some ()

def spec_DepthOf_n5 (x1452 : Int) : Option (Int) :=
  some (IntKind.wrap .i64 (x1452 + 1))

def spec_DepthOf_n6 (x1414 : List Int) (x1471 : Int) (x1472 : Int) : Option ((Int × Int) ⊕ Int) :=
  (idx x1414 (IntKind.wrap .i64 (x1472 - 1))).bind fun (v1481 : Int) => cond (decide (v1481 > 0)) ((idx x1414 (IntKind.wrap .i64 (x1472 - 1))).bind fun (v1485 : Int) => some (Sum.inl ((IntKind.wrap .i64 (x1471 + 1)), v1485))) (some (Sum.inr x1471))

def spec_DepthOf_n7 (x1414 : List Int) (x1457 : Int) : Option (Int) :=
  nloop (fun (s : Int × Int) => ((spec_DepthOf_n6 x1414 s.1 s.2).map (Sum.elim (fun (t : Int × Int) => Sum.inl (t.1, t.2)) (fun (t : Int) => Sum.inr t)) : Option ((Int × Int) ⊕ (Int)))) LL (0, x1457)

def spec_DepthOf_n8 (x1414 : List Int) (x1457 : Int) : Option (Int) :=
  (spec_DepthOf_n7 x1414 x1457).map (fun (t : Int) => t)

def spec_DepthOf_n9 (x1414 : List Int) (x1452 : Int) : Option (Int) :=
  (spec_DepthOf_n5 x1452).bind (fun (t : Int) => spec_DepthOf_n8 x1414 t)

def spec_DepthOf_n10 (x1471 : Int) (x1453 : List Int) : Option (((List Int))) :=
  (room ((List.length x1453) + List.length ([x1471]))).bind fun (v1488 : Unit) => some (x1453 ++ ([x1471]))

def spec_DepthOf_n11 (x1414 : List Int) (x1452 : Int) (x1453 : List Int) : Option (((List Int))) :=
  (spec_DepthOf_n9 x1414 x1452).bind (fun (t : Int) => spec_DepthOf_n10 t x1453)

def spec_DepthOf_n12 (x1414 : List Int) (x1452 : Int) (x1453 : List Int) : Option (((List Int))) :=
  (spec_DepthOf_n4).bind (fun (t : Unit) => spec_DepthOf_n11 x1414 x1452 x1453)

def spec_DepthOf_n13 (x1414 : List Int) (x1452 : Int) (x1453 : List Int) : Option (((List Int))) :=
  (spec_DepthOf_n12 x1414 x1452 x1453).map (fun (t : (List Int)) => t)

def spec_DepthOf_n14 (x1452 : Int) : Option (Int) :=
  some (IntKind.wrap .i64 (x1452 + 1))

def spec_DepthOf_n15 (x1414 : List Int) (x1452 : Int) (x1453 : List Int) : Option ((Int × (List Int))) :=
  (spec_DepthOf_n13 x1414 x1452 x1453).bind (fun (t : (List Int)) => (spec_DepthOf_n14 x1452).map (fun (u : Int) => (u, t)))

def spec_DepthOf_n16 (x1414 : List Int) (x1452 : Int) (x1453 : List Int) : Option ((Int × (List Int)) ⊕ ((List Int))) :=
  (spec_DepthOf_n3 x1414 x1452 x1453).bind (Sum.elim (fun (t : Unit) => (spec_DepthOf_n15 x1414 x1452 x1453).map (fun (t : Int × (List Int)) => (Sum.inl (t.1, t.2)))) (fun e => some ((fun (t : (List Int)) => (Sum.inr t)) e)))

def spec_DepthOf_n17 (x1414 : List Int) : Option (((List Int))) :=
  nloop (fun (s : Int × (List Int)) => ((spec_DepthOf_n16 x1414 s.1 s.2).map (Sum.elim (fun (t : Int × (List Int)) => Sum.inl (t.1, t.2)) (fun (t : (List Int)) => Sum.inr t)) : Option ((Int × (List Int)) ⊕ (((List Int)))))) LL (0, ([] : List Int))

def spec_DepthOf_n18 (x1414 : List Int) : Option (((List Int))) :=
  (spec_DepthOf_n17 x1414).map (fun (t : (List Int)) => t)

def spec_DepthOf_n19 (x1414 : List Int) : Option (((List Int))) :=
  (spec_DepthOf_n2).bind (fun (t : Unit) => spec_DepthOf_n18 x1414)

def spec_DepthOf_n20 (x1453 : List Int) : Option (((List Int))) :=
  some x1453

def spec_DepthOf_n21 (x1414 : List Int) : Option (((List Int))) :=
  (spec_DepthOf_n19 x1414).bind (fun (t : (List Int)) => spec_DepthOf_n20 t)

def spec_DepthOf_n22 (x1414 : List Int) : Option (((List Int))) :=
  (spec_DepthOf_n1).bind (fun (t : Unit) => spec_DepthOf_n21 x1414)

@[irreducible] def spec_DepthOf (x1414 : List Int) : Option ((List Int)) :=
  spec_DepthOf_n22 x1414

/-! loop.example/headtrees/laws.sameInts -/

def laws_sameInts_n1 (x1492 : List Int) (x1493 : List Int) : Option (Unit ⊕ Bool) :=
  cond ((((List.length x1492 : Nat) : Int)) != (((List.length x1493 : Nat) : Int))) (some (Sum.inr false)) (some (Sum.inl ()))

def laws_sameInts_n2 : Option (Unit) :=
  some ()

def laws_sameInts_n3 (x1492 : List Int) (x1493 : List Int) (x1510 : Int) : Option (Int ⊕ Bool ⊕ Unit) :=
  cond (decide (x1510 < (((List.length x1492 : Nat) : Int)))) ((idx x1492 x1510).bind fun (v1520 : Int) => (idx x1493 x1510).bind fun (v1521 : Int) => cond (v1520 != v1521) (some (Sum.inr (Sum.inl false))) (some (Sum.inl (IntKind.wrap .i64 (x1510 + 1))))) (some (Sum.inr (Sum.inr ())))

def laws_sameInts_n4 (x1492 : List Int) (x1493 : List Int) : Option (Bool ⊕ Unit) :=
  nloop (fun (s : Int) => ((laws_sameInts_n3 x1492 x1493 s).map (Sum.elim (fun (t : Int) => Sum.inl t) (Sum.elim (fun (t : Bool) => Sum.inr (Sum.inl t)) (fun (t : Unit) => Sum.inr (Sum.inr t)))) : Option ((Int) ⊕ (Bool ⊕ Unit)))) LL 0

def laws_sameInts_n5 (x1492 : List Int) (x1493 : List Int) : Option (Unit ⊕ Bool) :=
  (laws_sameInts_n4 x1492 x1493).map (Sum.elim (fun (t : Bool) => (Sum.inr t)) (fun (t : Unit) => (Sum.inl ())))

def laws_sameInts_n6 (x1492 : List Int) (x1493 : List Int) : Option (Unit ⊕ Bool) :=
  (laws_sameInts_n2).bind (fun (t : Unit) => laws_sameInts_n5 x1492 x1493)

def laws_sameInts_n7 : Option (Bool) :=
  some true

def laws_sameInts_n8 (x1492 : List Int) (x1493 : List Int) : Option (Bool) :=
  (laws_sameInts_n6 x1492 x1493).bind (Sum.elim (fun (t : Unit) => laws_sameInts_n7) (fun e => some ((fun (t : Bool) => t) e)))

def laws_sameInts_n9 (x1492 : List Int) (x1493 : List Int) : Option (Bool) :=
  (laws_sameInts_n1 x1492 x1493).bind (Sum.elim (fun (t : Unit) => laws_sameInts_n8 x1492 x1493) (fun e => some ((fun (t : Bool) => t) e)))

@[irreducible] def laws_sameInts (x1492 : List Int) (x1493 : List Int) : Option (Bool) :=
  laws_sameInts_n9 x1492 x1493

/-! loop.example/headtrees/laws.FnDepthOf -/

def laws_FnDepthOf_n1 (x1391 : List Int) : Option (((List Int) × (List Int)) ⊕ Bool) :=
  cond (decide ((((List.length x1391 : Nat) : Int)) > 1048576)) (some (Sum.inr true)) ((spec_DrawDepthOf x1391).bind fun (v1529 : List Int) => (impl_DepthOf v1529).bind fun (v1530 : List Int) => (spec_DepthOf v1529).bind fun (v1531 : List Int) => (laws_sameInts v1530 v1531).bind fun (v1532 : Bool) => cond (!v1532) (some (Sum.inr false)) (cond ((((List.length v1530 : Nat) : Int)) == 0) ((impl_TreeOk v1529).bind fun (v1536 : Bool) => cond (!v1536) ((laws_alive).bind fun (v1538 : Bool) => some (Sum.inr v1538)) (some (Sum.inr false))) (some (Sum.inl (v1529, v1530)))))

def laws_FnDepthOf_n2 : Option (Unit) :=
  some ()

def laws_FnDepthOf_n3 (x1606 : Int) (x1529 : List Int) (x1530 : List Int) : Option (Int ⊕ Bool ⊕ Unit) :=
  cond (decide (x1606 < (((List.length x1529 : Nat) : Int)))) ((inb x1606 (List.length x1530)).bind fun (v1641 : Nat) => (x1530[v1641]?).bind fun (v1642 : Int) => cond (decide (v1642 ≥ (((List.length x1529 : Nat) : Int)))) (some (Sum.inr (Sum.inl false))) ((inb x1606 (List.length x1529)).bind fun (v1645 : Nat) => (x1529[v1645]?).bind fun (v1646 : Int) => cond (decide (v1646 > 0)) ((inb x1606 (List.length x1530)).bind fun (v1648 : Nat) => (x1530[v1648]?).bind fun (v1649 : Int) => (inb x1606 (List.length x1529)).bind fun (v1650 : Nat) => (x1529[v1650]?).bind fun (v1651 : Int) => (inb (IntKind.wrap .i64 (v1651 - 1)) (List.length x1530)).bind fun (v1653 : Nat) => (x1530[v1653]?).bind fun (v1654 : Int) => cond (v1649 != (IntKind.wrap .i64 (v1654 + 1))) (some (Sum.inr (Sum.inl false))) ((inb x1606 (List.length x1529)).bind fun (v1657 : Nat) => (x1529[v1657]?).bind fun (v1658 : Int) => cond (v1658 == 0) ((inb x1606 (List.length x1530)).bind fun (v1660 : Nat) => (x1530[v1660]?).bind fun (v1661 : Int) => cond (v1661 != 0) (some (Sum.inr (Sum.inl false))) (some (Sum.inl (IntKind.wrap .i64 (x1606 + 1))))) (some (Sum.inl (IntKind.wrap .i64 (x1606 + 1)))))) ((inb x1606 (List.length x1529)).bind fun (v1665 : Nat) => (x1529[v1665]?).bind fun (v1666 : Int) => cond (v1666 == 0) ((inb x1606 (List.length x1530)).bind fun (v1668 : Nat) => (x1530[v1668]?).bind fun (v1669 : Int) => cond (v1669 != 0) (some (Sum.inr (Sum.inl false))) (some (Sum.inl (IntKind.wrap .i64 (x1606 + 1))))) (some (Sum.inl (IntKind.wrap .i64 (x1606 + 1))))))) (some (Sum.inr (Sum.inr ())))

def laws_FnDepthOf_n4 (x1529 : List Int) (x1530 : List Int) : Option (Bool ⊕ Unit) :=
  nloop (fun (s : Int) => ((laws_FnDepthOf_n3 s x1529 x1530).map (Sum.elim (fun (t : Int) => Sum.inl t) (Sum.elim (fun (t : Bool) => Sum.inr (Sum.inl t)) (fun (t : Unit) => Sum.inr (Sum.inr t)))) : Option ((Int) ⊕ (Bool ⊕ Unit)))) LL 0

def laws_FnDepthOf_n5 (x1529 : List Int) (x1530 : List Int) : Option (Unit ⊕ Bool) :=
  (laws_FnDepthOf_n4 x1529 x1530).map (Sum.elim (fun (t : Bool) => (Sum.inr t)) (fun (t : Unit) => (Sum.inl ())))

def laws_FnDepthOf_n6 (x1529 : List Int) (x1530 : List Int) : Option (Unit ⊕ Bool) :=
  (laws_FnDepthOf_n2).bind (fun (t : Unit) => laws_FnDepthOf_n5 x1529 x1530)

def laws_FnDepthOf_n7 (x1529 : List Int) (x1530 : List Int) : Option (Bool) :=
  some ((((List.length x1530 : Nat) : Int)) == (((List.length x1529 : Nat) : Int)))

def laws_FnDepthOf_n8 (x1529 : List Int) (x1530 : List Int) : Option (Bool) :=
  (laws_FnDepthOf_n6 x1529 x1530).bind (Sum.elim (fun (t : Unit) => laws_FnDepthOf_n7 x1529 x1530) (fun e => some ((fun (t : Bool) => t) e)))

def laws_FnDepthOf_n9 (x1391 : List Int) : Option (Bool) :=
  (laws_FnDepthOf_n1 x1391).bind (Sum.elim (fun (t : (List Int) × (List Int)) => laws_FnDepthOf_n8 t.1 t.2) (fun e => some ((fun (t : Bool) => t) e)))

@[irreducible] def laws_FnDepthOf (x1391 : List Int) : Option (Bool) :=
  laws_FnDepthOf_n9 x1391

/-! loop.example/headtrees/spec.DrawCountTrees -/

def spec_DrawCountTrees_n1 (x1687 : List Int) : Option (Int) :=
  (spec_l20Open x1687).bind fun (v1694 : List Int) => (spec_l20Rd_pick 11 v1694 0).bind fun (v1695 : Int × Int) => some (IntKind.wrap .i64 ((v1695.1) - 1))

@[irreducible] def spec_DrawCountTrees (x1687 : List Int) : Option (Int) :=
  spec_DrawCountTrees_n1 x1687

/-! loop.example/headtrees/impl.CountTrees -/

def impl_CountTrees_n1 (x1703 : Int) : Option (Unit ⊕ Int) :=
  cond (decide (x1703 < 1)) (some (Sum.inr (-1))) (cond (decide (x1703 > 8)) (some (Sum.inr (-1))) (some (Sum.inl ())))

def impl_CountTrees_n2 (x1703 : Int) : Option (Int) :=
  some (IntKind.wrap .i64 (x1703 - 1))

def impl_CountTrees_n3 (x1703 : Int) (x1716 : Int) (x1708 : Int) (x1717 : Int) : Option ((Int × Int) ⊕ Int) :=
  cond (decide (x1717 < x1708)) (some (Sum.inl ((IntKind.wrap .i64 (x1716 * x1703)), (IntKind.wrap .i64 (x1717 + 1))))) (some (Sum.inr x1716))

def impl_CountTrees_n4 (x1703 : Int) (x1708 : Int) : Option (Int) :=
  nloop (fun (s : Int × Int) => ((impl_CountTrees_n3 x1703 s.1 x1708 s.2).map (Sum.elim (fun (t : Int × Int) => Sum.inl (t.1, t.2)) (fun (t : Int) => Sum.inr t)) : Option ((Int × Int) ⊕ (Int)))) LL (1, 0)

def impl_CountTrees_n5 (x1703 : Int) (x1708 : Int) : Option (Int) :=
  (impl_CountTrees_n4 x1703 x1708).map (fun (t : Int) => t)

def impl_CountTrees_n6 (x1703 : Int) : Option (Int) :=
  (impl_CountTrees_n2 x1703).bind (fun (t : Int) => impl_CountTrees_n5 x1703 t)

def impl_CountTrees_n7 (x1716 : Int) : Option (Int) :=
  some x1716

def impl_CountTrees_n8 (x1703 : Int) : Option (Int) :=
  (impl_CountTrees_n6 x1703).bind (fun (t : Int) => impl_CountTrees_n7 t)

def impl_CountTrees_n9 (x1703 : Int) : Option (Int) :=
  (impl_CountTrees_n1 x1703).bind (Sum.elim (fun (t : Unit) => impl_CountTrees_n8 x1703) (fun e => some ((fun (t : Int) => t) e)))

@[irreducible] def impl_CountTrees (x1703 : Int) : Option (Int) :=
  impl_CountTrees_n9 x1703

/-! loop.example/headtrees/spec.l1Power -/

def spec_l1Power_n1 : Option (Unit) :=
  some ()

def spec_l1Power_n2 : Option (Unit) :=
  some ()

def spec_l1Power_n3 (x1737 : Int) (x1738 : Int) (x1745 : Int) (x1746 : Int) : Option ((Int × Int) ⊕ Int) :=
  cond (decide (x1746 < x1738)) (some (Sum.inl ((IntKind.wrap .i64 (x1745 * x1737)), (IntKind.wrap .i64 (x1746 + 1))))) (some (Sum.inr x1745))

def spec_l1Power_n4 (x1737 : Int) (x1738 : Int) : Option (Int) :=
  nloop (fun (s : Int × Int) => ((spec_l1Power_n3 x1737 x1738 s.1 s.2).map (Sum.elim (fun (t : Int × Int) => Sum.inl (t.1, t.2)) (fun (t : Int) => Sum.inr t)) : Option ((Int × Int) ⊕ (Int)))) LL (1, 0)

def spec_l1Power_n5 (x1737 : Int) (x1738 : Int) : Option (Int) :=
  (spec_l1Power_n4 x1737 x1738).map (fun (t : Int) => t)

def spec_l1Power_n6 (x1737 : Int) (x1738 : Int) : Option (Int) :=
  (spec_l1Power_n2).bind (fun (t : Unit) => spec_l1Power_n5 x1737 x1738)

def spec_l1Power_n7 (x1745 : Int) : Option (Int) :=
  some x1745

def spec_l1Power_n8 (x1737 : Int) (x1738 : Int) : Option (Int) :=
  (spec_l1Power_n6 x1737 x1738).bind (fun (t : Int) => spec_l1Power_n7 t)

def spec_l1Power_n9 (x1737 : Int) (x1738 : Int) : Option (Int) :=
  (spec_l1Power_n1).bind (fun (t : Unit) => spec_l1Power_n8 x1737 x1738)

@[irreducible] def spec_l1Power (x1737 : Int) (x1738 : Int) : Option (Int) :=
  spec_l1Power_n9 x1737 x1738

/-! loop.example/headtrees/spec.CountTrees -/

def spec_CountTrees_n1 (x1731 : Int) : Option (Int) :=
  (spec_l1In x1731 1 8).bind fun (v1754 : Bool) => cond (!v1754) (some (-1)) ((spec_l1Power x1731 (IntKind.wrap .i64 (x1731 - 1))).bind fun (v1757 : Int) => some v1757)

@[irreducible] def spec_CountTrees (x1731 : Int) : Option (Int) :=
  spec_CountTrees_n1 x1731

/-! loop.example/headtrees/laws.FnCountTrees -/

def laws_FnCountTrees_n1 (x1682 : List Int) : Option ((Int × Int) ⊕ Bool) :=
  cond (decide ((((List.length x1682 : Nat) : Int)) > 1048576)) (some (Sum.inr true)) ((spec_DrawCountTrees x1682).bind fun (v1807 : Int) => (impl_CountTrees v1807).bind fun (v1808 : Int) => (spec_CountTrees v1807).bind fun (v1809 : Int) => cond (v1808 != v1809) (some (Sum.inr false)) (cond (decide (v1808 < 0)) (cond (v1808 == (-1)) (cond (decide (v1807 < 1)) ((laws_alive).bind fun (v1814 : Bool) => some (Sum.inr v1814)) (cond (decide (v1807 > 8)) ((laws_alive).bind fun (v1816 : Bool) => some (Sum.inr v1816)) (some (Sum.inr false)))) (some (Sum.inr false))) (cond (decide (v1807 > 4)) ((impl_CountTrees (IntKind.wrap .i64 (v1807 - 1))).bind fun (v1819 : Int) => some (Sum.inr (decide (v1808 > v1819)))) (some (Sum.inl (v1807, v1808))))))

def laws_FnCountTrees_n2 : Option (Unit) :=
  some ()

def laws_FnCountTrees_n3 (x1807 : Int) (x1829 : Int) (x1830 : Int) : Option ((Int × Int) ⊕ Int) :=
  cond (decide (x1830 < x1807)) (some (Sum.inl ((IntKind.wrap .i64 (x1829 * (IntKind.wrap .i64 (x1807 + 1)))), (IntKind.wrap .i64 (x1830 + 1))))) (some (Sum.inr x1829))

def laws_FnCountTrees_n4 (x1807 : Int) : Option (Int) :=
  nloop (fun (s : Int × Int) => ((laws_FnCountTrees_n3 x1807 s.1 s.2).map (Sum.elim (fun (t : Int × Int) => Sum.inl (t.1, t.2)) (fun (t : Int) => Sum.inr t)) : Option ((Int × Int) ⊕ (Int)))) LL (1, 0)

def laws_FnCountTrees_n5 (x1807 : Int) : Option (Int) :=
  (laws_FnCountTrees_n4 x1807).map (fun (t : Int) => t)

def laws_FnCountTrees_n6 (x1807 : Int) : Option (Int) :=
  (laws_FnCountTrees_n2).bind (fun (t : Unit) => laws_FnCountTrees_n5 x1807)

def laws_FnCountTrees_n7 : Option (Unit) :=
  some ()

def laws_FnCountTrees_n8 (x1888 : Int) (x1829 : Int) (x1889 : Int) : Option (Unit ⊕ Int) :=
  cond (decide (x1889 < x1829)) (some (Sum.inl ())) (some (Sum.inr x1888))

def laws_FnCountTrees_n9 : Option (Unit) :=
  some ()

def laws_FnCountTrees_n10 : Option (Unit) :=
  some ()

def laws_FnCountTrees_n11 (x1807 : Int) (x1911 : Int) (x1912 : Int) (x1913 : List Int) : Option ((Int × Int × (List Int)) ⊕ ((List Int))) :=
  cond (decide (x1912 < x1807)) ((rem x1911 (IntKind.wrap .i64 (x1807 + 1))).bind fun (v1926 : Int) => (room ((List.length x1913) + List.length ([v1926]))).bind fun (v1929 : Unit) => (quo .i64 x1911 (IntKind.wrap .i64 (x1807 + 1))).bind fun (v1932 : Int) => some (Sum.inl (v1932, (IntKind.wrap .i64 (x1912 + 1)), (x1913 ++ ([v1926]))))) (some (Sum.inr x1913))

def laws_FnCountTrees_n12 (x1807 : Int) (x1889 : Int) : Option (((List Int))) :=
  nloop (fun (s : Int × Int × (List Int)) => ((laws_FnCountTrees_n11 x1807 s.1 s.2.1 s.2.2).map (Sum.elim (fun (t : Int × Int × (List Int)) => Sum.inl (t.1, t.2.1, t.2.2)) (fun (t : (List Int)) => Sum.inr t)) : Option ((Int × Int × (List Int)) ⊕ (((List Int)))))) LL (x1889, 0, ([] : List Int))

def laws_FnCountTrees_n13 (x1807 : Int) (x1889 : Int) : Option (((List Int))) :=
  (laws_FnCountTrees_n12 x1807 x1889).map (fun (t : (List Int)) => t)

def laws_FnCountTrees_n14 (x1807 : Int) (x1889 : Int) : Option (((List Int))) :=
  (laws_FnCountTrees_n10).bind (fun (t : Unit) => laws_FnCountTrees_n13 x1807 x1889)

def laws_FnCountTrees_n15 (x1888 : Int) (x1913 : List Int) : Option (Int) :=
  (impl_TreeOk x1913).bind fun (v1935 : Bool) => cond v1935 (some (IntKind.wrap .i64 (x1888 + 1))) (some x1888)

def laws_FnCountTrees_n16 (x1807 : Int) (x1888 : Int) (x1889 : Int) : Option (Int) :=
  (laws_FnCountTrees_n14 x1807 x1889).bind (fun (t : (List Int)) => laws_FnCountTrees_n15 x1888 t)

def laws_FnCountTrees_n17 (x1807 : Int) (x1888 : Int) (x1889 : Int) : Option (Int) :=
  (laws_FnCountTrees_n9).bind (fun (t : Unit) => laws_FnCountTrees_n16 x1807 x1888 x1889)

def laws_FnCountTrees_n18 (x1807 : Int) (x1888 : Int) (x1889 : Int) : Option (Int) :=
  (laws_FnCountTrees_n17 x1807 x1888 x1889).map (fun (t : Int) => t)

def laws_FnCountTrees_n19 (x1889 : Int) : Option (Int) :=
  some (IntKind.wrap .i64 (x1889 + 1))

def laws_FnCountTrees_n20 (x1807 : Int) (x1888 : Int) (x1889 : Int) : Option ((Int × Int)) :=
  (laws_FnCountTrees_n18 x1807 x1888 x1889).bind (fun (t : Int) => (laws_FnCountTrees_n19 x1889).map (fun (u : Int) => (t, u)))

def laws_FnCountTrees_n21 (x1807 : Int) (x1888 : Int) (x1829 : Int) (x1889 : Int) : Option ((Int × Int) ⊕ Int) :=
  (laws_FnCountTrees_n8 x1888 x1829 x1889).bind (Sum.elim (fun (t : Unit) => (laws_FnCountTrees_n20 x1807 x1888 x1889).map (fun (t : Int × Int) => (Sum.inl (t.1, t.2)))) (fun e => some ((fun (t : Int) => (Sum.inr t)) e)))

def laws_FnCountTrees_n22 (x1807 : Int) (x1829 : Int) : Option (Int) :=
  nloop (fun (s : Int × Int) => ((laws_FnCountTrees_n21 x1807 s.1 x1829 s.2).map (Sum.elim (fun (t : Int × Int) => Sum.inl (t.1, t.2)) (fun (t : Int) => Sum.inr t)) : Option ((Int × Int) ⊕ (Int)))) LL (0, 0)

def laws_FnCountTrees_n23 (x1807 : Int) (x1829 : Int) : Option (Int) :=
  (laws_FnCountTrees_n22 x1807 x1829).map (fun (t : Int) => t)

def laws_FnCountTrees_n24 (x1807 : Int) (x1829 : Int) : Option (Int) :=
  (laws_FnCountTrees_n7).bind (fun (t : Unit) => laws_FnCountTrees_n23 x1807 x1829)

def laws_FnCountTrees_n25 (x1808 : Int) (x1888 : Int) : Option (Bool) :=
  some (x1888 == x1808)

def laws_FnCountTrees_n26 (x1807 : Int) (x1808 : Int) (x1829 : Int) : Option (Bool) :=
  (laws_FnCountTrees_n24 x1807 x1829).bind (fun (t : Int) => laws_FnCountTrees_n25 x1808 t)

def laws_FnCountTrees_n27 (x1807 : Int) (x1808 : Int) : Option (Bool) :=
  (laws_FnCountTrees_n6 x1807).bind (fun (t : Int) => laws_FnCountTrees_n26 x1807 x1808 t)

def laws_FnCountTrees_n28 (x1682 : List Int) : Option (Bool) :=
  (laws_FnCountTrees_n1 x1682).bind (Sum.elim (fun (t : Int × Int) => laws_FnCountTrees_n27 t.1 t.2) (fun e => some ((fun (t : Bool) => t) e)))

@[irreducible] def laws_FnCountTrees (x1682 : List Int) : Option (Bool) :=
  laws_FnCountTrees_n28 x1682

/-! loop.example/headtrees/spec.DrawOrderOk -/

def spec_DrawOrderOk_n1 (x1948 : List Int) : Option ((Int × (List Int))) :=
  (spec_l20Open x1948).bind fun (v2013 : List Int) => (spec_l20Rd_pick 8 v2013 0).bind fun (v2014 : Int × Int) => (spec_l20Order (IntKind.wrap .i64 (1 + (v2014.1))) v2013 (v2014.2)).bind fun (v2018 : Int × (List Int)) => (spec_l20Rd_pick 3 v2013 (v2018.1)).bind fun (v2021 : Int × Int) => cond ((v2021.1) == 0) ((spec_l20Rd_pick (IntKind.wrap .i64 (1 + (v2014.1))) v2013 (v2021.2)).bind fun (v2025 : Int × Int) => (spec_l20Rd_pick 9 v2013 (v2025.2)).bind fun (v2028 : Int × Int) => (inb (v2025.1) (List.length (v2018.2))).bind fun (v2031 : Nat) => (spec_l20Rd_pick 9 v2013 (v2028.2)).bind fun (v2033 : Int × Int) => (quo .i64 (v2033.1) 8).bind fun (v2036 : Int) => some ((IntKind.wrap .i64 ((IntKind.wrap .i64 (1 + (v2014.1))) + v2036)), ((v2018.2).set v2031 (v2028.1)))) ((spec_l20Rd_pick 9 v2013 (v2021.2)).bind fun (v2038 : Int × Int) => (quo .i64 (v2038.1) 8).bind fun (v2041 : Int) => some ((IntKind.wrap .i64 ((IntKind.wrap .i64 (1 + (v2014.1))) + v2041)), (v2018.2)))

@[irreducible] def spec_DrawOrderOk (x1948 : List Int) : Option (Int × (List Int)) :=
  spec_DrawOrderOk_n1 x1948

/-! loop.example/headtrees/impl.OrderOk -/

def impl_OrderOk_n1 (x2053 : List Int) (x2054 : Int) : Option (Unit ⊕ Bool) :=
  cond (decide (x2054 < 1)) (some (Sum.inr false)) (cond (decide (x2054 > 8)) (some (Sum.inr false)) (cond ((((List.length x2053 : Nat) : Int)) != x2054) (some (Sum.inr false)) (some (Sum.inl ()))))

def impl_OrderOk_n2 (x2053 : List Int) : Option (Int) :=
  some (((List.length x2053 : Nat) : Int))

def impl_OrderOk_n3 (x2054 : Int) (x2053 : List Int) (x2064 : Int) (x2088 : Int) (x2089 : List Bool) : Option ((Int × (List Bool)) ⊕ Bool ⊕ Unit) :=
  cond (decide (x2088 < x2064)) ((idx x2053 x2088).bind fun (v2103 : Int) => cond (decide (v2103 < 1)) (some (Sum.inr (Sum.inl false))) (cond (decide (v2103 > x2054)) (some (Sum.inr (Sum.inl false))) ((same (List.length x2089) 9).bind fun (v2106 : Unit) => (inb v2103 9).bind fun (v2107 : Nat) => (x2089[v2107]?).bind fun (v2108 : Bool) => cond v2108 (some (Sum.inr (Sum.inl false))) ((same (List.length x2089) 9).bind fun (v2109 : Unit) => (inb v2103 9).bind fun (v2110 : Nat) => some (Sum.inl ((IntKind.wrap .i64 (x2088 + 1)), (x2089.set v2110 true))))))) (some (Sum.inr (Sum.inr ())))

def impl_OrderOk_n4 (x2054 : Int) (x2053 : List Int) (x2064 : Int) : Option (Bool ⊕ Unit) :=
  nloop (fun (s : Int × (List Bool)) => ((impl_OrderOk_n3 x2054 x2053 x2064 s.1 s.2).map (Sum.elim (fun (t : Int × (List Bool)) => Sum.inl (t.1, t.2)) (Sum.elim (fun (t : Bool) => Sum.inr (Sum.inl t)) (fun (t : Unit) => Sum.inr (Sum.inr t)))) : Option ((Int × (List Bool)) ⊕ (Bool ⊕ Unit)))) LL (0, (List.replicate 9 false))

def impl_OrderOk_n5 (x2054 : Int) (x2053 : List Int) (x2064 : Int) : Option (Unit ⊕ Bool) :=
  (impl_OrderOk_n4 x2054 x2053 x2064).map (Sum.elim (fun (t : Bool) => (Sum.inr t)) (fun (t : Unit) => (Sum.inl ())))

def impl_OrderOk_n6 (x2053 : List Int) (x2054 : Int) : Option (Unit ⊕ Bool) :=
  (impl_OrderOk_n2 x2053).bind (fun (t : Int) => impl_OrderOk_n5 x2054 x2053 t)

def impl_OrderOk_n7 : Option (Bool) :=
  some true

def impl_OrderOk_n8 (x2053 : List Int) (x2054 : Int) : Option (Bool) :=
  (impl_OrderOk_n6 x2053 x2054).bind (Sum.elim (fun (t : Unit) => impl_OrderOk_n7) (fun e => some ((fun (t : Bool) => t) e)))

def impl_OrderOk_n9 (x2053 : List Int) (x2054 : Int) : Option (Bool) :=
  (impl_OrderOk_n1 x2053 x2054).bind (Sum.elim (fun (t : Unit) => impl_OrderOk_n8 x2053 x2054) (fun e => some ((fun (t : Bool) => t) e)))

@[irreducible] def impl_OrderOk (x2053 : List Int) (x2054 : Int) : Option (Bool) :=
  impl_OrderOk_n9 x2053 x2054

/-! loop.example/headtrees/spec.OrderOk -/

def spec_OrderOk_n1 : Option (Unit) :=
  some ()

def spec_OrderOk_n2 : Option (Unit) :=
  some ()

def spec_OrderOk_n3 (x2121 : List Int) (x2153 : Int) : Option (Unit ⊕ Unit) :=
  cond (decide (x2153 < (((List.length x2121 : Nat) : Int)))) (some (Sum.inl ())) (some (Sum.inr ()))

def spec_OrderOk_n4 (x2121 : List Int) (x2122 : Int) (x2153 : Int) : Option (Unit ⊕ Bool) :=
  (idx x2121 x2153).bind fun (v2159 : Int) => (spec_l1In v2159 1 x2122).bind fun (v2160 : Bool) => cond (!v2160) (some (Sum.inr false)) (some (Sum.inl ()))

def spec_OrderOk_n5 (x2121 : List Int) (x2153 : Int) (x2172 : Int) : Option (Int ⊕ Bool ⊕ Unit) :=
  cond (decide (x2172 < x2153)) ((idx x2121 x2172).bind fun (v2179 : Int) => (idx x2121 x2153).bind fun (v2180 : Int) => cond (v2179 == v2180) (some (Sum.inr (Sum.inl false))) (some (Sum.inl (IntKind.wrap .i64 (x2172 + 1))))) (some (Sum.inr (Sum.inr ())))

def spec_OrderOk_n6 (x2121 : List Int) (x2153 : Int) : Option (Bool ⊕ Unit) :=
  nloop (fun (s : Int) => ((spec_OrderOk_n5 x2121 x2153 s).map (Sum.elim (fun (t : Int) => Sum.inl t) (Sum.elim (fun (t : Bool) => Sum.inr (Sum.inl t)) (fun (t : Unit) => Sum.inr (Sum.inr t)))) : Option ((Int) ⊕ (Bool ⊕ Unit)))) LL 0

def spec_OrderOk_n7 (x2121 : List Int) (x2153 : Int) : Option (Unit ⊕ Bool) :=
  (spec_OrderOk_n6 x2121 x2153).map (Sum.elim (fun (t : Bool) => (Sum.inr t)) (fun (t : Unit) => (Sum.inl ())))

def spec_OrderOk_n8 (x2121 : List Int) (x2122 : Int) (x2153 : Int) : Option (Unit ⊕ Bool) :=
  (spec_OrderOk_n4 x2121 x2122 x2153).bind (Sum.elim (fun (t : Unit) => spec_OrderOk_n7 x2121 x2153) (fun e => some ((fun (t : Bool) => (Sum.inr t)) e)))

def spec_OrderOk_n9 (x2121 : List Int) (x2122 : Int) (x2153 : Int) : Option (Unit ⊕ Bool) :=
  (spec_OrderOk_n8 x2121 x2122 x2153).map (Sum.elim (fun (t : Unit) => (Sum.inl ())) (fun (t : Bool) => (Sum.inr t)))

def spec_OrderOk_n10 (x2153 : Int) : Option (Int) :=
  some (IntKind.wrap .i64 (x2153 + 1))

def spec_OrderOk_n11 (x2121 : List Int) (x2122 : Int) (x2153 : Int) : Option (Int ⊕ Bool) :=
  (spec_OrderOk_n9 x2121 x2122 x2153).bind (Sum.elim (fun (t : Unit) => (spec_OrderOk_n10 x2153).map (fun (t : Int) => (Sum.inl t))) (fun e => some ((fun (t : Bool) => (Sum.inr t)) e)))

def spec_OrderOk_n12 (x2121 : List Int) (x2122 : Int) (x2153 : Int) : Option (Int ⊕ Bool ⊕ Unit) :=
  (spec_OrderOk_n3 x2121 x2153).bind (Sum.elim (fun (t : Unit) => (spec_OrderOk_n11 x2121 x2122 x2153).map (Sum.elim (fun (t : Int) => (Sum.inl t)) (fun (t : Bool) => (Sum.inr (Sum.inl t))))) (fun e => some ((fun (t : Unit) => (Sum.inr (Sum.inr t))) e)))

def spec_OrderOk_n13 (x2121 : List Int) (x2122 : Int) : Option (Bool ⊕ Unit) :=
  nloop (fun (s : Int) => ((spec_OrderOk_n12 x2121 x2122 s).map (Sum.elim (fun (t : Int) => Sum.inl t) (Sum.elim (fun (t : Bool) => Sum.inr (Sum.inl t)) (fun (t : Unit) => Sum.inr (Sum.inr t)))) : Option ((Int) ⊕ (Bool ⊕ Unit)))) LL 0

def spec_OrderOk_n14 (x2121 : List Int) (x2122 : Int) : Option (Unit ⊕ Bool) :=
  (spec_OrderOk_n13 x2121 x2122).map (Sum.elim (fun (t : Bool) => (Sum.inr t)) (fun (t : Unit) => (Sum.inl ())))

def spec_OrderOk_n15 (x2121 : List Int) (x2122 : Int) : Option (Unit ⊕ Bool) :=
  (spec_OrderOk_n2).bind (fun (t : Unit) => spec_OrderOk_n14 x2121 x2122)

def spec_OrderOk_n16 (x2121 : List Int) (x2122 : Int) : Option (Bool) :=
  (spec_l1In x2122 1 8).bind fun (v2187 : Bool) => cond v2187 (some ((((List.length x2121 : Nat) : Int)) == x2122)) (some false)

def spec_OrderOk_n17 (x2121 : List Int) (x2122 : Int) : Option (Bool) :=
  (spec_OrderOk_n15 x2121 x2122).bind (Sum.elim (fun (t : Unit) => spec_OrderOk_n16 x2121 x2122) (fun e => some ((fun (t : Bool) => t) e)))

def spec_OrderOk_n18 (x2121 : List Int) (x2122 : Int) : Option (Bool) :=
  (spec_OrderOk_n1).bind (fun (t : Unit) => spec_OrderOk_n17 x2121 x2122)

@[irreducible] def spec_OrderOk (x2121 : List Int) (x2122 : Int) : Option (Bool) :=
  spec_OrderOk_n18 x2121 x2122

/-! loop.example/headtrees/laws.hasInt -/

def laws_hasInt_n1 : Option (Unit) :=
  some ()

def laws_hasInt_n2 : Option (Unit) :=
  some ()

def laws_hasInt_n3 (x2239 : List Int) (x2240 : Int) (x2252 : Int) : Option (Int ⊕ Bool ⊕ Unit) :=
  cond (decide (x2252 < (((List.length x2239 : Nat) : Int)))) ((idx x2239 x2252).bind fun (v2261 : Int) => cond (v2261 == x2240) (some (Sum.inr (Sum.inl true))) (some (Sum.inl (IntKind.wrap .i64 (x2252 + 1))))) (some (Sum.inr (Sum.inr ())))

def laws_hasInt_n4 (x2239 : List Int) (x2240 : Int) : Option (Bool ⊕ Unit) :=
  nloop (fun (s : Int) => ((laws_hasInt_n3 x2239 x2240 s).map (Sum.elim (fun (t : Int) => Sum.inl t) (Sum.elim (fun (t : Bool) => Sum.inr (Sum.inl t)) (fun (t : Unit) => Sum.inr (Sum.inr t)))) : Option ((Int) ⊕ (Bool ⊕ Unit)))) LL 0

def laws_hasInt_n5 (x2239 : List Int) (x2240 : Int) : Option (Unit ⊕ Bool) :=
  (laws_hasInt_n4 x2239 x2240).map (Sum.elim (fun (t : Bool) => (Sum.inr t)) (fun (t : Unit) => (Sum.inl ())))

def laws_hasInt_n6 (x2239 : List Int) (x2240 : Int) : Option (Unit ⊕ Bool) :=
  (laws_hasInt_n2).bind (fun (t : Unit) => laws_hasInt_n5 x2239 x2240)

def laws_hasInt_n7 : Option (Bool) :=
  some false

def laws_hasInt_n8 (x2239 : List Int) (x2240 : Int) : Option (Bool) :=
  (laws_hasInt_n6 x2239 x2240).bind (Sum.elim (fun (t : Unit) => laws_hasInt_n7) (fun e => some ((fun (t : Bool) => t) e)))

def laws_hasInt_n9 (x2239 : List Int) (x2240 : Int) : Option (Bool) :=
  (laws_hasInt_n1).bind (fun (t : Unit) => laws_hasInt_n8 x2239 x2240)

@[irreducible] def laws_hasInt (x2239 : List Int) (x2240 : Int) : Option (Bool) :=
  laws_hasInt_n9 x2239 x2240

/-! loop.example/headtrees/laws.FnOrderOk -/

def laws_FnOrderOk_n1 (x1943 : List Int) : Option ((Int × Bool × (List Int)) ⊕ Bool) :=
  cond (decide ((((List.length x1943 : Nat) : Int)) > 1048576)) (some (Sum.inr true)) ((spec_DrawOrderOk x1943).bind fun (v2195 : Int × (List Int)) => (impl_OrderOk (v2195.2) (v2195.1)).bind fun (v2198 : Bool) => (spec_OrderOk (v2195.2) (v2195.1)).bind fun (v2199 : Bool) => cond (v2198 != v2199) (some (Sum.inr false)) (some (Sum.inl ((v2195.1), v2198, (v2195.2)))))

def laws_FnOrderOk_n2 (x2197 : List Int) : Option (Int) :=
  some (IntKind.wrap .i64 ((((List.length x2197 : Nat) : Int)) - 1))

def laws_FnOrderOk_n3 (x2219 : Int) (x2197 : List Int) (x2220 : List Int) : Option ((Int × (List Int)) ⊕ ((List Int))) :=
  cond (decide (x2219 ≥ 0)) ((inb x2219 (List.length x2197)).bind fun (v2230 : Nat) => (x2197[v2230]?).bind fun (v2231 : Int) => (room ((List.length x2220) + List.length ([v2231]))).bind fun (v2234 : Unit) => some (Sum.inl ((IntKind.wrap .i64 (x2219 - 1)), (x2220 ++ ([v2231]))))) (some (Sum.inr x2220))

def laws_FnOrderOk_n4 (x2202 : Int) (x2197 : List Int) : Option (((List Int))) :=
  nloop (fun (s : Int × (List Int)) => ((laws_FnOrderOk_n3 s.1 x2197 s.2).map (Sum.elim (fun (t : Int × (List Int)) => Sum.inl (t.1, t.2)) (fun (t : (List Int)) => Sum.inr t)) : Option ((Int × (List Int)) ⊕ (((List Int)))))) LL (x2202, ([] : List Int))

def laws_FnOrderOk_n5 (x2202 : Int) (x2197 : List Int) : Option (((List Int))) :=
  (laws_FnOrderOk_n4 x2202 x2197).map (fun (t : (List Int)) => t)

def laws_FnOrderOk_n6 (x2197 : List Int) : Option (((List Int))) :=
  (laws_FnOrderOk_n2 x2197).bind (fun (t : Int) => laws_FnOrderOk_n5 t x2197)

def laws_FnOrderOk_n7 : Option (Unit) :=
  some ()

def laws_FnOrderOk_n8 (x2196 : Int) (x2198 : Bool) (x2271 : Int) (x2197 : List Int) : Option (Int ⊕ Bool ⊕ Unit) :=
  cond (decide (x2271 ≤ x2196)) (cond x2198 ((laws_hasInt x2197 x2271).bind fun (v2277 : Bool) => cond (!v2277) (some (Sum.inr (Sum.inl false))) (some (Sum.inl (IntKind.wrap .i64 (x2271 + 1))))) (some (Sum.inr (Sum.inr ())))) (some (Sum.inr (Sum.inr ())))

def laws_FnOrderOk_n9 (x2196 : Int) (x2198 : Bool) (x2197 : List Int) : Option (Bool ⊕ Unit) :=
  nloop (fun (s : Int) => ((laws_FnOrderOk_n8 x2196 x2198 s x2197).map (Sum.elim (fun (t : Int) => Sum.inl t) (Sum.elim (fun (t : Bool) => Sum.inr (Sum.inl t)) (fun (t : Unit) => Sum.inr (Sum.inr t)))) : Option ((Int) ⊕ (Bool ⊕ Unit)))) LL 1

def laws_FnOrderOk_n10 (x2196 : Int) (x2198 : Bool) (x2197 : List Int) : Option (Unit ⊕ Bool) :=
  (laws_FnOrderOk_n9 x2196 x2198 x2197).map (Sum.elim (fun (t : Bool) => (Sum.inr t)) (fun (t : Unit) => (Sum.inl ())))

def laws_FnOrderOk_n11 (x2196 : Int) (x2198 : Bool) (x2197 : List Int) : Option (Unit ⊕ Bool) :=
  (laws_FnOrderOk_n7).bind (fun (t : Unit) => laws_FnOrderOk_n10 x2196 x2198 x2197)

def laws_FnOrderOk_n12 (x2196 : Int) (x2198 : Bool) (x2220 : List Int) : Option (Bool) :=
  (impl_OrderOk x2220 x2196).bind fun (v2287 : Bool) => cond (v2287 == x2198) ((impl_OrderOk ([1]) 1).bind fun (v2290 : Bool) => cond v2290 ((impl_OrderOk ([] : List Int) 0).bind fun (v2291 : Bool) => cond (!v2291) ((laws_alive).bind fun (v2293 : Bool) => some v2293) (some false)) (some false)) (some false)

def laws_FnOrderOk_n13 (x2196 : Int) (x2198 : Bool) (x2197 : List Int) (x2220 : List Int) : Option (Bool) :=
  (laws_FnOrderOk_n11 x2196 x2198 x2197).bind (Sum.elim (fun (t : Unit) => laws_FnOrderOk_n12 x2196 x2198 x2220) (fun e => some ((fun (t : Bool) => t) e)))

def laws_FnOrderOk_n14 (x2196 : Int) (x2198 : Bool) (x2197 : List Int) : Option (Bool) :=
  (laws_FnOrderOk_n6 x2197).bind (fun (t : (List Int)) => laws_FnOrderOk_n13 x2196 x2198 x2197 t)

def laws_FnOrderOk_n15 (x1943 : List Int) : Option (Bool) :=
  (laws_FnOrderOk_n1 x1943).bind (Sum.elim (fun (t : Int × Bool × (List Int)) => laws_FnOrderOk_n14 t.1 t.2.1 t.2.2) (fun e => some ((fun (t : Bool) => t) e)))

@[irreducible] def laws_FnOrderOk (x1943 : List Int) : Option (Bool) :=
  laws_FnOrderOk_n15 x1943

/-! loop.example/headtrees/spec.DrawPutInOrder -/

def spec_DrawPutInOrder_n1 (x2301 : List Int) : Option (((List Int) × (List Int))) :=
  (spec_l20Open x2301).bind fun (v2324 : List Int) => (spec_l20Tree 14 v2324 0).bind fun (v2325 : Int × (List Int)) => (spec_l20Rd_pick 20 v2324 (v2325.1)).bind fun (v2330 : Int × Int) => (quo .i64 (v2330.1) 19).bind fun (v2333 : Int) => (spec_l20Order (IntKind.wrap .i64 ((imax (((List.length (v2325.2) : Nat) : Int)) 1) + v2333)) v2324 (v2330.2)).bind fun (v2335 : Int × (List Int)) => some ((v2325.2), (v2335.2))

@[irreducible] def spec_DrawPutInOrder (x2301 : List Int) : Option ((List Int) × (List Int)) :=
  spec_DrawPutInOrder_n1 x2301

/-! loop.example/headtrees/impl.placesIn -/

def impl_placesIn_n1 (x2358 : List Int) : Option (((List Int))) :=
  (mk (IntKind.wrap .i64 ((((List.length x2358 : Nat) : Int)) + 1)) (IntKind.wrap .i64 ((((List.length x2358 : Nat) : Int)) + 1))).bind fun (v2361 : Nat) => some (List.replicate v2361 (0 : Int))

def impl_placesIn_n2 (x2358 : List Int) : Option (Int) :=
  some (((List.length x2358 : Nat) : Int))

def impl_placesIn_n3 (x2358 : List Int) (x2363 : Int) (x2377 : Int) (x2378 : List Int) : Option ((Int × (List Int)) ⊕ ((List Int))) :=
  cond (decide (x2377 < x2363)) ((idx x2358 x2377).bind fun (v2387 : Int) => (inb v2387 (List.length x2378)).bind fun (v2389 : Nat) => some (Sum.inl ((IntKind.wrap .i64 (x2377 + 1)), (x2378.set v2389 (IntKind.wrap .i64 (x2377 + 1)))))) (some (Sum.inr x2378))

def impl_placesIn_n4 (x2358 : List Int) (x2363 : Int) (x2362 : List Int) : Option (((List Int))) :=
  nloop (fun (s : Int × (List Int)) => ((impl_placesIn_n3 x2358 x2363 s.1 s.2).map (Sum.elim (fun (t : Int × (List Int)) => Sum.inl (t.1, t.2)) (fun (t : (List Int)) => Sum.inr t)) : Option ((Int × (List Int)) ⊕ (((List Int)))))) LL (0, x2362)

def impl_placesIn_n5 (x2358 : List Int) (x2363 : Int) (x2362 : List Int) : Option (((List Int))) :=
  (impl_placesIn_n4 x2358 x2363 x2362).map (fun (t : (List Int)) => t)

def impl_placesIn_n6 (x2358 : List Int) (x2362 : List Int) : Option (((List Int))) :=
  (impl_placesIn_n2 x2358).bind (fun (t : Int) => impl_placesIn_n5 x2358 t x2362)

def impl_placesIn_n7 (x2378 : List Int) : Option (((List Int))) :=
  some x2378

def impl_placesIn_n8 (x2358 : List Int) (x2362 : List Int) : Option (((List Int))) :=
  (impl_placesIn_n6 x2358 x2362).bind (fun (t : (List Int)) => impl_placesIn_n7 t)

def impl_placesIn_n9 (x2358 : List Int) : Option (((List Int))) :=
  (impl_placesIn_n1 x2358).bind (fun (t : (List Int)) => impl_placesIn_n8 x2358 t)

@[irreducible] def impl_placesIn (x2358 : List Int) : Option ((List Int)) :=
  impl_placesIn_n9 x2358

/-! loop.example/headtrees/impl.PutInOrder$1 -/

def impl_PutInOrder_1_n1 (x2412 : Int) (x2413 : List Int) : Option (Int) :=
  (inb x2412 (List.length x2413)).bind fun (v2416 : Nat) => (x2413[v2416]?).bind fun (v2417 : Int) => some v2417

@[irreducible] def impl_PutInOrder_1 (x2412 : Int) (x2413 : List Int) : Option (Int) :=
  impl_PutInOrder_1_n1 x2412 x2413

/-! loop.example/headtrees/impl.renamed[int] -/

def impl_renamed_int_n1 (x2400 : List Int) : Option (((List Int))) :=
  (mk (((List.length x2400 : Nat) : Int)) (((List.length x2400 : Nat) : Int))).bind fun (v2403 : Nat) => some (List.replicate v2403 (0 : Int))

def impl_renamed_int_n2 (x2400 : List Int) : Option (Int) :=
  some (((List.length x2400 : Nat) : Int))

def impl_renamed_int_n3 (x2399 : List Int) (x2400 : List Int) (x2405 : Int) (x2429 : Int) (x2401 : List Int) (x2430 : List Int) : Option ((Int × (List Int)) ⊕ ((List Int))) :=
  cond (decide (x2429 < x2405)) ((idx x2400 x2429).bind fun (v2441 : Int) => (idx x2399 (IntKind.wrap .i64 (v2441 - 1))).bind fun (v2443 : Int) => (impl_PutInOrder_1 v2443 x2401).bind fun (v2444 : Int) => (inb x2429 (List.length x2430)).bind fun (v2445 : Nat) => some (Sum.inl ((IntKind.wrap .i64 (x2429 + 1)), (x2430.set v2445 v2444)))) (some (Sum.inr x2430))

def impl_renamed_int_n4 (x2399 : List Int) (x2400 : List Int) (x2405 : Int) (x2401 : List Int) (x2404 : List Int) : Option (((List Int))) :=
  nloop (fun (s : Int × (List Int)) => ((impl_renamed_int_n3 x2399 x2400 x2405 s.1 x2401 s.2).map (Sum.elim (fun (t : Int × (List Int)) => Sum.inl (t.1, t.2)) (fun (t : (List Int)) => Sum.inr t)) : Option ((Int × (List Int)) ⊕ (((List Int)))))) LL (0, x2404)

def impl_renamed_int_n5 (x2399 : List Int) (x2400 : List Int) (x2405 : Int) (x2401 : List Int) (x2404 : List Int) : Option (((List Int))) :=
  (impl_renamed_int_n4 x2399 x2400 x2405 x2401 x2404).map (fun (t : (List Int)) => t)

def impl_renamed_int_n6 (x2399 : List Int) (x2400 : List Int) (x2401 : List Int) (x2404 : List Int) : Option (((List Int))) :=
  (impl_renamed_int_n2 x2400).bind (fun (t : Int) => impl_renamed_int_n5 x2399 x2400 t x2401 x2404)

def impl_renamed_int_n7 (x2430 : List Int) : Option (((List Int))) :=
  some x2430

def impl_renamed_int_n8 (x2399 : List Int) (x2400 : List Int) (x2401 : List Int) (x2404 : List Int) : Option (((List Int))) :=
  (impl_renamed_int_n6 x2399 x2400 x2401 x2404).bind (fun (t : (List Int)) => impl_renamed_int_n7 t)

def impl_renamed_int_n9 (x2399 : List Int) (x2400 : List Int) (x2401 : List Int) : Option (((List Int))) :=
  (impl_renamed_int_n1 x2400).bind (fun (t : (List Int)) => impl_renamed_int_n8 x2399 x2400 x2401 t)

@[irreducible] def impl_renamed_int (x2399 : List Int) (x2400 : List Int) (x2401 : List Int) : Option ((List Int)) :=
  impl_renamed_int_n9 x2399 x2400 x2401

/-! loop.example/headtrees/impl.PutInOrder -/

def impl_PutInOrder_n1 (x2346 : List Int) (x2347 : List Int) : Option ((Bool × (List Int))) :=
  (impl_TreeOk x2346).bind fun (v2449 : Bool) => cond (!v2449) (some (false, ([] : List Int))) ((impl_OrderOk x2347 (((List.length x2346 : Nat) : Int))).bind fun (v2452 : Bool) => cond (!v2452) (some (false, ([] : List Int))) ((impl_placesIn x2347).bind fun (v2454 : List Int) => (impl_renamed_int x2346 x2347 v2454).bind fun (v2455 : List Int) => some (true, v2455)))

@[irreducible] def impl_PutInOrder (x2346 : List Int) (x2347 : List Int) : Option (Bool × (List Int)) :=
  impl_PutInOrder_n1 x2346 x2347

/-! loop.example/headtrees/spec.PutInOrder -/

def spec_PutInOrder_n1 (x2469 : List Int) (x2470 : List Int) : Option (((List Int)) ⊕ (Bool × (List Int))) :=
  (spec_TreeOk x2469).bind fun (v2476 : Bool) => cond (!v2476) (some (Sum.inr (false, ([] : List Int)))) ((spec_OrderOk x2470 (((List.length x2469 : Nat) : Int))).bind fun (v2479 : Bool) => cond (!v2479) (some (Sum.inr (false, ([] : List Int)))) ((mk (IntKind.wrap .i64 ((((List.length x2469 : Nat) : Int)) + 1)) (IntKind.wrap .i64 ((((List.length x2469 : Nat) : Int)) + 1))).bind fun (v2483 : Nat) => some (Sum.inl (List.replicate v2483 (0 : Int)))))

def spec_PutInOrder_n2 : Option (Unit) :=
  some ()

def spec_PutInOrder_n3 (x2470 : List Int) (x2500 : Int) (x2501 : List Int) : Option ((Int × (List Int)) ⊕ ((List Int))) :=
  cond (decide (x2500 < (((List.length x2470 : Nat) : Int)))) ((idx x2470 x2500).bind fun (v2512 : Int) => (inb v2512 (List.length x2501)).bind fun (v2514 : Nat) => some (Sum.inl ((IntKind.wrap .i64 (x2500 + 1)), (x2501.set v2514 (IntKind.wrap .i64 (x2500 + 1)))))) (some (Sum.inr x2501))

def spec_PutInOrder_n4 (x2470 : List Int) (x2484 : List Int) : Option (((List Int))) :=
  nloop (fun (s : Int × (List Int)) => ((spec_PutInOrder_n3 x2470 s.1 s.2).map (Sum.elim (fun (t : Int × (List Int)) => Sum.inl (t.1, t.2)) (fun (t : (List Int)) => Sum.inr t)) : Option ((Int × (List Int)) ⊕ (((List Int)))))) LL (0, x2484)

def spec_PutInOrder_n5 (x2470 : List Int) (x2484 : List Int) : Option (((List Int))) :=
  (spec_PutInOrder_n4 x2470 x2484).map (fun (t : (List Int)) => t)

def spec_PutInOrder_n6 (x2470 : List Int) (x2484 : List Int) : Option (((List Int))) :=
  (spec_PutInOrder_n2).bind (fun (t : Unit) => spec_PutInOrder_n5 x2470 x2484)

def spec_PutInOrder_n7 : Option (Unit) :=
  some ()

def spec_PutInOrder_n8 : Option (Unit) :=
  some ()

def spec_PutInOrder_n9 (x2469 : List Int) (x2470 : List Int) (x2542 : Int) (x2501 : List Int) (x2543 : List Int) : Option ((Int × (List Int)) ⊕ ((List Int))) :=
  cond (decide (x2542 < (((List.length x2470 : Nat) : Int)))) ((idx x2470 x2542).bind fun (v2559 : Int) => (idx x2469 (IntKind.wrap .i64 (v2559 - 1))).bind fun (v2561 : Int) => (inb v2561 (List.length x2501)).bind fun (v2562 : Nat) => (x2501[v2562]?).bind fun (v2563 : Int) => (room ((List.length x2543) + List.length ([v2563]))).bind fun (v2566 : Unit) => some (Sum.inl ((IntKind.wrap .i64 (x2542 + 1)), (x2543 ++ ([v2563]))))) (some (Sum.inr x2543))

def spec_PutInOrder_n10 (x2469 : List Int) (x2470 : List Int) (x2501 : List Int) : Option (((List Int))) :=
  nloop (fun (s : Int × (List Int)) => ((spec_PutInOrder_n9 x2469 x2470 s.1 x2501 s.2).map (Sum.elim (fun (t : Int × (List Int)) => Sum.inl (t.1, t.2)) (fun (t : (List Int)) => Sum.inr t)) : Option ((Int × (List Int)) ⊕ (((List Int)))))) LL (0, ([] : List Int))

def spec_PutInOrder_n11 (x2469 : List Int) (x2470 : List Int) (x2501 : List Int) : Option (((List Int))) :=
  (spec_PutInOrder_n10 x2469 x2470 x2501).map (fun (t : (List Int)) => t)

def spec_PutInOrder_n12 (x2469 : List Int) (x2470 : List Int) (x2501 : List Int) : Option (((List Int))) :=
  (spec_PutInOrder_n8).bind (fun (t : Unit) => spec_PutInOrder_n11 x2469 x2470 x2501)

def spec_PutInOrder_n13 (x2543 : List Int) : Option ((Bool × (List Int))) :=
  some (true, x2543)

def spec_PutInOrder_n14 (x2469 : List Int) (x2470 : List Int) (x2501 : List Int) : Option ((Bool × (List Int))) :=
  (spec_PutInOrder_n12 x2469 x2470 x2501).bind (fun (t : (List Int)) => spec_PutInOrder_n13 t)

def spec_PutInOrder_n15 (x2469 : List Int) (x2470 : List Int) (x2501 : List Int) : Option ((Bool × (List Int))) :=
  (spec_PutInOrder_n7).bind (fun (t : Unit) => spec_PutInOrder_n14 x2469 x2470 x2501)

def spec_PutInOrder_n16 (x2469 : List Int) (x2470 : List Int) (x2484 : List Int) : Option ((Bool × (List Int))) :=
  (spec_PutInOrder_n6 x2470 x2484).bind (fun (t : (List Int)) => spec_PutInOrder_n15 x2469 x2470 t)

def spec_PutInOrder_n17 (x2469 : List Int) (x2470 : List Int) : Option ((Bool × (List Int))) :=
  (spec_PutInOrder_n1 x2469 x2470).bind (Sum.elim (fun (t : (List Int)) => spec_PutInOrder_n16 x2469 x2470 t) (fun e => some ((fun (t : Bool × (List Int)) => t) e)))

@[irreducible] def spec_PutInOrder (x2469 : List Int) (x2470 : List Int) : Option (Bool × (List Int)) :=
  spec_PutInOrder_n17 x2469 x2470

/-! loop.example/headtrees/laws.FnPutInOrder -/

def laws_FnPutInOrder_n1 (x2296 : List Int) : Option (((List Int) × (List Int) × (List Int) × (List Int) × (List Int) × (List Int)) ⊕ Bool) :=
  cond (decide ((((List.length x2296 : Nat) : Int)) > 1048576)) (some (Sum.inr true)) ((spec_DrawPutInOrder x2296).bind fun (v2673 : (List Int) × (List Int)) => (impl_PutInOrder (v2673.1) (v2673.2)).bind fun (v2676 : Bool × (List Int)) => (spec_PutInOrder (v2673.1) (v2673.2)).bind fun (v2679 : Bool × (List Int)) => (laws_sameInts (v2676.2) (v2679.2)).bind fun (v2682 : Bool) => cond (!v2682) (some (Sum.inr false)) (cond ((v2676.1) != (v2679.1)) (some (Sum.inr false)) (cond (!(v2676.1)) (cond ((((List.length (v2676.2) : Nat) : Int)) == 0) ((laws_alive).bind fun (v2688 : Bool) => some (Sum.inr v2688)) (some (Sum.inr false))) ((impl_DepthOf (v2673.1)).bind fun (v2689 : List Int) => (impl_DepthOf (v2676.2)).bind fun (v2690 : List Int) => cond ((((List.length v2689 : Nat) : Int)) != (((List.length (v2673.1) : Nat) : Int))) (some (Sum.inr false)) (cond ((((List.length v2690 : Nat) : Int)) != (((List.length (v2673.1) : Nat) : Int))) (some (Sum.inr false)) ((mk (((List.length (v2673.2) : Nat) : Int)) (((List.length (v2673.2) : Nat) : Int))).bind fun (v2698 : Nat) => some (Sum.inl ((v2673.1), (v2673.2), (v2676.2), v2689, v2690, (List.replicate v2698 (0 : Int))))))))))

def laws_FnPutInOrder_n2 : Option (Unit) :=
  some ()

def laws_FnPutInOrder_n3 (x2735 : Int) (x2675 : List Int) (x2689 : List Int) (x2690 : List Int) (x2736 : List Int) : Option ((Int × (List Int)) ⊕ Bool ⊕ ((List Int))) :=
  cond (decide (x2735 < (((List.length x2675 : Nat) : Int)))) ((inb x2735 (List.length x2690)).bind fun (v2757 : Nat) => (x2690[v2757]?).bind fun (v2758 : Int) => (inb x2735 (List.length x2675)).bind fun (v2759 : Nat) => (x2675[v2759]?).bind fun (v2760 : Int) => (inb (IntKind.wrap .i64 (v2760 - 1)) (List.length x2689)).bind fun (v2762 : Nat) => (x2689[v2762]?).bind fun (v2763 : Int) => cond (v2758 != v2763) (some (Sum.inr (Sum.inl false))) ((inb x2735 (List.length x2675)).bind fun (v2765 : Nat) => (x2675[v2765]?).bind fun (v2766 : Int) => (inb (IntKind.wrap .i64 (v2766 - 1)) (List.length x2736)).bind fun (v2769 : Nat) => some (Sum.inl ((IntKind.wrap .i64 (x2735 + 1)), (x2736.set v2769 (IntKind.wrap .i64 (x2735 + 1))))))) (some (Sum.inr (Sum.inr x2736)))

def laws_FnPutInOrder_n4 (x2675 : List Int) (x2689 : List Int) (x2690 : List Int) (x2699 : List Int) : Option (Bool ⊕ ((List Int))) :=
  nloop (fun (s : Int × (List Int)) => ((laws_FnPutInOrder_n3 s.1 x2675 x2689 x2690 s.2).map (Sum.elim (fun (t : Int × (List Int)) => Sum.inl (t.1, t.2)) (Sum.elim (fun (t : Bool) => Sum.inr (Sum.inl t)) (fun (t : (List Int)) => Sum.inr (Sum.inr t)))) : Option ((Int × (List Int)) ⊕ (Bool ⊕ ((List Int)))))) LL (0, x2699)

def laws_FnPutInOrder_n5 (x2675 : List Int) (x2689 : List Int) (x2690 : List Int) (x2699 : List Int) : Option (((List Int)) ⊕ Bool) :=
  (laws_FnPutInOrder_n4 x2675 x2689 x2690 x2699).map (Sum.elim (fun (t : Bool) => (Sum.inr t)) (fun (t : (List Int)) => (Sum.inl t)))

def laws_FnPutInOrder_n6 (x2675 : List Int) (x2689 : List Int) (x2690 : List Int) (x2699 : List Int) : Option (((List Int)) ⊕ Bool) :=
  (laws_FnPutInOrder_n2).bind (fun (t : Unit) => laws_FnPutInOrder_n5 x2675 x2689 x2690 x2699)

def laws_FnPutInOrder_n7 (x2674 : List Int) (x2678 : List Int) (x2736 : List Int) : Option (Bool) :=
  (impl_PutInOrder x2678 x2736).bind fun (v2780 : Bool × (List Int)) => (impl_TreeOk x2678).bind fun (v2783 : Bool) => cond v2783 (cond (v2780.1) ((laws_sameInts (v2780.2) x2674).bind fun (v2784 : Bool) => some v2784) (some false)) (some false)

def laws_FnPutInOrder_n8 (x2674 : List Int) (x2675 : List Int) (x2678 : List Int) (x2689 : List Int) (x2690 : List Int) (x2699 : List Int) : Option (Bool) :=
  (laws_FnPutInOrder_n6 x2675 x2689 x2690 x2699).bind (Sum.elim (fun (t : (List Int)) => laws_FnPutInOrder_n7 x2674 x2678 t) (fun e => some ((fun (t : Bool) => t) e)))

def laws_FnPutInOrder_n9 (x2296 : List Int) : Option (Bool) :=
  (laws_FnPutInOrder_n1 x2296).bind (Sum.elim (fun (t : (List Int) × (List Int) × (List Int) × (List Int) × (List Int) × (List Int)) => laws_FnPutInOrder_n8 t.1 t.2.1 t.2.2.1 t.2.2.2.1 t.2.2.2.2.1 t.2.2.2.2.2) (fun e => some ((fun (t : Bool) => t) e)))

@[irreducible] def laws_FnPutInOrder (x2296 : List Int) : Option (Bool) :=
  laws_FnPutInOrder_n9 x2296

/-! loop.example/headtrees/laws.toIntS -/

def laws_toIntS_n1 (x2792 : List Int) : Option (((List Int))) :=
  (mk (((List.length x2792 : Nat) : Int)) (((List.length x2792 : Nat) : Int))).bind fun (v2794 : Nat) => some (List.replicate v2794 (0 : Int))

def laws_toIntS_n2 : Option (Unit) :=
  some ()

def laws_toIntS_n3 (x2792 : List Int) (x2809 : Int) (x2810 : List Int) : Option ((Int × (List Int)) ⊕ ((List Int))) :=
  cond (decide (x2809 < (((List.length x2792 : Nat) : Int)))) ((idx x2792 x2809).bind fun (v2820 : Int) => (inb x2809 (List.length x2810)).bind fun (v2821 : Nat) => some (Sum.inl ((IntKind.wrap .i64 (x2809 + 1)), (x2810.set v2821 v2820)))) (some (Sum.inr x2810))

def laws_toIntS_n4 (x2792 : List Int) (x2795 : List Int) : Option (((List Int))) :=
  nloop (fun (s : Int × (List Int)) => ((laws_toIntS_n3 x2792 s.1 s.2).map (Sum.elim (fun (t : Int × (List Int)) => Sum.inl (t.1, t.2)) (fun (t : (List Int)) => Sum.inr t)) : Option ((Int × (List Int)) ⊕ (((List Int)))))) LL (0, x2795)

def laws_toIntS_n5 (x2792 : List Int) (x2795 : List Int) : Option (((List Int))) :=
  (laws_toIntS_n4 x2792 x2795).map (fun (t : (List Int)) => t)

def laws_toIntS_n6 (x2792 : List Int) (x2795 : List Int) : Option (((List Int))) :=
  (laws_toIntS_n2).bind (fun (t : Unit) => laws_toIntS_n5 x2792 x2795)

def laws_toIntS_n7 (x2810 : List Int) : Option (((List Int))) :=
  some x2810

def laws_toIntS_n8 (x2792 : List Int) (x2795 : List Int) : Option (((List Int))) :=
  (laws_toIntS_n6 x2792 x2795).bind (fun (t : (List Int)) => laws_toIntS_n7 t)

def laws_toIntS_n9 (x2792 : List Int) : Option (((List Int))) :=
  (laws_toIntS_n1 x2792).bind (fun (t : (List Int)) => laws_toIntS_n8 x2792 t)

@[irreducible] def laws_toIntS (x2792 : List Int) : Option ((List Int)) :=
  laws_toIntS_n9 x2792

/-! loop.example/headtrees/laws.eqIntS -/

def laws_eqIntS_n1 (x2852 : List Int) (x2853 : List Int) : Option (Unit ⊕ Bool) :=
  cond ((((List.length x2852 : Nat) : Int)) != (((List.length x2853 : Nat) : Int))) (some (Sum.inr false)) (some (Sum.inl ()))

def laws_eqIntS_n2 : Option (Unit) :=
  some ()

def laws_eqIntS_n3 (x2852 : List Int) (x2853 : List Int) (x2870 : Int) : Option (Int ⊕ Bool ⊕ Unit) :=
  cond (decide (x2870 < (((List.length x2852 : Nat) : Int)))) ((idx x2852 x2870).bind fun (v2880 : Int) => (idx x2853 x2870).bind fun (v2881 : Int) => cond (v2880 != v2881) (some (Sum.inr (Sum.inl false))) (some (Sum.inl (IntKind.wrap .i64 (x2870 + 1))))) (some (Sum.inr (Sum.inr ())))

def laws_eqIntS_n4 (x2852 : List Int) (x2853 : List Int) : Option (Bool ⊕ Unit) :=
  nloop (fun (s : Int) => ((laws_eqIntS_n3 x2852 x2853 s).map (Sum.elim (fun (t : Int) => Sum.inl t) (Sum.elim (fun (t : Bool) => Sum.inr (Sum.inl t)) (fun (t : Unit) => Sum.inr (Sum.inr t)))) : Option ((Int) ⊕ (Bool ⊕ Unit)))) LL 0

def laws_eqIntS_n5 (x2852 : List Int) (x2853 : List Int) : Option (Unit ⊕ Bool) :=
  (laws_eqIntS_n4 x2852 x2853).map (Sum.elim (fun (t : Bool) => (Sum.inr t)) (fun (t : Unit) => (Sum.inl ())))

def laws_eqIntS_n6 (x2852 : List Int) (x2853 : List Int) : Option (Unit ⊕ Bool) :=
  (laws_eqIntS_n2).bind (fun (t : Unit) => laws_eqIntS_n5 x2852 x2853)

def laws_eqIntS_n7 : Option (Bool) :=
  some true

def laws_eqIntS_n8 (x2852 : List Int) (x2853 : List Int) : Option (Bool) :=
  (laws_eqIntS_n6 x2852 x2853).bind (Sum.elim (fun (t : Unit) => laws_eqIntS_n7) (fun e => some ((fun (t : Bool) => t) e)))

def laws_eqIntS_n9 (x2852 : List Int) (x2853 : List Int) : Option (Bool) :=
  (laws_eqIntS_n1 x2852 x2853).bind (Sum.elim (fun (t : Unit) => laws_eqIntS_n8 x2852 x2853) (fun e => some ((fun (t : Bool) => t) e)))

@[irreducible] def laws_eqIntS (x2852 : List Int) (x2853 : List Int) : Option (Bool) :=
  laws_eqIntS_n9 x2852 x2853

/-! loop.example/headtrees/laws.FnExactTreeOk -/

def laws_FnExactTreeOk_n1 (x2787 : List Int) : Option (Bool) :=
  cond (decide ((((List.length x2787 : Nat) : Int)) > 1048576)) (some true) ((laws_toIntS x2787).bind fun (v2899 : List Int) => (spec_TreeOk v2899).bind fun (v2900 : Bool) => (laws_toIntS x2787).bind fun (v2901 : List Int) => (impl_TreeOk v2901).bind fun (v2902 : Bool) => cond (v2902 != v2900) (some false) ((laws_toIntS x2787).bind fun (v2904 : List Int) => (laws_eqIntS v2901 v2904).bind fun (v2905 : Bool) => cond (!v2905) (some false) (some true)))

@[irreducible] def laws_FnExactTreeOk (x2787 : List Int) : Option (Bool) :=
  laws_FnExactTreeOk_n1 x2787

end Go.Rv
