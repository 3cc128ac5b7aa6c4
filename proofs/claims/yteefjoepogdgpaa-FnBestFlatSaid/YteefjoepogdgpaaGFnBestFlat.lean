/-
  Plain functions, written by program for functions of the checked code. Conditions: none.
-/
import Derived.Test.YteefjoepogdgpaaFB
set_option linter.unusedVariables false
namespace Go.Rv
def spec_l20Open_n1 (x16521 : List Int) : Option (((List Int))) :=
  cond (decide ((((List.length x16521 : Nat) : Int)) > 2000)) ((inc 2000 (List.length x16521)).bind fun (v16535 : Nat) => some ((x16521.take v16535).drop 0)) (some x16521)

@[irreducible] def spec_l20Open (x16521 : List Int) : Option ((List Int)) :=
  spec_l20Open_n1 x16521

def spec_l20Rd_pick_n1 (x16542 : Int) (x16543 : List Int) (x16544 : Int) : Option ((Int × Int)) :=
  cond (decide (x16542 < 1)) (some (0, (IntKind.wrap .i64 (x16544 + 1)))) (cond ((((List.length x16543 : Nat) : Int)) == 0) (some (0, (IntKind.wrap .i64 (x16544 + 1)))) (cond (decide ((IntKind.wrap .i64 ((IntKind.wrap .i64 (x16544 + 1)) - 1)) < (((List.length x16543 : Nat) : Int)))) ((idx x16543 (IntKind.wrap .i64 ((IntKind.wrap .i64 (x16544 + 1)) - 1))).bind fun (v16664 : Int) => (rem (IntKind.wrap .i64 v16664) x16542).bind fun (v16666 : Int) => some (v16666, (IntKind.wrap .i64 (x16544 + 1)))) ((rem (IntKind.wrap .i64 ((IntKind.wrap .i64 (x16544 + 1)) - 1)) (((List.length x16543 : Nat) : Int))).bind fun (v16668 : Int) => (idx x16543 v16668).bind fun (v16669 : Int) => (rem (IntKind.wrap .i64 ((IntKind.wrap .i64 ((IntKind.wrap .i64 ((IntKind.wrap .i64 (x16544 + 1)) - 1)) * 7)) + 3)) (((List.length x16543 : Nat) : Int))).bind fun (v16675 : Int) => (idx x16543 v16675).bind fun (v16676 : Int) => (quo .i64 (IntKind.wrap .i64 ((IntKind.wrap .i64 (x16544 + 1)) - 1)) (((List.length x16543 : Nat) : Int))).bind fun (v16683 : Int) => (quo .i64 (IntKind.wrap .i64 ((IntKind.wrap .i64 ((IntKind.wrap .i64 ((IntKind.wrap .i64 ((IntKind.wrap .i64 v16669) * 131)) + (IntKind.wrap .i64 ((IntKind.wrap .i64 v16676) * 1117)))) + (IntKind.wrap .i64 ((IntKind.wrap .i64 ((IntKind.wrap .i64 (x16544 + 1)) - 1)) * 29)))) + (IntKind.wrap .i64 (v16683 * 53)))) 64).bind fun (v16686 : Int) => (rem (ixor .i64 (IntKind.wrap .i64 ((IntKind.wrap .i64 ((IntKind.wrap .i64 ((IntKind.wrap .i64 ((IntKind.wrap .i64 v16669) * 131)) + (IntKind.wrap .i64 ((IntKind.wrap .i64 v16676) * 1117)))) + (IntKind.wrap .i64 ((IntKind.wrap .i64 ((IntKind.wrap .i64 (x16544 + 1)) - 1)) * 29)))) + (IntKind.wrap .i64 (v16683 * 53)))) v16686) x16542).bind fun (v16688 : Int) => some (v16688, (IntKind.wrap .i64 (x16544 + 1))))))

@[irreducible] def spec_l20Rd_pick (x16542 : Int) (x16543 : List Int) (x16544 : Int) : Option (Int × Int) :=
  spec_l20Rd_pick_n1 x16542 x16543 x16544

def spec_l20Rd_odd_n1 (x16818 : Int) (x16819 : List Int) (x16820 : Int) : Option ((Bool × Int)) :=
  cond (decide (x16818 > 0)) ((spec_l20Rd_pick x16818 x16819 x16820).bind fun (v16828 : Int × Int) => some (((v16828.1) == (IntKind.wrap .i64 (x16818 - 1))), (v16828.2))) (some (false, x16820))

@[irreducible] def spec_l20Rd_odd (x16818 : Int) (x16819 : List Int) (x16820 : Int) : Option (Bool × Int) :=
  spec_l20Rd_odd_n1 x16818 x16819 x16820

def spec_l20Scores_n1 (x16540 : List Int) (x16541 : Int) : Option ((Int × Int × Int)) :=
  (spec_l20Rd_pick 4 x16540 x16541).bind fun (v16883 : Int × Int) => (spec_l20Rd_pick 6 x16540 (v16883.2)).bind fun (v16887 : Int × Int) => (quo .i64 (v16887.1) 5).bind fun (v16890 : Int) => (spec_l20Rd_pick 3 x16540 (v16887.2)).bind fun (v16893 : Int × Int) => (inb (v16893.1) (List.length ([3, 10, 21]))).bind fun (v16896 : Nat) => (([3, 10, 21])[v16896]?).bind fun (v16897 : Int) => some ((IntKind.wrap .i64 ((IntKind.wrap .i64 (1 + (v16883.1))) + v16890)), v16897, (v16893.2))

def spec_l20Scores_n2 : Option (Unit) :=
  some ()

def spec_l20Scores_n3 (x16891 : Int) (x16941 : Int) (x16942 : Int) (x16943 : List (List Int)) : Option (Unit ⊕ (Int × (List (List Int)))) :=
  cond (decide (x16941 < x16891)) (some (Sum.inl ())) (some (Sum.inr (x16942, x16943)))

def spec_l20Scores_n4 : Option (Unit) :=
  some ()

def spec_l20Scores_n5 : Option (Unit) :=
  some ()

def spec_l20Scores_n6 (x16891 : Int) (x16897 : Int) (x16963 : Int) (x16540 : List Int) (x16964 : Int) (x16965 : List Int) : Option ((Int × Int × (List Int)) ⊕ (Int × (List Int))) :=
  cond (decide (x16963 ≤ x16891)) ((spec_l20Rd_pick x16897 x16540 x16964).bind fun (v16976 : Int × Int) => (room ((List.length x16965) + List.length ([(v16976.1)]))).bind fun (v16981 : Unit) => some (Sum.inl ((IntKind.wrap .i64 (x16963 + 1)), (v16976.2), (x16965 ++ ([(v16976.1)]))))) (some (Sum.inr (x16964, x16965)))

def spec_l20Scores_n7 (x16891 : Int) (x16897 : Int) (x16540 : List Int) (x16942 : Int) : Option ((Int × (List Int))) :=
  nloop (fun (s : Int × Int × (List Int)) => ((spec_l20Scores_n6 x16891 x16897 s.1 x16540 s.2.1 s.2.2).map (Sum.elim (fun (t : Int × Int × (List Int)) => Sum.inl (t.1, t.2.1, t.2.2)) (fun (t : Int × (List Int)) => Sum.inr t)) : Option ((Int × Int × (List Int)) ⊕ ((Int × (List Int)))))) LL (0, x16942, ([] : List Int))

def spec_l20Scores_n8 (x16891 : Int) (x16897 : Int) (x16540 : List Int) (x16942 : Int) : Option ((Int × (List Int))) :=
  (spec_l20Scores_n7 x16891 x16897 x16540 x16942).map (fun (t : Int × (List Int)) => (t.1, t.2))

def spec_l20Scores_n9 (x16891 : Int) (x16897 : Int) (x16540 : List Int) (x16942 : Int) : Option ((Int × (List Int))) :=
  (spec_l20Scores_n5).bind (fun (t : Unit) => spec_l20Scores_n8 x16891 x16897 x16540 x16942)

def spec_l20Scores_n10 (x16943 : List (List Int)) (x16965 : List Int) : Option (((List (List Int)))) :=
  (room (List.length x16943 + 1)).bind fun (v16984 : Unit) => some ((x16943 ++ [[]]).set (List.length x16943) x16965)

def spec_l20Scores_n11 (x16891 : Int) (x16897 : Int) (x16540 : List Int) (x16942 : Int) (x16943 : List (List Int)) : Option ((Int × (List (List Int)))) :=
  (spec_l20Scores_n9 x16891 x16897 x16540 x16942).bind (fun (t : Int × (List Int)) => (spec_l20Scores_n10 x16943 t.2).map (fun (u : (List (List Int))) => (t.1, u)))

def spec_l20Scores_n12 (x16891 : Int) (x16897 : Int) (x16540 : List Int) (x16942 : Int) (x16943 : List (List Int)) : Option ((Int × (List (List Int)))) :=
  (spec_l20Scores_n4).bind (fun (t : Unit) => spec_l20Scores_n11 x16891 x16897 x16540 x16942 x16943)

def spec_l20Scores_n13 (x16891 : Int) (x16897 : Int) (x16540 : List Int) (x16942 : Int) (x16943 : List (List Int)) : Option ((Int × (List (List Int)))) :=
  (spec_l20Scores_n12 x16891 x16897 x16540 x16942 x16943).map (fun (t : Int × (List (List Int))) => (t.1, t.2))

def spec_l20Scores_n14 (x16941 : Int) : Option (Int) :=
  some (IntKind.wrap .i64 (x16941 + 1))

def spec_l20Scores_n15 (x16891 : Int) (x16897 : Int) (x16941 : Int) (x16540 : List Int) (x16942 : Int) (x16943 : List (List Int)) : Option ((Int × Int × (List (List Int)))) :=
  (spec_l20Scores_n13 x16891 x16897 x16540 x16942 x16943).bind (fun (t : Int × (List (List Int))) => (spec_l20Scores_n14 x16941).map (fun (u : Int) => (u, t.1, t.2)))

def spec_l20Scores_n16 (x16891 : Int) (x16897 : Int) (x16941 : Int) (x16540 : List Int) (x16942 : Int) (x16943 : List (List Int)) : Option ((Int × Int × (List (List Int))) ⊕ (Int × (List (List Int)))) :=
  (spec_l20Scores_n3 x16891 x16941 x16942 x16943).bind (Sum.elim (fun (t : Unit) => (spec_l20Scores_n15 x16891 x16897 x16941 x16540 x16942 x16943).map (fun (t : Int × Int × (List (List Int))) => (Sum.inl (t.1, t.2.1, t.2.2)))) (fun e => some ((fun (t : Int × (List (List Int))) => (Sum.inr t)) e)))

def spec_l20Scores_n17 (x16891 : Int) (x16897 : Int) (x16540 : List Int) (x16895 : Int) : Option ((Int × (List (List Int)))) :=
  nloop (fun (s : Int × Int × (List (List Int))) => ((spec_l20Scores_n16 x16891 x16897 s.1 x16540 s.2.1 s.2.2).map (Sum.elim (fun (t : Int × Int × (List (List Int))) => Sum.inl (t.1, t.2.1, t.2.2)) (fun (t : Int × (List (List Int))) => Sum.inr t)) : Option ((Int × Int × (List (List Int))) ⊕ ((Int × (List (List Int))))))) LL (0, x16895, ([] : List (List Int)))

def spec_l20Scores_n18 (x16891 : Int) (x16897 : Int) (x16540 : List Int) (x16895 : Int) : Option ((Int × (List (List Int)))) :=
  (spec_l20Scores_n17 x16891 x16897 x16540 x16895).map (fun (t : Int × (List (List Int))) => (t.1, t.2))

def spec_l20Scores_n19 (x16891 : Int) (x16897 : Int) (x16540 : List Int) (x16895 : Int) : Option ((Int × (List (List Int)))) :=
  (spec_l20Scores_n2).bind (fun (t : Unit) => spec_l20Scores_n18 x16891 x16897 x16540 x16895)

def spec_l20Scores_n20 (x16539 : Int) (x16540 : List Int) (x16942 : Int) (x16943 : List (List Int)) : Option ((Int × (List (List Int)))) :=
  (spec_l20Rd_odd x16539 x16540 x16942).bind fun (v17037 : Bool × Int) => cond (v17037.1) ((spec_l20Rd_pick 3 x16540 (v17037.2)).bind fun (v17040 : Int × Int) => cond ((v17040.1) == 0) (some ((v17040.2), ([] : List (List Int)))) (cond ((v17040.1) == 1) ((inb 0 (List.length x16943)).bind fun (v17045 : Nat) => ((x16943)[v17045]?).bind fun (v17046 : List Int) => (inc 1 (List.length v17046)).bind fun (v17049 : Nat) => (inb 0 (List.length ((x16943).set v17045 []))).bind fun (v17051 : Nat) => (within v17051 (List.length ((x16943).set v17045 []))).bind fun (v17053 : Unit) => (same v17045 v17051).bind fun (v17054 : Unit) => some ((v17040.2), ((((x16943).set v17045 [])).set v17051 ((v17046.drop v17049).take ((List.length v17046) - v17049))))) ((inb 0 (List.length x16943)).bind fun (v17056 : Nat) => ((x16943)[v17056]?).bind fun (v17057 : List Int) => (inb 0 (List.length v17057)).bind fun (v17059 : Nat) => some ((v17040.2), ((((x16943).set v17056 [])).set v17056 (v17057.set v17059 (-1))))))) (some ((v17037.2), x16943))

def spec_l20Scores_n21 (x16539 : Int) (x16891 : Int) (x16897 : Int) (x16540 : List Int) (x16895 : Int) : Option ((Int × (List (List Int)))) :=
  (spec_l20Scores_n19 x16891 x16897 x16540 x16895).bind (fun (t : Int × (List (List Int))) => spec_l20Scores_n20 x16539 x16540 t.1 t.2)

def spec_l20Scores_n22 (x16539 : Int) (x16540 : List Int) (x16541 : Int) : Option ((Int × (List (List Int)))) :=
  (spec_l20Scores_n1 x16540 x16541).bind (fun (t : Int × Int × Int) => spec_l20Scores_n21 x16539 t.1 t.2.1 x16540 t.2.2)

@[irreducible] def spec_l20Scores (x16539 : Int) (x16540 : List Int) (x16541 : Int) : Option (Int × (List (List Int))) :=
  spec_l20Scores_n22 x16539 x16540 x16541

def slices_Min_int_int_n1 (x17091 : List Int) : Option (Int) :=
  cond (decide ((((List.length x17091 : Nat) : Int)) < 1)) (none) ((idx x17091 0).bind fun (v17096 : Int) => some v17096)

def slices_Min_int_int_n2 : Option (Unit) :=
  some ()

def slices_Min_int_int_n3 (x17091 : List Int) (x17108 : Int) (x17109 : Int) : Option ((Int × Int) ⊕ Int) :=
  cond (decide (x17109 < (((List.length x17091 : Nat) : Int)))) ((idx x17091 x17109).bind fun (v17118 : Int) => some (Sum.inl ((imin x17108 v17118), (IntKind.wrap .i64 (x17109 + 1))))) (some (Sum.inr x17108))

def slices_Min_int_int_n4 (x17091 : List Int) (x17096 : Int) : Option (Int) :=
  nloop (fun (s : Int × Int) => ((slices_Min_int_int_n3 x17091 s.1 s.2).map (Sum.elim (fun (t : Int × Int) => Sum.inl (t.1, t.2)) (fun (t : Int) => Sum.inr t)) : Option ((Int × Int) ⊕ (Int)))) LL (x17096, 1)

def slices_Min_int_int_n5 (x17091 : List Int) (x17096 : Int) : Option (Int) :=
  (slices_Min_int_int_n4 x17091 x17096).map (fun (t : Int) => t)

def slices_Min_int_int_n6 (x17091 : List Int) (x17096 : Int) : Option (Int) :=
  (slices_Min_int_int_n2).bind (fun (t : Unit) => slices_Min_int_int_n5 x17091 x17096)

def slices_Min_int_int_n7 (x17108 : Int) : Option (Int) :=
  some x17108

def slices_Min_int_int_n8 (x17091 : List Int) (x17096 : Int) : Option (Int) :=
  (slices_Min_int_int_n6 x17091 x17096).bind (fun (t : Int) => slices_Min_int_int_n7 t)

def slices_Min_int_int_n9 (x17091 : List Int) : Option (Int) :=
  (slices_Min_int_int_n1 x17091).bind (fun (t : Int) => slices_Min_int_int_n8 x17091 t)

@[irreducible] def slices_Min_int_int (x17091 : List Int) : Option (Int) :=
  slices_Min_int_int_n9 x17091

def slices_Max_int_int_n1 (x17123 : List Int) : Option (Int) :=
  cond (decide ((((List.length x17123 : Nat) : Int)) < 1)) (none) ((idx x17123 0).bind fun (v17128 : Int) => some v17128)

def slices_Max_int_int_n2 : Option (Unit) :=
  some ()

def slices_Max_int_int_n3 (x17123 : List Int) (x17140 : Int) (x17141 : Int) : Option ((Int × Int) ⊕ Int) :=
  cond (decide (x17141 < (((List.length x17123 : Nat) : Int)))) ((idx x17123 x17141).bind fun (v17150 : Int) => some (Sum.inl ((imax x17140 v17150), (IntKind.wrap .i64 (x17141 + 1))))) (some (Sum.inr x17140))

def slices_Max_int_int_n4 (x17123 : List Int) (x17128 : Int) : Option (Int) :=
  nloop (fun (s : Int × Int) => ((slices_Max_int_int_n3 x17123 s.1 s.2).map (Sum.elim (fun (t : Int × Int) => Sum.inl (t.1, t.2)) (fun (t : Int) => Sum.inr t)) : Option ((Int × Int) ⊕ (Int)))) LL (x17128, 1)

def slices_Max_int_int_n5 (x17123 : List Int) (x17128 : Int) : Option (Int) :=
  (slices_Max_int_int_n4 x17123 x17128).map (fun (t : Int) => t)

def slices_Max_int_int_n6 (x17123 : List Int) (x17128 : Int) : Option (Int) :=
  (slices_Max_int_int_n2).bind (fun (t : Unit) => slices_Max_int_int_n5 x17123 x17128)

def slices_Max_int_int_n7 (x17140 : Int) : Option (Int) :=
  some x17140

def slices_Max_int_int_n8 (x17123 : List Int) (x17128 : Int) : Option (Int) :=
  (slices_Max_int_int_n6 x17123 x17128).bind (fun (t : Int) => slices_Max_int_int_n7 t)

def slices_Max_int_int_n9 (x17123 : List Int) : Option (Int) :=
  (slices_Max_int_int_n1 x17123).bind (fun (t : Int) => slices_Max_int_int_n8 x17123 t)

@[irreducible] def slices_Max_int_int (x17123 : List Int) : Option (Int) :=
  slices_Max_int_int_n9 x17123

def impl_scoreRowOk_n1 (x17086 : List Int) (x17087 : Int) : Option (Bool) :=
  cond ((((List.length x17086 : Nat) : Int)) == (IntKind.wrap .i64 (x17087 + 1))) ((slices_Min_int_int x17086).bind fun (v17158 : Int) => cond (decide (v17158 ≥ 0)) ((slices_Max_int_int x17086).bind fun (v17160 : Int) => some (decide (v17160 ≤ 20))) (some false)) (some false)

@[irreducible] def impl_scoreRowOk (x17086 : List Int) (x17087 : Int) : Option (Bool) :=
  impl_scoreRowOk_n1 x17086 x17087

def impl_ScoresOk_n1 (x17075 : List (List Int)) : Option (Unit ⊕ Bool) :=
  cond (decide ((((List.length x17075 : Nat) : Int)) < 1)) (some (Sum.inr false)) (cond (decide ((((List.length x17075 : Nat) : Int)) > 5)) (some (Sum.inr false)) (some (Sum.inl ())))

def impl_ScoresOk_n2 (x17075 : List (List Int)) : Option (Int) :=
  some (((List.length x17075 : Nat) : Int))

def impl_ScoresOk_n3 (x17075 : List (List Int)) (x17080 : Int) (x17171 : Int) : Option (Int ⊕ Bool ⊕ Unit) :=
  cond (decide (x17171 < x17080)) ((idx x17075 x17171).bind fun (v17180 : List Int) => (impl_scoreRowOk v17180 (((List.length x17075 : Nat) : Int))).bind fun (v17182 : Bool) => cond (!v17182) (some (Sum.inr (Sum.inl false))) (some (Sum.inl (IntKind.wrap .i64 (x17171 + 1))))) (some (Sum.inr (Sum.inr ())))

def impl_ScoresOk_n4 (x17075 : List (List Int)) (x17080 : Int) : Option (Bool ⊕ Unit) :=
  nloop (fun (s : Int) => ((impl_ScoresOk_n3 x17075 x17080 s).map (Sum.elim (fun (t : Int) => Sum.inl t) (Sum.elim (fun (t : Bool) => Sum.inr (Sum.inl t)) (fun (t : Unit) => Sum.inr (Sum.inr t)))) : Option ((Int) ⊕ (Bool ⊕ Unit)))) LL 0

def impl_ScoresOk_n5 (x17075 : List (List Int)) (x17080 : Int) : Option (Unit ⊕ Bool) :=
  (impl_ScoresOk_n4 x17075 x17080).map (Sum.elim (fun (t : Bool) => (Sum.inr t)) (fun (t : Unit) => (Sum.inl ())))

def impl_ScoresOk_n6 (x17075 : List (List Int)) : Option (Unit ⊕ Bool) :=
  (impl_ScoresOk_n2 x17075).bind (fun (t : Int) => impl_ScoresOk_n5 x17075 t)

def impl_ScoresOk_n7 : Option (Bool) :=
  some true

def impl_ScoresOk_n8 (x17075 : List (List Int)) : Option (Bool) :=
  (impl_ScoresOk_n6 x17075).bind (Sum.elim (fun (t : Unit) => impl_ScoresOk_n7) (fun e => some ((fun (t : Bool) => t) e)))

def impl_ScoresOk_n9 (x17075 : List (List Int)) : Option (Bool) :=
  (impl_ScoresOk_n1 x17075).bind (Sum.elim (fun (t : Unit) => impl_ScoresOk_n8 x17075) (fun e => some ((fun (t : Bool) => t) e)))

@[irreducible] def impl_ScoresOk (x17075 : List (List Int)) : Option (Bool) :=
  impl_ScoresOk_n9 x17075

def spec_l1In_n1 (x17212 : Int) (x17213 : Int) (x17214 : Int) : Option (Bool) :=
  cond (decide (x17212 ≥ x17213)) (some (decide (x17212 ≤ x17214))) (some false)

@[irreducible] def spec_l1In (x17212 : Int) (x17213 : Int) (x17214 : Int) : Option (Bool) :=
  spec_l1In_n1 x17212 x17213 x17214

def spec_ScoresOk_n1 : Option (Unit) :=
  some ()

def spec_ScoresOk_n2 : Option (Unit) :=
  some ()

def spec_ScoresOk_n3 (x17191 : List (List Int)) (x17250 : Int) : Option (Unit ⊕ Unit) :=
  cond (decide (x17250 < (((List.length x17191 : Nat) : Int)))) (some (Sum.inl ())) (some (Sum.inr ()))

def spec_ScoresOk_n4 (x17191 : List (List Int)) (x17250 : Int) : Option (Unit ⊕ Bool) :=
  (idx x17191 x17250).bind fun (v17258 : List Int) => cond ((((List.length v17258 : Nat) : Int)) != (IntKind.wrap .i64 ((((List.length x17191 : Nat) : Int)) + 1))) (some (Sum.inr false)) (some (Sum.inl ()))

def spec_ScoresOk_n5 (x17191 : List (List Int)) (x17250 : Int) (x17281 : Int) : Option (Int ⊕ Bool ⊕ Unit) :=
  (idx x17191 x17250).bind fun (v17292 : List Int) => cond (decide (x17281 < (((List.length v17292 : Nat) : Int)))) ((idx x17191 x17250).bind fun (v17295 : List Int) => (idx v17295 x17281).bind fun (v17296 : Int) => (spec_l1In v17296 0 20).bind fun (v17297 : Bool) => cond (!v17297) (some (Sum.inr (Sum.inl false))) (some (Sum.inl (IntKind.wrap .i64 (x17281 + 1))))) (some (Sum.inr (Sum.inr ())))

def spec_ScoresOk_n6 (x17191 : List (List Int)) (x17250 : Int) : Option (Bool ⊕ Unit) :=
  nloop (fun (s : Int) => ((spec_ScoresOk_n5 x17191 x17250 s).map (Sum.elim (fun (t : Int) => Sum.inl t) (Sum.elim (fun (t : Bool) => Sum.inr (Sum.inl t)) (fun (t : Unit) => Sum.inr (Sum.inr t)))) : Option ((Int) ⊕ (Bool ⊕ Unit)))) LL 0

def spec_ScoresOk_n7 (x17191 : List (List Int)) (x17250 : Int) : Option (Unit ⊕ Bool) :=
  (spec_ScoresOk_n6 x17191 x17250).map (Sum.elim (fun (t : Bool) => (Sum.inr t)) (fun (t : Unit) => (Sum.inl ())))

def spec_ScoresOk_n8 (x17191 : List (List Int)) (x17250 : Int) : Option (Unit ⊕ Bool) :=
  (spec_ScoresOk_n4 x17191 x17250).bind (Sum.elim (fun (t : Unit) => spec_ScoresOk_n7 x17191 x17250) (fun e => some ((fun (t : Bool) => (Sum.inr t)) e)))

def spec_ScoresOk_n9 (x17191 : List (List Int)) (x17250 : Int) : Option (Unit ⊕ Bool) :=
  (spec_ScoresOk_n8 x17191 x17250).map (Sum.elim (fun (t : Unit) => (Sum.inl ())) (fun (t : Bool) => (Sum.inr t)))

def spec_ScoresOk_n10 (x17250 : Int) : Option (Int) :=
  some (IntKind.wrap .i64 (x17250 + 1))

def spec_ScoresOk_n11 (x17191 : List (List Int)) (x17250 : Int) : Option (Int ⊕ Bool) :=
  (spec_ScoresOk_n9 x17191 x17250).bind (Sum.elim (fun (t : Unit) => (spec_ScoresOk_n10 x17250).map (fun (t : Int) => (Sum.inl t))) (fun e => some ((fun (t : Bool) => (Sum.inr t)) e)))

def spec_ScoresOk_n12 (x17191 : List (List Int)) (x17250 : Int) : Option (Int ⊕ Bool ⊕ Unit) :=
  (spec_ScoresOk_n3 x17191 x17250).bind (Sum.elim (fun (t : Unit) => (spec_ScoresOk_n11 x17191 x17250).map (Sum.elim (fun (t : Int) => (Sum.inl t)) (fun (t : Bool) => (Sum.inr (Sum.inl t))))) (fun e => some ((fun (t : Unit) => (Sum.inr (Sum.inr t))) e)))

def spec_ScoresOk_n13 (x17191 : List (List Int)) : Option (Bool ⊕ Unit) :=
  nloop (fun (s : Int) => ((spec_ScoresOk_n12 x17191 s).map (Sum.elim (fun (t : Int) => Sum.inl t) (Sum.elim (fun (t : Bool) => Sum.inr (Sum.inl t)) (fun (t : Unit) => Sum.inr (Sum.inr t)))) : Option ((Int) ⊕ (Bool ⊕ Unit)))) LL 0

def spec_ScoresOk_n14 (x17191 : List (List Int)) : Option (Unit ⊕ Bool) :=
  (spec_ScoresOk_n13 x17191).map (Sum.elim (fun (t : Bool) => (Sum.inr t)) (fun (t : Unit) => (Sum.inl ())))

def spec_ScoresOk_n15 (x17191 : List (List Int)) : Option (Unit ⊕ Bool) :=
  (spec_ScoresOk_n2).bind (fun (t : Unit) => spec_ScoresOk_n14 x17191)

def spec_ScoresOk_n16 (x17191 : List (List Int)) : Option (Bool) :=
  (spec_l1In (((List.length x17191 : Nat) : Int)) 1 5).bind fun (v17304 : Bool) => some v17304

def spec_ScoresOk_n17 (x17191 : List (List Int)) : Option (Bool) :=
  (spec_ScoresOk_n15 x17191).bind (Sum.elim (fun (t : Unit) => spec_ScoresOk_n16 x17191) (fun e => some ((fun (t : Bool) => t) e)))

def spec_ScoresOk_n18 (x17191 : List (List Int)) : Option (Bool) :=
  (spec_ScoresOk_n1).bind (fun (t : Unit) => spec_ScoresOk_n17 x17191)

@[irreducible] def spec_ScoresOk (x17191 : List (List Int)) : Option (Bool) :=
  spec_ScoresOk_n18 x17191

def impl_oneRoot_n1 : Option (Unit) :=
  some ()

def impl_oneRoot_n2 (x17431 : List Int) : Option (Int) :=
  some (((List.length x17431 : Nat) : Int))

def impl_oneRoot_n3 (x17431 : List Int) (x17453 : Int) (x17432 : Int) (x17454 : Int) : Option ((Int × Int) ⊕ Bool ⊕ Int) :=
  cond (decide (x17454 < x17432)) ((idx x17431 x17454).bind fun (v17465 : Int) => cond (decide (v17465 < 0)) (some (Sum.inr (Sum.inl false))) (cond (decide (v17465 > (((List.length x17431 : Nat) : Int)))) (some (Sum.inr (Sum.inl false))) (cond (v17465 == 0) (some (Sum.inl ((IntKind.wrap .i64 (x17453 + 1)), (IntKind.wrap .i64 (x17454 + 1))))) (some (Sum.inl (x17453, (IntKind.wrap .i64 (x17454 + 1)))))))) (some (Sum.inr (Sum.inr x17453)))

def impl_oneRoot_n4 (x17431 : List Int) (x17432 : Int) : Option (Bool ⊕ Int) :=
  nloop (fun (s : Int × Int) => ((impl_oneRoot_n3 x17431 s.1 x17432 s.2).map (Sum.elim (fun (t : Int × Int) => Sum.inl (t.1, t.2)) (Sum.elim (fun (t : Bool) => Sum.inr (Sum.inl t)) (fun (t : Int) => Sum.inr (Sum.inr t)))) : Option ((Int × Int) ⊕ (Bool ⊕ Int)))) LL (0, 0)

def impl_oneRoot_n5 (x17431 : List Int) (x17432 : Int) : Option (Int ⊕ Bool) :=
  (impl_oneRoot_n4 x17431 x17432).map (Sum.elim (fun (t : Bool) => (Sum.inr t)) (fun (t : Int) => (Sum.inl t)))

def impl_oneRoot_n6 (x17431 : List Int) : Option (Int ⊕ Bool) :=
  (impl_oneRoot_n2 x17431).bind (fun (t : Int) => impl_oneRoot_n5 x17431 t)

def impl_oneRoot_n7 (x17453 : Int) : Option (Bool) :=
  some (x17453 == 1)

def impl_oneRoot_n8 (x17431 : List Int) : Option (Bool) :=
  (impl_oneRoot_n6 x17431).bind (Sum.elim (fun (t : Int) => impl_oneRoot_n7 t) (fun e => some ((fun (t : Bool) => t) e)))

def impl_oneRoot_n9 (x17431 : List Int) : Option (Bool) :=
  (impl_oneRoot_n1).bind (fun (t : Unit) => impl_oneRoot_n8 x17431)

@[irreducible] def impl_oneRoot (x17431 : List Int) : Option (Bool) :=
  impl_oneRoot_n9 x17431

def impl_walker_up_n1 (x17487 : List Int) (x17488 : Int) (x17489 : Int) : Option ((Bool × Int × Int)) :=
  (idx x17487 (IntKind.wrap .i64 (x17488 - 1))).bind fun (v17507 : Int) => cond (v17507 == 0) (some (false, x17488, x17489)) (some (true, v17507, (IntKind.wrap .i64 (x17489 + 1))))

@[irreducible] def impl_walker_up (x17487 : List Int) (x17488 : Int) (x17489 : Int) : Option (Bool × Int × Int) :=
  impl_walker_up_n1 x17487 x17488 x17489

def impl_stepsToRoot_n1 : Option (Unit) :=
  some ()

def impl_stepsToRoot_n2 (x17485 : List Int) (x17523 : Int) (x17524 : Int) : Option ((Int × Int) ⊕ (Int × Bool) ⊕ (Int × Int)) :=
  (impl_walker_up x17485 x17523 x17524).bind fun (v17529 : Bool × Int × Int) => cond (v17529.1) (cond (decide ((v17529.2.2) ≥ (((List.length x17485 : Nat) : Int)))) (some (Sum.inr (Sum.inl (0, false)))) (some (Sum.inl ((v17529.2.1), (v17529.2.2))))) (some (Sum.inr (Sum.inr ((v17529.2.1), (v17529.2.2)))))

def impl_stepsToRoot_n3 (x17485 : List Int) (x17486 : Int) : Option ((Int × Bool) ⊕ (Int × Int)) :=
  nloop (fun (s : Int × Int) => ((impl_stepsToRoot_n2 x17485 s.1 s.2).map (Sum.elim (fun (t : Int × Int) => Sum.inl (t.1, t.2)) (Sum.elim (fun (t : Int × Bool) => Sum.inr (Sum.inl t)) (fun (t : Int × Int) => Sum.inr (Sum.inr t)))) : Option ((Int × Int) ⊕ ((Int × Bool) ⊕ (Int × Int))))) LL (x17486, 0)

def impl_stepsToRoot_n4 (x17485 : List Int) (x17486 : Int) : Option ((Int × Int) ⊕ (Int × Bool)) :=
  (impl_stepsToRoot_n3 x17485 x17486).map (Sum.elim (fun (t : Int × Bool) => (Sum.inr t)) (fun (t : Int × Int) => (Sum.inl (t.1, t.2))))

def impl_stepsToRoot_n5 (x17532 : Int) : Option ((Int × Bool)) :=
  some (x17532, true)

def impl_stepsToRoot_n6 (x17485 : List Int) (x17486 : Int) : Option ((Int × Bool)) :=
  (impl_stepsToRoot_n4 x17485 x17486).bind (Sum.elim (fun (t : Int × Int) => impl_stepsToRoot_n5 t.2) (fun e => some ((fun (t : Int × Bool) => t) e)))

def impl_stepsToRoot_n7 (x17485 : List Int) (x17486 : Int) : Option ((Int × Bool)) :=
  (impl_stepsToRoot_n1).bind (fun (t : Unit) => impl_stepsToRoot_n6 x17485 x17486)

@[irreducible] def impl_stepsToRoot (x17485 : List Int) (x17486 : Int) : Option (Int × Bool) :=
  impl_stepsToRoot_n7 x17485 x17486

def impl_TreeOk_n1 (x17426 : List Int) : Option (Unit ⊕ Bool) :=
  cond (decide ((((List.length x17426 : Nat) : Int)) < 1)) (some (Sum.inr false)) (cond (decide ((((List.length x17426 : Nat) : Int)) > 8)) (some (Sum.inr false)) ((impl_oneRoot x17426).bind fun (v17478 : Bool) => cond (!v17478) (some (Sum.inr false)) (some (Sum.inl ()))))

def impl_TreeOk_n2 (x17426 : List Int) : Option (Int) :=
  some (((List.length x17426 : Nat) : Int))

def impl_TreeOk_n3 (x17426 : List Int) (x17480 : Int) (x17548 : Int) : Option (Int ⊕ Bool ⊕ Unit) :=
  cond (decide (x17548 < x17480)) ((impl_stepsToRoot x17426 (IntKind.wrap .i64 (x17548 + 1))).bind fun (v17559 : Int × Bool) => cond (!(v17559.2)) (some (Sum.inr (Sum.inl false))) (some (Sum.inl (IntKind.wrap .i64 (x17548 + 1))))) (some (Sum.inr (Sum.inr ())))

def impl_TreeOk_n4 (x17426 : List Int) (x17480 : Int) : Option (Bool ⊕ Unit) :=
  nloop (fun (s : Int) => ((impl_TreeOk_n3 x17426 x17480 s).map (Sum.elim (fun (t : Int) => Sum.inl t) (Sum.elim (fun (t : Bool) => Sum.inr (Sum.inl t)) (fun (t : Unit) => Sum.inr (Sum.inr t)))) : Option ((Int) ⊕ (Bool ⊕ Unit)))) LL 0

def impl_TreeOk_n5 (x17426 : List Int) (x17480 : Int) : Option (Unit ⊕ Bool) :=
  (impl_TreeOk_n4 x17426 x17480).map (Sum.elim (fun (t : Bool) => (Sum.inr t)) (fun (t : Unit) => (Sum.inl ())))

def impl_TreeOk_n6 (x17426 : List Int) : Option (Unit ⊕ Bool) :=
  (impl_TreeOk_n2 x17426).bind (fun (t : Int) => impl_TreeOk_n5 x17426 t)

def impl_TreeOk_n7 : Option (Bool) :=
  some true

def impl_TreeOk_n8 (x17426 : List Int) : Option (Bool) :=
  (impl_TreeOk_n6 x17426).bind (Sum.elim (fun (t : Unit) => impl_TreeOk_n7) (fun e => some ((fun (t : Bool) => t) e)))

def impl_TreeOk_n9 (x17426 : List Int) : Option (Bool) :=
  (impl_TreeOk_n1 x17426).bind (Sum.elim (fun (t : Unit) => impl_TreeOk_n8 x17426) (fun e => some ((fun (t : Bool) => t) e)))

@[irreducible] def impl_TreeOk (x17426 : List Int) : Option (Bool) :=
  impl_TreeOk_n9 x17426

def laws_alive_n1 : Option (Bool) :=
  (impl_TreeOk ([0])).bind fun (v17570 : Bool) => cond v17570 ((impl_TreeOk ([1])).bind fun (v17572 : Bool) => some (!v17572)) (some false)

@[irreducible] def laws_alive : Option (Bool) :=
  laws_alive_n1

def impl_partTable_between_1_n1 (x18298 : Int) (x18299 : List (Int × Int × Unit)) (x18300 : Int) (x18301 : Int) : Option (Int) :=
  (same (List.length x18299) 36).bind fun (v18322 : Unit) => (inb x18300 6).bind fun (v18323 : Nat) => (same (List.length ((x18299.drop (v18323 * 6)).take 6)) 6).bind fun (v18325 : Unit) => (idx ((x18299.drop (v18323 * 6)).take 6) x18298).bind fun (v18326 : Int × Int × Unit) => (same (List.length x18299) 36).bind fun (v18332 : Unit) => (inb (IntKind.wrap .i64 (x18298 + 1)) 6).bind fun (v18333 : Nat) => (same (List.length ((x18299.drop (v18333 * 6)).take 6)) 6).bind fun (v18335 : Unit) => (idx ((x18299.drop (v18333 * 6)).take 6) x18301).bind fun (v18336 : Int × Int × Unit) => some (IntKind.wrap .i64 ((v18326.1) + ((v18336.2).1)))

@[irreducible] def impl_partTable_between_1 (x18298 : Int) (x18299 : List (Int × Int × Unit)) (x18300 : Int) (x18301 : Int) : Option (Int) :=
  impl_partTable_between_1_n1 x18298 x18299 x18300 x18301

def impl_greatest_v2_n1 : Option (Unit) :=
  some ()

def impl_greatest_v2_n2 : Option (Unit) :=
  some ()

def impl_greatest_v2_n3 (x18292 : Int) (x18293 : List (Int × Int × Unit)) (x18294 : Int) (x18295 : Int) (x18348 : Int) (x18349 : Int) : Option ((Int × Int) ⊕ Int) :=
  cond (decide (x18349 ≤ x18292)) ((impl_partTable_between_1 x18349 x18293 x18294 x18295).bind fun (v18355 : Int) => some (Sum.inl ((imax x18348 v18355), (IntKind.wrap .i64 (x18349 + 1))))) (some (Sum.inr x18348))

def impl_greatest_v2_n4 (x18292 : Int) (x18293 : List (Int × Int × Unit)) (x18294 : Int) (x18295 : Int) (x18291 : Int) : Option (Int) :=
  nloop (fun (s : Int × Int) => ((impl_greatest_v2_n3 x18292 x18293 x18294 x18295 s.1 s.2).map (Sum.elim (fun (t : Int × Int) => Sum.inl (t.1, t.2)) (fun (t : Int) => Sum.inr t)) : Option ((Int × Int) ⊕ (Int)))) LL (0, x18291)

def impl_greatest_v2_n5 (x18292 : Int) (x18293 : List (Int × Int × Unit)) (x18294 : Int) (x18295 : Int) (x18291 : Int) : Option (Int) :=
  (impl_greatest_v2_n4 x18292 x18293 x18294 x18295 x18291).map (fun (t : Int) => t)

def impl_greatest_v2_n6 (x18291 : Int) (x18292 : Int) (x18293 : List (Int × Int × Unit)) (x18294 : Int) (x18295 : Int) : Option (Int) :=
  (impl_greatest_v2_n2).bind (fun (t : Unit) => impl_greatest_v2_n5 x18292 x18293 x18294 x18295 x18291)

def impl_greatest_v2_n7 (x18348 : Int) : Option (Int) :=
  some x18348

def impl_greatest_v2_n8 (x18291 : Int) (x18292 : Int) (x18293 : List (Int × Int × Unit)) (x18294 : Int) (x18295 : Int) : Option (Int) :=
  (impl_greatest_v2_n6 x18291 x18292 x18293 x18294 x18295).bind (fun (t : Int) => impl_greatest_v2_n7 t)

def impl_greatest_v2_n9 (x18291 : Int) (x18292 : Int) (x18293 : List (Int × Int × Unit)) (x18294 : Int) (x18295 : Int) : Option (Int) :=
  (impl_greatest_v2_n1).bind (fun (t : Unit) => impl_greatest_v2_n8 x18291 x18292 x18293 x18294 x18295)

@[irreducible] def impl_greatest_v2 (x18291 : Int) (x18292 : Int) (x18293 : List (Int × Int × Unit)) (x18294 : Int) (x18295 : Int) : Option (Int) :=
  impl_greatest_v2_n9 x18291 x18292 x18293 x18294 x18295

def impl_partTable_between_n1 (x18287 : List (Int × Int × Unit)) (x18288 : Int) (x18289 : Int) : Option (Int) :=
  (impl_greatest_v2 x18288 (IntKind.wrap .i64 (x18289 - 1)) x18287 x18288 x18289).bind fun (v18360 : Int) => some v18360

@[irreducible] def impl_partTable_between (x18287 : List (Int × Int × Unit)) (x18288 : Int) (x18289 : Int) : Option (Int) :=
  impl_partTable_between_n1 x18287 x18288 x18289

def impl_partTable_joined_1_n1 (x18270 : Int) (x18271 : List (Int × Int × Unit)) (x18272 : Int) (x18273 : List (List Int)) (x18274 : Int) : Option (Int) :=
  (idx x18273 (IntKind.wrap .i64 (x18270 - 1))).bind fun (v18365 : List Int) => (idx v18365 x18272).bind fun (v18366 : Int) => (same (List.length x18271) 36).bind fun (v18367 : Unit) => (inb x18270 6).bind fun (v18368 : Nat) => (same (List.length ((x18271.drop (v18368 * 6)).take 6)) 6).bind fun (v18370 : Unit) => (idx ((x18271.drop (v18368 * 6)).take 6) x18274).bind fun (v18371 : Int × Int × Unit) => (impl_partTable_between x18271 x18272 x18270).bind fun (v18376 : Int) => some (IntKind.wrap .i64 ((IntKind.wrap .i64 (v18376 + v18366)) + (v18371.1)))

@[irreducible] def impl_partTable_joined_1 (x18270 : Int) (x18271 : List (Int × Int × Unit)) (x18272 : Int) (x18273 : List (List Int)) (x18274 : Int) : Option (Int) :=
  impl_partTable_joined_1_n1 x18270 x18271 x18272 x18273 x18274

def impl_greatest_n1 : Option (Unit) :=
  some ()

def impl_greatest_n2 : Option (Unit) :=
  some ()

def impl_greatest_n3 (x18263 : Int) (x18264 : List (Int × Int × Unit)) (x18265 : Int) (x18266 : List (List Int)) (x18267 : Int) (x18385 : Int) (x18386 : Int) : Option ((Int × Int) ⊕ Int) :=
  cond (decide (x18386 ≤ x18263)) ((impl_partTable_joined_1 x18386 x18264 x18265 x18266 x18267).bind fun (v18392 : Int) => some (Sum.inl ((imax x18385 v18392), (IntKind.wrap .i64 (x18386 + 1))))) (some (Sum.inr x18385))

def impl_greatest_n4 (x18263 : Int) (x18264 : List (Int × Int × Unit)) (x18265 : Int) (x18266 : List (List Int)) (x18267 : Int) (x18262 : Int) : Option (Int) :=
  nloop (fun (s : Int × Int) => ((impl_greatest_n3 x18263 x18264 x18265 x18266 x18267 s.1 s.2).map (Sum.elim (fun (t : Int × Int) => Sum.inl (t.1, t.2)) (fun (t : Int) => Sum.inr t)) : Option ((Int × Int) ⊕ (Int)))) LL (0, x18262)

def impl_greatest_n5 (x18263 : Int) (x18264 : List (Int × Int × Unit)) (x18265 : Int) (x18266 : List (List Int)) (x18267 : Int) (x18262 : Int) : Option (Int) :=
  (impl_greatest_n4 x18263 x18264 x18265 x18266 x18267 x18262).map (fun (t : Int) => t)

def impl_greatest_n6 (x18262 : Int) (x18263 : Int) (x18264 : List (Int × Int × Unit)) (x18265 : Int) (x18266 : List (List Int)) (x18267 : Int) : Option (Int) :=
  (impl_greatest_n2).bind (fun (t : Unit) => impl_greatest_n5 x18263 x18264 x18265 x18266 x18267 x18262)

def impl_greatest_n7 (x18385 : Int) : Option (Int) :=
  some x18385

def impl_greatest_n8 (x18262 : Int) (x18263 : Int) (x18264 : List (Int × Int × Unit)) (x18265 : Int) (x18266 : List (List Int)) (x18267 : Int) : Option (Int) :=
  (impl_greatest_n6 x18262 x18263 x18264 x18265 x18266 x18267).bind (fun (t : Int) => impl_greatest_n7 t)

def impl_greatest_n9 (x18262 : Int) (x18263 : Int) (x18264 : List (Int × Int × Unit)) (x18265 : Int) (x18266 : List (List Int)) (x18267 : Int) : Option (Int) :=
  (impl_greatest_n1).bind (fun (t : Unit) => impl_greatest_n8 x18262 x18263 x18264 x18265 x18266 x18267)

@[irreducible] def impl_greatest (x18262 : Int) (x18263 : Int) (x18264 : List (Int × Int × Unit)) (x18265 : Int) (x18266 : List (List Int)) (x18267 : Int) : Option (Int) :=
  impl_greatest_n9 x18262 x18263 x18264 x18265 x18266 x18267

def impl_partTable_joined_2_n1 (x18404 : Int) (x18405 : List (Int × Int × Unit)) (x18406 : Int) (x18407 : List (List Int)) (x18408 : Int) : Option (Int) :=
  (same (List.length x18405) 36).bind fun (v18424 : Unit) => (inb x18406 6).bind fun (v18425 : Nat) => (same (List.length ((x18405.drop (v18425 * 6)).take 6)) 6).bind fun (v18427 : Unit) => (idx ((x18405.drop (v18425 * 6)).take 6) x18404).bind fun (v18428 : Int × Int × Unit) => (idx x18407 (IntKind.wrap .i64 (x18404 - 1))).bind fun (v18434 : List Int) => (idx v18434 x18408).bind fun (v18435 : Int) => (impl_partTable_between x18405 x18404 x18408).bind fun (v18437 : Int) => some (IntKind.wrap .i64 ((IntKind.wrap .i64 (((v18428.2).1) + v18435)) + v18437))

@[irreducible] def impl_partTable_joined_2 (x18404 : Int) (x18405 : List (Int × Int × Unit)) (x18406 : Int) (x18407 : List (List Int)) (x18408 : Int) : Option (Int) :=
  impl_partTable_joined_2_n1 x18404 x18405 x18406 x18407 x18408

def impl_greatest_v3_n1 : Option (Unit) :=
  some ()

def impl_greatest_v3_n2 : Option (Unit) :=
  some ()

def impl_greatest_v3_n3 (x18397 : Int) (x18398 : List (Int × Int × Unit)) (x18399 : Int) (x18400 : List (List Int)) (x18401 : Int) (x18445 : Int) (x18446 : Int) : Option ((Int × Int) ⊕ Int) :=
  cond (decide (x18446 ≤ x18397)) ((impl_partTable_joined_2 x18446 x18398 x18399 x18400 x18401).bind fun (v18452 : Int) => some (Sum.inl ((imax x18445 v18452), (IntKind.wrap .i64 (x18446 + 1))))) (some (Sum.inr x18445))

def impl_greatest_v3_n4 (x18397 : Int) (x18398 : List (Int × Int × Unit)) (x18399 : Int) (x18400 : List (List Int)) (x18401 : Int) (x18396 : Int) : Option (Int) :=
  nloop (fun (s : Int × Int) => ((impl_greatest_v3_n3 x18397 x18398 x18399 x18400 x18401 s.1 s.2).map (Sum.elim (fun (t : Int × Int) => Sum.inl (t.1, t.2)) (fun (t : Int) => Sum.inr t)) : Option ((Int × Int) ⊕ (Int)))) LL (0, x18396)

def impl_greatest_v3_n5 (x18397 : Int) (x18398 : List (Int × Int × Unit)) (x18399 : Int) (x18400 : List (List Int)) (x18401 : Int) (x18396 : Int) : Option (Int) :=
  (impl_greatest_v3_n4 x18397 x18398 x18399 x18400 x18401 x18396).map (fun (t : Int) => t)

def impl_greatest_v3_n6 (x18396 : Int) (x18397 : Int) (x18398 : List (Int × Int × Unit)) (x18399 : Int) (x18400 : List (List Int)) (x18401 : Int) : Option (Int) :=
  (impl_greatest_v3_n2).bind (fun (t : Unit) => impl_greatest_v3_n5 x18397 x18398 x18399 x18400 x18401 x18396)

def impl_greatest_v3_n7 (x18445 : Int) : Option (Int) :=
  some x18445

def impl_greatest_v3_n8 (x18396 : Int) (x18397 : Int) (x18398 : List (Int × Int × Unit)) (x18399 : Int) (x18400 : List (List Int)) (x18401 : Int) : Option (Int) :=
  (impl_greatest_v3_n6 x18396 x18397 x18398 x18399 x18400 x18401).bind (fun (t : Int) => impl_greatest_v3_n7 t)

def impl_greatest_v3_n9 (x18396 : Int) (x18397 : Int) (x18398 : List (Int × Int × Unit)) (x18399 : Int) (x18400 : List (List Int)) (x18401 : Int) : Option (Int) :=
  (impl_greatest_v3_n1).bind (fun (t : Unit) => impl_greatest_v3_n8 x18396 x18397 x18398 x18399 x18400 x18401)

@[irreducible] def impl_greatest_v3 (x18396 : Int) (x18397 : Int) (x18398 : List (Int × Int × Unit)) (x18399 : Int) (x18400 : List (List Int)) (x18401 : Int) : Option (Int) :=
  impl_greatest_v3_n9 x18396 x18397 x18398 x18399 x18400 x18401

def impl_partTable_joined_n1 (x18256 : List (Int × Int × Unit)) (x18257 : List (List Int)) (x18258 : Int) (x18259 : Int) : Option ((Int × Int)) :=
  (impl_greatest (IntKind.wrap .i64 (x18258 + 1)) x18259 x18256 x18258 x18257 x18259).bind fun (v18458 : Int) => (impl_greatest_v3 x18258 (IntKind.wrap .i64 (x18259 - 1)) x18256 x18258 x18257 x18259).bind fun (v18459 : Int) => some (v18458, v18459)

@[irreducible] def impl_partTable_joined (x18256 : List (Int × Int × Unit)) (x18257 : List (List Int)) (x18258 : Int) (x18259 : Int) : Option (Int × Int) :=
  impl_partTable_joined_n1 x18256 x18257 x18258 x18259

def impl_bestParts_n1 : Option (Unit) :=
  some ()

def impl_bestParts_n2 : Option (Unit) :=
  some ()

def impl_bestParts_n3 (x18247 : List (List Int)) (x18548 : Int) (x18549 : List (Int × Int × Unit)) : Option (Unit ⊕ ((List (Int × Int × Unit)))) :=
  cond (decide (x18548 ≤ (((List.length x18247 : Nat) : Int)))) (some (Sum.inl ())) (some (Sum.inr x18549))

def impl_bestParts_n4 (x18548 : Int) : Option (Int) :=
  some (IntKind.wrap .i64 (x18548 - 1))

def impl_bestParts_n5 (x18247 : List (List Int)) (x18548 : Int) (x18591 : Int) (x18592 : List (Int × Int × Unit)) : Option ((Int × (List (Int × Int × Unit))) ⊕ ((List (Int × Int × Unit)))) :=
  cond (decide (x18591 ≥ 1)) ((same (List.length x18592) 36).bind fun (v18613 : Unit) => (inb x18591 6).bind fun (v18614 : Nat) => (impl_partTable_joined x18592 x18247 x18591 x18548).bind fun (v18616 : Int × Int) => (sure (Nat.ble ((v18614 * 6) + 6) (List.length x18592))).bind fun (v18619 : Unit) => (inb x18548 6).bind fun (v18620 : Nat) => ((x18592)[((v18614 * 6) + v18620)]?).bind fun (v18622 : Int × Int × Unit) => some (Sum.inl ((IntKind.wrap .i64 (x18591 - 1)), ((x18592).set ((v18614 * 6) + v18620) ((v18616.1), ((v18616.2), ())))))) (some (Sum.inr x18592))

def impl_bestParts_n6 (x18247 : List (List Int)) (x18548 : Int) (x18552 : Int) (x18549 : List (Int × Int × Unit)) : Option (((List (Int × Int × Unit)))) :=
  nloop (fun (s : Int × (List (Int × Int × Unit))) => ((impl_bestParts_n5 x18247 x18548 s.1 s.2).map (Sum.elim (fun (t : Int × (List (Int × Int × Unit))) => Sum.inl (t.1, t.2)) (fun (t : (List (Int × Int × Unit))) => Sum.inr t)) : Option ((Int × (List (Int × Int × Unit))) ⊕ (((List (Int × Int × Unit))))))) LL (x18552, x18549)

def impl_bestParts_n7 (x18247 : List (List Int)) (x18548 : Int) (x18552 : Int) (x18549 : List (Int × Int × Unit)) : Option (((List (Int × Int × Unit)))) :=
  (impl_bestParts_n6 x18247 x18548 x18552 x18549).map (fun (t : (List (Int × Int × Unit))) => t)

def impl_bestParts_n8 (x18247 : List (List Int)) (x18548 : Int) (x18549 : List (Int × Int × Unit)) : Option (((List (Int × Int × Unit)))) :=
  (impl_bestParts_n4 x18548).bind (fun (t : Int) => impl_bestParts_n7 x18247 x18548 t x18549)

def impl_bestParts_n9 (x18247 : List (List Int)) (x18548 : Int) (x18549 : List (Int × Int × Unit)) : Option (((List (Int × Int × Unit)))) :=
  (impl_bestParts_n8 x18247 x18548 x18549).map (fun (t : (List (Int × Int × Unit))) => t)

def impl_bestParts_n10 (x18548 : Int) : Option (Int) :=
  some (IntKind.wrap .i64 (x18548 + 1))

def impl_bestParts_n11 (x18247 : List (List Int)) (x18548 : Int) (x18549 : List (Int × Int × Unit)) : Option ((Int × (List (Int × Int × Unit)))) :=
  (impl_bestParts_n9 x18247 x18548 x18549).bind (fun (t : (List (Int × Int × Unit))) => (impl_bestParts_n10 x18548).map (fun (u : Int) => (u, t)))

def impl_bestParts_n12 (x18247 : List (List Int)) (x18548 : Int) (x18549 : List (Int × Int × Unit)) : Option ((Int × (List (Int × Int × Unit))) ⊕ ((List (Int × Int × Unit)))) :=
  (impl_bestParts_n3 x18247 x18548 x18549).bind (Sum.elim (fun (t : Unit) => (impl_bestParts_n11 x18247 x18548 x18549).map (fun (t : Int × (List (Int × Int × Unit))) => (Sum.inl (t.1, t.2)))) (fun e => some ((fun (t : (List (Int × Int × Unit))) => (Sum.inr t)) e)))

def impl_bestParts_n13 (x18247 : List (List Int)) : Option (((List (Int × Int × Unit)))) :=
  nloop (fun (s : Int × (List (Int × Int × Unit))) => ((impl_bestParts_n12 x18247 s.1 s.2).map (Sum.elim (fun (t : Int × (List (Int × Int × Unit))) => Sum.inl (t.1, t.2)) (fun (t : (List (Int × Int × Unit))) => Sum.inr t)) : Option ((Int × (List (Int × Int × Unit))) ⊕ (((List (Int × Int × Unit))))))) LL (2, (List.replicate 36 ((0 : Int), ((0 : Int), ()))))

def impl_bestParts_n14 (x18247 : List (List Int)) : Option (((List (Int × Int × Unit)))) :=
  (impl_bestParts_n13 x18247).map (fun (t : (List (Int × Int × Unit))) => t)

def impl_bestParts_n15 (x18247 : List (List Int)) : Option (((List (Int × Int × Unit)))) :=
  (impl_bestParts_n2).bind (fun (t : Unit) => impl_bestParts_n14 x18247)

def impl_bestParts_n16 (x18549 : List (Int × Int × Unit)) : Option (((List (Int × Int × Unit)))) :=
  some x18549

def impl_bestParts_n17 (x18247 : List (List Int)) : Option (((List (Int × Int × Unit)))) :=
  (impl_bestParts_n15 x18247).bind (fun (t : (List (Int × Int × Unit))) => impl_bestParts_n16 t)

def impl_bestParts_n18 (x18247 : List (List Int)) : Option (((List (Int × Int × Unit)))) :=
  (impl_bestParts_n1).bind (fun (t : Unit) => impl_bestParts_n17 x18247)

@[irreducible] def impl_bestParts (x18247 : List (List Int)) : Option ((List (Int × Int × Unit))) :=
  impl_bestParts_n18 x18247

def impl_BestFlat_1_n1 (x18654 : Int) (x18655 : List (Int × Int × Unit)) (x18656 : List (List Int)) (x18657 : Int) : Option (Int) :=
  (same (List.length x18655) 36).bind fun (v18681 : Unit) => (inb 1 6).bind fun (v18682 : Nat) => (same (List.length ((x18655.drop (v18682 * 6)).take 6)) 6).bind fun (v18684 : Unit) => (idx ((x18655.drop (v18682 * 6)).take 6) x18654).bind fun (v18685 : Int × Int × Unit) => (idx x18656 (IntKind.wrap .i64 (x18654 - 1))).bind fun (v18691 : List Int) => (idx v18691 0).bind fun (v18692 : Int) => (same (List.length x18655) 36).bind fun (v18694 : Unit) => (inb x18654 6).bind fun (v18695 : Nat) => (same (List.length ((x18655.drop (v18695 * 6)).take 6)) 6).bind fun (v18697 : Unit) => (idx ((x18655.drop (v18695 * 6)).take 6) x18657).bind fun (v18698 : Int × Int × Unit) => some (IntKind.wrap .i64 ((IntKind.wrap .i64 (((v18685.2).1) + v18692)) + (v18698.1)))

@[irreducible] def impl_BestFlat_1 (x18654 : Int) (x18655 : List (Int × Int × Unit)) (x18656 : List (List Int)) (x18657 : Int) : Option (Int) :=
  impl_BestFlat_1_n1 x18654 x18655 x18656 x18657

def impl_greatest_v4_n1 : Option (Unit) :=
  some ()

def impl_greatest_v4_n2 : Option (Unit) :=
  some ()

def impl_greatest_v4_n3 (x18648 : Int) (x18649 : List (Int × Int × Unit)) (x18650 : List (List Int)) (x18651 : Int) (x18710 : Int) (x18711 : Int) : Option ((Int × Int) ⊕ Int) :=
  cond (decide (x18711 ≤ x18648)) ((impl_BestFlat_1 x18711 x18649 x18650 x18651).bind fun (v18717 : Int) => some (Sum.inl ((imax x18710 v18717), (IntKind.wrap .i64 (x18711 + 1))))) (some (Sum.inr x18710))

def impl_greatest_v4_n4 (x18648 : Int) (x18649 : List (Int × Int × Unit)) (x18650 : List (List Int)) (x18651 : Int) (x18647 : Int) : Option (Int) :=
  nloop (fun (s : Int × Int) => ((impl_greatest_v4_n3 x18648 x18649 x18650 x18651 s.1 s.2).map (Sum.elim (fun (t : Int × Int) => Sum.inl (t.1, t.2)) (fun (t : Int) => Sum.inr t)) : Option ((Int × Int) ⊕ (Int)))) LL (0, x18647)

def impl_greatest_v4_n5 (x18648 : Int) (x18649 : List (Int × Int × Unit)) (x18650 : List (List Int)) (x18651 : Int) (x18647 : Int) : Option (Int) :=
  (impl_greatest_v4_n4 x18648 x18649 x18650 x18651 x18647).map (fun (t : Int) => t)

def impl_greatest_v4_n6 (x18647 : Int) (x18648 : Int) (x18649 : List (Int × Int × Unit)) (x18650 : List (List Int)) (x18651 : Int) : Option (Int) :=
  (impl_greatest_v4_n2).bind (fun (t : Unit) => impl_greatest_v4_n5 x18648 x18649 x18650 x18651 x18647)

def impl_greatest_v4_n7 (x18710 : Int) : Option (Int) :=
  some x18710

def impl_greatest_v4_n8 (x18647 : Int) (x18648 : Int) (x18649 : List (Int × Int × Unit)) (x18650 : List (List Int)) (x18651 : Int) : Option (Int) :=
  (impl_greatest_v4_n6 x18647 x18648 x18649 x18650 x18651).bind (fun (t : Int) => impl_greatest_v4_n7 t)

def impl_greatest_v4_n9 (x18647 : Int) (x18648 : Int) (x18649 : List (Int × Int × Unit)) (x18650 : List (List Int)) (x18651 : Int) : Option (Int) :=
  (impl_greatest_v4_n1).bind (fun (t : Unit) => impl_greatest_v4_n8 x18647 x18648 x18649 x18650 x18651)

@[irreducible] def impl_greatest_v4 (x18647 : Int) (x18648 : Int) (x18649 : List (Int × Int × Unit)) (x18650 : List (List Int)) (x18651 : Int) : Option (Int) :=
  impl_greatest_v4_n9 x18647 x18648 x18649 x18650 x18651

def impl_BestFlat_n1 (x18241 : List (List Int)) : Option (Int) :=
  (impl_ScoresOk x18241).bind fun (v18721 : Bool) => cond (!v18721) (some (-1)) ((impl_bestParts x18241).bind fun (v18724 : List (Int × Int × Unit)) => (impl_greatest_v4 1 (((List.length x18241 : Nat) : Int)) v18724 x18241 (((List.length x18241 : Nat) : Int))).bind fun (v18725 : Int) => some v18725)

@[irreducible] def impl_BestFlat (x18241 : List (List Int)) : Option (Int) :=
  impl_BestFlat_n1 x18241

def spec_DrawBestFlat_n1 (x18771 : List Int) : Option (((List (List Int)))) :=
  (spec_l20Open x18771).bind fun (v18776 : List Int) => (spec_l20Scores 9 v18776 0).bind fun (v18777 : Int × (List (List Int))) => some (v18777.2)

@[irreducible] def spec_DrawBestFlat (x18771 : List Int) : Option ((List (List Int))) :=
  spec_DrawBestFlat_n1 x18771

def spec_l9Tree_n1 (R0 : (List (List Int)) → Int → Int → Int → Option Int) (R1 : (List (List Int)) → Int → Int → Int → Option Int) : Option (Unit) :=
  some ()

def spec_l9Tree_n2 (R0 : (List (List Int)) → Int → Int → Int → Option Int) (R1 : (List (List Int)) → Int → Int → Int → Option Int) : Option (Unit) :=
  some ()

def spec_l9Tree_n3 (R0 : (List (List Int)) → Int → Int → Int → Option Int) (R1 : (List (List Int)) → Int → Int → Int → Option Int) (x18795 : List (List Int)) (x18796 : Int) (x18797 : Int) (x18798 : Int) (x18931 : Int) (x18932 : Int) : Option ((Int × Int) ⊕ Int) :=
  cond (decide (x18932 ≤ x18797)) ((idx x18795 (IntKind.wrap .i64 (x18932 - 1))).bind fun (v18947 : List Int) => (idx v18947 x18798).bind fun (v18948 : Int) => (R1 x18795 x18796 (IntKind.wrap .i64 (x18932 - 1)) x18932).bind fun (v18951 : Int) => (R1 x18795 (IntKind.wrap .i64 (x18932 + 1)) x18797 x18932).bind fun (v18953 : Int) => some (Sum.inl ((imax x18931 (IntKind.wrap .i64 ((IntKind.wrap .i64 (v18948 + v18951)) + v18953))), (IntKind.wrap .i64 (x18932 + 1))))) (some (Sum.inr x18931))

def spec_l9Tree_n4 (R0 : (List (List Int)) → Int → Int → Int → Option Int) (R1 : (List (List Int)) → Int → Int → Int → Option Int) (x18795 : List (List Int)) (x18796 : Int) (x18797 : Int) (x18798 : Int) : Option (Int) :=
  nloop (fun (s : Int × Int) => ((spec_l9Tree_n3 R0 R1 x18795 x18796 x18797 x18798 s.1 s.2).map (Sum.elim (fun (t : Int × Int) => Sum.inl (t.1, t.2)) (fun (t : Int) => Sum.inr t)) : Option ((Int × Int) ⊕ (Int)))) LL ((-1), x18796)

def spec_l9Tree_n5 (R0 : (List (List Int)) → Int → Int → Int → Option Int) (R1 : (List (List Int)) → Int → Int → Int → Option Int) (x18795 : List (List Int)) (x18796 : Int) (x18797 : Int) (x18798 : Int) : Option (Int) :=
  (spec_l9Tree_n4 R0 R1 x18795 x18796 x18797 x18798).map (fun (t : Int) => t)

def spec_l9Tree_n6 (R0 : (List (List Int)) → Int → Int → Int → Option Int) (R1 : (List (List Int)) → Int → Int → Int → Option Int) (x18795 : List (List Int)) (x18796 : Int) (x18797 : Int) (x18798 : Int) : Option (Int) :=
  (spec_l9Tree_n2 R0 R1).bind (fun (t : Unit) => spec_l9Tree_n5 R0 R1 x18795 x18796 x18797 x18798)

def spec_l9Tree_n7 (R0 : (List (List Int)) → Int → Int → Int → Option Int) (R1 : (List (List Int)) → Int → Int → Int → Option Int) (x18931 : Int) : Option (Int) :=
  some x18931

def spec_l9Tree_n8 (R0 : (List (List Int)) → Int → Int → Int → Option Int) (R1 : (List (List Int)) → Int → Int → Int → Option Int) (x18795 : List (List Int)) (x18796 : Int) (x18797 : Int) (x18798 : Int) : Option (Int) :=
  (spec_l9Tree_n6 R0 R1 x18795 x18796 x18797 x18798).bind (fun (t : Int) => spec_l9Tree_n7 R0 R1 t)

def spec_l9Tree_n9 (R0 : (List (List Int)) → Int → Int → Int → Option Int) (R1 : (List (List Int)) → Int → Int → Int → Option Int) (x18795 : List (List Int)) (x18796 : Int) (x18797 : Int) (x18798 : Int) : Option (Int) :=
  (spec_l9Tree_n1 R0 R1).bind (fun (t : Unit) => spec_l9Tree_n8 R0 R1 x18795 x18796 x18797 x18798)

def spec_l9Tree_one (R0 : (List (List Int)) → Int → Int → Int → Option Int) (R1 : (List (List Int)) → Int → Int → Int → Option Int) (x18795 : List (List Int)) (x18796 : Int) (x18797 : Int) (x18798 : Int) : Option (Int) :=
  spec_l9Tree_n9 R0 R1 x18795 x18796 x18797 x18798

def spec_l9Row_n1 (R0 : (List (List Int)) → Int → Int → Int → Option Int) (R1 : (List (List Int)) → Int → Int → Int → Option Int) (x18871 : Int) (x18872 : Int) : Option (Unit ⊕ Int) :=
  cond (decide (x18871 > x18872)) (some (Sum.inr 0)) (some (Sum.inl ()))

def spec_l9Row_n2 (R0 : (List (List Int)) → Int → Int → Int → Option Int) (R1 : (List (List Int)) → Int → Int → Int → Option Int) : Option (Unit) :=
  some ()

def spec_l9Row_n3 (R0 : (List (List Int)) → Int → Int → Int → Option Int) (R1 : (List (List Int)) → Int → Int → Int → Option Int) (x18870 : List (List Int)) (x18871 : Int) (x18872 : Int) (x18873 : Int) (x18897 : Int) (x18898 : Int) : Option ((Int × Int) ⊕ Int) :=
  cond (decide (x18898 ≤ x18872)) ((R0 x18870 x18871 x18898 x18873).bind fun (v18907 : Int) => (R1 x18870 (IntKind.wrap .i64 (x18898 + 1)) x18872 x18873).bind fun (v18909 : Int) => some (Sum.inl ((imax x18897 (IntKind.wrap .i64 (v18907 + v18909))), (IntKind.wrap .i64 (x18898 + 1))))) (some (Sum.inr x18897))

def spec_l9Row_n4 (R0 : (List (List Int)) → Int → Int → Int → Option Int) (R1 : (List (List Int)) → Int → Int → Int → Option Int) (x18870 : List (List Int)) (x18871 : Int) (x18872 : Int) (x18873 : Int) : Option (Int) :=
  nloop (fun (s : Int × Int) => ((spec_l9Row_n3 R0 R1 x18870 x18871 x18872 x18873 s.1 s.2).map (Sum.elim (fun (t : Int × Int) => Sum.inl (t.1, t.2)) (fun (t : Int) => Sum.inr t)) : Option ((Int × Int) ⊕ (Int)))) LL ((-1), x18871)

def spec_l9Row_n5 (R0 : (List (List Int)) → Int → Int → Int → Option Int) (R1 : (List (List Int)) → Int → Int → Int → Option Int) (x18870 : List (List Int)) (x18871 : Int) (x18872 : Int) (x18873 : Int) : Option (Int) :=
  (spec_l9Row_n4 R0 R1 x18870 x18871 x18872 x18873).map (fun (t : Int) => t)

def spec_l9Row_n6 (R0 : (List (List Int)) → Int → Int → Int → Option Int) (R1 : (List (List Int)) → Int → Int → Int → Option Int) (x18870 : List (List Int)) (x18871 : Int) (x18872 : Int) (x18873 : Int) : Option (Int) :=
  (spec_l9Row_n2 R0 R1).bind (fun (t : Unit) => spec_l9Row_n5 R0 R1 x18870 x18871 x18872 x18873)

def spec_l9Row_n7 (R0 : (List (List Int)) → Int → Int → Int → Option Int) (R1 : (List (List Int)) → Int → Int → Int → Option Int) (x18897 : Int) : Option (Int) :=
  some x18897

def spec_l9Row_n8 (R0 : (List (List Int)) → Int → Int → Int → Option Int) (R1 : (List (List Int)) → Int → Int → Int → Option Int) (x18870 : List (List Int)) (x18871 : Int) (x18872 : Int) (x18873 : Int) : Option (Int) :=
  (spec_l9Row_n6 R0 R1 x18870 x18871 x18872 x18873).bind (fun (t : Int) => spec_l9Row_n7 R0 R1 t)

def spec_l9Row_n9 (R0 : (List (List Int)) → Int → Int → Int → Option Int) (R1 : (List (List Int)) → Int → Int → Int → Option Int) (x18870 : List (List Int)) (x18871 : Int) (x18872 : Int) (x18873 : Int) : Option (Int) :=
  (spec_l9Row_n1 R0 R1 x18871 x18872).bind (Sum.elim (fun (t : Unit) => spec_l9Row_n8 R0 R1 x18870 x18871 x18872 x18873) (fun e => some ((fun (t : Int) => t) e)))

def spec_l9Row_one (R0 : (List (List Int)) → Int → Int → Int → Option Int) (R1 : (List (List Int)) → Int → Int → Int → Option Int) (x18870 : List (List Int)) (x18871 : Int) (x18872 : Int) (x18873 : Int) : Option (Int) :=
  spec_l9Row_n9 R0 R1 x18870 x18871 x18872 x18873

def spec_l9Tree_knot : Nat → ((List (List Int)) → Int → Int → Int → Option Int) × ((List (List Int)) → Int → Int → Int → Option Int)
  | 0 => ((fun _ _ _ _ => none), (fun _ _ _ _ => none))
  | n + 1 => ((fun y0 y1 y2 y3 => spec_l9Tree_one (spec_l9Tree_knot n).1 (spec_l9Tree_knot n).2 y0 y1 y2 y3), (fun y0 y1 y2 y3 => spec_l9Row_one (spec_l9Tree_knot n).1 (spec_l9Tree_knot n).2 y0 y1 y2 y3))

def spec_l9Tree_fuel (n : Nat) : (List (List Int)) → Int → Int → Int → Option Int := (spec_l9Tree_knot n).1

@[irreducible] def spec_l9Tree (x18795 : List (List Int)) (x18796 : Int) (x18797 : Int) (x18798 : Int) : Option (Int) := spec_l9Tree_fuel RR x18795 x18796 x18797 x18798

def spec_l9Row_fuel (n : Nat) : (List (List Int)) → Int → Int → Int → Option Int := (spec_l9Tree_knot n).2

@[irreducible] def spec_l9Row (x18870 : List (List Int)) (x18871 : Int) (x18872 : Int) (x18873 : Int) : Option (Int) := spec_l9Row_fuel RR x18870 x18871 x18872 x18873

def spec_BestFlat_n1 (x18789 : List (List Int)) : Option (Int) :=
  (spec_ScoresOk x18789).bind fun (v18958 : Bool) => cond (!v18958) (some (-1)) ((spec_l9Tree x18789 1 (((List.length x18789 : Nat) : Int)) 0).bind fun (v18961 : Int) => some v18961)

@[irreducible] def spec_BestFlat (x18789 : List (List Int)) : Option (Int) :=
  spec_BestFlat_n1 x18789

def impl_flatCounts_aroundRoots_n1 : Option (Unit) :=
  some ()

@[irreducible] def impl_flatCounts_aroundRoots (x19004 : Int) (x19005 : Int) (x19006 : Int) (x19007 : Int) (x19008 : Int) (x19009 : Int) (x19010 : Int) (x19011 : Int) (x19012 : Int) (x19013 : Int) (x19014 : Int) (x19015 : Int) (x19016 : Int) (x19017 : Int) : Option (Unit) :=
  impl_flatCounts_aroundRoots_n1

def impl_joins_below_n1 : Option (Unit) :=
  some ()

def impl_joins_below_n2 : Option (Unit) :=
  some ()

def impl_joins_below_n3 (x19050 : Int) (x19071 : Int) (x19051 : Int) (x19072 : Int) (x19036 : Int) (x19037 : Int) (x19038 : Int) (x19039 : Int) (x19040 : Int) (x19041 : Int) (x19042 : Int) (x19043 : Int) (x19044 : Int) (x19045 : Int) (x19046 : Int) (x19047 : Int) (x19048 : Int) (x19049 : Int) : Option ((Int × Int) ⊕ Int) :=
  cond (decide (x19072 < x19051)) ((inb x19072 7).bind fun (v19084 : Nat) => ([x19036, x19037, x19038, x19039, x19040, x19041, x19042, x19043, x19044, x19045, x19046, x19047, x19048, x19049][v19084]?).bind fun (v19085 : Int) => (inb (IntKind.wrap .i64 (x19050 - x19072)) 7).bind fun (v19087 : Nat) => ([x19043, x19044, x19045, x19046, x19047, x19048, x19049][v19087]?).bind fun (v19088 : Int) => some (Sum.inl ((IntKind.wrap .i64 (x19071 + (IntKind.wrap .i64 (v19085 * v19088)))), (IntKind.wrap .i64 (x19072 + 1))))) (some (Sum.inr x19071))

def impl_joins_below_n4 (x19050 : Int) (x19051 : Int) (x19036 : Int) (x19037 : Int) (x19038 : Int) (x19039 : Int) (x19040 : Int) (x19041 : Int) (x19042 : Int) (x19043 : Int) (x19044 : Int) (x19045 : Int) (x19046 : Int) (x19047 : Int) (x19048 : Int) (x19049 : Int) : Option (Int) :=
  nloop (fun (s : Int × Int) => ((impl_joins_below_n3 x19050 s.1 x19051 s.2 x19036 x19037 x19038 x19039 x19040 x19041 x19042 x19043 x19044 x19045 x19046 x19047 x19048 x19049).map (Sum.elim (fun (t : Int × Int) => Sum.inl (t.1, t.2)) (fun (t : Int) => Sum.inr t)) : Option ((Int × Int) ⊕ (Int)))) LL (0, 0)

def impl_joins_below_n5 (x19050 : Int) (x19051 : Int) (x19036 : Int) (x19037 : Int) (x19038 : Int) (x19039 : Int) (x19040 : Int) (x19041 : Int) (x19042 : Int) (x19043 : Int) (x19044 : Int) (x19045 : Int) (x19046 : Int) (x19047 : Int) (x19048 : Int) (x19049 : Int) : Option (Int) :=
  (impl_joins_below_n4 x19050 x19051 x19036 x19037 x19038 x19039 x19040 x19041 x19042 x19043 x19044 x19045 x19046 x19047 x19048 x19049).map (fun (t : Int) => t)

def impl_joins_below_n6 (x19050 : Int) (x19051 : Int) (x19036 : Int) (x19037 : Int) (x19038 : Int) (x19039 : Int) (x19040 : Int) (x19041 : Int) (x19042 : Int) (x19043 : Int) (x19044 : Int) (x19045 : Int) (x19046 : Int) (x19047 : Int) (x19048 : Int) (x19049 : Int) : Option (Int) :=
  (impl_joins_below_n2).bind (fun (t : Unit) => impl_joins_below_n5 x19050 x19051 x19036 x19037 x19038 x19039 x19040 x19041 x19042 x19043 x19044 x19045 x19046 x19047 x19048 x19049)

def impl_joins_below_n7 (x19071 : Int) : Option (Int) :=
  some x19071

def impl_joins_below_n8 (x19050 : Int) (x19051 : Int) (x19036 : Int) (x19037 : Int) (x19038 : Int) (x19039 : Int) (x19040 : Int) (x19041 : Int) (x19042 : Int) (x19043 : Int) (x19044 : Int) (x19045 : Int) (x19046 : Int) (x19047 : Int) (x19048 : Int) (x19049 : Int) : Option (Int) :=
  (impl_joins_below_n6 x19050 x19051 x19036 x19037 x19038 x19039 x19040 x19041 x19042 x19043 x19044 x19045 x19046 x19047 x19048 x19049).bind (fun (t : Int) => impl_joins_below_n7 t)

def impl_joins_below_n9 (x19036 : Int) (x19037 : Int) (x19038 : Int) (x19039 : Int) (x19040 : Int) (x19041 : Int) (x19042 : Int) (x19043 : Int) (x19044 : Int) (x19045 : Int) (x19046 : Int) (x19047 : Int) (x19048 : Int) (x19049 : Int) (x19050 : Int) (x19051 : Int) : Option (Int) :=
  (impl_joins_below_n1).bind (fun (t : Unit) => impl_joins_below_n8 x19050 x19051 x19036 x19037 x19038 x19039 x19040 x19041 x19042 x19043 x19044 x19045 x19046 x19047 x19048 x19049)

@[irreducible] def impl_joins_below (x19036 : Int) (x19037 : Int) (x19038 : Int) (x19039 : Int) (x19040 : Int) (x19041 : Int) (x19042 : Int) (x19043 : Int) (x19044 : Int) (x19045 : Int) (x19046 : Int) (x19047 : Int) (x19048 : Int) (x19049 : Int) (x19050 : Int) (x19051 : Int) : Option (Int) :=
  impl_joins_below_n9 x19036 x19037 x19038 x19039 x19040 x19041 x19042 x19043 x19044 x19045 x19046 x19047 x19048 x19049 x19050 x19051

def impl_joins_count_n1 (x19020 : Int) (x19021 : Int) (x19022 : Int) (x19023 : Int) (x19024 : Int) (x19025 : Int) (x19026 : Int) (x19027 : Int) (x19028 : Int) (x19029 : Int) (x19030 : Int) (x19031 : Int) (x19032 : Int) (x19033 : Int) (x19034 : Int) : Option (Int) :=
  (impl_joins_below x19020 x19021 x19022 x19023 x19024 x19025 x19026 x19027 x19028 x19029 x19030 x19031 x19032 x19033 x19034 (IntKind.wrap .i64 (x19034 + 1))).bind fun (v19094 : Int) => some v19094

@[irreducible] def impl_joins_count (x19020 : Int) (x19021 : Int) (x19022 : Int) (x19023 : Int) (x19024 : Int) (x19025 : Int) (x19026 : Int) (x19027 : Int) (x19028 : Int) (x19029 : Int) (x19030 : Int) (x19031 : Int) (x19032 : Int) (x19033 : Int) (x19034 : Int) : Option (Int) :=
  impl_joins_count_n1 x19020 x19021 x19022 x19023 x19024 x19025 x19026 x19027 x19028 x19029 x19030 x19031 x19032 x19033 x19034

def impl_flatCounts_inRows_n1 : Option (Unit) :=
  some ()

@[irreducible] def impl_flatCounts_inRows (x19112 : Int) (x19113 : Int) (x19114 : Int) (x19115 : Int) (x19116 : Int) (x19117 : Int) (x19118 : Int) (x19119 : Int) (x19120 : Int) (x19121 : Int) (x19122 : Int) (x19123 : Int) (x19124 : Int) (x19125 : Int) : Option (Unit) :=
  impl_flatCounts_inRows_n1

def impl_countFlatParts_n1 : Option ((Int × Int × Int × Int × Int × Int × Int)) :=
  (inb 0 7).bind fun (v18993 : Nat) => (within v18993 7).bind fun (v19001 : Unit) => some ((cond (v18993 == 0) 1 0), (cond (v18993 == 1) 1 0), (cond (v18993 == 2) 1 0), (cond (v18993 == 3) 1 0), (cond (v18993 == 4) 1 0), (cond (v18993 == 5) 1 0), (cond (v18993 == 6) 1 0))

def impl_countFlatParts_n2 : Option (Unit) :=
  some ()

def impl_countFlatParts_n3 (x19169 : Int) (x19170 : Int) (x19171 : Int) (x19172 : Int) (x19173 : Int) (x19174 : Int) (x19175 : Int) (x19176 : Int) (x19177 : Int) (x19178 : Int) (x19179 : Int) (x19180 : Int) (x19181 : Int) (x19182 : Int) (x19183 : Int) : Option ((Int × Int × Int × Int × Int × Int × Int × Int × Int × Int × Int × Int × Int × Int × Int) ⊕ (Int × Int × Int × Int × Int × Int × Int × Int × Int × Int × Int × Int × Int × Int)) :=
  cond (decide (x19169 ≤ 6)) ((impl_flatCounts_aroundRoots x19170 x19171 x19172 x19173 x19174 x19175 x19176 x19177 x19178 x19179 x19180 x19181 x19182 x19183).bind fun (v19217 : Unit) => (impl_joins_count x19177 x19178 x19179 x19180 x19181 x19182 x19183 x19177 x19178 x19179 x19180 x19181 x19182 x19183 (IntKind.wrap .i64 (x19169 - 1))).bind fun (v19219 : Int) => (inb x19169 7).bind fun (v19220 : Nat) => (within v19220 14).bind fun (v19235 : Unit) => (impl_flatCounts_inRows (cond (v19220 == 0) v19219 x19170) (cond (v19220 == 1) v19219 x19171) (cond (v19220 == 2) v19219 x19172) (cond (v19220 == 3) v19219 x19173) (cond (v19220 == 4) v19219 x19174) (cond (v19220 == 5) v19219 x19175) (cond (v19220 == 6) v19219 x19176) (cond (v19220 == 7) v19219 x19177) (cond (v19220 == 8) v19219 x19178) (cond (v19220 == 9) v19219 x19179) (cond (v19220 == 10) v19219 x19180) (cond (v19220 == 11) v19219 x19181) (cond (v19220 == 12) v19219 x19182) (cond (v19220 == 13) v19219 x19183)).bind fun (v19236 : Unit) => (impl_joins_count (cond (v19220 == 0) v19219 x19170) (cond (v19220 == 1) v19219 x19171) (cond (v19220 == 2) v19219 x19172) (cond (v19220 == 3) v19219 x19173) (cond (v19220 == 4) v19219 x19174) (cond (v19220 == 5) v19219 x19175) (cond (v19220 == 6) v19219 x19176) (cond (v19220 == 7) v19219 x19177) (cond (v19220 == 8) v19219 x19178) (cond (v19220 == 9) v19219 x19179) (cond (v19220 == 10) v19219 x19180) (cond (v19220 == 11) v19219 x19181) (cond (v19220 == 12) v19219 x19182) (cond (v19220 == 13) v19219 x19183) x19169).bind fun (v19237 : Int) => (inb x19169 7).bind fun (v19238 : Nat) => (within v19238 7).bind fun (v19246 : Unit) => some (Sum.inl ((IntKind.wrap .i64 (x19169 + 1)), (cond (v19220 == 0) v19219 x19170), (cond (v19220 == 1) v19219 x19171), (cond (v19220 == 2) v19219 x19172), (cond (v19220 == 3) v19219 x19173), (cond (v19220 == 4) v19219 x19174), (cond (v19220 == 5) v19219 x19175), (cond (v19220 == 6) v19219 x19176), (cond (v19238 == 0) v19237 (cond (v19220 == 7) v19219 x19177)), (cond (v19238 == 1) v19237 (cond (v19220 == 8) v19219 x19178)), (cond (v19238 == 2) v19237 (cond (v19220 == 9) v19219 x19179)), (cond (v19238 == 3) v19237 (cond (v19220 == 10) v19219 x19180)), (cond (v19238 == 4) v19237 (cond (v19220 == 11) v19219 x19181)), (cond (v19238 == 5) v19237 (cond (v19220 == 12) v19219 x19182)), (cond (v19238 == 6) v19237 (cond (v19220 == 13) v19219 x19183))))) (some (Sum.inr (x19170, x19171, x19172, x19173, x19174, x19175, x19176, x19177, x19178, x19179, x19180, x19181, x19182, x19183)))

def impl_countFlatParts_n4 (x18994 : Int) (x18995 : Int) (x18996 : Int) (x18997 : Int) (x18998 : Int) (x18999 : Int) (x19000 : Int) : Option ((Int × Int × Int × Int × Int × Int × Int × Int × Int × Int × Int × Int × Int × Int)) :=
  nloop (fun (s : Int × Int × Int × Int × Int × Int × Int × Int × Int × Int × Int × Int × Int × Int × Int) => ((impl_countFlatParts_n3 s.1 s.2.1 s.2.2.1 s.2.2.2.1 s.2.2.2.2.1 s.2.2.2.2.2.1 s.2.2.2.2.2.2.1 s.2.2.2.2.2.2.2.1 s.2.2.2.2.2.2.2.2.1 s.2.2.2.2.2.2.2.2.2.1 s.2.2.2.2.2.2.2.2.2.2.1 s.2.2.2.2.2.2.2.2.2.2.2.1 s.2.2.2.2.2.2.2.2.2.2.2.2.1 s.2.2.2.2.2.2.2.2.2.2.2.2.2.1 s.2.2.2.2.2.2.2.2.2.2.2.2.2.2).map (Sum.elim (fun (t : Int × Int × Int × Int × Int × Int × Int × Int × Int × Int × Int × Int × Int × Int × Int) => Sum.inl (t.1, t.2.1, t.2.2.1, t.2.2.2.1, t.2.2.2.2.1, t.2.2.2.2.2.1, t.2.2.2.2.2.2.1, t.2.2.2.2.2.2.2.1, t.2.2.2.2.2.2.2.2.1, t.2.2.2.2.2.2.2.2.2.1, t.2.2.2.2.2.2.2.2.2.2.1, t.2.2.2.2.2.2.2.2.2.2.2.1, t.2.2.2.2.2.2.2.2.2.2.2.2.1, t.2.2.2.2.2.2.2.2.2.2.2.2.2.1, t.2.2.2.2.2.2.2.2.2.2.2.2.2.2)) (fun (t : Int × Int × Int × Int × Int × Int × Int × Int × Int × Int × Int × Int × Int × Int) => Sum.inr t)) : Option ((Int × Int × Int × Int × Int × Int × Int × Int × Int × Int × Int × Int × Int × Int × Int) ⊕ ((Int × Int × Int × Int × Int × Int × Int × Int × Int × Int × Int × Int × Int × Int))))) LL (1, 0, 0, 0, 0, 0, 0, 0, x18994, x18995, x18996, x18997, x18998, x18999, x19000)

def impl_countFlatParts_n5 (x18994 : Int) (x18995 : Int) (x18996 : Int) (x18997 : Int) (x18998 : Int) (x18999 : Int) (x19000 : Int) : Option ((Int × Int × Int × Int × Int × Int × Int × Int × Int × Int × Int × Int × Int × Int)) :=
  (impl_countFlatParts_n4 x18994 x18995 x18996 x18997 x18998 x18999 x19000).map (fun (t : Int × Int × Int × Int × Int × Int × Int × Int × Int × Int × Int × Int × Int × Int) => (t.1, t.2.1, t.2.2.1, t.2.2.2.1, t.2.2.2.2.1, t.2.2.2.2.2.1, t.2.2.2.2.2.2.1, t.2.2.2.2.2.2.2.1, t.2.2.2.2.2.2.2.2.1, t.2.2.2.2.2.2.2.2.2.1, t.2.2.2.2.2.2.2.2.2.2.1, t.2.2.2.2.2.2.2.2.2.2.2.1, t.2.2.2.2.2.2.2.2.2.2.2.2.1, t.2.2.2.2.2.2.2.2.2.2.2.2.2))

def impl_countFlatParts_n6 (x18994 : Int) (x18995 : Int) (x18996 : Int) (x18997 : Int) (x18998 : Int) (x18999 : Int) (x19000 : Int) : Option ((Int × Int × Int × Int × Int × Int × Int × Int × Int × Int × Int × Int × Int × Int)) :=
  (impl_countFlatParts_n2).bind (fun (t : Unit) => impl_countFlatParts_n5 x18994 x18995 x18996 x18997 x18998 x18999 x19000)

def impl_countFlatParts_n7 (x19170 : Int) (x19171 : Int) (x19172 : Int) (x19173 : Int) (x19174 : Int) (x19175 : Int) (x19176 : Int) (x19177 : Int) (x19178 : Int) (x19179 : Int) (x19180 : Int) (x19181 : Int) (x19182 : Int) (x19183 : Int) : Option ((Int × Int × Int × Int × Int × Int × Int × Int × Int × Int × Int × Int × Int × Int)) :=
  some (x19170, x19171, x19172, x19173, x19174, x19175, x19176, x19177, x19178, x19179, x19180, x19181, x19182, x19183)

def impl_countFlatParts_n8 (x18994 : Int) (x18995 : Int) (x18996 : Int) (x18997 : Int) (x18998 : Int) (x18999 : Int) (x19000 : Int) : Option ((Int × Int × Int × Int × Int × Int × Int × Int × Int × Int × Int × Int × Int × Int)) :=
  (impl_countFlatParts_n6 x18994 x18995 x18996 x18997 x18998 x18999 x19000).bind (fun (t : Int × Int × Int × Int × Int × Int × Int × Int × Int × Int × Int × Int × Int × Int) => impl_countFlatParts_n7 t.1 t.2.1 t.2.2.1 t.2.2.2.1 t.2.2.2.2.1 t.2.2.2.2.2.1 t.2.2.2.2.2.2.1 t.2.2.2.2.2.2.2.1 t.2.2.2.2.2.2.2.2.1 t.2.2.2.2.2.2.2.2.2.1 t.2.2.2.2.2.2.2.2.2.2.1 t.2.2.2.2.2.2.2.2.2.2.2.1 t.2.2.2.2.2.2.2.2.2.2.2.2.1 t.2.2.2.2.2.2.2.2.2.2.2.2.2)

def impl_countFlatParts_n9 : Option ((Int × Int × Int × Int × Int × Int × Int × Int × Int × Int × Int × Int × Int × Int)) :=
  (impl_countFlatParts_n1).bind (fun (t : Int × Int × Int × Int × Int × Int × Int) => impl_countFlatParts_n8 t.1 t.2.1 t.2.2.1 t.2.2.2.1 t.2.2.2.2.1 t.2.2.2.2.2.1 t.2.2.2.2.2.2)

@[irreducible] def impl_countFlatParts : Option (Int × Int × Int × Int × Int × Int × Int × Int × Int × Int × Int × Int × Int × Int) :=
  impl_countFlatParts_n9

def impl_CountFlat_n1 (x18988 : Int) : Option (Int) :=
  cond (decide (x18988 < 1)) (some (-1)) (cond (decide (x18988 > 6)) (some (-1)) ((impl_countFlatParts).bind fun (v19266 : Int × Int × Int × Int × Int × Int × Int × Int × Int × Int × Int × Int × Int × Int) => (idx [(v19266.1), (v19266.2.1), (v19266.2.2.1), (v19266.2.2.2.1), (v19266.2.2.2.2.1), (v19266.2.2.2.2.2.1), (v19266.2.2.2.2.2.2.1)] x18988).bind fun (v19281 : Int) => some v19281))

@[irreducible] def impl_CountFlat (x18988 : Int) : Option (Int) :=
  impl_CountFlat_n1 x18988

def impl_joins_partsOf_n1 : Option (Unit) :=
  some ()

def impl_joins_partsOf_n2 (x19356 : Int) (x19357 : Int) (x19365 : Int) (x19342 : Int) (x19343 : Int) (x19344 : Int) (x19345 : Int) (x19346 : Int) (x19347 : Int) (x19348 : Int) (x19349 : Int) (x19350 : Int) (x19351 : Int) (x19352 : Int) (x19353 : Int) (x19354 : Int) (x19355 : Int) : Option (Int ⊕ Int) :=
  (impl_joins_below x19342 x19343 x19344 x19345 x19346 x19347 x19348 x19349 x19350 x19351 x19352 x19353 x19354 x19355 x19356 (IntKind.wrap .i64 (x19365 + 1))).bind fun (v19370 : Int) => cond (decide (v19370 ≤ x19357)) (some (Sum.inl (IntKind.wrap .i64 (x19365 + 1)))) (some (Sum.inr x19365))

def impl_joins_partsOf_n3 (x19356 : Int) (x19357 : Int) (x19342 : Int) (x19343 : Int) (x19344 : Int) (x19345 : Int) (x19346 : Int) (x19347 : Int) (x19348 : Int) (x19349 : Int) (x19350 : Int) (x19351 : Int) (x19352 : Int) (x19353 : Int) (x19354 : Int) (x19355 : Int) : Option (Int) :=
  nloop (fun (s : Int) => ((impl_joins_partsOf_n2 x19356 x19357 s x19342 x19343 x19344 x19345 x19346 x19347 x19348 x19349 x19350 x19351 x19352 x19353 x19354 x19355).map (Sum.elim (fun (t : Int) => Sum.inl t) (fun (t : Int) => Sum.inr t)) : Option ((Int) ⊕ (Int)))) LL 0

def impl_joins_partsOf_n4 (x19356 : Int) (x19357 : Int) (x19342 : Int) (x19343 : Int) (x19344 : Int) (x19345 : Int) (x19346 : Int) (x19347 : Int) (x19348 : Int) (x19349 : Int) (x19350 : Int) (x19351 : Int) (x19352 : Int) (x19353 : Int) (x19354 : Int) (x19355 : Int) : Option (Int) :=
  (impl_joins_partsOf_n3 x19356 x19357 x19342 x19343 x19344 x19345 x19346 x19347 x19348 x19349 x19350 x19351 x19352 x19353 x19354 x19355).map (fun (t : Int) => t)

def impl_joins_partsOf_n5 (x19356 : Int) (x19357 : Int) (x19365 : Int) (x19342 : Int) (x19343 : Int) (x19344 : Int) (x19345 : Int) (x19346 : Int) (x19347 : Int) (x19348 : Int) (x19349 : Int) (x19350 : Int) (x19351 : Int) (x19352 : Int) (x19353 : Int) (x19354 : Int) (x19355 : Int) : Option ((Int × Int × Int × Int)) :=
  (impl_joins_below x19342 x19343 x19344 x19345 x19346 x19347 x19348 x19349 x19350 x19351 x19352 x19353 x19354 x19355 x19356 x19365).bind fun (v19388 : Int) => (inb (IntKind.wrap .i64 (x19356 - x19365)) 7).bind fun (v19391 : Nat) => ([x19349, x19350, x19351, x19352, x19353, x19354, x19355][v19391]?).bind fun (v19392 : Int) => (quo .i64 (IntKind.wrap .i64 (x19357 - v19388)) v19392).bind fun (v19393 : Int) => (rem (IntKind.wrap .i64 (x19357 - v19388)) v19392).bind fun (v19395 : Int) => some (x19365, v19393, (IntKind.wrap .i64 (x19356 - x19365)), v19395)

def impl_joins_partsOf_n6 (x19356 : Int) (x19357 : Int) (x19342 : Int) (x19343 : Int) (x19344 : Int) (x19345 : Int) (x19346 : Int) (x19347 : Int) (x19348 : Int) (x19349 : Int) (x19350 : Int) (x19351 : Int) (x19352 : Int) (x19353 : Int) (x19354 : Int) (x19355 : Int) : Option ((Int × Int × Int × Int)) :=
  (impl_joins_partsOf_n4 x19356 x19357 x19342 x19343 x19344 x19345 x19346 x19347 x19348 x19349 x19350 x19351 x19352 x19353 x19354 x19355).bind (fun (t : Int) => impl_joins_partsOf_n5 x19356 x19357 t x19342 x19343 x19344 x19345 x19346 x19347 x19348 x19349 x19350 x19351 x19352 x19353 x19354 x19355)

def impl_joins_partsOf_n7 (x19342 : Int) (x19343 : Int) (x19344 : Int) (x19345 : Int) (x19346 : Int) (x19347 : Int) (x19348 : Int) (x19349 : Int) (x19350 : Int) (x19351 : Int) (x19352 : Int) (x19353 : Int) (x19354 : Int) (x19355 : Int) (x19356 : Int) (x19357 : Int) : Option ((Int × Int × Int × Int)) :=
  (impl_joins_partsOf_n1).bind (fun (t : Unit) => impl_joins_partsOf_n6 x19356 x19357 x19342 x19343 x19344 x19345 x19346 x19347 x19348 x19349 x19350 x19351 x19352 x19353 x19354 x19355)

@[irreducible] def impl_joins_partsOf (x19342 : Int) (x19343 : Int) (x19344 : Int) (x19345 : Int) (x19346 : Int) (x19347 : Int) (x19348 : Int) (x19349 : Int) (x19350 : Int) (x19351 : Int) (x19352 : Int) (x19353 : Int) (x19354 : Int) (x19355 : Int) (x19356 : Int) (x19357 : Int) : Option (Int × Int × Int × Int) :=
  impl_joins_partsOf_n7 x19342 x19343 x19344 x19345 x19346 x19347 x19348 x19349 x19350 x19351 x19352 x19353 x19354 x19355 x19356 x19357

def impl_flatCounts_tellTree_n1 (R0 : Int → Int → Int → Int → Int → Int → Int → Int → Int → Int → Int → Int → Int → Int → Int → Int → Int → Int → (List Int) → Option ((List Int))) (R1 : Int → Int → Int → Int → Int → Int → Int → Int → Int → Int → Int → Int → Int → Int → Int → Int → Int → Int → (List Int) → Option ((List Int))) (x19321 : Int) (x19322 : Int) (x19323 : Int) (x19324 : Int) (x19325 : Int) (x19326 : Int) (x19327 : Int) (x19328 : Int) (x19329 : Int) (x19330 : Int) (x19331 : Int) (x19332 : Int) (x19333 : Int) (x19334 : Int) (x19335 : Int) (x19336 : Int) (x19337 : Int) (x19338 : Int) (x19339 : List Int) : Option (((List Int))) :=
  (impl_flatCounts_aroundRoots x19321 x19322 x19323 x19324 x19325 x19326 x19327 x19328 x19329 x19330 x19331 x19332 x19333 x19334).bind fun (v19632 : Unit) => (impl_joins_partsOf x19328 x19329 x19330 x19331 x19332 x19333 x19334 x19328 x19329 x19330 x19331 x19332 x19333 x19334 (IntKind.wrap .i64 (x19336 - 1)) x19337).bind fun (v19633 : Int × Int × Int × Int) => (inb (IntKind.wrap .i64 ((IntKind.wrap .i64 (x19335 + (v19633.1))) - 1)) (List.length x19339)).bind fun (v19640 : Nat) => (R1 x19321 x19322 x19323 x19324 x19325 x19326 x19327 x19328 x19329 x19330 x19331 x19332 x19333 x19334 x19335 (v19633.1) (v19633.2.1) (IntKind.wrap .i64 (x19335 + (v19633.1))) (x19339.set v19640 x19338)).bind fun (v19642 : List Int) => (R1 x19321 x19322 x19323 x19324 x19325 x19326 x19327 x19328 x19329 x19330 x19331 x19332 x19333 x19334 (IntKind.wrap .i64 ((IntKind.wrap .i64 (x19335 + (v19633.1))) + 1)) (v19633.2.2.1) (v19633.2.2.2) (IntKind.wrap .i64 (x19335 + (v19633.1))) v19642).bind fun (v19644 : List Int) => some v19644

def impl_flatCounts_tellTree_one (R0 : Int → Int → Int → Int → Int → Int → Int → Int → Int → Int → Int → Int → Int → Int → Int → Int → Int → Int → (List Int) → Option ((List Int))) (R1 : Int → Int → Int → Int → Int → Int → Int → Int → Int → Int → Int → Int → Int → Int → Int → Int → Int → Int → (List Int) → Option ((List Int))) (x19321 : Int) (x19322 : Int) (x19323 : Int) (x19324 : Int) (x19325 : Int) (x19326 : Int) (x19327 : Int) (x19328 : Int) (x19329 : Int) (x19330 : Int) (x19331 : Int) (x19332 : Int) (x19333 : Int) (x19334 : Int) (x19335 : Int) (x19336 : Int) (x19337 : Int) (x19338 : Int) (x19339 : List Int) : Option ((List Int)) :=
  (impl_flatCounts_tellTree_n1 R0 R1 x19321 x19322 x19323 x19324 x19325 x19326 x19327 x19328 x19329 x19330 x19331 x19332 x19333 x19334 x19335 x19336 x19337 x19338 x19339).map (fun (t : (List Int)) => t)

def impl_flatCounts_tellRow_n1 (R0 : Int → Int → Int → Int → Int → Int → Int → Int → Int → Int → Int → Int → Int → Int → Int → Int → Int → Int → (List Int) → Option ((List Int))) (R1 : Int → Int → Int → Int → Int → Int → Int → Int → Int → Int → Int → Int → Int → Int → Int → Int → Int → Int → (List Int) → Option ((List Int))) (x19532 : Int) (x19533 : Int) (x19534 : Int) (x19535 : Int) (x19536 : Int) (x19537 : Int) (x19538 : Int) (x19539 : Int) (x19540 : Int) (x19541 : Int) (x19542 : Int) (x19543 : Int) (x19544 : Int) (x19545 : Int) (x19546 : Int) (x19547 : Int) (x19548 : Int) (x19549 : Int) (x19550 : List Int) : Option (((List Int)) ⊕ ((List Int))) :=
  cond (x19547 == 0) (some (Sum.inr x19550)) ((impl_flatCounts_inRows x19532 x19533 x19534 x19535 x19536 x19537 x19538 x19539 x19540 x19541 x19542 x19543 x19544 x19545).bind fun (v19620 : Unit) => (impl_joins_partsOf x19532 x19533 x19534 x19535 x19536 x19537 x19538 x19539 x19540 x19541 x19542 x19543 x19544 x19545 x19547 x19548).bind fun (v19621 : Int × Int × Int × Int) => (R0 x19532 x19533 x19534 x19535 x19536 x19537 x19538 x19539 x19540 x19541 x19542 x19543 x19544 x19545 x19546 (v19621.1) (v19621.2.1) x19549 x19550).bind fun (v19626 : List Int) => (R1 x19532 x19533 x19534 x19535 x19536 x19537 x19538 x19539 x19540 x19541 x19542 x19543 x19544 x19545 (IntKind.wrap .i64 (x19546 + (v19621.1))) (v19621.2.2.1) (v19621.2.2.2) x19549 v19626).bind fun (v19628 : List Int) => some (Sum.inl v19628))

def impl_flatCounts_tellRow_one (R0 : Int → Int → Int → Int → Int → Int → Int → Int → Int → Int → Int → Int → Int → Int → Int → Int → Int → Int → (List Int) → Option ((List Int))) (R1 : Int → Int → Int → Int → Int → Int → Int → Int → Int → Int → Int → Int → Int → Int → Int → Int → Int → Int → (List Int) → Option ((List Int))) (x19532 : Int) (x19533 : Int) (x19534 : Int) (x19535 : Int) (x19536 : Int) (x19537 : Int) (x19538 : Int) (x19539 : Int) (x19540 : Int) (x19541 : Int) (x19542 : Int) (x19543 : Int) (x19544 : Int) (x19545 : Int) (x19546 : Int) (x19547 : Int) (x19548 : Int) (x19549 : Int) (x19550 : List Int) : Option ((List Int)) :=
  (impl_flatCounts_tellRow_n1 R0 R1 x19532 x19533 x19534 x19535 x19536 x19537 x19538 x19539 x19540 x19541 x19542 x19543 x19544 x19545 x19546 x19547 x19548 x19549 x19550).map (Sum.elim (fun (t : (List Int)) => t) (fun (t : (List Int)) => t))

def impl_flatCounts_tellTree_knot : Nat → (Int → Int → Int → Int → Int → Int → Int → Int → Int → Int → Int → Int → Int → Int → Int → Int → Int → Int → (List Int) → Option ((List Int))) × (Int → Int → Int → Int → Int → Int → Int → Int → Int → Int → Int → Int → Int → Int → Int → Int → Int → Int → (List Int) → Option ((List Int)))
  | 0 => ((fun _ _ _ _ _ _ _ _ _ _ _ _ _ _ _ _ _ _ _ => none), (fun _ _ _ _ _ _ _ _ _ _ _ _ _ _ _ _ _ _ _ => none))
  | n + 1 => ((fun y0 y1 y2 y3 y4 y5 y6 y7 y8 y9 y10 y11 y12 y13 y14 y15 y16 y17 y18 => impl_flatCounts_tellTree_one (impl_flatCounts_tellTree_knot n).1 (impl_flatCounts_tellTree_knot n).2 y0 y1 y2 y3 y4 y5 y6 y7 y8 y9 y10 y11 y12 y13 y14 y15 y16 y17 y18), (fun y0 y1 y2 y3 y4 y5 y6 y7 y8 y9 y10 y11 y12 y13 y14 y15 y16 y17 y18 => impl_flatCounts_tellRow_one (impl_flatCounts_tellTree_knot n).1 (impl_flatCounts_tellTree_knot n).2 y0 y1 y2 y3 y4 y5 y6 y7 y8 y9 y10 y11 y12 y13 y14 y15 y16 y17 y18))

def impl_flatCounts_tellTree_fuel (n : Nat) : Int → Int → Int → Int → Int → Int → Int → Int → Int → Int → Int → Int → Int → Int → Int → Int → Int → Int → (List Int) → Option ((List Int)) := (impl_flatCounts_tellTree_knot n).1

@[irreducible] def impl_flatCounts_tellTree (x19321 : Int) (x19322 : Int) (x19323 : Int) (x19324 : Int) (x19325 : Int) (x19326 : Int) (x19327 : Int) (x19328 : Int) (x19329 : Int) (x19330 : Int) (x19331 : Int) (x19332 : Int) (x19333 : Int) (x19334 : Int) (x19335 : Int) (x19336 : Int) (x19337 : Int) (x19338 : Int) (x19339 : List Int) : Option ((List Int)) := impl_flatCounts_tellTree_fuel RR x19321 x19322 x19323 x19324 x19325 x19326 x19327 x19328 x19329 x19330 x19331 x19332 x19333 x19334 x19335 x19336 x19337 x19338 x19339

def impl_flatCounts_tellRow_fuel (n : Nat) : Int → Int → Int → Int → Int → Int → Int → Int → Int → Int → Int → Int → Int → Int → Int → Int → Int → Int → (List Int) → Option ((List Int)) := (impl_flatCounts_tellTree_knot n).2

@[irreducible] def impl_flatCounts_tellRow (x19532 : Int) (x19533 : Int) (x19534 : Int) (x19535 : Int) (x19536 : Int) (x19537 : Int) (x19538 : Int) (x19539 : Int) (x19540 : Int) (x19541 : Int) (x19542 : Int) (x19543 : Int) (x19544 : Int) (x19545 : Int) (x19546 : Int) (x19547 : Int) (x19548 : Int) (x19549 : Int) (x19550 : List Int) : Option ((List Int)) := impl_flatCounts_tellRow_fuel RR x19532 x19533 x19534 x19535 x19536 x19537 x19538 x19539 x19540 x19541 x19542 x19543 x19544 x19545 x19546 x19547 x19548 x19549 x19550

def impl_FlatAt_n1 (x19291 : Int) (x19292 : Int) : Option ((Bool × (List Int))) :=
  cond (decide (x19292 < 0)) (some (false, ([] : List Int))) ((impl_CountFlat x19291).bind fun (v19668 : Int) => cond (decide (x19292 ≥ v19668)) (some (false, ([] : List Int))) ((mk x19291 x19291).bind fun (v19670 : Nat) => (impl_countFlatParts).bind fun (v19672 : Int × Int × Int × Int × Int × Int × Int × Int × Int × Int × Int × Int × Int × Int) => (impl_flatCounts_tellTree (v19672.1) (v19672.2.1) (v19672.2.2.1) (v19672.2.2.2.1) (v19672.2.2.2.2.1) (v19672.2.2.2.2.2.1) (v19672.2.2.2.2.2.2.1) (v19672.2.2.2.2.2.2.2.1) (v19672.2.2.2.2.2.2.2.2.1) (v19672.2.2.2.2.2.2.2.2.2.1) (v19672.2.2.2.2.2.2.2.2.2.2.1) (v19672.2.2.2.2.2.2.2.2.2.2.2.1) (v19672.2.2.2.2.2.2.2.2.2.2.2.2.1) (v19672.2.2.2.2.2.2.2.2.2.2.2.2.2) 1 x19291 x19292 0 (List.replicate v19670 (0 : Int))).bind fun (v19687 : List Int) => some (true, v19687)))

@[irreducible] def impl_FlatAt (x19291 : Int) (x19292 : Int) : Option (Bool × (List Int)) :=
  impl_FlatAt_n1 x19291 x19292

def impl_ScoreOf_n1 (x19694 : List (List Int)) (x19695 : List Int) : Option (Unit ⊕ Int) :=
  (impl_ScoresOk x19694).bind fun (v19703 : Bool) => cond (!v19703) (some (Sum.inr (-1))) ((impl_TreeOk x19695).bind fun (v19705 : Bool) => cond (!v19705) (some (Sum.inr (-1))) (cond ((((List.length x19695 : Nat) : Int)) != (((List.length x19694 : Nat) : Int))) (some (Sum.inr (-1))) (some (Sum.inl ()))))

def impl_ScoreOf_n2 (x19695 : List Int) : Option (Int) :=
  some (((List.length x19695 : Nat) : Int))

def impl_ScoreOf_n3 (x19694 : List (List Int)) (x19724 : Int) (x19695 : List Int) (x19710 : Int) (x19725 : Int) : Option ((Int × Int) ⊕ Int) :=
  cond (decide (x19725 < x19710)) ((idx x19695 x19725).bind fun (v19734 : Int) => (idx x19694 x19725).bind fun (v19735 : List Int) => (idx v19735 v19734).bind fun (v19736 : Int) => some (Sum.inl ((IntKind.wrap .i64 (x19724 + v19736)), (IntKind.wrap .i64 (x19725 + 1))))) (some (Sum.inr x19724))

def impl_ScoreOf_n4 (x19694 : List (List Int)) (x19695 : List Int) (x19710 : Int) : Option (Int) :=
  nloop (fun (s : Int × Int) => ((impl_ScoreOf_n3 x19694 s.1 x19695 x19710 s.2).map (Sum.elim (fun (t : Int × Int) => Sum.inl (t.1, t.2)) (fun (t : Int) => Sum.inr t)) : Option ((Int × Int) ⊕ (Int)))) LL (0, 0)

def impl_ScoreOf_n5 (x19694 : List (List Int)) (x19695 : List Int) (x19710 : Int) : Option (Int) :=
  (impl_ScoreOf_n4 x19694 x19695 x19710).map (fun (t : Int) => t)

def impl_ScoreOf_n6 (x19694 : List (List Int)) (x19695 : List Int) : Option (Int) :=
  (impl_ScoreOf_n2 x19695).bind (fun (t : Int) => impl_ScoreOf_n5 x19694 x19695 t)

def impl_ScoreOf_n7 (x19724 : Int) : Option (Int) :=
  some x19724

def impl_ScoreOf_n8 (x19694 : List (List Int)) (x19695 : List Int) : Option (Int) :=
  (impl_ScoreOf_n6 x19694 x19695).bind (fun (t : Int) => impl_ScoreOf_n7 t)

def impl_ScoreOf_n9 (x19694 : List (List Int)) (x19695 : List Int) : Option (Int) :=
  (impl_ScoreOf_n1 x19694 x19695).bind (Sum.elim (fun (t : Unit) => impl_ScoreOf_n8 x19694 x19695) (fun e => some ((fun (t : Int) => t) e)))

@[irreducible] def impl_ScoreOf (x19694 : List (List Int)) (x19695 : List Int) : Option (Int) :=
  impl_ScoreOf_n9 x19694 x19695

def laws_FnBestFlat_n1 (x18766 : List Int) : Option ((Int × (List (List Int))) ⊕ Bool) :=
  cond (decide ((((List.length x18766 : Nat) : Int)) > 1048576)) (some (Sum.inr true)) ((spec_DrawBestFlat x18766).bind fun (v18978 : List (List Int)) => (impl_BestFlat v18978).bind fun (v18979 : Int) => (spec_BestFlat v18978).bind fun (v18980 : Int) => cond (v18979 != v18980) (some (Sum.inr false)) (cond (decide (v18979 < 0)) (cond (v18979 == (-1)) ((impl_ScoresOk v18978).bind fun (v18984 : Bool) => cond (!v18984) ((laws_alive).bind fun (v18986 : Bool) => some (Sum.inr v18986)) (some (Sum.inr false))) (some (Sum.inr false))) (some (Sum.inl (v18979, v18978)))))

def laws_FnBestFlat_n2 : Option (Unit) :=
  some ()

def laws_FnBestFlat_n3 (x19754 : Int) (x19755 : Int) (x18978 : List (List Int)) : Option ((Int × Int) ⊕ Bool ⊕ Int) :=
  (impl_CountFlat (((List.length x18978 : Nat) : Int))).bind fun (v19772 : Int) => cond (decide (x19755 < v19772)) (cond (decide (x19755 < 200)) ((impl_FlatAt (((List.length x18978 : Nat) : Int)) x19755).bind fun (v19776 : Bool × (List Int)) => cond (!(v19776.1)) (some (Sum.inr (Sum.inl false))) ((impl_ScoreOf x18978 (v19776.2)).bind fun (v19780 : Int) => some (Sum.inl ((imax x19754 v19780), (IntKind.wrap .i64 (x19755 + 1)))))) (some (Sum.inr (Sum.inr x19754)))) (some (Sum.inr (Sum.inr x19754)))

def laws_FnBestFlat_n4 (x18978 : List (List Int)) : Option (Bool ⊕ Int) :=
  nloop (fun (s : Int × Int) => ((laws_FnBestFlat_n3 s.1 s.2 x18978).map (Sum.elim (fun (t : Int × Int) => Sum.inl (t.1, t.2)) (Sum.elim (fun (t : Bool) => Sum.inr (Sum.inl t)) (fun (t : Int) => Sum.inr (Sum.inr t)))) : Option ((Int × Int) ⊕ (Bool ⊕ Int)))) LL ((-1), 0)

def laws_FnBestFlat_n5 (x18978 : List (List Int)) : Option (Int ⊕ Bool) :=
  (laws_FnBestFlat_n4 x18978).map (Sum.elim (fun (t : Bool) => (Sum.inr t)) (fun (t : Int) => (Sum.inl t)))

def laws_FnBestFlat_n6 (x18978 : List (List Int)) : Option (Int ⊕ Bool) :=
  (laws_FnBestFlat_n2).bind (fun (t : Unit) => laws_FnBestFlat_n5 x18978)

def laws_FnBestFlat_n7 (x18979 : Int) (x19754 : Int) : Option (Bool) :=
  some (x19754 == x18979)

def laws_FnBestFlat_n8 (x18979 : Int) (x18978 : List (List Int)) : Option (Bool) :=
  (laws_FnBestFlat_n6 x18978).bind (Sum.elim (fun (t : Int) => laws_FnBestFlat_n7 x18979 t) (fun e => some ((fun (t : Bool) => t) e)))

def laws_FnBestFlat_n9 (x18766 : List Int) : Option (Bool) :=
  (laws_FnBestFlat_n1 x18766).bind (Sum.elim (fun (t : Int × (List (List Int))) => laws_FnBestFlat_n8 t.1 t.2) (fun e => some ((fun (t : Bool) => t) e)))

@[irreducible] def laws_FnBestFlat (x18766 : List Int) : Option (Bool) :=
  laws_FnBestFlat_n9 x18766

end Go.Rv
