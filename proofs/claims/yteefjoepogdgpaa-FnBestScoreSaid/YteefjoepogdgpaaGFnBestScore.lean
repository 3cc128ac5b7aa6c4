/-
  Plain functions, written by program for functions of the checked code. Conditions: none.
-/
import Derived.Test.YteefjoepogdgpaaFB
set_option linter.unusedVariables false
namespace Go.Rv
def spec_l20Open_n1 (x16521 : List Int) : Option (((List Int))) :=
  cond (decide ((((List.length x16521 : Nat) : Int)) > 2000)) ((inc 2000 (List.length x16521)).bind fun (v16535 : Nat) => some ((x16521.take v16535).drop 0)) (some x16521)

@[irreducible] def spec_l20Open (x16521 : List Int) : Option ((List Int)) :=
  spec_l20Open_n1 x16521

def spec_l20Rd_pick_n1 (x16542 : Int) (x16543 : List Int) (x16544 : Int) : Option ((Int × Int)) :=
  cond (decide (x16542 < 1)) (some (0, (IntKind.wrap .i64 (x16544 + 1)))) (cond ((((List.length x16543 : Nat) : Int)) == 0) (some (0, (IntKind.wrap .i64 (x16544 + 1)))) (cond (decide ((IntKind.wrap .i64 ((IntKind.wrap .i64 (x16544 + 1)) - 1)) < (((List.length x16543 : Nat) : Int)))) ((idx x16543 (IntKind.wrap .i64 ((IntKind.wrap .i64 (x16544 + 1)) - 1))).bind fun (v16664 : Int) => (rem (IntKind.wrap .i64 v16664) x16542).bind fun (v16666 : Int) => some (v16666, (IntKind.wrap .i64 (x16544 + 1)))) ((rem (IntKind.wrap .i64 ((IntKind.wrap .i64 (x16544 + 1)) - 1)) (((List.length x16543 : Nat) : Int))).bind fun (v16668 : Int) => (idx x16543 v16668).bind fun (v16669 : Int) => (rem (IntKind.wrap .i64 ((IntKind.wrap .i64 ((IntKind.wrap .i64 ((IntKind.wrap .i64 (x16544 + 1)) - 1)) * 7)) + 3)) (((List.length x16543 : Nat) : Int))).bind fun (v16675 : Int) => (idx x16543 v16675).bind fun (v16676 : Int) => (quo .i64 (IntKind.wrap .i64 ((IntKind.wrap .i64 (x16544 + 1)) - 1)) (((List.length x16543 : Nat) : Int))).bind fun (v16683 : Int) => (quo .i64 (IntKind.wrap .i64 ((IntKind.wrap .i64 ((IntKind.wrap .i64 ((IntKind.wrap .i64 ((IntKind.wrap .i64 v16669) * 131)) + (IntKind.wrap .i64 ((IntKind.wrap .i64 v16676) * 1117)))) + (IntKind.wrap .i64 ((IntKind.wrap .i64 ((IntKind.wrap .i64 (x16544 + 1)) - 1)) * 29)))) + (IntKind.wrap .i64 (v16683 * 53)))) 64).bind fun (v16686 : Int) => (rem (ixor .i64 (IntKind.wrap .i64 ((IntKind.wrap .i64 ((IntKind.wrap .i64 ((IntKind.wrap .i64 ((IntKind.wrap .i64 v16669) * 131)) + (IntKind.wrap .i64 ((IntKind.wrap .i64 v16676) * 1117)))) + (IntKind.wrap .i64 ((IntKind.wrap .i64 ((IntKind.wrap .i64 (x16544 + 1)) - 1)) * 29)))) + (IntKind.wrap .i64 (v16683 * 53)))) v16686) x16542).bind fun (v16688 : Int) => some (v16688, (IntKind.wrap .i64 (x16544 + 1))))))

@[irreducible] def spec_l20Rd_pick (x16542 : Int) (x16543 : List Int) (x16544 : Int) : Option (Int × Int) :=
  spec_l20Rd_pick_n1 x16542 x16543 x16544

def spec_l20Rd_odd_n1 (x16818 : Int) (x16819 : List Int) (x16820 : Int) : Option ((Bool × Int)) :=
  cond (decide (x16818 > 0)) ((spec_l20Rd_pick x16818 x16819 x16820).bind fun (v16828 : Int × Int) => some (((v16828.1) == (IntKind.wrap .i64 (x16818 - 1))), (v16828.2))) (some (false, x16820))

@[irreducible] def spec_l20Rd_odd (x16818 : Int) (x16819 : List Int) (x16820 : Int) : Option (Bool × Int) :=
  spec_l20Rd_odd_n1 x16818 x16819 x16820

def spec_l20Scores_n1 (x16540 : List Int) (x16541 : Int) : Option ((Int × Int × Int)) :=
  (spec_l20Rd_pick 4 x16540 x16541).bind fun (v16883 : Int × Int) => (spec_l20Rd_pick 6 x16540 (v16883.2)).bind fun (v16887 : Int × Int) => (quo .i64 (v16887.1) 5).bind fun (v16890 : Int) => (spec_l20Rd_pick 3 x16540 (v16887.2)).bind fun (v16893 : Int × Int) => (inb (v16893.1) (List.length ([3, 10, 21]))).bind fun (v16896 : Nat) => (([3, 10, 21])[v16896]?).bind fun (v16897 : Int) => some ((IntKind.wrap .i64 ((IntKind.wrap .i64 (1 + (v16883.1))) + v16890)), v16897, (v16893.2))

def spec_l20Scores_n2 : Option (Unit) :=
  some ()

def spec_l20Scores_n3 (x16891 : Int) (x16941 : Int) (x16942 : Int) (x16943 : List (List Int)) : Option (Unit ⊕ (Int × (List (List Int)))) :=
  cond (decide (x16941 < x16891)) (some (Sum.inl ())) (some (Sum.inr (x16942, x16943)))

def spec_l20Scores_n4 : Option (Unit) :=
  some ()

def spec_l20Scores_n5 : Option (Unit) :=
  some ()

def spec_l20Scores_n6 (x16891 : Int) (x16897 : Int) (x16963 : Int) (x16540 : List Int) (x16964 : Int) (x16965 : List Int) : Option ((Int × Int × (List Int)) ⊕ (Int × (List Int))) :=
  cond (decide (x16963 ≤ x16891)) ((spec_l20Rd_pick x16897 x16540 x16964).bind fun (v16976 : Int × Int) => (room ((List.length x16965) + List.length ([(v16976.1)]))).bind fun (v16981 : Unit) => some (Sum.inl ((IntKind.wrap .i64 (x16963 + 1)), (v16976.2), (x16965 ++ ([(v16976.1)]))))) (some (Sum.inr (x16964, x16965)))

def spec_l20Scores_n7 (x16891 : Int) (x16897 : Int) (x16540 : List Int) (x16942 : Int) : Option ((Int × (List Int))) :=
  nloop (fun (s : Int × Int × (List Int)) => ((spec_l20Scores_n6 x16891 x16897 s.1 x16540 s.2.1 s.2.2).map (Sum.elim (fun (t : Int × Int × (List Int)) => Sum.inl (t.1, t.2.1, t.2.2)) (fun (t : Int × (List Int)) => Sum.inr t)) : Option ((Int × Int × (List Int)) ⊕ ((Int × (List Int)))))) LL (0, x16942, ([] : List Int))

def spec_l20Scores_n8 (x16891 : Int) (x16897 : Int) (x16540 : List Int) (x16942 : Int) : Option ((Int × (List Int))) :=
  (spec_l20Scores_n7 x16891 x16897 x16540 x16942).map (fun (t : Int × (List Int)) => (t.1, t.2))

def spec_l20Scores_n9 (x16891 : Int) (x16897 : Int) (x16540 : List Int) (x16942 : Int) : Option ((Int × (List Int))) :=
  (spec_l20Scores_n5).bind (fun (t : Unit) => spec_l20Scores_n8 x16891 x16897 x16540 x16942)

def spec_l20Scores_n10 (x16943 : List (List Int)) (x16965 : List Int) : Option (((List (List Int)))) :=
  (room (List.length x16943 + 1)).bind fun (v16984 : Unit) => some ((x16943 ++ [[]]).set (List.length x16943) x16965)

def spec_l20Scores_n11 (x16891 : Int) (x16897 : Int) (x16540 : List Int) (x16942 : Int) (x16943 : List (List Int)) : Option ((Int × (List (List Int)))) :=
  (spec_l20Scores_n9 x16891 x16897 x16540 x16942).bind (fun (t : Int × (List Int)) => (spec_l20Scores_n10 x16943 t.2).map (fun (u : (List (List Int))) => (t.1, u)))

def spec_l20Scores_n12 (x16891 : Int) (x16897 : Int) (x16540 : List Int) (x16942 : Int) (x16943 : List (List Int)) : Option ((Int × (List (List Int)))) :=
  (spec_l20Scores_n4).bind (fun (t : Unit) => spec_l20Scores_n11 x16891 x16897 x16540 x16942 x16943)

def spec_l20Scores_n13 (x16891 : Int) (x16897 : Int) (x16540 : List Int) (x16942 : Int) (x16943 : List (List Int)) : Option ((Int × (List (List Int)))) :=
  (spec_l20Scores_n12 x16891 x16897 x16540 x16942 x16943).map (fun (t : Int × (List (List Int))) => (t.1, t.2))

def spec_l20Scores_n14 (x16941 : Int) : Option (Int) :=
  some (IntKind.wrap .i64 (x16941 + 1))

def spec_l20Scores_n15 (x16891 : Int) (x16897 : Int) (x16941 : Int) (x16540 : List Int) (x16942 : Int) (x16943 : List (List Int)) : Option ((Int × Int × (List (List Int)))) :=
  (spec_l20Scores_n13 x16891 x16897 x16540 x16942 x16943).bind (fun (t : Int × (List (List Int))) => (spec_l20Scores_n14 x16941).map (fun (u : Int) => (u, t.1, t.2)))

def spec_l20Scores_n16 (x16891 : Int) (x16897 : Int) (x16941 : Int) (x16540 : List Int) (x16942 : Int) (x16943 : List (List Int)) : Option ((Int × Int × (List (List Int))) ⊕ (Int × (List (List Int)))) :=
  (spec_l20Scores_n3 x16891 x16941 x16942 x16943).bind (Sum.elim (fun (t : Unit) => (spec_l20Scores_n15 x16891 x16897 x16941 x16540 x16942 x16943).map (fun (t : Int × Int × (List (List Int))) => (Sum.inl (t.1, t.2.1, t.2.2)))) (fun e => some ((fun (t : Int × (List (List Int))) => (Sum.inr t)) e)))

def spec_l20Scores_n17 (x16891 : Int) (x16897 : Int) (x16540 : List Int) (x16895 : Int) : Option ((Int × (List (List Int)))) :=
  nloop (fun (s : Int × Int × (List (List Int))) => ((spec_l20Scores_n16 x16891 x16897 s.1 x16540 s.2.1 s.2.2).map (Sum.elim (fun (t : Int × Int × (List (List Int))) => Sum.inl (t.1, t.2.1, t.2.2)) (fun (t : Int × (List (List Int))) => Sum.inr t)) : Option ((Int × Int × (List (List Int))) ⊕ ((Int × (List (List Int))))))) LL (0, x16895, ([] : List (List Int)))

def spec_l20Scores_n18 (x16891 : Int) (x16897 : Int) (x16540 : List Int) (x16895 : Int) : Option ((Int × (List (List Int)))) :=
  (spec_l20Scores_n17 x16891 x16897 x16540 x16895).map (fun (t : Int × (List (List Int))) => (t.1, t.2))

def spec_l20Scores_n19 (x16891 : Int) (x16897 : Int) (x16540 : List Int) (x16895 : Int) : Option ((Int × (List (List Int)))) :=
  (spec_l20Scores_n2).bind (fun (t : Unit) => spec_l20Scores_n18 x16891 x16897 x16540 x16895)

def spec_l20Scores_n20 (x16539 : Int) (x16540 : List Int) (x16942 : Int) (x16943 : List (List Int)) : Option ((Int × (List (List Int)))) :=
  (spec_l20Rd_odd x16539 x16540 x16942).bind fun (v17037 : Bool × Int) => cond (v17037.1) ((spec_l20Rd_pick 3 x16540 (v17037.2)).bind fun (v17040 : Int × Int) => cond ((v17040.1) == 0) (some ((v17040.2), ([] : List (List Int)))) (cond ((v17040.1) == 1) ((inb 0 (List.length x16943)).bind fun (v17045 : Nat) => ((x16943)[v17045]?).bind fun (v17046 : List Int) => (inc 1 (List.length v17046)).bind fun (v17049 : Nat) => (inb 0 (List.length ((x16943).set v17045 []))).bind fun (v17051 : Nat) => (within v17051 (List.length ((x16943).set v17045 []))).bind fun (v17053 : Unit) => (same v17045 v17051).bind fun (v17054 : Unit) => some ((v17040.2), ((((x16943).set v17045 [])).set v17051 ((v17046.drop v17049).take ((List.length v17046) - v17049))))) ((inb 0 (List.length x16943)).bind fun (v17056 : Nat) => ((x16943)[v17056]?).bind fun (v17057 : List Int) => (inb 0 (List.length v17057)).bind fun (v17059 : Nat) => some ((v17040.2), ((((x16943).set v17056 [])).set v17056 (v17057.set v17059 (-1))))))) (some ((v17037.2), x16943))

def spec_l20Scores_n21 (x16539 : Int) (x16891 : Int) (x16897 : Int) (x16540 : List Int) (x16895 : Int) : Option ((Int × (List (List Int)))) :=
  (spec_l20Scores_n19 x16891 x16897 x16540 x16895).bind (fun (t : Int × (List (List Int))) => spec_l20Scores_n20 x16539 x16540 t.1 t.2)

def spec_l20Scores_n22 (x16539 : Int) (x16540 : List Int) (x16541 : Int) : Option ((Int × (List (List Int)))) :=
  (spec_l20Scores_n1 x16540 x16541).bind (fun (t : Int × Int × Int) => spec_l20Scores_n21 x16539 t.1 t.2.1 x16540 t.2.2)

@[irreducible] def spec_l20Scores (x16539 : Int) (x16540 : List Int) (x16541 : Int) : Option (Int × (List (List Int))) :=
  spec_l20Scores_n22 x16539 x16540 x16541

def slices_Min_int_int_n1 (x17091 : List Int) : Option (Int) :=
  cond (decide ((((List.length x17091 : Nat) : Int)) < 1)) (none) ((idx x17091 0).bind fun (v17096 : Int) => some v17096)

def slices_Min_int_int_n2 : Option (Unit) :=
  some ()

def slices_Min_int_int_n3 (x17091 : List Int) (x17108 : Int) (x17109 : Int) : Option ((Int × Int) ⊕ Int) :=
  cond (decide (x17109 < (((List.length x17091 : Nat) : Int)))) ((idx x17091 x17109).bind fun (v17118 : Int) => some (Sum.inl ((imin x17108 v17118), (IntKind.wrap .i64 (x17109 + 1))))) (some (Sum.inr x17108))

def slices_Min_int_int_n4 (x17091 : List Int) (x17096 : Int) : Option (Int) :=
  nloop (fun (s : Int × Int) => ((slices_Min_int_int_n3 x17091 s.1 s.2).map (Sum.elim (fun (t : Int × Int) => Sum.inl (t.1, t.2)) (fun (t : Int) => Sum.inr t)) : Option ((Int × Int) ⊕ (Int)))) LL (x17096, 1)

def slices_Min_int_int_n5 (x17091 : List Int) (x17096 : Int) : Option (Int) :=
  (slices_Min_int_int_n4 x17091 x17096).map (fun (t : Int) => t)

def slices_Min_int_int_n6 (x17091 : List Int) (x17096 : Int) : Option (Int) :=
  (slices_Min_int_int_n2).bind (fun (t : Unit) => slices_Min_int_int_n5 x17091 x17096)

def slices_Min_int_int_n7 (x17108 : Int) : Option (Int) :=
  some x17108

def slices_Min_int_int_n8 (x17091 : List Int) (x17096 : Int) : Option (Int) :=
  (slices_Min_int_int_n6 x17091 x17096).bind (fun (t : Int) => slices_Min_int_int_n7 t)

def slices_Min_int_int_n9 (x17091 : List Int) : Option (Int) :=
  (slices_Min_int_int_n1 x17091).bind (fun (t : Int) => slices_Min_int_int_n8 x17091 t)

@[irreducible] def slices_Min_int_int (x17091 : List Int) : Option (Int) :=
  slices_Min_int_int_n9 x17091

def slices_Max_int_int_n1 (x17123 : List Int) : Option (Int) :=
  cond (decide ((((List.length x17123 : Nat) : Int)) < 1)) (none) ((idx x17123 0).bind fun (v17128 : Int) => some v17128)

def slices_Max_int_int_n2 : Option (Unit) :=
  some ()

def slices_Max_int_int_n3 (x17123 : List Int) (x17140 : Int) (x17141 : Int) : Option ((Int × Int) ⊕ Int) :=
  cond (decide (x17141 < (((List.length x17123 : Nat) : Int)))) ((idx x17123 x17141).bind fun (v17150 : Int) => some (Sum.inl ((imax x17140 v17150), (IntKind.wrap .i64 (x17141 + 1))))) (some (Sum.inr x17140))

def slices_Max_int_int_n4 (x17123 : List Int) (x17128 : Int) : Option (Int) :=
  nloop (fun (s : Int × Int) => ((slices_Max_int_int_n3 x17123 s.1 s.2).map (Sum.elim (fun (t : Int × Int) => Sum.inl (t.1, t.2)) (fun (t : Int) => Sum.inr t)) : Option ((Int × Int) ⊕ (Int)))) LL (x17128, 1)

def slices_Max_int_int_n5 (x17123 : List Int) (x17128 : Int) : Option (Int) :=
  (slices_Max_int_int_n4 x17123 x17128).map (fun (t : Int) => t)

def slices_Max_int_int_n6 (x17123 : List Int) (x17128 : Int) : Option (Int) :=
  (slices_Max_int_int_n2).bind (fun (t : Unit) => slices_Max_int_int_n5 x17123 x17128)

def slices_Max_int_int_n7 (x17140 : Int) : Option (Int) :=
  some x17140

def slices_Max_int_int_n8 (x17123 : List Int) (x17128 : Int) : Option (Int) :=
  (slices_Max_int_int_n6 x17123 x17128).bind (fun (t : Int) => slices_Max_int_int_n7 t)

def slices_Max_int_int_n9 (x17123 : List Int) : Option (Int) :=
  (slices_Max_int_int_n1 x17123).bind (fun (t : Int) => slices_Max_int_int_n8 x17123 t)

@[irreducible] def slices_Max_int_int (x17123 : List Int) : Option (Int) :=
  slices_Max_int_int_n9 x17123

def impl_scoreRowOk_n1 (x17086 : List Int) (x17087 : Int) : Option (Bool) :=
  cond ((((List.length x17086 : Nat) : Int)) == (IntKind.wrap .i64 (x17087 + 1))) ((slices_Min_int_int x17086).bind fun (v17158 : Int) => cond (decide (v17158 ≥ 0)) ((slices_Max_int_int x17086).bind fun (v17160 : Int) => some (decide (v17160 ≤ 20))) (some false)) (some false)

@[irreducible] def impl_scoreRowOk (x17086 : List Int) (x17087 : Int) : Option (Bool) :=
  impl_scoreRowOk_n1 x17086 x17087

def impl_ScoresOk_n1 (x17075 : List (List Int)) : Option (Unit ⊕ Bool) :=
  cond (decide ((((List.length x17075 : Nat) : Int)) < 1)) (some (Sum.inr false)) (cond (decide ((((List.length x17075 : Nat) : Int)) > 5)) (some (Sum.inr false)) (some (Sum.inl ())))

def impl_ScoresOk_n2 (x17075 : List (List Int)) : Option (Int) :=
  some (((List.length x17075 : Nat) : Int))

def impl_ScoresOk_n3 (x17075 : List (List Int)) (x17080 : Int) (x17171 : Int) : Option (Int ⊕ Bool ⊕ Unit) :=
  cond (decide (x17171 < x17080)) ((idx x17075 x17171).bind fun (v17180 : List Int) => (impl_scoreRowOk v17180 (((List.length x17075 : Nat) : Int))).bind fun (v17182 : Bool) => cond (!v17182) (some (Sum.inr (Sum.inl false))) (some (Sum.inl (IntKind.wrap .i64 (x17171 + 1))))) (some (Sum.inr (Sum.inr ())))

def impl_ScoresOk_n4 (x17075 : List (List Int)) (x17080 : Int) : Option (Bool ⊕ Unit) :=
  nloop (fun (s : Int) => ((impl_ScoresOk_n3 x17075 x17080 s).map (Sum.elim (fun (t : Int) => Sum.inl t) (Sum.elim (fun (t : Bool) => Sum.inr (Sum.inl t)) (fun (t : Unit) => Sum.inr (Sum.inr t)))) : Option ((Int) ⊕ (Bool ⊕ Unit)))) LL 0

def impl_ScoresOk_n5 (x17075 : List (List Int)) (x17080 : Int) : Option (Unit ⊕ Bool) :=
  (impl_ScoresOk_n4 x17075 x17080).map (Sum.elim (fun (t : Bool) => (Sum.inr t)) (fun (t : Unit) => (Sum.inl ())))

def impl_ScoresOk_n6 (x17075 : List (List Int)) : Option (Unit ⊕ Bool) :=
  (impl_ScoresOk_n2 x17075).bind (fun (t : Int) => impl_ScoresOk_n5 x17075 t)

def impl_ScoresOk_n7 : Option (Bool) :=
  some true

def impl_ScoresOk_n8 (x17075 : List (List Int)) : Option (Bool) :=
  (impl_ScoresOk_n6 x17075).bind (Sum.elim (fun (t : Unit) => impl_ScoresOk_n7) (fun e => some ((fun (t : Bool) => t) e)))

def impl_ScoresOk_n9 (x17075 : List (List Int)) : Option (Bool) :=
  (impl_ScoresOk_n1 x17075).bind (Sum.elim (fun (t : Unit) => impl_ScoresOk_n8 x17075) (fun e => some ((fun (t : Bool) => t) e)))

@[irreducible] def impl_ScoresOk (x17075 : List (List Int)) : Option (Bool) :=
  impl_ScoresOk_n9 x17075

def spec_l1In_n1 (x17212 : Int) (x17213 : Int) (x17214 : Int) : Option (Bool) :=
  cond (decide (x17212 ≥ x17213)) (some (decide (x17212 ≤ x17214))) (some false)

@[irreducible] def spec_l1In (x17212 : Int) (x17213 : Int) (x17214 : Int) : Option (Bool) :=
  spec_l1In_n1 x17212 x17213 x17214

def spec_ScoresOk_n1 : Option (Unit) :=
  some ()

def spec_ScoresOk_n2 : Option (Unit) :=
  some ()

def spec_ScoresOk_n3 (x17191 : List (List Int)) (x17250 : Int) : Option (Unit ⊕ Unit) :=
  cond (decide (x17250 < (((List.length x17191 : Nat) : Int)))) (some (Sum.inl ())) (some (Sum.inr ()))

def spec_ScoresOk_n4 (x17191 : List (List Int)) (x17250 : Int) : Option (Unit ⊕ Bool) :=
  (idx x17191 x17250).bind fun (v17258 : List Int) => cond ((((List.length v17258 : Nat) : Int)) != (IntKind.wrap .i64 ((((List.length x17191 : Nat) : Int)) + 1))) (some (Sum.inr false)) (some (Sum.inl ()))

def spec_ScoresOk_n5 (x17191 : List (List Int)) (x17250 : Int) (x17281 : Int) : Option (Int ⊕ Bool ⊕ Unit) :=
  (idx x17191 x17250).bind fun (v17292 : List Int) => cond (decide (x17281 < (((List.length v17292 : Nat) : Int)))) ((idx x17191 x17250).bind fun (v17295 : List Int) => (idx v17295 x17281).bind fun (v17296 : Int) => (spec_l1In v17296 0 20).bind fun (v17297 : Bool) => cond (!v17297) (some (Sum.inr (Sum.inl false))) (some (Sum.inl (IntKind.wrap .i64 (x17281 + 1))))) (some (Sum.inr (Sum.inr ())))

def spec_ScoresOk_n6 (x17191 : List (List Int)) (x17250 : Int) : Option (Bool ⊕ Unit) :=
  nloop (fun (s : Int) => ((spec_ScoresOk_n5 x17191 x17250 s).map (Sum.elim (fun (t : Int) => Sum.inl t) (Sum.elim (fun (t : Bool) => Sum.inr (Sum.inl t)) (fun (t : Unit) => Sum.inr (Sum.inr t)))) : Option ((Int) ⊕ (Bool ⊕ Unit)))) LL 0

def spec_ScoresOk_n7 (x17191 : List (List Int)) (x17250 : Int) : Option (Unit ⊕ Bool) :=
  (spec_ScoresOk_n6 x17191 x17250).map (Sum.elim (fun (t : Bool) => (Sum.inr t)) (fun (t : Unit) => (Sum.inl ())))

def spec_ScoresOk_n8 (x17191 : List (List Int)) (x17250 : Int) : Option (Unit ⊕ Bool) :=
  (spec_ScoresOk_n4 x17191 x17250).bind (Sum.elim (fun (t : Unit) => spec_ScoresOk_n7 x17191 x17250) (fun e => some ((fun (t : Bool) => (Sum.inr t)) e)))

def spec_ScoresOk_n9 (x17191 : List (List Int)) (x17250 : Int) : Option (Unit ⊕ Bool) :=
  (spec_ScoresOk_n8 x17191 x17250).map (Sum.elim (fun (t : Unit) => (Sum.inl ())) (fun (t : Bool) => (Sum.inr t)))

def spec_ScoresOk_n10 (x17250 : Int) : Option (Int) :=
  some (IntKind.wrap .i64 (x17250 + 1))

def spec_ScoresOk_n11 (x17191 : List (List Int)) (x17250 : Int) : Option (Int ⊕ Bool) :=
  (spec_ScoresOk_n9 x17191 x17250).bind (Sum.elim (fun (t : Unit) => (spec_ScoresOk_n10 x17250).map (fun (t : Int) => (Sum.inl t))) (fun e => some ((fun (t : Bool) => (Sum.inr t)) e)))

def spec_ScoresOk_n12 (x17191 : List (List Int)) (x17250 : Int) : Option (Int ⊕ Bool ⊕ Unit) :=
  (spec_ScoresOk_n3 x17191 x17250).bind (Sum.elim (fun (t : Unit) => (spec_ScoresOk_n11 x17191 x17250).map (Sum.elim (fun (t : Int) => (Sum.inl t)) (fun (t : Bool) => (Sum.inr (Sum.inl t))))) (fun e => some ((fun (t : Unit) => (Sum.inr (Sum.inr t))) e)))

def spec_ScoresOk_n13 (x17191 : List (List Int)) : Option (Bool ⊕ Unit) :=
  nloop (fun (s : Int) => ((spec_ScoresOk_n12 x17191 s).map (Sum.elim (fun (t : Int) => Sum.inl t) (Sum.elim (fun (t : Bool) => Sum.inr (Sum.inl t)) (fun (t : Unit) => Sum.inr (Sum.inr t)))) : Option ((Int) ⊕ (Bool ⊕ Unit)))) LL 0

def spec_ScoresOk_n14 (x17191 : List (List Int)) : Option (Unit ⊕ Bool) :=
  (spec_ScoresOk_n13 x17191).map (Sum.elim (fun (t : Bool) => (Sum.inr t)) (fun (t : Unit) => (Sum.inl ())))

def spec_ScoresOk_n15 (x17191 : List (List Int)) : Option (Unit ⊕ Bool) :=
  (spec_ScoresOk_n2).bind (fun (t : Unit) => spec_ScoresOk_n14 x17191)

def spec_ScoresOk_n16 (x17191 : List (List Int)) : Option (Bool) :=
  (spec_l1In (((List.length x17191 : Nat) : Int)) 1 5).bind fun (v17304 : Bool) => some v17304

def spec_ScoresOk_n17 (x17191 : List (List Int)) : Option (Bool) :=
  (spec_ScoresOk_n15 x17191).bind (Sum.elim (fun (t : Unit) => spec_ScoresOk_n16 x17191) (fun e => some ((fun (t : Bool) => t) e)))

def spec_ScoresOk_n18 (x17191 : List (List Int)) : Option (Bool) :=
  (spec_ScoresOk_n1).bind (fun (t : Unit) => spec_ScoresOk_n17 x17191)

@[irreducible] def spec_ScoresOk (x17191 : List (List Int)) : Option (Bool) :=
  spec_ScoresOk_n18 x17191

def impl_oneRoot_n1 : Option (Unit) :=
  some ()

def impl_oneRoot_n2 (x17431 : List Int) : Option (Int) :=
  some (((List.length x17431 : Nat) : Int))

def impl_oneRoot_n3 (x17431 : List Int) (x17453 : Int) (x17432 : Int) (x17454 : Int) : Option ((Int × Int) ⊕ Bool ⊕ Int) :=
  cond (decide (x17454 < x17432)) ((idx x17431 x17454).bind fun (v17465 : Int) => cond (decide (v17465 < 0)) (some (Sum.inr (Sum.inl false))) (cond (decide (v17465 > (((List.length x17431 : Nat) : Int)))) (some (Sum.inr (Sum.inl false))) (cond (v17465 == 0) (some (Sum.inl ((IntKind.wrap .i64 (x17453 + 1)), (IntKind.wrap .i64 (x17454 + 1))))) (some (Sum.inl (x17453, (IntKind.wrap .i64 (x17454 + 1)))))))) (some (Sum.inr (Sum.inr x17453)))

def impl_oneRoot_n4 (x17431 : List Int) (x17432 : Int) : Option (Bool ⊕ Int) :=
  nloop (fun (s : Int × Int) => ((impl_oneRoot_n3 x17431 s.1 x17432 s.2).map (Sum.elim (fun (t : Int × Int) => Sum.inl (t.1, t.2)) (Sum.elim (fun (t : Bool) => Sum.inr (Sum.inl t)) (fun (t : Int) => Sum.inr (Sum.inr t)))) : Option ((Int × Int) ⊕ (Bool ⊕ Int)))) LL (0, 0)

def impl_oneRoot_n5 (x17431 : List Int) (x17432 : Int) : Option (Int ⊕ Bool) :=
  (impl_oneRoot_n4 x17431 x17432).map (Sum.elim (fun (t : Bool) => (Sum.inr t)) (fun (t : Int) => (Sum.inl t)))

def impl_oneRoot_n6 (x17431 : List Int) : Option (Int ⊕ Bool) :=
  (impl_oneRoot_n2 x17431).bind (fun (t : Int) => impl_oneRoot_n5 x17431 t)

def impl_oneRoot_n7 (x17453 : Int) : Option (Bool) :=
  some (x17453 == 1)

def impl_oneRoot_n8 (x17431 : List Int) : Option (Bool) :=
  (impl_oneRoot_n6 x17431).bind (Sum.elim (fun (t : Int) => impl_oneRoot_n7 t) (fun e => some ((fun (t : Bool) => t) e)))

def impl_oneRoot_n9 (x17431 : List Int) : Option (Bool) :=
  (impl_oneRoot_n1).bind (fun (t : Unit) => impl_oneRoot_n8 x17431)

@[irreducible] def impl_oneRoot (x17431 : List Int) : Option (Bool) :=
  impl_oneRoot_n9 x17431

def impl_walker_up_n1 (x17487 : List Int) (x17488 : Int) (x17489 : Int) : Option ((Bool × Int × Int)) :=
  (idx x17487 (IntKind.wrap .i64 (x17488 - 1))).bind fun (v17507 : Int) => cond (v17507 == 0) (some (false, x17488, x17489)) (some (true, v17507, (IntKind.wrap .i64 (x17489 + 1))))

@[irreducible] def impl_walker_up (x17487 : List Int) (x17488 : Int) (x17489 : Int) : Option (Bool × Int × Int) :=
  impl_walker_up_n1 x17487 x17488 x17489

def impl_stepsToRoot_n1 : Option (Unit) :=
  some ()

def impl_stepsToRoot_n2 (x17485 : List Int) (x17523 : Int) (x17524 : Int) : Option ((Int × Int) ⊕ (Int × Bool) ⊕ (Int × Int)) :=
  (impl_walker_up x17485 x17523 x17524).bind fun (v17529 : Bool × Int × Int) => cond (v17529.1) (cond (decide ((v17529.2.2) ≥ (((List.length x17485 : Nat) : Int)))) (some (Sum.inr (Sum.inl (0, false)))) (some (Sum.inl ((v17529.2.1), (v17529.2.2))))) (some (Sum.inr (Sum.inr ((v17529.2.1), (v17529.2.2)))))

def impl_stepsToRoot_n3 (x17485 : List Int) (x17486 : Int) : Option ((Int × Bool) ⊕ (Int × Int)) :=
  nloop (fun (s : Int × Int) => ((impl_stepsToRoot_n2 x17485 s.1 s.2).map (Sum.elim (fun (t : Int × Int) => Sum.inl (t.1, t.2)) (Sum.elim (fun (t : Int × Bool) => Sum.inr (Sum.inl t)) (fun (t : Int × Int) => Sum.inr (Sum.inr t)))) : Option ((Int × Int) ⊕ ((Int × Bool) ⊕ (Int × Int))))) LL (x17486, 0)

def impl_stepsToRoot_n4 (x17485 : List Int) (x17486 : Int) : Option ((Int × Int) ⊕ (Int × Bool)) :=
  (impl_stepsToRoot_n3 x17485 x17486).map (Sum.elim (fun (t : Int × Bool) => (Sum.inr t)) (fun (t : Int × Int) => (Sum.inl (t.1, t.2))))

def impl_stepsToRoot_n5 (x17532 : Int) : Option ((Int × Bool)) :=
  some (x17532, true)

def impl_stepsToRoot_n6 (x17485 : List Int) (x17486 : Int) : Option ((Int × Bool)) :=
  (impl_stepsToRoot_n4 x17485 x17486).bind (Sum.elim (fun (t : Int × Int) => impl_stepsToRoot_n5 t.2) (fun e => some ((fun (t : Int × Bool) => t) e)))

def impl_stepsToRoot_n7 (x17485 : List Int) (x17486 : Int) : Option ((Int × Bool)) :=
  (impl_stepsToRoot_n1).bind (fun (t : Unit) => impl_stepsToRoot_n6 x17485 x17486)

@[irreducible] def impl_stepsToRoot (x17485 : List Int) (x17486 : Int) : Option (Int × Bool) :=
  impl_stepsToRoot_n7 x17485 x17486

def impl_TreeOk_n1 (x17426 : List Int) : Option (Unit ⊕ Bool) :=
  cond (decide ((((List.length x17426 : Nat) : Int)) < 1)) (some (Sum.inr false)) (cond (decide ((((List.length x17426 : Nat) : Int)) > 8)) (some (Sum.inr false)) ((impl_oneRoot x17426).bind fun (v17478 : Bool) => cond (!v17478) (some (Sum.inr false)) (some (Sum.inl ()))))

def impl_TreeOk_n2 (x17426 : List Int) : Option (Int) :=
  some (((List.length x17426 : Nat) : Int))

def impl_TreeOk_n3 (x17426 : List Int) (x17480 : Int) (x17548 : Int) : Option (Int ⊕ Bool ⊕ Unit) :=
  cond (decide (x17548 < x17480)) ((impl_stepsToRoot x17426 (IntKind.wrap .i64 (x17548 + 1))).bind fun (v17559 : Int × Bool) => cond (!(v17559.2)) (some (Sum.inr (Sum.inl false))) (some (Sum.inl (IntKind.wrap .i64 (x17548 + 1))))) (some (Sum.inr (Sum.inr ())))

def impl_TreeOk_n4 (x17426 : List Int) (x17480 : Int) : Option (Bool ⊕ Unit) :=
  nloop (fun (s : Int) => ((impl_TreeOk_n3 x17426 x17480 s).map (Sum.elim (fun (t : Int) => Sum.inl t) (Sum.elim (fun (t : Bool) => Sum.inr (Sum.inl t)) (fun (t : Unit) => Sum.inr (Sum.inr t)))) : Option ((Int) ⊕ (Bool ⊕ Unit)))) LL 0

def impl_TreeOk_n5 (x17426 : List Int) (x17480 : Int) : Option (Unit ⊕ Bool) :=
  (impl_TreeOk_n4 x17426 x17480).map (Sum.elim (fun (t : Bool) => (Sum.inr t)) (fun (t : Unit) => (Sum.inl ())))

def impl_TreeOk_n6 (x17426 : List Int) : Option (Unit ⊕ Bool) :=
  (impl_TreeOk_n2 x17426).bind (fun (t : Int) => impl_TreeOk_n5 x17426 t)

def impl_TreeOk_n7 : Option (Bool) :=
  some true

def impl_TreeOk_n8 (x17426 : List Int) : Option (Bool) :=
  (impl_TreeOk_n6 x17426).bind (Sum.elim (fun (t : Unit) => impl_TreeOk_n7) (fun e => some ((fun (t : Bool) => t) e)))

def impl_TreeOk_n9 (x17426 : List Int) : Option (Bool) :=
  (impl_TreeOk_n1 x17426).bind (Sum.elim (fun (t : Unit) => impl_TreeOk_n8 x17426) (fun e => some ((fun (t : Bool) => t) e)))

@[irreducible] def impl_TreeOk (x17426 : List Int) : Option (Bool) :=
  impl_TreeOk_n9 x17426

def laws_alive_n1 : Option (Bool) :=
  (impl_TreeOk ([0])).bind fun (v17570 : Bool) => cond v17570 ((impl_TreeOk ([1])).bind fun (v17572 : Bool) => some (!v17572)) (some false)

@[irreducible] def laws_alive : Option (Bool) :=
  laws_alive_n1

def spec_DrawBestScore_n1 (x17602 : List Int) : Option (((List (List Int)))) :=
  (spec_l20Open x17602).bind fun (v17607 : List Int) => (spec_l20Scores 9 v17607 0).bind fun (v17608 : Int × (List (List Int))) => some (v17608.2)

@[irreducible] def spec_DrawBestScore (x17602 : List Int) : Option ((List (List Int))) :=
  spec_DrawBestScore_n1 x17602

def impl_scoreBounds_n1 (x17622 : List (List Int)) : Option (((List Int))) :=
  (mk (IntKind.wrap .i64 ((((List.length x17622 : Nat) : Int)) + 1)) (IntKind.wrap .i64 ((((List.length x17622 : Nat) : Int)) + 1))).bind fun (v17625 : Nat) => some (List.replicate v17625 (0 : Int))

def impl_scoreBounds_n2 (x17622 : List (List Int)) : Option (Int) :=
  some (IntKind.wrap .i64 ((((List.length x17622 : Nat) : Int)) - 1))

def impl_scoreBounds_n3 (x17622 : List (List Int)) (x17649 : Int) (x17650 : List Int) : Option ((Int × (List Int)) ⊕ ((List Int))) :=
  cond (decide (x17649 ≥ 0)) ((idx x17622 x17649).bind fun (v17662 : List Int) => (inb (IntKind.wrap .i64 (x17649 + 1)) (List.length x17650)).bind fun (v17664 : Nat) => (x17650[v17664]?).bind fun (v17665 : Int) => (slices_Max_int_int v17662).bind fun (v17666 : Int) => (inb x17649 (List.length x17650)).bind fun (v17668 : Nat) => some (Sum.inl ((IntKind.wrap .i64 (x17649 - 1)), (x17650.set v17668 (IntKind.wrap .i64 (v17666 + v17665)))))) (some (Sum.inr x17650))

def impl_scoreBounds_n4 (x17622 : List (List Int)) (x17628 : Int) (x17626 : List Int) : Option (((List Int))) :=
  nloop (fun (s : Int × (List Int)) => ((impl_scoreBounds_n3 x17622 s.1 s.2).map (Sum.elim (fun (t : Int × (List Int)) => Sum.inl (t.1, t.2)) (fun (t : (List Int)) => Sum.inr t)) : Option ((Int × (List Int)) ⊕ (((List Int)))))) LL (x17628, x17626)

def impl_scoreBounds_n5 (x17622 : List (List Int)) (x17628 : Int) (x17626 : List Int) : Option (((List Int))) :=
  (impl_scoreBounds_n4 x17622 x17628 x17626).map (fun (t : (List Int)) => t)

def impl_scoreBounds_n6 (x17622 : List (List Int)) (x17626 : List Int) : Option (((List Int))) :=
  (impl_scoreBounds_n2 x17622).bind (fun (t : Int) => impl_scoreBounds_n5 x17622 t x17626)

def impl_scoreBounds_n7 (x17650 : List Int) : Option (((List Int))) :=
  some x17650

def impl_scoreBounds_n8 (x17622 : List (List Int)) (x17626 : List Int) : Option (((List Int))) :=
  (impl_scoreBounds_n6 x17622 x17626).bind (fun (t : (List Int)) => impl_scoreBounds_n7 t)

def impl_scoreBounds_n9 (x17622 : List (List Int)) : Option (((List Int))) :=
  (impl_scoreBounds_n1 x17622).bind (fun (t : (List Int)) => impl_scoreBounds_n8 x17622 t)

@[irreducible] def impl_scoreBounds (x17622 : List (List Int)) : Option ((List Int)) :=
  impl_scoreBounds_n9 x17622

def impl_newHeadSearch_n1 (x17620 : List (List Int)) : Option (((List Int) × (List Int))) :=
  (impl_scoreBounds x17620).bind fun (v17675 : List Int) => (mk (((List.length x17620 : Nat) : Int)) (((List.length x17620 : Nat) : Int))).bind fun (v17676 : Nat) => some ((List.replicate v17676 (0 : Int)), v17675)

@[irreducible] def impl_newHeadSearch (x17620 : List (List Int)) : Option ((List Int) × (List Int)) :=
  impl_newHeadSearch_n1 x17620

def impl_headSearch_giveFrom_n1 (R0 : Int → Int → (List (List Int)) → Int → (List Int) → (List Int) → Option (Int × (List Int))) (x17686 : Int) (x17687 : Int) (x17688 : List (List Int)) (x17689 : Int) (x17690 : List Int) (x17691 : List Int) : Option (((List Int) × Int) ⊕ (Int × (List Int))) :=
  (inb x17686 (List.length x17691)).bind fun (v17791 : Nat) => (x17691[v17791]?).bind fun (v17792 : Int) => cond (decide ((IntKind.wrap .i64 (x17687 + v17792)) ≤ x17689)) (some (Sum.inr (x17689, x17690))) (cond (x17686 == (((List.length x17690 : Nat) : Int))) ((impl_TreeOk x17690).bind fun (v17797 : Bool) => cond v17797 (some (Sum.inr (x17687, x17690))) (some (Sum.inr (x17689, x17690)))) ((idx x17688 x17686).bind fun (v17798 : List Int) => some (Sum.inl (v17798, (((List.length v17798 : Nat) : Int))))))

def impl_headSearch_giveFrom_n2 (R0 : Int → Int → (List (List Int)) → Int → (List Int) → (List Int) → Option (Int × (List Int))) (x17686 : Int) (x17687 : Int) (x17798 : List Int) (x17799 : Int) (x17821 : Int) (x17688 : List (List Int)) (x17822 : Int) (x17823 : List Int) (x17691 : List Int) : Option ((Int × Int × (List Int)) ⊕ (Int × (List Int))) :=
  cond (decide (x17821 < x17799)) ((idx x17798 x17821).bind fun (v17836 : Int) => (inb x17686 (List.length x17823)).bind fun (v17837 : Nat) => (R0 (IntKind.wrap .i64 (x17686 + 1)) (IntKind.wrap .i64 (x17687 + v17836)) x17688 x17822 (x17823.set v17837 x17821) x17691).bind fun (v17841 : Int × (List Int)) => some (Sum.inl ((IntKind.wrap .i64 (x17821 + 1)), (v17841.1), (v17841.2)))) (some (Sum.inr (x17822, x17823)))

def impl_headSearch_giveFrom_n3 (R0 : Int → Int → (List (List Int)) → Int → (List Int) → (List Int) → Option (Int × (List Int))) (x17686 : Int) (x17687 : Int) (x17798 : List Int) (x17799 : Int) (x17688 : List (List Int)) (x17689 : Int) (x17690 : List Int) (x17691 : List Int) : Option ((Int × (List Int))) :=
  nloop (fun (s : Int × Int × (List Int)) => ((impl_headSearch_giveFrom_n2 R0 x17686 x17687 x17798 x17799 s.1 x17688 s.2.1 s.2.2 x17691).map (Sum.elim (fun (t : Int × Int × (List Int)) => Sum.inl (t.1, t.2.1, t.2.2)) (fun (t : Int × (List Int)) => Sum.inr t)) : Option ((Int × Int × (List Int)) ⊕ ((Int × (List Int)))))) LL (0, x17689, x17690)

def impl_headSearch_giveFrom_n4 (R0 : Int → Int → (List (List Int)) → Int → (List Int) → (List Int) → Option (Int × (List Int))) (x17686 : Int) (x17687 : Int) (x17798 : List Int) (x17799 : Int) (x17688 : List (List Int)) (x17689 : Int) (x17690 : List Int) (x17691 : List Int) : Option ((Int × (List Int))) :=
  (impl_headSearch_giveFrom_n3 R0 x17686 x17687 x17798 x17799 x17688 x17689 x17690 x17691).map (fun (t : Int × (List Int)) => (t.1, t.2))

def impl_headSearch_giveFrom_n5 (R0 : Int → Int → (List (List Int)) → Int → (List Int) → (List Int) → Option (Int × (List Int))) (x17686 : Int) (x17687 : Int) (x17688 : List (List Int)) (x17689 : Int) (x17690 : List Int) (x17691 : List Int) : Option ((Int × (List Int)) ⊕ (Int × (List Int))) :=
  (impl_headSearch_giveFrom_n1 R0 x17686 x17687 x17688 x17689 x17690 x17691).bind (Sum.elim (fun (t : (List Int) × Int) => (impl_headSearch_giveFrom_n4 R0 x17686 x17687 t.1 t.2 x17688 x17689 x17690 x17691).map (fun (u : Int × (List Int)) => (Sum.inl (u.1, u.2)))) (fun e => some ((fun (t : Int × (List Int)) => (Sum.inr t)) e)))

def impl_headSearch_giveFrom_one (R0 : Int → Int → (List (List Int)) → Int → (List Int) → (List Int) → Option (Int × (List Int))) (x17686 : Int) (x17687 : Int) (x17688 : List (List Int)) (x17689 : Int) (x17690 : List Int) (x17691 : List Int) : Option (Int × (List Int)) :=
  (impl_headSearch_giveFrom_n5 R0 x17686 x17687 x17688 x17689 x17690 x17691).map (Sum.elim (fun (t : Int × (List Int)) => (t.1, t.2)) (fun (t : Int × (List Int)) => t))

def impl_headSearch_giveFrom_knot : Nat → (Int → Int → (List (List Int)) → Int → (List Int) → (List Int) → Option (Int × (List Int)))
  | 0 => (fun _ _ _ _ _ _ => none)
  | n + 1 => (fun y0 y1 y2 y3 y4 y5 => impl_headSearch_giveFrom_one (impl_headSearch_giveFrom_knot n) y0 y1 y2 y3 y4 y5)

def impl_headSearch_giveFrom_fuel (n : Nat) : Int → Int → (List (List Int)) → Int → (List Int) → (List Int) → Option (Int × (List Int)) := (impl_headSearch_giveFrom_knot n)

@[irreducible] def impl_headSearch_giveFrom (x17686 : Int) (x17687 : Int) (x17688 : List (List Int)) (x17689 : Int) (x17690 : List Int) (x17691 : List Int) : Option (Int × (List Int)) := impl_headSearch_giveFrom_fuel RR x17686 x17687 x17688 x17689 x17690 x17691

def impl_BestScore_n1 (x17615 : List (List Int)) : Option (Int) :=
  (impl_ScoresOk x17615).bind fun (v17858 : Bool) => cond (!v17858) (some (-1)) ((impl_newHeadSearch x17615).bind fun (v17860 : (List Int) × (List Int)) => (impl_headSearch_giveFrom 0 0 x17615 (-1) (v17860.1) (v17860.2)).bind fun (v17863 : Int × (List Int)) => some (v17863.1))

@[irreducible] def impl_BestScore (x17615 : List (List Int)) : Option (Int) :=
  impl_BestScore_n1 x17615

def spec_TreeOk_n1 (x17886 : List Int) : Option (Int ⊕ Bool) :=
  (spec_l1In (((List.length x17886 : Nat) : Int)) 1 8).bind fun (v17892 : Bool) => cond (!v17892) (some (Sum.inr false)) (some (Sum.inl (((List.length x17886 : Nat) : Int))))

def spec_TreeOk_n2 : Option (Unit) :=
  some ()

def spec_TreeOk_n3 (x17891 : Int) (x17958 : Int) (x17959 : Int) : Option (Unit ⊕ Int) :=
  cond (decide (x17959 < x17891)) (some (Sum.inl ())) (some (Sum.inr x17958))

def spec_TreeOk_n4 (x17886 : List Int) (x17891 : Int) (x17958 : Int) (x17959 : Int) : Option ((Int × Int) ⊕ Bool) :=
  (idx x17886 x17959).bind fun (v17976 : Int) => (spec_l1In v17976 0 x17891).bind fun (v17977 : Bool) => cond (!v17977) (some (Sum.inr false)) ((idx x17886 x17959).bind fun (v17979 : Int) => cond (v17979 == (IntKind.wrap .i64 (x17959 + 1))) (some (Sum.inr false)) ((idx x17886 x17959).bind fun (v17982 : Int) => cond (v17982 == 0) (some (Sum.inl ((IntKind.wrap .i64 (x17958 + 1)), (IntKind.wrap .i64 (x17959 + 1))))) (some (Sum.inl (x17958, (IntKind.wrap .i64 (x17959 + 1)))))))

def spec_TreeOk_n5 : Option (Unit) :=
  some ()

def spec_TreeOk_n6 (x17886 : List Int) (x17891 : Int) (x18004 : Int) (x18005 : Int) : Option ((Int × Int) ⊕ Bool ⊕ Int) :=
  cond (decide (x18004 > 0)) (cond (decide (x18005 < x17891)) ((idx x17886 (IntKind.wrap .i64 (x18004 - 1))).bind fun (v18017 : Int) => (spec_l1In v18017 0 x17891).bind fun (v18018 : Bool) => cond (!v18018) (some (Sum.inr (Sum.inl false))) (some (Sum.inl (v18017, (IntKind.wrap .i64 (x18005 + 1)))))) (some (Sum.inr (Sum.inr x18004)))) (some (Sum.inr (Sum.inr x18004)))

def spec_TreeOk_n7 (x17886 : List Int) (x17891 : Int) (x17988 : Int) : Option (Bool ⊕ Int) :=
  nloop (fun (s : Int × Int) => ((spec_TreeOk_n6 x17886 x17891 s.1 s.2).map (Sum.elim (fun (t : Int × Int) => Sum.inl (t.1, t.2)) (Sum.elim (fun (t : Bool) => Sum.inr (Sum.inl t)) (fun (t : Int) => Sum.inr (Sum.inr t)))) : Option ((Int × Int) ⊕ (Bool ⊕ Int)))) LL (x17988, 0)

def spec_TreeOk_n8 (x17886 : List Int) (x17891 : Int) (x17988 : Int) : Option (Int ⊕ Bool) :=
  (spec_TreeOk_n7 x17886 x17891 x17988).map (Sum.elim (fun (t : Bool) => (Sum.inr t)) (fun (t : Int) => (Sum.inl t)))

def spec_TreeOk_n9 (x17886 : List Int) (x17891 : Int) (x17988 : Int) : Option (Int ⊕ Bool) :=
  (spec_TreeOk_n5).bind (fun (t : Unit) => spec_TreeOk_n8 x17886 x17891 x17988)

def spec_TreeOk_n10 (x18004 : Int) : Option (Unit ⊕ Bool) :=
  cond (decide (x18004 > 0)) (some (Sum.inr false)) (some (Sum.inl ()))

def spec_TreeOk_n11 (x17886 : List Int) (x17891 : Int) (x17988 : Int) : Option (Unit ⊕ Bool) :=
  (spec_TreeOk_n9 x17886 x17891 x17988).bind (Sum.elim (fun (t : Int) => spec_TreeOk_n10 t) (fun e => some ((fun (t : Bool) => (Sum.inr t)) e)))

def spec_TreeOk_n12 (x17886 : List Int) (x17891 : Int) (x17958 : Int) (x17959 : Int) : Option (Int ⊕ Bool) :=
  (spec_TreeOk_n4 x17886 x17891 x17958 x17959).bind (Sum.elim (fun (t : Int × Int) => (spec_TreeOk_n11 x17886 x17891 t.2).map (Sum.elim (fun (u : Unit) => (Sum.inl t.1)) (fun (u : Bool) => (Sum.inr u)))) (fun e => some ((fun (t : Bool) => (Sum.inr t)) e)))

def spec_TreeOk_n13 (x17886 : List Int) (x17891 : Int) (x17958 : Int) (x17959 : Int) : Option (Int ⊕ Bool) :=
  (spec_TreeOk_n12 x17886 x17891 x17958 x17959).map (Sum.elim (fun (t : Int) => (Sum.inl t)) (fun (t : Bool) => (Sum.inr t)))

def spec_TreeOk_n14 (x17959 : Int) : Option (Int) :=
  some (IntKind.wrap .i64 (x17959 + 1))

def spec_TreeOk_n15 (x17886 : List Int) (x17891 : Int) (x17958 : Int) (x17959 : Int) : Option ((Int × Int) ⊕ Bool) :=
  (spec_TreeOk_n13 x17886 x17891 x17958 x17959).bind (Sum.elim (fun (t : Int) => (spec_TreeOk_n14 x17959).map (fun (u : Int) => (Sum.inl (t, u)))) (fun e => some ((fun (t : Bool) => (Sum.inr t)) e)))

def spec_TreeOk_n16 (x17886 : List Int) (x17891 : Int) (x17958 : Int) (x17959 : Int) : Option ((Int × Int) ⊕ Bool ⊕ Int) :=
  (spec_TreeOk_n3 x17891 x17958 x17959).bind (Sum.elim (fun (t : Unit) => (spec_TreeOk_n15 x17886 x17891 x17958 x17959).map (Sum.elim (fun (t : Int × Int) => (Sum.inl (t.1, t.2))) (fun (t : Bool) => (Sum.inr (Sum.inl t))))) (fun e => some ((fun (t : Int) => (Sum.inr (Sum.inr t))) e)))

def spec_TreeOk_n17 (x17886 : List Int) (x17891 : Int) : Option (Bool ⊕ Int) :=
  nloop (fun (s : Int × Int) => ((spec_TreeOk_n16 x17886 x17891 s.1 s.2).map (Sum.elim (fun (t : Int × Int) => Sum.inl (t.1, t.2)) (Sum.elim (fun (t : Bool) => Sum.inr (Sum.inl t)) (fun (t : Int) => Sum.inr (Sum.inr t)))) : Option ((Int × Int) ⊕ (Bool ⊕ Int)))) LL (0, 0)

def spec_TreeOk_n18 (x17886 : List Int) (x17891 : Int) : Option (Int ⊕ Bool) :=
  (spec_TreeOk_n17 x17886 x17891).map (Sum.elim (fun (t : Bool) => (Sum.inr t)) (fun (t : Int) => (Sum.inl t)))

def spec_TreeOk_n19 (x17886 : List Int) (x17891 : Int) : Option (Int ⊕ Bool) :=
  (spec_TreeOk_n2).bind (fun (t : Unit) => spec_TreeOk_n18 x17886 x17891)

def spec_TreeOk_n20 (x17958 : Int) : Option (Bool) :=
  some (x17958 == 1)

def spec_TreeOk_n21 (x17886 : List Int) (x17891 : Int) : Option (Bool) :=
  (spec_TreeOk_n19 x17886 x17891).bind (Sum.elim (fun (t : Int) => spec_TreeOk_n20 t) (fun e => some ((fun (t : Bool) => t) e)))

def spec_TreeOk_n22 (x17886 : List Int) : Option (Bool) :=
  (spec_TreeOk_n1 x17886).bind (Sum.elim (fun (t : Int) => spec_TreeOk_n21 x17886 t) (fun e => some ((fun (t : Bool) => t) e)))

@[irreducible] def spec_TreeOk (x17886 : List Int) : Option (Bool) :=
  spec_TreeOk_n22 x17886

def spec_ScoreOf_n1 (x17882 : List (List Int)) (x17883 : List Int) : Option (Unit ⊕ Int) :=
  (spec_ScoresOk x17882).bind fun (v18032 : Bool) => cond (!v18032) (some (Sum.inr (-1))) ((spec_TreeOk x17883).bind fun (v18034 : Bool) => cond (!v18034) (some (Sum.inr (-1))) (cond ((((List.length x17883 : Nat) : Int)) != (((List.length x17882 : Nat) : Int))) (some (Sum.inr (-1))) (some (Sum.inl ()))))

def spec_ScoreOf_n2 : Option (Unit) :=
  some ()

def spec_ScoreOf_n3 (x17882 : List (List Int)) (x17883 : List Int) (x18054 : Int) (x18055 : Int) : Option ((Int × Int) ⊕ Int) :=
  cond (decide (x18055 < (((List.length x17883 : Nat) : Int)))) ((idx x17882 x18055).bind fun (v18066 : List Int) => (idx x17883 x18055).bind fun (v18067 : Int) => (idx v18066 v18067).bind fun (v18068 : Int) => some (Sum.inl ((IntKind.wrap .i64 (x18054 + v18068)), (IntKind.wrap .i64 (x18055 + 1))))) (some (Sum.inr x18054))

def spec_ScoreOf_n4 (x17882 : List (List Int)) (x17883 : List Int) : Option (Int) :=
  nloop (fun (s : Int × Int) => ((spec_ScoreOf_n3 x17882 x17883 s.1 s.2).map (Sum.elim (fun (t : Int × Int) => Sum.inl (t.1, t.2)) (fun (t : Int) => Sum.inr t)) : Option ((Int × Int) ⊕ (Int)))) LL (0, 0)

def spec_ScoreOf_n5 (x17882 : List (List Int)) (x17883 : List Int) : Option (Int) :=
  (spec_ScoreOf_n4 x17882 x17883).map (fun (t : Int) => t)

def spec_ScoreOf_n6 (x17882 : List (List Int)) (x17883 : List Int) : Option (Int) :=
  (spec_ScoreOf_n2).bind (fun (t : Unit) => spec_ScoreOf_n5 x17882 x17883)

def spec_ScoreOf_n7 (x18054 : Int) : Option (Int) :=
  some x18054

def spec_ScoreOf_n8 (x17882 : List (List Int)) (x17883 : List Int) : Option (Int) :=
  (spec_ScoreOf_n6 x17882 x17883).bind (fun (t : Int) => spec_ScoreOf_n7 t)

def spec_ScoreOf_n9 (x17882 : List (List Int)) (x17883 : List Int) : Option (Int) :=
  (spec_ScoreOf_n1 x17882 x17883).bind (Sum.elim (fun (t : Unit) => spec_ScoreOf_n8 x17882 x17883) (fun e => some ((fun (t : Int) => t) e)))

@[irreducible] def spec_ScoreOf (x17882 : List (List Int)) (x17883 : List Int) : Option (Int) :=
  spec_ScoreOf_n9 x17882 x17883

def spec_l9Best_n1 (R0 : (List (List Int)) → (List Int) → Option Int) (x17877 : List (List Int)) (x17878 : List Int) : Option (Unit ⊕ Int) :=
  cond ((((List.length x17878 : Nat) : Int)) == (((List.length x17877 : Nat) : Int))) ((spec_ScoreOf x17877 x17878).bind fun (v18140 : Int) => some (Sum.inr v18140)) (some (Sum.inl ()))

def spec_l9Best_n2 (R0 : (List (List Int)) → (List Int) → Option Int) : Option (Unit) :=
  some ()

def spec_l9Best_n3 (R0 : (List (List Int)) → (List Int) → Option Int) (x17877 : List (List Int)) (x17878 : List Int) (x18175 : Int) (x18176 : Int) : Option ((Int × Int) ⊕ Int) :=
  cond (decide (x18176 ≤ (((List.length x17877 : Nat) : Int)))) (cond (x18176 != (IntKind.wrap .i64 ((((List.length x17878 : Nat) : Int)) + 1))) ((room ((List.length ([] : List Int)) + List.length x17878)).bind fun (v18199 : Unit) => (room ((List.length (([] : List Int) ++ x17878)) + List.length ([x18176]))).bind fun (v18203 : Unit) => (R0 x17877 ((([] : List Int) ++ x17878) ++ ([x18176]))).bind fun (v18205 : Int) => some (Sum.inl ((imax x18175 v18205), (IntKind.wrap .i64 (x18176 + 1))))) (some (Sum.inl (x18175, (IntKind.wrap .i64 (x18176 + 1)))))) (some (Sum.inr x18175))

def spec_l9Best_n4 (R0 : (List (List Int)) → (List Int) → Option Int) (x17877 : List (List Int)) (x17878 : List Int) : Option (Int) :=
  nloop (fun (s : Int × Int) => ((spec_l9Best_n3 R0 x17877 x17878 s.1 s.2).map (Sum.elim (fun (t : Int × Int) => Sum.inl (t.1, t.2)) (fun (t : Int) => Sum.inr t)) : Option ((Int × Int) ⊕ (Int)))) LL ((-1), 0)

def spec_l9Best_n5 (R0 : (List (List Int)) → (List Int) → Option Int) (x17877 : List (List Int)) (x17878 : List Int) : Option (Int) :=
  (spec_l9Best_n4 R0 x17877 x17878).map (fun (t : Int) => t)

def spec_l9Best_n6 (R0 : (List (List Int)) → (List Int) → Option Int) (x17877 : List (List Int)) (x17878 : List Int) : Option (Int) :=
  (spec_l9Best_n2 R0).bind (fun (t : Unit) => spec_l9Best_n5 R0 x17877 x17878)

def spec_l9Best_n7 (R0 : (List (List Int)) → (List Int) → Option Int) (x18175 : Int) : Option (Int) :=
  some x18175

def spec_l9Best_n8 (R0 : (List (List Int)) → (List Int) → Option Int) (x17877 : List (List Int)) (x17878 : List Int) : Option (Int) :=
  (spec_l9Best_n6 R0 x17877 x17878).bind (fun (t : Int) => spec_l9Best_n7 R0 t)

def spec_l9Best_n9 (R0 : (List (List Int)) → (List Int) → Option Int) (x17877 : List (List Int)) (x17878 : List Int) : Option (Int) :=
  (spec_l9Best_n1 R0 x17877 x17878).bind (Sum.elim (fun (t : Unit) => spec_l9Best_n8 R0 x17877 x17878) (fun e => some ((fun (t : Int) => t) e)))

def spec_l9Best_one (R0 : (List (List Int)) → (List Int) → Option Int) (x17877 : List (List Int)) (x17878 : List Int) : Option (Int) :=
  spec_l9Best_n9 R0 x17877 x17878

def spec_l9Best_knot : Nat → ((List (List Int)) → (List Int) → Option Int)
  | 0 => (fun _ _ => none)
  | n + 1 => (fun y0 y1 => spec_l9Best_one (spec_l9Best_knot n) y0 y1)

def spec_l9Best_fuel (n : Nat) : (List (List Int)) → (List Int) → Option Int := (spec_l9Best_knot n)

@[irreducible] def spec_l9Best (x17877 : List (List Int)) (x17878 : List Int) : Option (Int) := spec_l9Best_fuel RR x17877 x17878

def spec_BestScore_n1 (x17872 : List (List Int)) : Option (Int) :=
  (spec_ScoresOk x17872).bind fun (v18213 : Bool) => cond (!v18213) (some (-1)) ((spec_l9Best x17872 ([] : List Int)).bind fun (v18215 : Int) => some v18215)

@[irreducible] def spec_BestScore (x17872 : List (List Int)) : Option (Int) :=
  spec_BestScore_n1 x17872

def impl_partTable_between_1_n1 (x18298 : Int) (x18299 : List (Int × Int × Unit)) (x18300 : Int) (x18301 : Int) : Option (Int) :=
  (same (List.length x18299) 36).bind fun (v18322 : Unit) => (inb x18300 6).bind fun (v18323 : Nat) => (same (List.length ((x18299.drop (v18323 * 6)).take 6)) 6).bind fun (v18325 : Unit) => (idx ((x18299.drop (v18323 * 6)).take 6) x18298).bind fun (v18326 : Int × Int × Unit) => (same (List.length x18299) 36).bind fun (v18332 : Unit) => (inb (IntKind.wrap .i64 (x18298 + 1)) 6).bind fun (v18333 : Nat) => (same (List.length ((x18299.drop (v18333 * 6)).take 6)) 6).bind fun (v18335 : Unit) => (idx ((x18299.drop (v18333 * 6)).take 6) x18301).bind fun (v18336 : Int × Int × Unit) => some (IntKind.wrap .i64 ((v18326.1) + ((v18336.2).1)))

@[irreducible] def impl_partTable_between_1 (x18298 : Int) (x18299 : List (Int × Int × Unit)) (x18300 : Int) (x18301 : Int) : Option (Int) :=
  impl_partTable_between_1_n1 x18298 x18299 x18300 x18301

def impl_greatest_v2_n1 : Option (Unit) :=
  some ()

def impl_greatest_v2_n2 : Option (Unit) :=
  some ()

def impl_greatest_v2_n3 (x18292 : Int) (x18293 : List (Int × Int × Unit)) (x18294 : Int) (x18295 : Int) (x18348 : Int) (x18349 : Int) : Option ((Int × Int) ⊕ Int) :=
  cond (decide (x18349 ≤ x18292)) ((impl_partTable_between_1 x18349 x18293 x18294 x18295).bind fun (v18355 : Int) => some (Sum.inl ((imax x18348 v18355), (IntKind.wrap .i64 (x18349 + 1))))) (some (Sum.inr x18348))

def impl_greatest_v2_n4 (x18292 : Int) (x18293 : List (Int × Int × Unit)) (x18294 : Int) (x18295 : Int) (x18291 : Int) : Option (Int) :=
  nloop (fun (s : Int × Int) => ((impl_greatest_v2_n3 x18292 x18293 x18294 x18295 s.1 s.2).map (Sum.elim (fun (t : Int × Int) => Sum.inl (t.1, t.2)) (fun (t : Int) => Sum.inr t)) : Option ((Int × Int) ⊕ (Int)))) LL (0, x18291)

def impl_greatest_v2_n5 (x18292 : Int) (x18293 : List (Int × Int × Unit)) (x18294 : Int) (x18295 : Int) (x18291 : Int) : Option (Int) :=
  (impl_greatest_v2_n4 x18292 x18293 x18294 x18295 x18291).map (fun (t : Int) => t)

def impl_greatest_v2_n6 (x18291 : Int) (x18292 : Int) (x18293 : List (Int × Int × Unit)) (x18294 : Int) (x18295 : Int) : Option (Int) :=
  (impl_greatest_v2_n2).bind (fun (t : Unit) => impl_greatest_v2_n5 x18292 x18293 x18294 x18295 x18291)

def impl_greatest_v2_n7 (x18348 : Int) : Option (Int) :=
  some x18348

def impl_greatest_v2_n8 (x18291 : Int) (x18292 : Int) (x18293 : List (Int × Int × Unit)) (x18294 : Int) (x18295 : Int) : Option (Int) :=
  (impl_greatest_v2_n6 x18291 x18292 x18293 x18294 x18295).bind (fun (t : Int) => impl_greatest_v2_n7 t)

def impl_greatest_v2_n9 (x18291 : Int) (x18292 : Int) (x18293 : List (Int × Int × Unit)) (x18294 : Int) (x18295 : Int) : Option (Int) :=
  (impl_greatest_v2_n1).bind (fun (t : Unit) => impl_greatest_v2_n8 x18291 x18292 x18293 x18294 x18295)

@[irreducible] def impl_greatest_v2 (x18291 : Int) (x18292 : Int) (x18293 : List (Int × Int × Unit)) (x18294 : Int) (x18295 : Int) : Option (Int) :=
  impl_greatest_v2_n9 x18291 x18292 x18293 x18294 x18295

def impl_partTable_between_n1 (x18287 : List (Int × Int × Unit)) (x18288 : Int) (x18289 : Int) : Option (Int) :=
  (impl_greatest_v2 x18288 (IntKind.wrap .i64 (x18289 - 1)) x18287 x18288 x18289).bind fun (v18360 : Int) => some v18360

@[irreducible] def impl_partTable_between (x18287 : List (Int × Int × Unit)) (x18288 : Int) (x18289 : Int) : Option (Int) :=
  impl_partTable_between_n1 x18287 x18288 x18289

def impl_partTable_joined_1_n1 (x18270 : Int) (x18271 : List (Int × Int × Unit)) (x18272 : Int) (x18273 : List (List Int)) (x18274 : Int) : Option (Int) :=
  (idx x18273 (IntKind.wrap .i64 (x18270 - 1))).bind fun (v18365 : List Int) => (idx v18365 x18272).bind fun (v18366 : Int) => (same (List.length x18271) 36).bind fun (v18367 : Unit) => (inb x18270 6).bind fun (v18368 : Nat) => (same (List.length ((x18271.drop (v18368 * 6)).take 6)) 6).bind fun (v18370 : Unit) => (idx ((x18271.drop (v18368 * 6)).take 6) x18274).bind fun (v18371 : Int × Int × Unit) => (impl_partTable_between x18271 x18272 x18270).bind fun (v18376 : Int) => some (IntKind.wrap .i64 ((IntKind.wrap .i64 (v18376 + v18366)) + (v18371.1)))

@[irreducible] def impl_partTable_joined_1 (x18270 : Int) (x18271 : List (Int × Int × Unit)) (x18272 : Int) (x18273 : List (List Int)) (x18274 : Int) : Option (Int) :=
  impl_partTable_joined_1_n1 x18270 x18271 x18272 x18273 x18274

def impl_greatest_n1 : Option (Unit) :=
  some ()

def impl_greatest_n2 : Option (Unit) :=
  some ()

def impl_greatest_n3 (x18263 : Int) (x18264 : List (Int × Int × Unit)) (x18265 : Int) (x18266 : List (List Int)) (x18267 : Int) (x18385 : Int) (x18386 : Int) : Option ((Int × Int) ⊕ Int) :=
  cond (decide (x18386 ≤ x18263)) ((impl_partTable_joined_1 x18386 x18264 x18265 x18266 x18267).bind fun (v18392 : Int) => some (Sum.inl ((imax x18385 v18392), (IntKind.wrap .i64 (x18386 + 1))))) (some (Sum.inr x18385))

def impl_greatest_n4 (x18263 : Int) (x18264 : List (Int × Int × Unit)) (x18265 : Int) (x18266 : List (List Int)) (x18267 : Int) (x18262 : Int) : Option (Int) :=
  nloop (fun (s : Int × Int) => ((impl_greatest_n3 x18263 x18264 x18265 x18266 x18267 s.1 s.2).map (Sum.elim (fun (t : Int × Int) => Sum.inl (t.1, t.2)) (fun (t : Int) => Sum.inr t)) : Option ((Int × Int) ⊕ (Int)))) LL (0, x18262)

def impl_greatest_n5 (x18263 : Int) (x18264 : List (Int × Int × Unit)) (x18265 : Int) (x18266 : List (List Int)) (x18267 : Int) (x18262 : Int) : Option (Int) :=
  (impl_greatest_n4 x18263 x18264 x18265 x18266 x18267 x18262).map (fun (t : Int) => t)

def impl_greatest_n6 (x18262 : Int) (x18263 : Int) (x18264 : List (Int × Int × Unit)) (x18265 : Int) (x18266 : List (List Int)) (x18267 : Int) : Option (Int) :=
  (impl_greatest_n2).bind (fun (t : Unit) => impl_greatest_n5 x18263 x18264 x18265 x18266 x18267 x18262)

def impl_greatest_n7 (x18385 : Int) : Option (Int) :=
  some x18385

def impl_greatest_n8 (x18262 : Int) (x18263 : Int) (x18264 : List (Int × Int × Unit)) (x18265 : Int) (x18266 : List (List Int)) (x18267 : Int) : Option (Int) :=
  (impl_greatest_n6 x18262 x18263 x18264 x18265 x18266 x18267).bind (fun (t : Int) => impl_greatest_n7 t)

def impl_greatest_n9 (x18262 : Int) (x18263 : Int) (x18264 : List (Int × Int × Unit)) (x18265 : Int) (x18266 : List (List Int)) (x18267 : Int) : Option (Int) :=
  (impl_greatest_n1).bind (fun (t : Unit) => impl_greatest_n8 x18262 x18263 x18264 x18265 x18266 x18267)

@[irreducible] def impl_greatest (x18262 : Int) (x18263 : Int) (x18264 : List (Int × Int × Unit)) (x18265 : Int) (x18266 : List (List Int)) (x18267 : Int) : Option (Int) :=
  impl_greatest_n9 x18262 x18263 x18264 x18265 x18266 x18267

def impl_partTable_joined_2_n1 (x18404 : Int) (x18405 : List (Int × Int × Unit)) (x18406 : Int) (x18407 : List (List Int)) (x18408 : Int) : Option (Int) :=
  (same (List.length x18405) 36).bind fun (v18424 : Unit) => (inb x18406 6).bind fun (v18425 : Nat) => (same (List.length ((x18405.drop (v18425 * 6)).take 6)) 6).bind fun (v18427 : Unit) => (idx ((x18405.drop (v18425 * 6)).take 6) x18404).bind fun (v18428 : Int × Int × Unit) => (idx x18407 (IntKind.wrap .i64 (x18404 - 1))).bind fun (v18434 : List Int) => (idx v18434 x18408).bind fun (v18435 : Int) => (impl_partTable_between x18405 x18404 x18408).bind fun (v18437 : Int) => some (IntKind.wrap .i64 ((IntKind.wrap .i64 (((v18428.2).1) + v18435)) + v18437))

@[irreducible] def impl_partTable_joined_2 (x18404 : Int) (x18405 : List (Int × Int × Unit)) (x18406 : Int) (x18407 : List (List Int)) (x18408 : Int) : Option (Int) :=
  impl_partTable_joined_2_n1 x18404 x18405 x18406 x18407 x18408

def impl_greatest_v3_n1 : Option (Unit) :=
  some ()

def impl_greatest_v3_n2 : Option (Unit) :=
  some ()

def impl_greatest_v3_n3 (x18397 : Int) (x18398 : List (Int × Int × Unit)) (x18399 : Int) (x18400 : List (List Int)) (x18401 : Int) (x18445 : Int) (x18446 : Int) : Option ((Int × Int) ⊕ Int) :=
  cond (decide (x18446 ≤ x18397)) ((impl_partTable_joined_2 x18446 x18398 x18399 x18400 x18401).bind fun (v18452 : Int) => some (Sum.inl ((imax x18445 v18452), (IntKind.wrap .i64 (x18446 + 1))))) (some (Sum.inr x18445))

def impl_greatest_v3_n4 (x18397 : Int) (x18398 : List (Int × Int × Unit)) (x18399 : Int) (x18400 : List (List Int)) (x18401 : Int) (x18396 : Int) : Option (Int) :=
  nloop (fun (s : Int × Int) => ((impl_greatest_v3_n3 x18397 x18398 x18399 x18400 x18401 s.1 s.2).map (Sum.elim (fun (t : Int × Int) => Sum.inl (t.1, t.2)) (fun (t : Int) => Sum.inr t)) : Option ((Int × Int) ⊕ (Int)))) LL (0, x18396)

def impl_greatest_v3_n5 (x18397 : Int) (x18398 : List (Int × Int × Unit)) (x18399 : Int) (x18400 : List (List Int)) (x18401 : Int) (x18396 : Int) : Option (Int) :=
  (impl_greatest_v3_n4 x18397 x18398 x18399 x18400 x18401 x18396).map (fun (t : Int) => t)

def impl_greatest_v3_n6 (x18396 : Int) (x18397 : Int) (x18398 : List (Int × Int × Unit)) (x18399 : Int) (x18400 : List (List Int)) (x18401 : Int) : Option (Int) :=
  (impl_greatest_v3_n2).bind (fun (t : Unit) => impl_greatest_v3_n5 x18397 x18398 x18399 x18400 x18401 x18396)

def impl_greatest_v3_n7 (x18445 : Int) : Option (Int) :=
  some x18445

def impl_greatest_v3_n8 (x18396 : Int) (x18397 : Int) (x18398 : List (Int × Int × Unit)) (x18399 : Int) (x18400 : List (List Int)) (x18401 : Int) : Option (Int) :=
  (impl_greatest_v3_n6 x18396 x18397 x18398 x18399 x18400 x18401).bind (fun (t : Int) => impl_greatest_v3_n7 t)

def impl_greatest_v3_n9 (x18396 : Int) (x18397 : Int) (x18398 : List (Int × Int × Unit)) (x18399 : Int) (x18400 : List (List Int)) (x18401 : Int) : Option (Int) :=
  (impl_greatest_v3_n1).bind (fun (t : Unit) => impl_greatest_v3_n8 x18396 x18397 x18398 x18399 x18400 x18401)

@[irreducible] def impl_greatest_v3 (x18396 : Int) (x18397 : Int) (x18398 : List (Int × Int × Unit)) (x18399 : Int) (x18400 : List (List Int)) (x18401 : Int) : Option (Int) :=
  impl_greatest_v3_n9 x18396 x18397 x18398 x18399 x18400 x18401

def impl_partTable_joined_n1 (x18256 : List (Int × Int × Unit)) (x18257 : List (List Int)) (x18258 : Int) (x18259 : Int) : Option ((Int × Int)) :=
  (impl_greatest (IntKind.wrap .i64 (x18258 + 1)) x18259 x18256 x18258 x18257 x18259).bind fun (v18458 : Int) => (impl_greatest_v3 x18258 (IntKind.wrap .i64 (x18259 - 1)) x18256 x18258 x18257 x18259).bind fun (v18459 : Int) => some (v18458, v18459)

@[irreducible] def impl_partTable_joined (x18256 : List (Int × Int × Unit)) (x18257 : List (List Int)) (x18258 : Int) (x18259 : Int) : Option (Int × Int) :=
  impl_partTable_joined_n1 x18256 x18257 x18258 x18259

def impl_bestParts_n1 : Option (Unit) :=
  some ()

def impl_bestParts_n2 : Option (Unit) :=
  some ()

def impl_bestParts_n3 (x18247 : List (List Int)) (x18548 : Int) (x18549 : List (Int × Int × Unit)) : Option (Unit ⊕ ((List (Int × Int × Unit)))) :=
  cond (decide (x18548 ≤ (((List.length x18247 : Nat) : Int)))) (some (Sum.inl ())) (some (Sum.inr x18549))

def impl_bestParts_n4 (x18548 : Int) : Option (Int) :=
  some (IntKind.wrap .i64 (x18548 - 1))

def impl_bestParts_n5 (x18247 : List (List Int)) (x18548 : Int) (x18591 : Int) (x18592 : List (Int × Int × Unit)) : Option ((Int × (List (Int × Int × Unit))) ⊕ ((List (Int × Int × Unit)))) :=
  cond (decide (x18591 ≥ 1)) ((same (List.length x18592) 36).bind fun (v18613 : Unit) => (inb x18591 6).bind fun (v18614 : Nat) => (impl_partTable_joined x18592 x18247 x18591 x18548).bind fun (v18616 : Int × Int) => (sure (Nat.ble ((v18614 * 6) + 6) (List.length x18592))).bind fun (v18619 : Unit) => (inb x18548 6).bind fun (v18620 : Nat) => ((x18592)[((v18614 * 6) + v18620)]?).bind fun (v18622 : Int × Int × Unit) => some (Sum.inl ((IntKind.wrap .i64 (x18591 - 1)), ((x18592).set ((v18614 * 6) + v18620) ((v18616.1), ((v18616.2), ())))))) (some (Sum.inr x18592))

def impl_bestParts_n6 (x18247 : List (List Int)) (x18548 : Int) (x18552 : Int) (x18549 : List (Int × Int × Unit)) : Option (((List (Int × Int × Unit)))) :=
  nloop (fun (s : Int × (List (Int × Int × Unit))) => ((impl_bestParts_n5 x18247 x18548 s.1 s.2).map (Sum.elim (fun (t : Int × (List (Int × Int × Unit))) => Sum.inl (t.1, t.2)) (fun (t : (List (Int × Int × Unit))) => Sum.inr t)) : Option ((Int × (List (Int × Int × Unit))) ⊕ (((List (Int × Int × Unit))))))) LL (x18552, x18549)

def impl_bestParts_n7 (x18247 : List (List Int)) (x18548 : Int) (x18552 : Int) (x18549 : List (Int × Int × Unit)) : Option (((List (Int × Int × Unit)))) :=
  (impl_bestParts_n6 x18247 x18548 x18552 x18549).map (fun (t : (List (Int × Int × Unit))) => t)

def impl_bestParts_n8 (x18247 : List (List Int)) (x18548 : Int) (x18549 : List (Int × Int × Unit)) : Option (((List (Int × Int × Unit)))) :=
  (impl_bestParts_n4 x18548).bind (fun (t : Int) => impl_bestParts_n7 x18247 x18548 t x18549)

def impl_bestParts_n9 (x18247 : List (List Int)) (x18548 : Int) (x18549 : List (Int × Int × Unit)) : Option (((List (Int × Int × Unit)))) :=
  (impl_bestParts_n8 x18247 x18548 x18549).map (fun (t : (List (Int × Int × Unit))) => t)

def impl_bestParts_n10 (x18548 : Int) : Option (Int) :=
  some (IntKind.wrap .i64 (x18548 + 1))

def impl_bestParts_n11 (x18247 : List (List Int)) (x18548 : Int) (x18549 : List (Int × Int × Unit)) : Option ((Int × (List (Int × Int × Unit)))) :=
  (impl_bestParts_n9 x18247 x18548 x18549).bind (fun (t : (List (Int × Int × Unit))) => (impl_bestParts_n10 x18548).map (fun (u : Int) => (u, t)))

def impl_bestParts_n12 (x18247 : List (List Int)) (x18548 : Int) (x18549 : List (Int × Int × Unit)) : Option ((Int × (List (Int × Int × Unit))) ⊕ ((List (Int × Int × Unit)))) :=
  (impl_bestParts_n3 x18247 x18548 x18549).bind (Sum.elim (fun (t : Unit) => (impl_bestParts_n11 x18247 x18548 x18549).map (fun (t : Int × (List (Int × Int × Unit))) => (Sum.inl (t.1, t.2)))) (fun e => some ((fun (t : (List (Int × Int × Unit))) => (Sum.inr t)) e)))

def impl_bestParts_n13 (x18247 : List (List Int)) : Option (((List (Int × Int × Unit)))) :=
  nloop (fun (s : Int × (List (Int × Int × Unit))) => ((impl_bestParts_n12 x18247 s.1 s.2).map (Sum.elim (fun (t : Int × (List (Int × Int × Unit))) => Sum.inl (t.1, t.2)) (fun (t : (List (Int × Int × Unit))) => Sum.inr t)) : Option ((Int × (List (Int × Int × Unit))) ⊕ (((List (Int × Int × Unit))))))) LL (2, (List.replicate 36 ((0 : Int), ((0 : Int), ()))))

def impl_bestParts_n14 (x18247 : List (List Int)) : Option (((List (Int × Int × Unit)))) :=
  (impl_bestParts_n13 x18247).map (fun (t : (List (Int × Int × Unit))) => t)

def impl_bestParts_n15 (x18247 : List (List Int)) : Option (((List (Int × Int × Unit)))) :=
  (impl_bestParts_n2).bind (fun (t : Unit) => impl_bestParts_n14 x18247)

def impl_bestParts_n16 (x18549 : List (Int × Int × Unit)) : Option (((List (Int × Int × Unit)))) :=
  some x18549

def impl_bestParts_n17 (x18247 : List (List Int)) : Option (((List (Int × Int × Unit)))) :=
  (impl_bestParts_n15 x18247).bind (fun (t : (List (Int × Int × Unit))) => impl_bestParts_n16 t)

def impl_bestParts_n18 (x18247 : List (List Int)) : Option (((List (Int × Int × Unit)))) :=
  (impl_bestParts_n1).bind (fun (t : Unit) => impl_bestParts_n17 x18247)

@[irreducible] def impl_bestParts (x18247 : List (List Int)) : Option ((List (Int × Int × Unit))) :=
  impl_bestParts_n18 x18247

def impl_BestFlat_1_n1 (x18654 : Int) (x18655 : List (Int × Int × Unit)) (x18656 : List (List Int)) (x18657 : Int) : Option (Int) :=
  (same (List.length x18655) 36).bind fun (v18681 : Unit) => (inb 1 6).bind fun (v18682 : Nat) => (same (List.length ((x18655.drop (v18682 * 6)).take 6)) 6).bind fun (v18684 : Unit) => (idx ((x18655.drop (v18682 * 6)).take 6) x18654).bind fun (v18685 : Int × Int × Unit) => (idx x18656 (IntKind.wrap .i64 (x18654 - 1))).bind fun (v18691 : List Int) => (idx v18691 0).bind fun (v18692 : Int) => (same (List.length x18655) 36).bind fun (v18694 : Unit) => (inb x18654 6).bind fun (v18695 : Nat) => (same (List.length ((x18655.drop (v18695 * 6)).take 6)) 6).bind fun (v18697 : Unit) => (idx ((x18655.drop (v18695 * 6)).take 6) x18657).bind fun (v18698 : Int × Int × Unit) => some (IntKind.wrap .i64 ((IntKind.wrap .i64 (((v18685.2).1) + v18692)) + (v18698.1)))

@[irreducible] def impl_BestFlat_1 (x18654 : Int) (x18655 : List (Int × Int × Unit)) (x18656 : List (List Int)) (x18657 : Int) : Option (Int) :=
  impl_BestFlat_1_n1 x18654 x18655 x18656 x18657

def impl_greatest_v4_n1 : Option (Unit) :=
  some ()

def impl_greatest_v4_n2 : Option (Unit) :=
  some ()

def impl_greatest_v4_n3 (x18648 : Int) (x18649 : List (Int × Int × Unit)) (x18650 : List (List Int)) (x18651 : Int) (x18710 : Int) (x18711 : Int) : Option ((Int × Int) ⊕ Int) :=
  cond (decide (x18711 ≤ x18648)) ((impl_BestFlat_1 x18711 x18649 x18650 x18651).bind fun (v18717 : Int) => some (Sum.inl ((imax x18710 v18717), (IntKind.wrap .i64 (x18711 + 1))))) (some (Sum.inr x18710))

def impl_greatest_v4_n4 (x18648 : Int) (x18649 : List (Int × Int × Unit)) (x18650 : List (List Int)) (x18651 : Int) (x18647 : Int) : Option (Int) :=
  nloop (fun (s : Int × Int) => ((impl_greatest_v4_n3 x18648 x18649 x18650 x18651 s.1 s.2).map (Sum.elim (fun (t : Int × Int) => Sum.inl (t.1, t.2)) (fun (t : Int) => Sum.inr t)) : Option ((Int × Int) ⊕ (Int)))) LL (0, x18647)

def impl_greatest_v4_n5 (x18648 : Int) (x18649 : List (Int × Int × Unit)) (x18650 : List (List Int)) (x18651 : Int) (x18647 : Int) : Option (Int) :=
  (impl_greatest_v4_n4 x18648 x18649 x18650 x18651 x18647).map (fun (t : Int) => t)

def impl_greatest_v4_n6 (x18647 : Int) (x18648 : Int) (x18649 : List (Int × Int × Unit)) (x18650 : List (List Int)) (x18651 : Int) : Option (Int) :=
  (impl_greatest_v4_n2).bind (fun (t : Unit) => impl_greatest_v4_n5 x18648 x18649 x18650 x18651 x18647)

def impl_greatest_v4_n7 (x18710 : Int) : Option (Int) :=
  some x18710

def impl_greatest_v4_n8 (x18647 : Int) (x18648 : Int) (x18649 : List (Int × Int × Unit)) (x18650 : List (List Int)) (x18651 : Int) : Option (Int) :=
  (impl_greatest_v4_n6 x18647 x18648 x18649 x18650 x18651).bind (fun (t : Int) => impl_greatest_v4_n7 t)

def impl_greatest_v4_n9 (x18647 : Int) (x18648 : Int) (x18649 : List (Int × Int × Unit)) (x18650 : List (List Int)) (x18651 : Int) : Option (Int) :=
  (impl_greatest_v4_n1).bind (fun (t : Unit) => impl_greatest_v4_n8 x18647 x18648 x18649 x18650 x18651)

@[irreducible] def impl_greatest_v4 (x18647 : Int) (x18648 : Int) (x18649 : List (Int × Int × Unit)) (x18650 : List (List Int)) (x18651 : Int) : Option (Int) :=
  impl_greatest_v4_n9 x18647 x18648 x18649 x18650 x18651

def impl_BestFlat_n1 (x18241 : List (List Int)) : Option (Int) :=
  (impl_ScoresOk x18241).bind fun (v18721 : Bool) => cond (!v18721) (some (-1)) ((impl_bestParts x18241).bind fun (v18724 : List (Int × Int × Unit)) => (impl_greatest_v4 1 (((List.length x18241 : Nat) : Int)) v18724 x18241 (((List.length x18241 : Nat) : Int))).bind fun (v18725 : Int) => some v18725)

@[irreducible] def impl_BestFlat (x18241 : List (List Int)) : Option (Int) :=
  impl_BestFlat_n1 x18241

def laws_FnBestScore_n1 (x17597 : List Int) : Option (Bool) :=
  cond (decide ((((List.length x17597 : Nat) : Int)) > 1048576)) (some true) ((spec_DrawBestScore x17597).bind fun (v18748 : List (List Int)) => (impl_BestScore v18748).bind fun (v18749 : Int) => (spec_BestScore v18748).bind fun (v18750 : Int) => cond (v18749 != v18750) (some false) (cond (decide (v18749 < 0)) (cond (v18749 == (-1)) ((impl_ScoresOk v18748).bind fun (v18754 : Bool) => cond (!v18754) ((laws_alive).bind fun (v18756 : Bool) => some v18756) (some false)) (some false)) ((impl_BestFlat v18748).bind fun (v18757 : Int) => cond (decide (v18749 ≥ v18757)) (cond (decide ((((List.length v18748 : Nat) : Int)) > 2)) ((laws_alive).bind fun (v18761 : Bool) => some v18761) (cond (v18749 == v18757) ((laws_alive).bind fun (v18763 : Bool) => some v18763) (some false))) (some false))))

@[irreducible] def laws_FnBestScore (x17597 : List Int) : Option (Bool) :=
  laws_FnBestScore_n1 x17597

def spec_l9Tree_n1 (R0 : (List (List Int)) → Int → Int → Int → Option Int) (R1 : (List (List Int)) → Int → Int → Int → Option Int) : Option (Unit) :=
  some ()

def spec_l9Tree_n2 (R0 : (List (List Int)) → Int → Int → Int → Option Int) (R1 : (List (List Int)) → Int → Int → Int → Option Int) : Option (Unit) :=
  some ()

def spec_l9Tree_n3 (R0 : (List (List Int)) → Int → Int → Int → Option Int) (R1 : (List (List Int)) → Int → Int → Int → Option Int) (x18795 : List (List Int)) (x18796 : Int) (x18797 : Int) (x18798 : Int) (x18931 : Int) (x18932 : Int) : Option ((Int × Int) ⊕ Int) :=
  cond (decide (x18932 ≤ x18797)) ((idx x18795 (IntKind.wrap .i64 (x18932 - 1))).bind fun (v18947 : List Int) => (idx v18947 x18798).bind fun (v18948 : Int) => (R1 x18795 x18796 (IntKind.wrap .i64 (x18932 - 1)) x18932).bind fun (v18951 : Int) => (R1 x18795 (IntKind.wrap .i64 (x18932 + 1)) x18797 x18932).bind fun (v18953 : Int) => some (Sum.inl ((imax x18931 (IntKind.wrap .i64 ((IntKind.wrap .i64 (v18948 + v18951)) + v18953))), (IntKind.wrap .i64 (x18932 + 1))))) (some (Sum.inr x18931))

def spec_l9Tree_n4 (R0 : (List (List Int)) → Int → Int → Int → Option Int) (R1 : (List (List Int)) → Int → Int → Int → Option Int) (x18795 : List (List Int)) (x18796 : Int) (x18797 : Int) (x18798 : Int) : Option (Int) :=
  nloop (fun (s : Int × Int) => ((spec_l9Tree_n3 R0 R1 x18795 x18796 x18797 x18798 s.1 s.2).map (Sum.elim (fun (t : Int × Int) => Sum.inl (t.1, t.2)) (fun (t : Int) => Sum.inr t)) : Option ((Int × Int) ⊕ (Int)))) LL ((-1), x18796)

def spec_l9Tree_n5 (R0 : (List (List Int)) → Int → Int → Int → Option Int) (R1 : (List (List Int)) → Int → Int → Int → Option Int) (x18795 : List (List Int)) (x18796 : Int) (x18797 : Int) (x18798 : Int) : Option (Int) :=
  (spec_l9Tree_n4 R0 R1 x18795 x18796 x18797 x18798).map (fun (t : Int) => t)

def spec_l9Tree_n6 (R0 : (List (List Int)) → Int → Int → Int → Option Int) (R1 : (List (List Int)) → Int → Int → Int → Option Int) (x18795 : List (List Int)) (x18796 : Int) (x18797 : Int) (x18798 : Int) : Option (Int) :=
  (spec_l9Tree_n2 R0 R1).bind (fun (t : Unit) => spec_l9Tree_n5 R0 R1 x18795 x18796 x18797 x18798)

def spec_l9Tree_n7 (R0 : (List (List Int)) → Int → Int → Int → Option Int) (R1 : (List (List Int)) → Int → Int → Int → Option Int) (x18931 : Int) : Option (Int) :=
  some x18931

def spec_l9Tree_n8 (R0 : (List (List Int)) → Int → Int → Int → Option Int) (R1 : (List (List Int)) → Int → Int → Int → Option Int) (x18795 : List (List Int)) (x18796 : Int) (x18797 : Int) (x18798 : Int) : Option (Int) :=
  (spec_l9Tree_n6 R0 R1 x18795 x18796 x18797 x18798).bind (fun (t : Int) => spec_l9Tree_n7 R0 R1 t)

def spec_l9Tree_n9 (R0 : (List (List Int)) → Int → Int → Int → Option Int) (R1 : (List (List Int)) → Int → Int → Int → Option Int) (x18795 : List (List Int)) (x18796 : Int) (x18797 : Int) (x18798 : Int) : Option (Int) :=
  (spec_l9Tree_n1 R0 R1).bind (fun (t : Unit) => spec_l9Tree_n8 R0 R1 x18795 x18796 x18797 x18798)

def spec_l9Tree_one (R0 : (List (List Int)) → Int → Int → Int → Option Int) (R1 : (List (List Int)) → Int → Int → Int → Option Int) (x18795 : List (List Int)) (x18796 : Int) (x18797 : Int) (x18798 : Int) : Option (Int) :=
  spec_l9Tree_n9 R0 R1 x18795 x18796 x18797 x18798

def spec_l9Row_n1 (R0 : (List (List Int)) → Int → Int → Int → Option Int) (R1 : (List (List Int)) → Int → Int → Int → Option Int) (x18871 : Int) (x18872 : Int) : Option (Unit ⊕ Int) :=
  cond (decide (x18871 > x18872)) (some (Sum.inr 0)) (some (Sum.inl ()))

def spec_l9Row_n2 (R0 : (List (List Int)) → Int → Int → Int → Option Int) (R1 : (List (List Int)) → Int → Int → Int → Option Int) : Option (Unit) :=
  some ()

def spec_l9Row_n3 (R0 : (List (List Int)) → Int → Int → Int → Option Int) (R1 : (List (List Int)) → Int → Int → Int → Option Int) (x18870 : List (List Int)) (x18871 : Int) (x18872 : Int) (x18873 : Int) (x18897 : Int) (x18898 : Int) : Option ((Int × Int) ⊕ Int) :=
  cond (decide (x18898 ≤ x18872)) ((R0 x18870 x18871 x18898 x18873).bind fun (v18907 : Int) => (R1 x18870 (IntKind.wrap .i64 (x18898 + 1)) x18872 x18873).bind fun (v18909 : Int) => some (Sum.inl ((imax x18897 (IntKind.wrap .i64 (v18907 + v18909))), (IntKind.wrap .i64 (x18898 + 1))))) (some (Sum.inr x18897))

def spec_l9Row_n4 (R0 : (List (List Int)) → Int → Int → Int → Option Int) (R1 : (List (List Int)) → Int → Int → Int → Option Int) (x18870 : List (List Int)) (x18871 : Int) (x18872 : Int) (x18873 : Int) : Option (Int) :=
  nloop (fun (s : Int × Int) => ((spec_l9Row_n3 R0 R1 x18870 x18871 x18872 x18873 s.1 s.2).map (Sum.elim (fun (t : Int × Int) => Sum.inl (t.1, t.2)) (fun (t : Int) => Sum.inr t)) : Option ((Int × Int) ⊕ (Int)))) LL ((-1), x18871)

def spec_l9Row_n5 (R0 : (List (List Int)) → Int → Int → Int → Option Int) (R1 : (List (List Int)) → Int → Int → Int → Option Int) (x18870 : List (List Int)) (x18871 : Int) (x18872 : Int) (x18873 : Int) : Option (Int) :=
  (spec_l9Row_n4 R0 R1 x18870 x18871 x18872 x18873).map (fun (t : Int) => t)

def spec_l9Row_n6 (R0 : (List (List Int)) → Int → Int → Int → Option Int) (R1 : (List (List Int)) → Int → Int → Int → Option Int) (x18870 : List (List Int)) (x18871 : Int) (x18872 : Int) (x18873 : Int) : Option (Int) :=
  (spec_l9Row_n2 R0 R1).bind (fun (t : Unit) => spec_l9Row_n5 R0 R1 x18870 x18871 x18872 x18873)

def spec_l9Row_n7 (R0 : (List (List Int)) → Int → Int → Int → Option Int) (R1 : (List (List Int)) → Int → Int → Int → Option Int) (x18897 : Int) : Option (Int) :=
  some x18897

def spec_l9Row_n8 (R0 : (List (List Int)) → Int → Int → Int → Option Int) (R1 : (List (List Int)) → Int → Int → Int → Option Int) (x18870 : List (List Int)) (x18871 : Int) (x18872 : Int) (x18873 : Int) : Option (Int) :=
  (spec_l9Row_n6 R0 R1 x18870 x18871 x18872 x18873).bind (fun (t : Int) => spec_l9Row_n7 R0 R1 t)

def spec_l9Row_n9 (R0 : (List (List Int)) → Int → Int → Int → Option Int) (R1 : (List (List Int)) → Int → Int → Int → Option Int) (x18870 : List (List Int)) (x18871 : Int) (x18872 : Int) (x18873 : Int) : Option (Int) :=
  (spec_l9Row_n1 R0 R1 x18871 x18872).bind (Sum.elim (fun (t : Unit) => spec_l9Row_n8 R0 R1 x18870 x18871 x18872 x18873) (fun e => some ((fun (t : Int) => t) e)))

def spec_l9Row_one (R0 : (List (List Int)) → Int → Int → Int → Option Int) (R1 : (List (List Int)) → Int → Int → Int → Option Int) (x18870 : List (List Int)) (x18871 : Int) (x18872 : Int) (x18873 : Int) : Option (Int) :=
  spec_l9Row_n9 R0 R1 x18870 x18871 x18872 x18873

def spec_l9Tree_knot : Nat → ((List (List Int)) → Int → Int → Int → Option Int) × ((List (List Int)) → Int → Int → Int → Option Int)
  | 0 => ((fun _ _ _ _ => none), (fun _ _ _ _ => none))
  | n + 1 => ((fun y0 y1 y2 y3 => spec_l9Tree_one (spec_l9Tree_knot n).1 (spec_l9Tree_knot n).2 y0 y1 y2 y3), (fun y0 y1 y2 y3 => spec_l9Row_one (spec_l9Tree_knot n).1 (spec_l9Tree_knot n).2 y0 y1 y2 y3))

def spec_l9Tree_fuel (n : Nat) : (List (List Int)) → Int → Int → Int → Option Int := (spec_l9Tree_knot n).1

@[irreducible] def spec_l9Tree (x18795 : List (List Int)) (x18796 : Int) (x18797 : Int) (x18798 : Int) : Option (Int) := spec_l9Tree_fuel RR x18795 x18796 x18797 x18798

end Go.Rv
