/-
  Plain functions, written by program for functions of the checked code. Conditions: none.
-/
import Derived.Test.YteefjoepogdgpaaFB
set_option linter.unusedVariables false
namespace Go.Rv
def spec_l20Open_n1 (x16521 : List Int) : Option (((List Int))) :=
  cond (decide ((((List.length x16521 : Nat) : Int)) > 2000)) ((inc 2000 (List.length x16521)).bind fun (v16535 : Nat) => some ((x16521.take v16535).drop 0)) (some x16521)

@[irreducible] def spec_l20Open (x16521 : List Int) : Option ((List Int)) :=
  spec_l20Open_n1 x16521

def spec_l20Rd_pick_n1 (x16542 : Int) (x16543 : List Int) (x16544 : Int) : Option ((Int × Int)) :=
  cond (decide (x16542 < 1)) (some (0, (IntKind.wrap .i64 (x16544 + 1)))) (cond ((((List.length x16543 : Nat) : Int)) == 0) (some (0, (IntKind.wrap .i64 (x16544 + 1)))) (cond (decide ((IntKind.wrap .i64 ((IntKind.wrap .i64 (x16544 + 1)) - 1)) < (((List.length x16543 : Nat) : Int)))) ((idx x16543 (IntKind.wrap .i64 ((IntKind.wrap .i64 (x16544 + 1)) - 1))).bind fun (v16664 : Int) => (rem (IntKind.wrap .i64 v16664) x16542).bind fun (v16666 : Int) => some (v16666, (IntKind.wrap .i64 (x16544 + 1)))) ((rem (IntKind.wrap .i64 ((IntKind.wrap .i64 (x16544 + 1)) - 1)) (((List.length x16543 : Nat) : Int))).bind fun (v16668 : Int) => (idx x16543 v16668).bind fun (v16669 : Int) => (rem (IntKind.wrap .i64 ((IntKind.wrap .i64 ((IntKind.wrap .i64 ((IntKind.wrap .i64 (x16544 + 1)) - 1)) * 7)) + 3)) (((List.length x16543 : Nat) : Int))).bind fun (v16675 : Int) => (idx x16543 v16675).bind fun (v16676 : Int) => (quo .i64 (IntKind.wrap .i64 ((IntKind.wrap .i64 (x16544 + 1)) - 1)) (((List.length x16543 : Nat) : Int))).bind fun (v16683 : Int) => (quo .i64 (IntKind.wrap .i64 ((IntKind.wrap .i64 ((IntKind.wrap .i64 ((IntKind.wrap .i64 ((IntKind.wrap .i64 v16669) * 131)) + (IntKind.wrap .i64 ((IntKind.wrap .i64 v16676) * 1117)))) + (IntKind.wrap .i64 ((IntKind.wrap .i64 ((IntKind.wrap .i64 (x16544 + 1)) - 1)) * 29)))) + (IntKind.wrap .i64 (v16683 * 53)))) 64).bind fun (v16686 : Int) => (rem (ixor .i64 (IntKind.wrap .i64 ((IntKind.wrap .i64 ((IntKind.wrap .i64 ((IntKind.wrap .i64 ((IntKind.wrap .i64 v16669) * 131)) + (IntKind.wrap .i64 ((IntKind.wrap .i64 v16676) * 1117)))) + (IntKind.wrap .i64 ((IntKind.wrap .i64 ((IntKind.wrap .i64 (x16544 + 1)) - 1)) * 29)))) + (IntKind.wrap .i64 (v16683 * 53)))) v16686) x16542).bind fun (v16688 : Int) => some (v16688, (IntKind.wrap .i64 (x16544 + 1))))))

@[irreducible] def spec_l20Rd_pick (x16542 : Int) (x16543 : List Int) (x16544 : Int) : Option (Int × Int) :=
  spec_l20Rd_pick_n1 x16542 x16543 x16544

def spec_l20Rd_odd_n1 (x16818 : Int) (x16819 : List Int) (x16820 : Int) : Option ((Bool × Int)) :=
  cond (decide (x16818 > 0)) ((spec_l20Rd_pick x16818 x16819 x16820).bind fun (v16828 : Int × Int) => some (((v16828.1) == (IntKind.wrap .i64 (x16818 - 1))), (v16828.2))) (some (false, x16820))

@[irreducible] def spec_l20Rd_odd (x16818 : Int) (x16819 : List Int) (x16820 : Int) : Option (Bool × Int) :=
  spec_l20Rd_odd_n1 x16818 x16819 x16820

def spec_l20Scores_n1 (x16540 : List Int) (x16541 : Int) : Option ((Int × Int × Int)) :=
  (spec_l20Rd_pick 4 x16540 x16541).bind fun (v16883 : Int × Int) => (spec_l20Rd_pick 6 x16540 (v16883.2)).bind fun (v16887 : Int × Int) => (quo .i64 (v16887.1) 5).bind fun (v16890 : Int) => (spec_l20Rd_pick 3 x16540 (v16887.2)).bind fun (v16893 : Int × Int) => (inb (v16893.1) (List.length ([3, 10, 21]))).bind fun (v16896 : Nat) => (([3, 10, 21])[v16896]?).bind fun (v16897 : Int) => some ((IntKind.wrap .i64 ((IntKind.wrap .i64 (1 + (v16883.1))) + v16890)), v16897, (v16893.2))

def spec_l20Scores_n2 : Option (Unit) :=
  some ()

def spec_l20Scores_n3 (x16891 : Int) (x16941 : Int) (x16942 : Int) (x16943 : List (List Int)) : Option (Unit ⊕ (Int × (List (List Int)))) :=
  cond (decide (x16941 < x16891)) (some (Sum.inl ())) (some (Sum.inr (x16942, x16943)))

def spec_l20Scores_n4 : Option (Unit) :=
  some ()

def spec_l20Scores_n5 : Option (Unit) :=
  some ()

def spec_l20Scores_n6 (x16891 : Int) (x16897 : Int) (x16963 : Int) (x16540 : List Int) (x16964 : Int) (x16965 : List Int) : Option ((Int × Int × (List Int)) ⊕ (Int × (List Int))) :=
  cond (decide (x16963 ≤ x16891)) ((spec_l20Rd_pick x16897 x16540 x16964).bind fun (v16976 : Int × Int) => (room ((List.length x16965) + List.length ([(v16976.1)]))).bind fun (v16981 : Unit) => some (Sum.inl ((IntKind.wrap .i64 (x16963 + 1)), (v16976.2), (x16965 ++ ([(v16976.1)]))))) (some (Sum.inr (x16964, x16965)))

def spec_l20Scores_n7 (x16891 : Int) (x16897 : Int) (x16540 : List Int) (x16942 : Int) : Option ((Int × (List Int))) :=
  nloop (fun (s : Int × Int × (List Int)) => ((spec_l20Scores_n6 x16891 x16897 s.1 x16540 s.2.1 s.2.2).map (Sum.elim (fun (t : Int × Int × (List Int)) => Sum.inl (t.1, t.2.1, t.2.2)) (fun (t : Int × (List Int)) => Sum.inr t)) : Option ((Int × Int × (List Int)) ⊕ ((Int × (List Int)))))) LL (0, x16942, ([] : List Int))

def spec_l20Scores_n8 (x16891 : Int) (x16897 : Int) (x16540 : List Int) (x16942 : Int) : Option ((Int × (List Int))) :=
  (spec_l20Scores_n7 x16891 x16897 x16540 x16942).map (fun (t : Int × (List Int)) => (t.1, t.2))

def spec_l20Scores_n9 (x16891 : Int) (x16897 : Int) (x16540 : List Int) (x16942 : Int) : Option ((Int × (List Int))) :=
  (spec_l20Scores_n5).bind (fun (t : Unit) => spec_l20Scores_n8 x16891 x16897 x16540 x16942)

def spec_l20Scores_n10 (x16943 : List (List Int)) (x16965 : List Int) : Option (((List (List Int)))) :=
  (room (List.length x16943 + 1)).bind fun (v16984 : Unit) => some ((x16943 ++ [[]]).set (List.length x16943) x16965)

def spec_l20Scores_n11 (x16891 : Int) (x16897 : Int) (x16540 : List Int) (x16942 : Int) (x16943 : List (List Int)) : Option ((Int × (List (List Int)))) :=
  (spec_l20Scores_n9 x16891 x16897 x16540 x16942).bind (fun (t : Int × (List Int)) => (spec_l20Scores_n10 x16943 t.2).map (fun (u : (List (List Int))) => (t.1, u)))

def spec_l20Scores_n12 (x16891 : Int) (x16897 : Int) (x16540 : List Int) (x16942 : Int) (x16943 : List (List Int)) : Option ((Int × (List (List Int)))) :=
  (spec_l20Scores_n4).bind (fun (t : Unit) => spec_l20Scores_n11 x16891 x16897 x16540 x16942 x16943)

def spec_l20Scores_n13 (x16891 : Int) (x16897 : Int) (x16540 : List Int) (x16942 : Int) (x16943 : List (List Int)) : Option ((Int × (List (List Int)))) :=
  (spec_l20Scores_n12 x16891 x16897 x16540 x16942 x16943).map (fun (t : Int × (List (List Int))) => (t.1, t.2))

def spec_l20Scores_n14 (x16941 : Int) : Option (Int) :=
  some (IntKind.wrap .i64 (x16941 + 1))

def spec_l20Scores_n15 (x16891 : Int) (x16897 : Int) (x16941 : Int) (x16540 : List Int) (x16942 : Int) (x16943 : List (List Int)) : Option ((Int × Int × (List (List Int)))) :=
  (spec_l20Scores_n13 x16891 x16897 x16540 x16942 x16943).bind (fun (t : Int × (List (List Int))) => (spec_l20Scores_n14 x16941).map (fun (u : Int) => (u, t.1, t.2)))

def spec_l20Scores_n16 (x16891 : Int) (x16897 : Int) (x16941 : Int) (x16540 : List Int) (x16942 : Int) (x16943 : List (List Int)) : Option ((Int × Int × (List (List Int))) ⊕ (Int × (List (List Int)))) :=
  (spec_l20Scores_n3 x16891 x16941 x16942 x16943).bind (Sum.elim (fun (t : Unit) => (spec_l20Scores_n15 x16891 x16897 x16941 x16540 x16942 x16943).map (fun (t : Int × Int × (List (List Int))) => (Sum.inl (t.1, t.2.1, t.2.2)))) (fun e => some ((fun (t : Int × (List (List Int))) => (Sum.inr t)) e)))

def spec_l20Scores_n17 (x16891 : Int) (x16897 : Int) (x16540 : List Int) (x16895 : Int) : Option ((Int × (List (List Int)))) :=
  nloop (fun (s : Int × Int × (List (List Int))) => ((spec_l20Scores_n16 x16891 x16897 s.1 x16540 s.2.1 s.2.2).map (Sum.elim (fun (t : Int × Int × (List (List Int))) => Sum.inl (t.1, t.2.1, t.2.2)) (fun (t : Int × (List (List Int))) => Sum.inr t)) : Option ((Int × Int × (List (List Int))) ⊕ ((Int × (List (List Int))))))) LL (0, x16895, ([] : List (List Int)))

def spec_l20Scores_n18 (x16891 : Int) (x16897 : Int) (x16540 : List Int) (x16895 : Int) : Option ((Int × (List (List Int)))) :=
  (spec_l20Scores_n17 x16891 x16897 x16540 x16895).map (fun (t : Int × (List (List Int))) => (t.1, t.2))

def spec_l20Scores_n19 (x16891 : Int) (x16897 : Int) (x16540 : List Int) (x16895 : Int) : Option ((Int × (List (List Int)))) :=
  (spec_l20Scores_n2).bind (fun (t : Unit) => spec_l20Scores_n18 x16891 x16897 x16540 x16895)

def spec_l20Scores_n20 (x16539 : Int) (x16540 : List Int) (x16942 : Int) (x16943 : List (List Int)) : Option ((Int × (List (List Int)))) :=
  (spec_l20Rd_odd x16539 x16540 x16942).bind fun (v17037 : Bool × Int) => cond (v17037.1) ((spec_l20Rd_pick 3 x16540 (v17037.2)).bind fun (v17040 : Int × Int) => cond ((v17040.1) == 0) (some ((v17040.2), ([] : List (List Int)))) (cond ((v17040.1) == 1) ((inb 0 (List.length x16943)).bind fun (v17045 : Nat) => ((x16943)[v17045]?).bind fun (v17046 : List Int) => (inc 1 (List.length v17046)).bind fun (v17049 : Nat) => (inb 0 (List.length ((x16943).set v17045 []))).bind fun (v17051 : Nat) => (within v17051 (List.length ((x16943).set v17045 []))).bind fun (v17053 : Unit) => (same v17045 v17051).bind fun (v17054 : Unit) => some ((v17040.2), ((((x16943).set v17045 [])).set v17051 ((v17046.drop v17049).take ((List.length v17046) - v17049))))) ((inb 0 (List.length x16943)).bind fun (v17056 : Nat) => ((x16943)[v17056]?).bind fun (v17057 : List Int) => (inb 0 (List.length v17057)).bind fun (v17059 : Nat) => some ((v17040.2), ((((x16943).set v17056 [])).set v17056 (v17057.set v17059 (-1))))))) (some ((v17037.2), x16943))

def spec_l20Scores_n21 (x16539 : Int) (x16891 : Int) (x16897 : Int) (x16540 : List Int) (x16895 : Int) : Option ((Int × (List (List Int)))) :=
  (spec_l20Scores_n19 x16891 x16897 x16540 x16895).bind (fun (t : Int × (List (List Int))) => spec_l20Scores_n20 x16539 x16540 t.1 t.2)

def spec_l20Scores_n22 (x16539 : Int) (x16540 : List Int) (x16541 : Int) : Option ((Int × (List (List Int)))) :=
  (spec_l20Scores_n1 x16540 x16541).bind (fun (t : Int × Int × Int) => spec_l20Scores_n21 x16539 t.1 t.2.1 x16540 t.2.2)

@[irreducible] def spec_l20Scores (x16539 : Int) (x16540 : List Int) (x16541 : Int) : Option (Int × (List (List Int))) :=
  spec_l20Scores_n22 x16539 x16540 x16541

def spec_DrawScoresOk_n1 (x16520 : List Int) : Option (((List (List Int)))) :=
  (spec_l20Open x16520).bind fun (v17067 : List Int) => (spec_l20Scores 2 v17067 0).bind fun (v17068 : Int × (List (List Int))) => some (v17068.2)

@[irreducible] def spec_DrawScoresOk (x16520 : List Int) : Option ((List (List Int))) :=
  spec_DrawScoresOk_n1 x16520

def slices_Min_int_int_n1 (x17091 : List Int) : Option (Int) :=
  cond (decide ((((List.length x17091 : Nat) : Int)) < 1)) (none) ((idx x17091 0).bind fun (v17096 : Int) => some v17096)

def slices_Min_int_int_n2 : Option (Unit) :=
  some ()

def slices_Min_int_int_n3 (x17091 : List Int) (x17108 : Int) (x17109 : Int) : Option ((Int × Int) ⊕ Int) :=
  cond (decide (x17109 < (((List.length x17091 : Nat) : Int)))) ((idx x17091 x17109).bind fun (v17118 : Int) => some (Sum.inl ((imin x17108 v17118), (IntKind.wrap .i64 (x17109 + 1))))) (some (Sum.inr x17108))

def slices_Min_int_int_n4 (x17091 : List Int) (x17096 : Int) : Option (Int) :=
  nloop (fun (s : Int × Int) => ((slices_Min_int_int_n3 x17091 s.1 s.2).map (Sum.elim (fun (t : Int × Int) => Sum.inl (t.1, t.2)) (fun (t : Int) => Sum.inr t)) : Option ((Int × Int) ⊕ (Int)))) LL (x17096, 1)

def slices_Min_int_int_n5 (x17091 : List Int) (x17096 : Int) : Option (Int) :=
  (slices_Min_int_int_n4 x17091 x17096).map (fun (t : Int) => t)

def slices_Min_int_int_n6 (x17091 : List Int) (x17096 : Int) : Option (Int) :=
  (slices_Min_int_int_n2).bind (fun (t : Unit) => slices_Min_int_int_n5 x17091 x17096)

def slices_Min_int_int_n7 (x17108 : Int) : Option (Int) :=
  some x17108

def slices_Min_int_int_n8 (x17091 : List Int) (x17096 : Int) : Option (Int) :=
  (slices_Min_int_int_n6 x17091 x17096).bind (fun (t : Int) => slices_Min_int_int_n7 t)

def slices_Min_int_int_n9 (x17091 : List Int) : Option (Int) :=
  (slices_Min_int_int_n1 x17091).bind (fun (t : Int) => slices_Min_int_int_n8 x17091 t)

@[irreducible] def slices_Min_int_int (x17091 : List Int) : Option (Int) :=
  slices_Min_int_int_n9 x17091

def slices_Max_int_int_n1 (x17123 : List Int) : Option (Int) :=
  cond (decide ((((List.length x17123 : Nat) : Int)) < 1)) (none) ((idx x17123 0).bind fun (v17128 : Int) => some v17128)

def slices_Max_int_int_n2 : Option (Unit) :=
  some ()

def slices_Max_int_int_n3 (x17123 : List Int) (x17140 : Int) (x17141 : Int) : Option ((Int × Int) ⊕ Int) :=
  cond (decide (x17141 < (((List.length x17123 : Nat) : Int)))) ((idx x17123 x17141).bind fun (v17150 : Int) => some (Sum.inl ((imax x17140 v17150), (IntKind.wrap .i64 (x17141 + 1))))) (some (Sum.inr x17140))

def slices_Max_int_int_n4 (x17123 : List Int) (x17128 : Int) : Option (Int) :=
  nloop (fun (s : Int × Int) => ((slices_Max_int_int_n3 x17123 s.1 s.2).map (Sum.elim (fun (t : Int × Int) => Sum.inl (t.1, t.2)) (fun (t : Int) => Sum.inr t)) : Option ((Int × Int) ⊕ (Int)))) LL (x17128, 1)

def slices_Max_int_int_n5 (x17123 : List Int) (x17128 : Int) : Option (Int) :=
  (slices_Max_int_int_n4 x17123 x17128).map (fun (t : Int) => t)

def slices_Max_int_int_n6 (x17123 : List Int) (x17128 : Int) : Option (Int) :=
  (slices_Max_int_int_n2).bind (fun (t : Unit) => slices_Max_int_int_n5 x17123 x17128)

def slices_Max_int_int_n7 (x17140 : Int) : Option (Int) :=
  some x17140

def slices_Max_int_int_n8 (x17123 : List Int) (x17128 : Int) : Option (Int) :=
  (slices_Max_int_int_n6 x17123 x17128).bind (fun (t : Int) => slices_Max_int_int_n7 t)

def slices_Max_int_int_n9 (x17123 : List Int) : Option (Int) :=
  (slices_Max_int_int_n1 x17123).bind (fun (t : Int) => slices_Max_int_int_n8 x17123 t)

@[irreducible] def slices_Max_int_int (x17123 : List Int) : Option (Int) :=
  slices_Max_int_int_n9 x17123

def impl_scoreRowOk_n1 (x17086 : List Int) (x17087 : Int) : Option (Bool) :=
  cond ((((List.length x17086 : Nat) : Int)) == (IntKind.wrap .i64 (x17087 + 1))) ((slices_Min_int_int x17086).bind fun (v17158 : Int) => cond (decide (v17158 ≥ 0)) ((slices_Max_int_int x17086).bind fun (v17160 : Int) => some (decide (v17160 ≤ 20))) (some false)) (some false)

@[irreducible] def impl_scoreRowOk (x17086 : List Int) (x17087 : Int) : Option (Bool) :=
  impl_scoreRowOk_n1 x17086 x17087

def impl_ScoresOk_n1 (x17075 : List (List Int)) : Option (Unit ⊕ Bool) :=
  cond (decide ((((List.length x17075 : Nat) : Int)) < 1)) (some (Sum.inr false)) (cond (decide ((((List.length x17075 : Nat) : Int)) > 5)) (some (Sum.inr false)) (some (Sum.inl ())))

def impl_ScoresOk_n2 (x17075 : List (List Int)) : Option (Int) :=
  some (((List.length x17075 : Nat) : Int))

def impl_ScoresOk_n3 (x17075 : List (List Int)) (x17080 : Int) (x17171 : Int) : Option (Int ⊕ Bool ⊕ Unit) :=
  cond (decide (x17171 < x17080)) ((idx x17075 x17171).bind fun (v17180 : List Int) => (impl_scoreRowOk v17180 (((List.length x17075 : Nat) : Int))).bind fun (v17182 : Bool) => cond (!v17182) (some (Sum.inr (Sum.inl false))) (some (Sum.inl (IntKind.wrap .i64 (x17171 + 1))))) (some (Sum.inr (Sum.inr ())))

def impl_ScoresOk_n4 (x17075 : List (List Int)) (x17080 : Int) : Option (Bool ⊕ Unit) :=
  nloop (fun (s : Int) => ((impl_ScoresOk_n3 x17075 x17080 s).map (Sum.elim (fun (t : Int) => Sum.inl t) (Sum.elim (fun (t : Bool) => Sum.inr (Sum.inl t)) (fun (t : Unit) => Sum.inr (Sum.inr t)))) : Option ((Int) ⊕ (Bool ⊕ Unit)))) LL 0

def impl_ScoresOk_n5 (x17075 : List (List Int)) (x17080 : Int) : Option (Unit ⊕ Bool) :=
  (impl_ScoresOk_n4 x17075 x17080).map (Sum.elim (fun (t : Bool) => (Sum.inr t)) (fun (t : Unit) => (Sum.inl ())))

def impl_ScoresOk_n6 (x17075 : List (List Int)) : Option (Unit ⊕ Bool) :=
  (impl_ScoresOk_n2 x17075).bind (fun (t : Int) => impl_ScoresOk_n5 x17075 t)

def impl_ScoresOk_n7 : Option (Bool) :=
  some true

def impl_ScoresOk_n8 (x17075 : List (List Int)) : Option (Bool) :=
  (impl_ScoresOk_n6 x17075).bind (Sum.elim (fun (t : Unit) => impl_ScoresOk_n7) (fun e => some ((fun (t : Bool) => t) e)))

def impl_ScoresOk_n9 (x17075 : List (List Int)) : Option (Bool) :=
  (impl_ScoresOk_n1 x17075).bind (Sum.elim (fun (t : Unit) => impl_ScoresOk_n8 x17075) (fun e => some ((fun (t : Bool) => t) e)))

@[irreducible] def impl_ScoresOk (x17075 : List (List Int)) : Option (Bool) :=
  impl_ScoresOk_n9 x17075

def spec_l1In_n1 (x17212 : Int) (x17213 : Int) (x17214 : Int) : Option (Bool) :=
  cond (decide (x17212 ≥ x17213)) (some (decide (x17212 ≤ x17214))) (some false)

@[irreducible] def spec_l1In (x17212 : Int) (x17213 : Int) (x17214 : Int) : Option (Bool) :=
  spec_l1In_n1 x17212 x17213 x17214

def spec_ScoresOk_n1 : Option (Unit) :=
  some ()

def spec_ScoresOk_n2 : Option (Unit) :=
  some ()

def spec_ScoresOk_n3 (x17191 : List (List Int)) (x17250 : Int) : Option (Unit ⊕ Unit) :=
  cond (decide (x17250 < (((List.length x17191 : Nat) : Int)))) (some (Sum.inl ())) (some (Sum.inr ()))

def spec_ScoresOk_n4 (x17191 : List (List Int)) (x17250 : Int) : Option (Unit ⊕ Bool) :=
  (idx x17191 x17250).bind fun (v17258 : List Int) => cond ((((List.length v17258 : Nat) : Int)) != (IntKind.wrap .i64 ((((List.length x17191 : Nat) : Int)) + 1))) (some (Sum.inr false)) (some (Sum.inl ()))

def spec_ScoresOk_n5 (x17191 : List (List Int)) (x17250 : Int) (x17281 : Int) : Option (Int ⊕ Bool ⊕ Unit) :=
  (idx x17191 x17250).bind fun (v17292 : List Int) => cond (decide (x17281 < (((List.length v17292 : Nat) : Int)))) ((idx x17191 x17250).bind fun (v17295 : List Int) => (idx v17295 x17281).bind fun (v17296 : Int) => (spec_l1In v17296 0 20).bind fun (v17297 : Bool) => cond (!v17297) (some (Sum.inr (Sum.inl false))) (some (Sum.inl (IntKind.wrap .i64 (x17281 + 1))))) (some (Sum.inr (Sum.inr ())))

def spec_ScoresOk_n6 (x17191 : List (List Int)) (x17250 : Int) : Option (Bool ⊕ Unit) :=
  nloop (fun (s : Int) => ((spec_ScoresOk_n5 x17191 x17250 s).map (Sum.elim (fun (t : Int) => Sum.inl t) (Sum.elim (fun (t : Bool) => Sum.inr (Sum.inl t)) (fun (t : Unit) => Sum.inr (Sum.inr t)))) : Option ((Int) ⊕ (Bool ⊕ Unit)))) LL 0

def spec_ScoresOk_n7 (x17191 : List (List Int)) (x17250 : Int) : Option (Unit ⊕ Bool) :=
  (spec_ScoresOk_n6 x17191 x17250).map (Sum.elim (fun (t : Bool) => (Sum.inr t)) (fun (t : Unit) => (Sum.inl ())))

def spec_ScoresOk_n8 (x17191 : List (List Int)) (x17250 : Int) : Option (Unit ⊕ Bool) :=
  (spec_ScoresOk_n4 x17191 x17250).bind (Sum.elim (fun (t : Unit) => spec_ScoresOk_n7 x17191 x17250) (fun e => some ((fun (t : Bool) => (Sum.inr t)) e)))

def spec_ScoresOk_n9 (x17191 : List (List Int)) (x17250 : Int) : Option (Unit ⊕ Bool) :=
  (spec_ScoresOk_n8 x17191 x17250).map (Sum.elim (fun (t : Unit) => (Sum.inl ())) (fun (t : Bool) => (Sum.inr t)))

def spec_ScoresOk_n10 (x17250 : Int) : Option (Int) :=
  some (IntKind.wrap .i64 (x17250 + 1))

def spec_ScoresOk_n11 (x17191 : List (List Int)) (x17250 : Int) : Option (Int ⊕ Bool) :=
  (spec_ScoresOk_n9 x17191 x17250).bind (Sum.elim (fun (t : Unit) => (spec_ScoresOk_n10 x17250).map (fun (t : Int) => (Sum.inl t))) (fun e => some ((fun (t : Bool) => (Sum.inr t)) e)))

def spec_ScoresOk_n12 (x17191 : List (List Int)) (x17250 : Int) : Option (Int ⊕ Bool ⊕ Unit) :=
  (spec_ScoresOk_n3 x17191 x17250).bind (Sum.elim (fun (t : Unit) => (spec_ScoresOk_n11 x17191 x17250).map (Sum.elim (fun (t : Int) => (Sum.inl t)) (fun (t : Bool) => (Sum.inr (Sum.inl t))))) (fun e => some ((fun (t : Unit) => (Sum.inr (Sum.inr t))) e)))

def spec_ScoresOk_n13 (x17191 : List (List Int)) : Option (Bool ⊕ Unit) :=
  nloop (fun (s : Int) => ((spec_ScoresOk_n12 x17191 s).map (Sum.elim (fun (t : Int) => Sum.inl t) (Sum.elim (fun (t : Bool) => Sum.inr (Sum.inl t)) (fun (t : Unit) => Sum.inr (Sum.inr t)))) : Option ((Int) ⊕ (Bool ⊕ Unit)))) LL 0

def spec_ScoresOk_n14 (x17191 : List (List Int)) : Option (Unit ⊕ Bool) :=
  (spec_ScoresOk_n13 x17191).map (Sum.elim (fun (t : Bool) => (Sum.inr t)) (fun (t : Unit) => (Sum.inl ())))

def spec_ScoresOk_n15 (x17191 : List (List Int)) : Option (Unit ⊕ Bool) :=
  (spec_ScoresOk_n2).bind (fun (t : Unit) => spec_ScoresOk_n14 x17191)

def spec_ScoresOk_n16 (x17191 : List (List Int)) : Option (Bool) :=
  (spec_l1In (((List.length x17191 : Nat) : Int)) 1 5).bind fun (v17304 : Bool) => some v17304

def spec_ScoresOk_n17 (x17191 : List (List Int)) : Option (Bool) :=
  (spec_ScoresOk_n15 x17191).bind (Sum.elim (fun (t : Unit) => spec_ScoresOk_n16 x17191) (fun e => some ((fun (t : Bool) => t) e)))

def spec_ScoresOk_n18 (x17191 : List (List Int)) : Option (Bool) :=
  (spec_ScoresOk_n1).bind (fun (t : Unit) => spec_ScoresOk_n17 x17191)

@[irreducible] def spec_ScoresOk (x17191 : List (List Int)) : Option (Bool) :=
  spec_ScoresOk_n18 x17191

def impl_oneRoot_n1 : Option (Unit) :=
  some ()

def impl_oneRoot_n2 (x17431 : List Int) : Option (Int) :=
  some (((List.length x17431 : Nat) : Int))

def impl_oneRoot_n3 (x17431 : List Int) (x17453 : Int) (x17432 : Int) (x17454 : Int) : Option ((Int × Int) ⊕ Bool ⊕ Int) :=
  cond (decide (x17454 < x17432)) ((idx x17431 x17454).bind fun (v17465 : Int) => cond (decide (v17465 < 0)) (some (Sum.inr (Sum.inl false))) (cond (decide (v17465 > (((List.length x17431 : Nat) : Int)))) (some (Sum.inr (Sum.inl false))) (cond (v17465 == 0) (some (Sum.inl ((IntKind.wrap .i64 (x17453 + 1)), (IntKind.wrap .i64 (x17454 + 1))))) (some (Sum.inl (x17453, (IntKind.wrap .i64 (x17454 + 1)))))))) (some (Sum.inr (Sum.inr x17453)))

def impl_oneRoot_n4 (x17431 : List Int) (x17432 : Int) : Option (Bool ⊕ Int) :=
  nloop (fun (s : Int × Int) => ((impl_oneRoot_n3 x17431 s.1 x17432 s.2).map (Sum.elim (fun (t : Int × Int) => Sum.inl (t.1, t.2)) (Sum.elim (fun (t : Bool) => Sum.inr (Sum.inl t)) (fun (t : Int) => Sum.inr (Sum.inr t)))) : Option ((Int × Int) ⊕ (Bool ⊕ Int)))) LL (0, 0)

def impl_oneRoot_n5 (x17431 : List Int) (x17432 : Int) : Option (Int ⊕ Bool) :=
  (impl_oneRoot_n4 x17431 x17432).map (Sum.elim (fun (t : Bool) => (Sum.inr t)) (fun (t : Int) => (Sum.inl t)))

def impl_oneRoot_n6 (x17431 : List Int) : Option (Int ⊕ Bool) :=
  (impl_oneRoot_n2 x17431).bind (fun (t : Int) => impl_oneRoot_n5 x17431 t)

def impl_oneRoot_n7 (x17453 : Int) : Option (Bool) :=
  some (x17453 == 1)

def impl_oneRoot_n8 (x17431 : List Int) : Option (Bool) :=
  (impl_oneRoot_n6 x17431).bind (Sum.elim (fun (t : Int) => impl_oneRoot_n7 t) (fun e => some ((fun (t : Bool) => t) e)))

def impl_oneRoot_n9 (x17431 : List Int) : Option (Bool) :=
  (impl_oneRoot_n1).bind (fun (t : Unit) => impl_oneRoot_n8 x17431)

@[irreducible] def impl_oneRoot (x17431 : List Int) : Option (Bool) :=
  impl_oneRoot_n9 x17431

def impl_walker_up_n1 (x17487 : List Int) (x17488 : Int) (x17489 : Int) : Option ((Bool × Int × Int)) :=
  (idx x17487 (IntKind.wrap .i64 (x17488 - 1))).bind fun (v17507 : Int) => cond (v17507 == 0) (some (false, x17488, x17489)) (some (true, v17507, (IntKind.wrap .i64 (x17489 + 1))))

@[irreducible] def impl_walker_up (x17487 : List Int) (x17488 : Int) (x17489 : Int) : Option (Bool × Int × Int) :=
  impl_walker_up_n1 x17487 x17488 x17489

def impl_stepsToRoot_n1 : Option (Unit) :=
  some ()

def impl_stepsToRoot_n2 (x17485 : List Int) (x17523 : Int) (x17524 : Int) : Option ((Int × Int) ⊕ (Int × Bool) ⊕ (Int × Int)) :=
  (impl_walker_up x17485 x17523 x17524).bind fun (v17529 : Bool × Int × Int) => cond (v17529.1) (cond (decide ((v17529.2.2) ≥ (((List.length x17485 : Nat) : Int)))) (some (Sum.inr (Sum.inl (0, false)))) (some (Sum.inl ((v17529.2.1), (v17529.2.2))))) (some (Sum.inr (Sum.inr ((v17529.2.1), (v17529.2.2)))))

def impl_stepsToRoot_n3 (x17485 : List Int) (x17486 : Int) : Option ((Int × Bool) ⊕ (Int × Int)) :=
  nloop (fun (s : Int × Int) => ((impl_stepsToRoot_n2 x17485 s.1 s.2).map (Sum.elim (fun (t : Int × Int) => Sum.inl (t.1, t.2)) (Sum.elim (fun (t : Int × Bool) => Sum.inr (Sum.inl t)) (fun (t : Int × Int) => Sum.inr (Sum.inr t)))) : Option ((Int × Int) ⊕ ((Int × Bool) ⊕ (Int × Int))))) LL (x17486, 0)

def impl_stepsToRoot_n4 (x17485 : List Int) (x17486 : Int) : Option ((Int × Int) ⊕ (Int × Bool)) :=
  (impl_stepsToRoot_n3 x17485 x17486).map (Sum.elim (fun (t : Int × Bool) => (Sum.inr t)) (fun (t : Int × Int) => (Sum.inl (t.1, t.2))))

def impl_stepsToRoot_n5 (x17532 : Int) : Option ((Int × Bool)) :=
  some (x17532, true)

def impl_stepsToRoot_n6 (x17485 : List Int) (x17486 : Int) : Option ((Int × Bool)) :=
  (impl_stepsToRoot_n4 x17485 x17486).bind (Sum.elim (fun (t : Int × Int) => impl_stepsToRoot_n5 t.2) (fun e => some ((fun (t : Int × Bool) => t) e)))

def impl_stepsToRoot_n7 (x17485 : List Int) (x17486 : Int) : Option ((Int × Bool)) :=
  (impl_stepsToRoot_n1).bind (fun (t : Unit) => impl_stepsToRoot_n6 x17485 x17486)

@[irreducible] def impl_stepsToRoot (x17485 : List Int) (x17486 : Int) : Option (Int × Bool) :=
  impl_stepsToRoot_n7 x17485 x17486

def impl_TreeOk_n1 (x17426 : List Int) : Option (Unit ⊕ Bool) :=
  cond (decide ((((List.length x17426 : Nat) : Int)) < 1)) (some (Sum.inr false)) (cond (decide ((((List.length x17426 : Nat) : Int)) > 8)) (some (Sum.inr false)) ((impl_oneRoot x17426).bind fun (v17478 : Bool) => cond (!v17478) (some (Sum.inr false)) (some (Sum.inl ()))))

def impl_TreeOk_n2 (x17426 : List Int) : Option (Int) :=
  some (((List.length x17426 : Nat) : Int))

def impl_TreeOk_n3 (x17426 : List Int) (x17480 : Int) (x17548 : Int) : Option (Int ⊕ Bool ⊕ Unit) :=
  cond (decide (x17548 < x17480)) ((impl_stepsToRoot x17426 (IntKind.wrap .i64 (x17548 + 1))).bind fun (v17559 : Int × Bool) => cond (!(v17559.2)) (some (Sum.inr (Sum.inl false))) (some (Sum.inl (IntKind.wrap .i64 (x17548 + 1))))) (some (Sum.inr (Sum.inr ())))

def impl_TreeOk_n4 (x17426 : List Int) (x17480 : Int) : Option (Bool ⊕ Unit) :=
  nloop (fun (s : Int) => ((impl_TreeOk_n3 x17426 x17480 s).map (Sum.elim (fun (t : Int) => Sum.inl t) (Sum.elim (fun (t : Bool) => Sum.inr (Sum.inl t)) (fun (t : Unit) => Sum.inr (Sum.inr t)))) : Option ((Int) ⊕ (Bool ⊕ Unit)))) LL 0

def impl_TreeOk_n5 (x17426 : List Int) (x17480 : Int) : Option (Unit ⊕ Bool) :=
  (impl_TreeOk_n4 x17426 x17480).map (Sum.elim (fun (t : Bool) => (Sum.inr t)) (fun (t : Unit) => (Sum.inl ())))

def impl_TreeOk_n6 (x17426 : List Int) : Option (Unit ⊕ Bool) :=
  (impl_TreeOk_n2 x17426).bind (fun (t : Int) => impl_TreeOk_n5 x17426 t)

def impl_TreeOk_n7 : Option (Bool) :=
  some true

def impl_TreeOk_n8 (x17426 : List Int) : Option (Bool) :=
  (impl_TreeOk_n6 x17426).bind (Sum.elim (fun (t : Unit) => impl_TreeOk_n7) (fun e => some ((fun (t : Bool) => t) e)))

def impl_TreeOk_n9 (x17426 : List Int) : Option (Bool) :=
  (impl_TreeOk_n1 x17426).bind (Sum.elim (fun (t : Unit) => impl_TreeOk_n8 x17426) (fun e => some ((fun (t : Bool) => t) e)))

@[irreducible] def impl_TreeOk (x17426 : List Int) : Option (Bool) :=
  impl_TreeOk_n9 x17426

def laws_alive_n1 : Option (Bool) :=
  (impl_TreeOk ([0])).bind fun (v17570 : Bool) => cond v17570 ((impl_TreeOk ([1])).bind fun (v17572 : Bool) => some (!v17572)) (some false)

@[irreducible] def laws_alive : Option (Bool) :=
  laws_alive_n1

def laws_FnScoresOk_n1 (x16515 : List Int) : Option (Bool) :=
  cond (decide ((((List.length x16515 : Nat) : Int)) > 1048576)) (some true) ((spec_DrawScoresOk x16515).bind fun (v17578 : List (List Int)) => (impl_ScoresOk v17578).bind fun (v17579 : Bool) => (spec_ScoresOk v17578).bind fun (v17580 : Bool) => cond (v17579 != v17580) (some false) ((impl_ScoresOk ([([0, 0])])).bind fun (v17584 : Bool) => cond v17584 ((impl_ScoresOk ([([20, 0])])).bind fun (v17587 : Bool) => cond v17587 ((impl_ScoresOk ([] : List (List Int))).bind fun (v17588 : Bool) => cond (!v17588) ((impl_ScoresOk ([([0])])).bind fun (v17592 : Bool) => cond (!v17592) ((laws_alive).bind fun (v17594 : Bool) => some v17594) (some false)) (some false)) (some false)) (some false)))

@[irreducible] def laws_FnScoresOk (x16515 : List Int) : Option (Bool) :=
  laws_FnScoresOk_n1 x16515

end Go.Rv
