/-
  Plain functions, written by program for functions of the checked code. Conditions: none.
-/
import Derived.Test.YteefjoepogdgpaaDoorFB
set_option linter.unusedVariables false
namespace Go.Rv
def spec_l20Open_n1 (x6120 : List Int) : Option (((List Int))) :=
  cond (decide ((((List.length x6120 : Nat) : Int)) > 2000)) ((inc 2000 (List.length x6120)).bind fun (v6134 : Nat) => some ((x6120.take v6134).drop 0)) (some x6120)

@[irreducible] def spec_l20Open (x6120 : List Int) : Option ((List Int)) :=
  spec_l20Open_n1 x6120

def spec_l20Rd_pick_n1 (x6142 : Int) (x6143 : List Int) (x6144 : Int) : Option ((Int × Int)) :=
  cond (decide (x6142 < 1)) (some (0, (IntKind.wrap .i64 (x6144 + 1)))) (cond ((((List.length x6143 : Nat) : Int)) == 0) (some (0, (IntKind.wrap .i64 (x6144 + 1)))) (cond (decide ((IntKind.wrap .i64 ((IntKind.wrap .i64 (x6144 + 1)) - 1)) < (((List.length x6143 : Nat) : Int)))) ((idx x6143 (IntKind.wrap .i64 ((IntKind.wrap .i64 (x6144 + 1)) - 1))).bind fun (v6264 : Int) => (rem (IntKind.wrap .i64 v6264) x6142).bind fun (v6266 : Int) => some (v6266, (IntKind.wrap .i64 (x6144 + 1)))) ((rem (IntKind.wrap .i64 ((IntKind.wrap .i64 (x6144 + 1)) - 1)) (((List.length x6143 : Nat) : Int))).bind fun (v6268 : Int) => (idx x6143 v6268).bind fun (v6269 : Int) => (rem (IntKind.wrap .i64 ((IntKind.wrap .i64 ((IntKind.wrap .i64 ((IntKind.wrap .i64 (x6144 + 1)) - 1)) * 7)) + 3)) (((List.length x6143 : Nat) : Int))).bind fun (v6275 : Int) => (idx x6143 v6275).bind fun (v6276 : Int) => (quo .i64 (IntKind.wrap .i64 ((IntKind.wrap .i64 (x6144 + 1)) - 1)) (((List.length x6143 : Nat) : Int))).bind fun (v6283 : Int) => (quo .i64 (IntKind.wrap .i64 ((IntKind.wrap .i64 ((IntKind.wrap .i64 ((IntKind.wrap .i64 ((IntKind.wrap .i64 v6269) * 131)) + (IntKind.wrap .i64 ((IntKind.wrap .i64 v6276) * 1117)))) + (IntKind.wrap .i64 ((IntKind.wrap .i64 ((IntKind.wrap .i64 (x6144 + 1)) - 1)) * 29)))) + (IntKind.wrap .i64 (v6283 * 53)))) 64).bind fun (v6286 : Int) => (rem (ixor .i64 (IntKind.wrap .i64 ((IntKind.wrap .i64 ((IntKind.wrap .i64 ((IntKind.wrap .i64 ((IntKind.wrap .i64 v6269) * 131)) + (IntKind.wrap .i64 ((IntKind.wrap .i64 v6276) * 1117)))) + (IntKind.wrap .i64 ((IntKind.wrap .i64 ((IntKind.wrap .i64 (x6144 + 1)) - 1)) * 29)))) + (IntKind.wrap .i64 (v6283 * 53)))) v6286) x6142).bind fun (v6288 : Int) => some (v6288, (IntKind.wrap .i64 (x6144 + 1))))))

@[irreducible] def spec_l20Rd_pick (x6142 : Int) (x6143 : List Int) (x6144 : Int) : Option (Int × Int) :=
  spec_l20Rd_pick_n1 x6142 x6143 x6144

def spec_l20Rd_odd_n1 (x6418 : Int) (x6419 : List Int) (x6420 : Int) : Option ((Bool × Int)) :=
  cond (decide (x6418 > 0)) ((spec_l20Rd_pick x6418 x6419 x6420).bind fun (v6428 : Int × Int) => some (((v6428.1) == (IntKind.wrap .i64 (x6418 - 1))), (v6428.2))) (some (false, x6420))

@[irreducible] def spec_l20Rd_odd (x6418 : Int) (x6419 : List Int) (x6420 : Int) : Option (Bool × Int) :=
  spec_l20Rd_odd_n1 x6418 x6419 x6420

def spec_l20Scores_n1 (x6140 : List Int) (x6141 : Int) : Option ((Int × Int × Int)) :=
  (spec_l20Rd_pick 4 x6140 x6141).bind fun (v6483 : Int × Int) => (spec_l20Rd_pick 6 x6140 (v6483.2)).bind fun (v6487 : Int × Int) => (quo .i64 (v6487.1) 5).bind fun (v6490 : Int) => (spec_l20Rd_pick 3 x6140 (v6487.2)).bind fun (v6493 : Int × Int) => (inb (v6493.1) (List.length ([3, 10, 21]))).bind fun (v6496 : Nat) => (([3, 10, 21])[v6496]?).bind fun (v6497 : Int) => some ((IntKind.wrap .i64 ((IntKind.wrap .i64 (1 + (v6483.1))) + v6490)), v6497, (v6493.2))

def spec_l20Scores_n2 : Option (Unit) :=
  some ()

def spec_l20Scores_n3 (x6491 : Int) (x6541 : Int) (x6542 : Int) (x6543 : List (List Int)) : Option (Unit ⊕ (Int × (List (List Int)))) :=
  cond (decide (x6541 < x6491)) (some (Sum.inl ())) (some (Sum.inr (x6542, x6543)))

def spec_l20Scores_n4 : Option (Unit) :=
  some ()

def spec_l20Scores_n5 : Option (Unit) :=
  some ()

def spec_l20Scores_n6 (x6491 : Int) (x6497 : Int) (x6563 : Int) (x6140 : List Int) (x6564 : Int) (x6565 : List Int) : Option ((Int × Int × (List Int)) ⊕ (Int × (List Int))) :=
  cond (decide (x6563 ≤ x6491)) ((spec_l20Rd_pick x6497 x6140 x6564).bind fun (v6576 : Int × Int) => (room ((List.length x6565) + List.length ([(v6576.1)]))).bind fun (v6581 : Unit) => some (Sum.inl ((IntKind.wrap .i64 (x6563 + 1)), (v6576.2), (x6565 ++ ([(v6576.1)]))))) (some (Sum.inr (x6564, x6565)))

def spec_l20Scores_n7 (x6491 : Int) (x6497 : Int) (x6140 : List Int) (x6542 : Int) : Option ((Int × (List Int))) :=
  nloop (fun (s : Int × Int × (List Int)) => ((spec_l20Scores_n6 x6491 x6497 s.1 x6140 s.2.1 s.2.2).map (Sum.elim (fun (t : Int × Int × (List Int)) => Sum.inl (t.1, t.2.1, t.2.2)) (fun (t : Int × (List Int)) => Sum.inr t)) : Option ((Int × Int × (List Int)) ⊕ ((Int × (List Int)))))) LL (0, x6542, ([] : List Int))

def spec_l20Scores_n8 (x6491 : Int) (x6497 : Int) (x6140 : List Int) (x6542 : Int) : Option ((Int × (List Int))) :=
  (spec_l20Scores_n7 x6491 x6497 x6140 x6542).map (fun (t : Int × (List Int)) => (t.1, t.2))

def spec_l20Scores_n9 (x6491 : Int) (x6497 : Int) (x6140 : List Int) (x6542 : Int) : Option ((Int × (List Int))) :=
  (spec_l20Scores_n5).bind (fun (t : Unit) => spec_l20Scores_n8 x6491 x6497 x6140 x6542)

def spec_l20Scores_n10 (x6543 : List (List Int)) (x6565 : List Int) : Option (((List (List Int)))) :=
  (room (List.length x6543 + 1)).bind fun (v6584 : Unit) => some ((x6543 ++ [[]]).set (List.length x6543) x6565)

def spec_l20Scores_n11 (x6491 : Int) (x6497 : Int) (x6140 : List Int) (x6542 : Int) (x6543 : List (List Int)) : Option ((Int × (List (List Int)))) :=
  (spec_l20Scores_n9 x6491 x6497 x6140 x6542).bind (fun (t : Int × (List Int)) => (spec_l20Scores_n10 x6543 t.2).map (fun (u : (List (List Int))) => (t.1, u)))

def spec_l20Scores_n12 (x6491 : Int) (x6497 : Int) (x6140 : List Int) (x6542 : Int) (x6543 : List (List Int)) : Option ((Int × (List (List Int)))) :=
  (spec_l20Scores_n4).bind (fun (t : Unit) => spec_l20Scores_n11 x6491 x6497 x6140 x6542 x6543)

def spec_l20Scores_n13 (x6491 : Int) (x6497 : Int) (x6140 : List Int) (x6542 : Int) (x6543 : List (List Int)) : Option ((Int × (List (List Int)))) :=
  (spec_l20Scores_n12 x6491 x6497 x6140 x6542 x6543).map (fun (t : Int × (List (List Int))) => (t.1, t.2))

def spec_l20Scores_n14 (x6541 : Int) : Option (Int) :=
  some (IntKind.wrap .i64 (x6541 + 1))

def spec_l20Scores_n15 (x6491 : Int) (x6497 : Int) (x6541 : Int) (x6140 : List Int) (x6542 : Int) (x6543 : List (List Int)) : Option ((Int × Int × (List (List Int)))) :=
  (spec_l20Scores_n13 x6491 x6497 x6140 x6542 x6543).bind (fun (t : Int × (List (List Int))) => (spec_l20Scores_n14 x6541).map (fun (u : Int) => (u, t.1, t.2)))

def spec_l20Scores_n16 (x6491 : Int) (x6497 : Int) (x6541 : Int) (x6140 : List Int) (x6542 : Int) (x6543 : List (List Int)) : Option ((Int × Int × (List (List Int))) ⊕ (Int × (List (List Int)))) :=
  (spec_l20Scores_n3 x6491 x6541 x6542 x6543).bind (Sum.elim (fun (t : Unit) => (spec_l20Scores_n15 x6491 x6497 x6541 x6140 x6542 x6543).map (fun (t : Int × Int × (List (List Int))) => (Sum.inl (t.1, t.2.1, t.2.2)))) (fun e => some ((fun (t : Int × (List (List Int))) => (Sum.inr t)) e)))

def spec_l20Scores_n17 (x6491 : Int) (x6497 : Int) (x6140 : List Int) (x6495 : Int) : Option ((Int × (List (List Int)))) :=
  nloop (fun (s : Int × Int × (List (List Int))) => ((spec_l20Scores_n16 x6491 x6497 s.1 x6140 s.2.1 s.2.2).map (Sum.elim (fun (t : Int × Int × (List (List Int))) => Sum.inl (t.1, t.2.1, t.2.2)) (fun (t : Int × (List (List Int))) => Sum.inr t)) : Option ((Int × Int × (List (List Int))) ⊕ ((Int × (List (List Int))))))) LL (0, x6495, ([] : List (List Int)))

def spec_l20Scores_n18 (x6491 : Int) (x6497 : Int) (x6140 : List Int) (x6495 : Int) : Option ((Int × (List (List Int)))) :=
  (spec_l20Scores_n17 x6491 x6497 x6140 x6495).map (fun (t : Int × (List (List Int))) => (t.1, t.2))

def spec_l20Scores_n19 (x6491 : Int) (x6497 : Int) (x6140 : List Int) (x6495 : Int) : Option ((Int × (List (List Int)))) :=
  (spec_l20Scores_n2).bind (fun (t : Unit) => spec_l20Scores_n18 x6491 x6497 x6140 x6495)

def spec_l20Scores_n20 (x6139 : Int) (x6140 : List Int) (x6542 : Int) (x6543 : List (List Int)) : Option ((Int × (List (List Int)))) :=
  (spec_l20Rd_odd x6139 x6140 x6542).bind fun (v6637 : Bool × Int) => cond (v6637.1) ((spec_l20Rd_pick 3 x6140 (v6637.2)).bind fun (v6640 : Int × Int) => cond ((v6640.1) == 0) (some ((v6640.2), ([] : List (List Int)))) (cond ((v6640.1) == 1) ((inb 0 (List.length x6543)).bind fun (v6645 : Nat) => ((x6543)[v6645]?).bind fun (v6646 : List Int) => (inc 1 (List.length v6646)).bind fun (v6649 : Nat) => (inb 0 (List.length ((x6543).set v6645 []))).bind fun (v6651 : Nat) => (within v6651 (List.length ((x6543).set v6645 []))).bind fun (v6653 : Unit) => (same v6645 v6651).bind fun (v6654 : Unit) => some ((v6640.2), ((((x6543).set v6645 [])).set v6651 ((v6646.drop v6649).take ((List.length v6646) - v6649))))) ((inb 0 (List.length x6543)).bind fun (v6656 : Nat) => ((x6543)[v6656]?).bind fun (v6657 : List Int) => (inb 0 (List.length v6657)).bind fun (v6659 : Nat) => some ((v6640.2), ((((x6543).set v6656 [])).set v6656 (v6657.set v6659 (-1))))))) (some ((v6637.2), x6543))

def spec_l20Scores_n21 (x6139 : Int) (x6491 : Int) (x6497 : Int) (x6140 : List Int) (x6495 : Int) : Option ((Int × (List (List Int)))) :=
  (spec_l20Scores_n19 x6491 x6497 x6140 x6495).bind (fun (t : Int × (List (List Int))) => spec_l20Scores_n20 x6139 x6140 t.1 t.2)

def spec_l20Scores_n22 (x6139 : Int) (x6140 : List Int) (x6141 : Int) : Option ((Int × (List (List Int)))) :=
  (spec_l20Scores_n1 x6140 x6141).bind (fun (t : Int × Int × Int) => spec_l20Scores_n21 x6139 t.1 t.2.1 x6140 t.2.2)

@[irreducible] def spec_l20Scores (x6139 : Int) (x6140 : List Int) (x6141 : Int) : Option (Int × (List (List Int))) :=
  spec_l20Scores_n22 x6139 x6140 x6141

def spec_l20Order_n1 (x6680 : List Int) (x6681 : Int) : Option ((Int × Int)) :=
  (spec_l20Rd_pick 2 x6680 x6681).bind fun (v6682 : Int × Int) => some ((v6682.1), (v6682.2))

def spec_l20Order_n2 : Option (Unit) :=
  some ()

def spec_l20Order_n3 (x6679 : Int) (x6683 : Int) (x6826 : Int) (x6680 : List Int) (x6827 : Int) (x6828 : List Int) : Option ((Int × Int × (List Int)) ⊕ (Int × (List Int))) :=
  cond (decide (x6826 ≤ x6679)) (cond (x6683 == 0) ((spec_l20Rd_pick x6826 x6680 x6827).bind fun (v6900 : Int × Int) => (inc (v6900.1) (List.length x6828)).bind fun (v6904 : Nat) => (room ((List.length ([] : List Int)) + List.length ((x6828.drop 0).take (v6904 - 0)))).bind fun (v6908 : Unit) => (room ((List.length (([] : List Int) ++ ((x6828.drop 0).take (v6904 - 0)))) + List.length ([x6826]))).bind fun (v6912 : Unit) => (inc (v6900.1) (List.length x6828)).bind fun (v6915 : Nat) => (room ((List.length ((([] : List Int) ++ ((x6828.drop 0).take (v6904 - 0))) ++ ([x6826]))) + List.length ((x6828.drop v6915).take ((List.length x6828) - v6915)))).bind fun (v6919 : Unit) => some (Sum.inl ((IntKind.wrap .i64 (x6826 + 1)), (v6900.2), (((([] : List Int) ++ ((x6828.drop 0).take (v6904 - 0))) ++ ([x6826])) ++ ((x6828.drop v6915).take ((List.length x6828) - v6915)))))) ((spec_l20Rd_pick 3 x6680 x6827).bind fun (v6922 : Int × Int) => cond ((v6922.1) == 0) ((spec_l20Rd_pick x6826 x6680 (v6922.2)).bind fun (v6926 : Int × Int) => (inc (v6926.1) (List.length x6828)).bind fun (v6930 : Nat) => (room ((List.length ([] : List Int)) + List.length ((x6828.drop 0).take (v6930 - 0)))).bind fun (v6934 : Unit) => (room ((List.length (([] : List Int) ++ ((x6828.drop 0).take (v6930 - 0)))) + List.length ([x6826]))).bind fun (v6938 : Unit) => (inc (v6926.1) (List.length x6828)).bind fun (v6941 : Nat) => (room ((List.length ((([] : List Int) ++ ((x6828.drop 0).take (v6930 - 0))) ++ ([x6826]))) + List.length ((x6828.drop v6941).take ((List.length x6828) - v6941)))).bind fun (v6945 : Unit) => some (Sum.inl ((IntKind.wrap .i64 (x6826 + 1)), (v6926.2), (((([] : List Int) ++ ((x6828.drop 0).take (v6930 - 0))) ++ ([x6826])) ++ ((x6828.drop v6941).take ((List.length x6828) - v6941)))))) ((inc (((List.length x6828 : Nat) : Int)) (List.length x6828)).bind fun (v6949 : Nat) => (room ((List.length ([] : List Int)) + List.length ((x6828.drop 0).take (v6949 - 0)))).bind fun (v6953 : Unit) => (room ((List.length (([] : List Int) ++ ((x6828.drop 0).take (v6949 - 0)))) + List.length ([x6826]))).bind fun (v6957 : Unit) => (inc (((List.length x6828 : Nat) : Int)) (List.length x6828)).bind fun (v6960 : Nat) => (room ((List.length ((([] : List Int) ++ ((x6828.drop 0).take (v6949 - 0))) ++ ([x6826]))) + List.length ((x6828.drop v6960).take ((List.length x6828) - v6960)))).bind fun (v6964 : Unit) => some (Sum.inl ((IntKind.wrap .i64 (x6826 + 1)), (v6922.2), (((([] : List Int) ++ ((x6828.drop 0).take (v6949 - 0))) ++ ([x6826])) ++ ((x6828.drop v6960).take ((List.length x6828) - v6960)))))))) (some (Sum.inr (x6827, x6828)))

def spec_l20Order_n4 (x6679 : Int) (x6683 : Int) (x6680 : List Int) (x6684 : Int) : Option ((Int × (List Int))) :=
  nloop (fun (s : Int × Int × (List Int)) => ((spec_l20Order_n3 x6679 x6683 s.1 x6680 s.2.1 s.2.2).map (Sum.elim (fun (t : Int × Int × (List Int)) => Sum.inl (t.1, t.2.1, t.2.2)) (fun (t : Int × (List Int)) => Sum.inr t)) : Option ((Int × Int × (List Int)) ⊕ ((Int × (List Int)))))) LL (1, x6684, ([] : List Int))

def spec_l20Order_n5 (x6679 : Int) (x6683 : Int) (x6680 : List Int) (x6684 : Int) : Option ((Int × (List Int))) :=
  (spec_l20Order_n4 x6679 x6683 x6680 x6684).map (fun (t : Int × (List Int)) => (t.1, t.2))

def spec_l20Order_n6 (x6679 : Int) (x6683 : Int) (x6680 : List Int) (x6684 : Int) : Option ((Int × (List Int))) :=
  (spec_l20Order_n2).bind (fun (t : Unit) => spec_l20Order_n5 x6679 x6683 x6680 x6684)

def spec_l20Order_n7 (x6827 : Int) (x6828 : List Int) : Option ((Int × (List Int))) :=
  some (x6827, x6828)

def spec_l20Order_n8 (x6679 : Int) (x6683 : Int) (x6680 : List Int) (x6684 : Int) : Option ((Int × (List Int))) :=
  (spec_l20Order_n6 x6679 x6683 x6680 x6684).bind (fun (t : Int × (List Int)) => spec_l20Order_n7 t.1 t.2)

def spec_l20Order_n9 (x6679 : Int) (x6680 : List Int) (x6681 : Int) : Option ((Int × (List Int))) :=
  (spec_l20Order_n1 x6680 x6681).bind (fun (t : Int × Int) => spec_l20Order_n8 x6679 t.1 x6680 t.2)

@[irreducible] def spec_l20Order (x6679 : Int) (x6680 : List Int) (x6681 : Int) : Option (Int × (List Int)) :=
  spec_l20Order_n9 x6679 x6680 x6681

def spec_l20Tree_n1 (x7385 : List Int) (x7386 : Int) : Option ((Int × Int × Int × (List Int) × (List Int))) :=
  (spec_l20Rd_pick 7 x7385 x7386).bind fun (v7407 : Int × Int) => (spec_l20Order (IntKind.wrap .i64 (1 + (v7407.1))) x7385 (v7407.2)).bind fun (v7411 : Int × (List Int)) => (mk (IntKind.wrap .i64 (1 + (v7407.1))) (IntKind.wrap .i64 (1 + (v7407.1)))).bind fun (v7414 : Nat) => (spec_l20Rd_pick 2 x7385 (v7411.1)).bind fun (v7416 : Int × Int) => some ((IntKind.wrap .i64 (1 + (v7407.1))), (v7416.1), (v7416.2), (v7411.2), (List.replicate v7414 (0 : Int)))

def spec_l20Tree_n2 : Option (Unit) :=
  some ()

def spec_l20Tree_n3 (x7410 : Int) (x7417 : Int) (x7488 : Int) (x7385 : List Int) (x7489 : Int) (x7413 : List Int) (x7490 : List Int) : Option ((Int × Int × (List Int)) ⊕ (Int × (List Int))) :=
  cond (decide (x7488 < x7410)) ((spec_l20Rd_pick x7488 x7385 x7489).bind fun (v7524 : Int × Int) => cond (x7417 == 1) ((spec_l20Rd_pick 2 x7385 (v7524.2)).bind fun (v7528 : Int × Int) => cond ((v7528.1) == 0) ((inb x7488 (List.length x7413)).bind fun (v7533 : Nat) => (x7413[v7533]?).bind fun (v7534 : Int) => (inb (IntKind.wrap .i64 (x7488 - 1)) (List.length x7413)).bind fun (v7536 : Nat) => (x7413[v7536]?).bind fun (v7537 : Int) => (inb (IntKind.wrap .i64 (v7534 - 1)) (List.length x7490)).bind fun (v7538 : Nat) => some (Sum.inl ((IntKind.wrap .i64 (x7488 + 1)), (v7528.2), (x7490.set v7538 v7537)))) ((inb x7488 (List.length x7413)).bind fun (v7541 : Nat) => (x7413[v7541]?).bind fun (v7542 : Int) => (inb (v7524.1) (List.length x7413)).bind fun (v7544 : Nat) => (x7413[v7544]?).bind fun (v7545 : Int) => (inb (IntKind.wrap .i64 (v7542 - 1)) (List.length x7490)).bind fun (v7546 : Nat) => some (Sum.inl ((IntKind.wrap .i64 (x7488 + 1)), (v7528.2), (x7490.set v7546 v7545))))) ((inb x7488 (List.length x7413)).bind fun (v7549 : Nat) => (x7413[v7549]?).bind fun (v7550 : Int) => (inb (v7524.1) (List.length x7413)).bind fun (v7552 : Nat) => (x7413[v7552]?).bind fun (v7553 : Int) => (inb (IntKind.wrap .i64 (v7550 - 1)) (List.length x7490)).bind fun (v7554 : Nat) => some (Sum.inl ((IntKind.wrap .i64 (x7488 + 1)), (v7524.2), (x7490.set v7554 v7553))))) (some (Sum.inr (x7489, x7490)))

def spec_l20Tree_n4 (x7410 : Int) (x7417 : Int) (x7385 : List Int) (x7418 : Int) (x7413 : List Int) (x7415 : List Int) : Option ((Int × (List Int))) :=
  nloop (fun (s : Int × Int × (List Int)) => ((spec_l20Tree_n3 x7410 x7417 s.1 x7385 s.2.1 x7413 s.2.2).map (Sum.elim (fun (t : Int × Int × (List Int)) => Sum.inl (t.1, t.2.1, t.2.2)) (fun (t : Int × (List Int)) => Sum.inr t)) : Option ((Int × Int × (List Int)) ⊕ ((Int × (List Int)))))) LL (1, x7418, x7415)

def spec_l20Tree_n5 (x7410 : Int) (x7417 : Int) (x7385 : List Int) (x7418 : Int) (x7413 : List Int) (x7415 : List Int) : Option ((Int × (List Int))) :=
  (spec_l20Tree_n4 x7410 x7417 x7385 x7418 x7413 x7415).map (fun (t : Int × (List Int)) => (t.1, t.2))

def spec_l20Tree_n6 (x7410 : Int) (x7417 : Int) (x7385 : List Int) (x7418 : Int) (x7413 : List Int) (x7415 : List Int) : Option ((Int × (List Int))) :=
  (spec_l20Tree_n2).bind (fun (t : Unit) => spec_l20Tree_n5 x7410 x7417 x7385 x7418 x7413 x7415)

def spec_l20Tree_n7 (x7384 : Int) (x7410 : Int) (x7385 : List Int) (x7489 : Int) (x7490 : List Int) : Option ((Int × (List Int))) :=
  (spec_l20Rd_odd x7384 x7385 x7489).bind fun (v7616 : Bool × Int) => cond (v7616.1) ((spec_l20Rd_pick 4 x7385 (v7616.2)).bind fun (v7619 : Int × Int) => cond ((v7619.1) == 0) (some ((v7619.2), ([] : List Int))) (cond ((v7619.1) == 1) (some ((v7619.2), ([2, 1, 0]))) (cond ((v7619.1) == 2) ((spec_l20Rd_pick x7410 x7385 (v7619.2)).bind fun (v7626 : Int × Int) => (inb (v7626.1) (List.length x7490)).bind fun (v7629 : Nat) => (room ((List.length (x7490.set v7629 0)) + List.length ([0]))).bind fun (v7633 : Unit) => some ((v7626.2), ((x7490.set v7629 0) ++ ([0])))) ((spec_l20Rd_pick 3 x7385 (v7619.2)).bind fun (v7637 : Int × Int) => (inb (v7637.1) (List.length ([1, (IntKind.wrap .i64 (x7410 + 1)), (-1)]))).bind fun (v7640 : Nat) => (([1, (IntKind.wrap .i64 (x7410 + 1)), (-1)])[v7640]?).bind fun (v7641 : Int) => (inb 0 (List.length x7490)).bind fun (v7642 : Nat) => some ((v7637.2), (x7490.set v7642 v7641)))))) (some ((v7616.2), x7490))

def spec_l20Tree_n8 (x7384 : Int) (x7410 : Int) (x7417 : Int) (x7385 : List Int) (x7418 : Int) (x7413 : List Int) (x7415 : List Int) : Option ((Int × (List Int))) :=
  (spec_l20Tree_n6 x7410 x7417 x7385 x7418 x7413 x7415).bind (fun (t : Int × (List Int)) => spec_l20Tree_n7 x7384 x7410 x7385 t.1 t.2)

def spec_l20Tree_n9 (x7384 : Int) (x7385 : List Int) (x7386 : Int) : Option ((Int × (List Int))) :=
  (spec_l20Tree_n1 x7385 x7386).bind (fun (t : Int × Int × Int × (List Int) × (List Int)) => spec_l20Tree_n8 x7384 t.1 t.2.1 x7385 t.2.2.1 t.2.2.2.1 t.2.2.2.2)

@[irreducible] def spec_l20Tree (x7384 : Int) (x7385 : List Int) (x7386 : Int) : Option (Int × (List Int)) :=
  spec_l20Tree_n9 x7384 x7385 x7386

def spec_DrawScoreOf_n1 (x6119 : List Int) : Option ((Int × (List Int) × Int × (List (List Int)) × (List Int) × (List Int))) :=
  (spec_l20Open x6119).bind fun (v7327 : List Int) => (spec_l20Scores 12 v7327 0).bind fun (v7328 : Int × (List (List Int))) => (spec_l20Order (imax (((List.length (v7328.2) : Nat) : Int)) 1) v7327 (v7328.1)).bind fun (v7333 : Int × (List Int)) => (mk (imax (((List.length (v7328.2) : Nat) : Int)) 1) (imax (((List.length (v7328.2) : Nat) : Int)) 1)).bind fun (v7336 : Nat) => some ((imax (((List.length (v7328.2) : Nat) : Int)) 1), v7327, (v7333.1), (v7328.2), (v7333.2), (List.replicate v7336 (0 : Int)))

def spec_DrawScoreOf_n2 : Option (Unit) :=
  some ()

def spec_DrawScoreOf_n3 (x7332 : Int) (x7335 : List Int) (x7358 : Int) (x7327 : List Int) (x7359 : Int) (x7360 : List Int) : Option ((Int × Int × (List Int)) ⊕ (Int × (List Int))) :=
  cond (decide (x7358 < x7332)) ((idx x7335 x7358).bind fun (v7372 : Int) => (spec_l20Rd_pick x7358 x7327 x7359).bind fun (v7374 : Int × Int) => (idx x7335 (v7374.1)).bind fun (v7377 : Int) => (inb (IntKind.wrap .i64 (v7372 - 1)) (List.length x7360)).bind fun (v7378 : Nat) => some (Sum.inl ((IntKind.wrap .i64 (x7358 + 1)), (v7374.2), (x7360.set v7378 v7377)))) (some (Sum.inr (x7359, x7360)))

def spec_DrawScoreOf_n4 (x7332 : Int) (x7335 : List Int) (x7327 : List Int) (x7334 : Int) (x7337 : List Int) : Option ((Int × (List Int))) :=
  nloop (fun (s : Int × Int × (List Int)) => ((spec_DrawScoreOf_n3 x7332 x7335 s.1 x7327 s.2.1 s.2.2).map (Sum.elim (fun (t : Int × Int × (List Int)) => Sum.inl (t.1, t.2.1, t.2.2)) (fun (t : Int × (List Int)) => Sum.inr t)) : Option ((Int × Int × (List Int)) ⊕ ((Int × (List Int)))))) LL (1, x7334, x7337)

def spec_DrawScoreOf_n5 (x7332 : Int) (x7335 : List Int) (x7327 : List Int) (x7334 : Int) (x7337 : List Int) : Option ((Int × (List Int))) :=
  (spec_DrawScoreOf_n4 x7332 x7335 x7327 x7334 x7337).map (fun (t : Int × (List Int)) => (t.1, t.2))

def spec_DrawScoreOf_n6 (x7332 : Int) (x7327 : List Int) (x7334 : Int) (x7335 : List Int) (x7337 : List Int) : Option ((Int × (List Int))) :=
  (spec_DrawScoreOf_n2).bind (fun (t : Unit) => spec_DrawScoreOf_n5 x7332 x7335 x7327 x7334 x7337)

def spec_DrawScoreOf_n7 (x7327 : List Int) (x7359 : Int) (x7330 : List (List Int)) (x7360 : List Int) : Option (((List (List Int)) × (List Int))) :=
  (spec_l20Rd_odd 12 x7327 x7359).bind fun (v7655 : Bool × Int) => cond (v7655.1) ((spec_l20Tree 3 x7327 (v7655.2)).bind fun (v7658 : Int × (List Int)) => some (x7330, (v7658.2))) (some (x7330, x7360))

def spec_DrawScoreOf_n8 (x7332 : Int) (x7327 : List Int) (x7334 : Int) (x7330 : List (List Int)) (x7335 : List Int) (x7337 : List Int) : Option (((List (List Int)) × (List Int))) :=
  (spec_DrawScoreOf_n6 x7332 x7327 x7334 x7335 x7337).bind (fun (t : Int × (List Int)) => spec_DrawScoreOf_n7 x7327 t.1 x7330 t.2)

def spec_DrawScoreOf_n9 (x6119 : List Int) : Option (((List (List Int)) × (List Int))) :=
  (spec_DrawScoreOf_n1 x6119).bind (fun (t : Int × (List Int) × Int × (List (List Int)) × (List Int) × (List Int)) => spec_DrawScoreOf_n8 t.1 t.2.1 t.2.2.1 t.2.2.2.1 t.2.2.2.2.1 t.2.2.2.2.2)

@[irreducible] def spec_DrawScoreOf (x6119 : List Int) : Option ((List (List Int)) × (List Int)) :=
  spec_DrawScoreOf_n9 x6119

def slices_Min_int_int_n1 (x7688 : List Int) : Option (Int) :=
  cond (decide ((((List.length x7688 : Nat) : Int)) < 1)) (none) ((idx x7688 0).bind fun (v7693 : Int) => some v7693)

def slices_Min_int_int_n2 : Option (Unit) :=
  some ()

def slices_Min_int_int_n3 (x7688 : List Int) (x7705 : Int) (x7706 : Int) : Option ((Int × Int) ⊕ Int) :=
  cond (decide (x7706 < (((List.length x7688 : Nat) : Int)))) ((idx x7688 x7706).bind fun (v7715 : Int) => some (Sum.inl ((imin x7705 v7715), (IntKind.wrap .i64 (x7706 + 1))))) (some (Sum.inr x7705))

def slices_Min_int_int_n4 (x7688 : List Int) (x7693 : Int) : Option (Int) :=
  nloop (fun (s : Int × Int) => ((slices_Min_int_int_n3 x7688 s.1 s.2).map (Sum.elim (fun (t : Int × Int) => Sum.inl (t.1, t.2)) (fun (t : Int) => Sum.inr t)) : Option ((Int × Int) ⊕ (Int)))) LL (x7693, 1)

def slices_Min_int_int_n5 (x7688 : List Int) (x7693 : Int) : Option (Int) :=
  (slices_Min_int_int_n4 x7688 x7693).map (fun (t : Int) => t)

def slices_Min_int_int_n6 (x7688 : List Int) (x7693 : Int) : Option (Int) :=
  (slices_Min_int_int_n2).bind (fun (t : Unit) => slices_Min_int_int_n5 x7688 x7693)

def slices_Min_int_int_n7 (x7705 : Int) : Option (Int) :=
  some x7705

def slices_Min_int_int_n8 (x7688 : List Int) (x7693 : Int) : Option (Int) :=
  (slices_Min_int_int_n6 x7688 x7693).bind (fun (t : Int) => slices_Min_int_int_n7 t)

def slices_Min_int_int_n9 (x7688 : List Int) : Option (Int) :=
  (slices_Min_int_int_n1 x7688).bind (fun (t : Int) => slices_Min_int_int_n8 x7688 t)

@[irreducible] def slices_Min_int_int (x7688 : List Int) : Option (Int) :=
  slices_Min_int_int_n9 x7688

def slices_Max_int_int_n1 (x7720 : List Int) : Option (Int) :=
  cond (decide ((((List.length x7720 : Nat) : Int)) < 1)) (none) ((idx x7720 0).bind fun (v7725 : Int) => some v7725)

def slices_Max_int_int_n2 : Option (Unit) :=
  some ()

def slices_Max_int_int_n3 (x7720 : List Int) (x7737 : Int) (x7738 : Int) : Option ((Int × Int) ⊕ Int) :=
  cond (decide (x7738 < (((List.length x7720 : Nat) : Int)))) ((idx x7720 x7738).bind fun (v7747 : Int) => some (Sum.inl ((imax x7737 v7747), (IntKind.wrap .i64 (x7738 + 1))))) (some (Sum.inr x7737))

def slices_Max_int_int_n4 (x7720 : List Int) (x7725 : Int) : Option (Int) :=
  nloop (fun (s : Int × Int) => ((slices_Max_int_int_n3 x7720 s.1 s.2).map (Sum.elim (fun (t : Int × Int) => Sum.inl (t.1, t.2)) (fun (t : Int) => Sum.inr t)) : Option ((Int × Int) ⊕ (Int)))) LL (x7725, 1)

def slices_Max_int_int_n5 (x7720 : List Int) (x7725 : Int) : Option (Int) :=
  (slices_Max_int_int_n4 x7720 x7725).map (fun (t : Int) => t)

def slices_Max_int_int_n6 (x7720 : List Int) (x7725 : Int) : Option (Int) :=
  (slices_Max_int_int_n2).bind (fun (t : Unit) => slices_Max_int_int_n5 x7720 x7725)

def slices_Max_int_int_n7 (x7737 : Int) : Option (Int) :=
  some x7737

def slices_Max_int_int_n8 (x7720 : List Int) (x7725 : Int) : Option (Int) :=
  (slices_Max_int_int_n6 x7720 x7725).bind (fun (t : Int) => slices_Max_int_int_n7 t)

def slices_Max_int_int_n9 (x7720 : List Int) : Option (Int) :=
  (slices_Max_int_int_n1 x7720).bind (fun (t : Int) => slices_Max_int_int_n8 x7720 t)

@[irreducible] def slices_Max_int_int (x7720 : List Int) : Option (Int) :=
  slices_Max_int_int_n9 x7720

def impl_scoreRowOk_n1 (x7683 : List Int) (x7684 : Int) : Option (Bool) :=
  cond ((((List.length x7683 : Nat) : Int)) == (IntKind.wrap .i64 (x7684 + 1))) ((slices_Min_int_int x7683).bind fun (v7755 : Int) => cond (decide (v7755 ≥ 0)) ((slices_Max_int_int x7683).bind fun (v7757 : Int) => some (decide (v7757 ≤ 20))) (some false)) (some false)

@[irreducible] def impl_scoreRowOk (x7683 : List Int) (x7684 : Int) : Option (Bool) :=
  impl_scoreRowOk_n1 x7683 x7684

def impl_ScoresOk_n1 (x7672 : List (List Int)) : Option (Unit ⊕ Bool) :=
  cond (decide ((((List.length x7672 : Nat) : Int)) < 1)) (some (Sum.inr false)) (cond (decide ((((List.length x7672 : Nat) : Int)) > 5)) (some (Sum.inr false)) (some (Sum.inl ())))

def impl_ScoresOk_n2 (x7672 : List (List Int)) : Option (Int) :=
  some (((List.length x7672 : Nat) : Int))

def impl_ScoresOk_n3 (x7672 : List (List Int)) (x7677 : Int) (x7768 : Int) : Option (Int ⊕ Bool ⊕ Unit) :=
  cond (decide (x7768 < x7677)) ((idx x7672 x7768).bind fun (v7777 : List Int) => (impl_scoreRowOk v7777 (((List.length x7672 : Nat) : Int))).bind fun (v7779 : Bool) => cond (!v7779) (some (Sum.inr (Sum.inl false))) (some (Sum.inl (IntKind.wrap .i64 (x7768 + 1))))) (some (Sum.inr (Sum.inr ())))

def impl_ScoresOk_n4 (x7672 : List (List Int)) (x7677 : Int) : Option (Bool ⊕ Unit) :=
  nloop (fun (s : Int) => ((impl_ScoresOk_n3 x7672 x7677 s).map (Sum.elim (fun (t : Int) => Sum.inl t) (Sum.elim (fun (t : Bool) => Sum.inr (Sum.inl t)) (fun (t : Unit) => Sum.inr (Sum.inr t)))) : Option ((Int) ⊕ (Bool ⊕ Unit)))) LL 0

def impl_ScoresOk_n5 (x7672 : List (List Int)) (x7677 : Int) : Option (Unit ⊕ Bool) :=
  (impl_ScoresOk_n4 x7672 x7677).map (Sum.elim (fun (t : Bool) => (Sum.inr t)) (fun (t : Unit) => (Sum.inl ())))

def impl_ScoresOk_n6 (x7672 : List (List Int)) : Option (Unit ⊕ Bool) :=
  (impl_ScoresOk_n2 x7672).bind (fun (t : Int) => impl_ScoresOk_n5 x7672 t)

def impl_ScoresOk_n7 : Option (Bool) :=
  some true

def impl_ScoresOk_n8 (x7672 : List (List Int)) : Option (Bool) :=
  (impl_ScoresOk_n6 x7672).bind (Sum.elim (fun (t : Unit) => impl_ScoresOk_n7) (fun e => some ((fun (t : Bool) => t) e)))

def impl_ScoresOk_n9 (x7672 : List (List Int)) : Option (Bool) :=
  (impl_ScoresOk_n1 x7672).bind (Sum.elim (fun (t : Unit) => impl_ScoresOk_n8 x7672) (fun e => some ((fun (t : Bool) => t) e)))

@[irreducible] def impl_ScoresOk (x7672 : List (List Int)) : Option (Bool) :=
  impl_ScoresOk_n9 x7672

def impl_oneRoot_n1 : Option (Unit) :=
  some ()

def impl_oneRoot_n2 (x7790 : List Int) : Option (Int) :=
  some (((List.length x7790 : Nat) : Int))

def impl_oneRoot_n3 (x7790 : List Int) (x7812 : Int) (x7791 : Int) (x7813 : Int) : Option ((Int × Int) ⊕ Bool ⊕ Int) :=
  cond (decide (x7813 < x7791)) ((idx x7790 x7813).bind fun (v7824 : Int) => cond (decide (v7824 < 0)) (some (Sum.inr (Sum.inl false))) (cond (decide (v7824 > (((List.length x7790 : Nat) : Int)))) (some (Sum.inr (Sum.inl false))) (cond (v7824 == 0) (some (Sum.inl ((IntKind.wrap .i64 (x7812 + 1)), (IntKind.wrap .i64 (x7813 + 1))))) (some (Sum.inl (x7812, (IntKind.wrap .i64 (x7813 + 1)))))))) (some (Sum.inr (Sum.inr x7812)))

def impl_oneRoot_n4 (x7790 : List Int) (x7791 : Int) : Option (Bool ⊕ Int) :=
  nloop (fun (s : Int × Int) => ((impl_oneRoot_n3 x7790 s.1 x7791 s.2).map (Sum.elim (fun (t : Int × Int) => Sum.inl (t.1, t.2)) (Sum.elim (fun (t : Bool) => Sum.inr (Sum.inl t)) (fun (t : Int) => Sum.inr (Sum.inr t)))) : Option ((Int × Int) ⊕ (Bool ⊕ Int)))) LL (0, 0)

def impl_oneRoot_n5 (x7790 : List Int) (x7791 : Int) : Option (Int ⊕ Bool) :=
  (impl_oneRoot_n4 x7790 x7791).map (Sum.elim (fun (t : Bool) => (Sum.inr t)) (fun (t : Int) => (Sum.inl t)))

def impl_oneRoot_n6 (x7790 : List Int) : Option (Int ⊕ Bool) :=
  (impl_oneRoot_n2 x7790).bind (fun (t : Int) => impl_oneRoot_n5 x7790 t)

def impl_oneRoot_n7 (x7812 : Int) : Option (Bool) :=
  some (x7812 == 1)

def impl_oneRoot_n8 (x7790 : List Int) : Option (Bool) :=
  (impl_oneRoot_n6 x7790).bind (Sum.elim (fun (t : Int) => impl_oneRoot_n7 t) (fun e => some ((fun (t : Bool) => t) e)))

def impl_oneRoot_n9 (x7790 : List Int) : Option (Bool) :=
  (impl_oneRoot_n1).bind (fun (t : Unit) => impl_oneRoot_n8 x7790)

@[irreducible] def impl_oneRoot (x7790 : List Int) : Option (Bool) :=
  impl_oneRoot_n9 x7790

def impl_walker_up_n1 (x7846 : List Int) (x7847 : Int) (x7848 : Int) : Option ((Bool × Int × Int)) :=
  (idx x7846 (IntKind.wrap .i64 (x7847 - 1))).bind fun (v7866 : Int) => cond (v7866 == 0) (some (false, x7847, x7848)) (some (true, v7866, (IntKind.wrap .i64 (x7848 + 1))))

@[irreducible] def impl_walker_up (x7846 : List Int) (x7847 : Int) (x7848 : Int) : Option (Bool × Int × Int) :=
  impl_walker_up_n1 x7846 x7847 x7848

def impl_stepsToRoot_n1 : Option (Unit) :=
  some ()

def impl_stepsToRoot_n2 (x7844 : List Int) (x7882 : Int) (x7883 : Int) : Option ((Int × Int) ⊕ (Int × Bool) ⊕ (Int × Int)) :=
  (impl_walker_up x7844 x7882 x7883).bind fun (v7888 : Bool × Int × Int) => cond (v7888.1) (cond (decide ((v7888.2.2) ≥ (((List.length x7844 : Nat) : Int)))) (some (Sum.inr (Sum.inl (0, false)))) (some (Sum.inl ((v7888.2.1), (v7888.2.2))))) (some (Sum.inr (Sum.inr ((v7888.2.1), (v7888.2.2)))))

def impl_stepsToRoot_n3 (x7844 : List Int) (x7845 : Int) : Option ((Int × Bool) ⊕ (Int × Int)) :=
  nloop (fun (s : Int × Int) => ((impl_stepsToRoot_n2 x7844 s.1 s.2).map (Sum.elim (fun (t : Int × Int) => Sum.inl (t.1, t.2)) (Sum.elim (fun (t : Int × Bool) => Sum.inr (Sum.inl t)) (fun (t : Int × Int) => Sum.inr (Sum.inr t)))) : Option ((Int × Int) ⊕ ((Int × Bool) ⊕ (Int × Int))))) LL (x7845, 0)

def impl_stepsToRoot_n4 (x7844 : List Int) (x7845 : Int) : Option ((Int × Int) ⊕ (Int × Bool)) :=
  (impl_stepsToRoot_n3 x7844 x7845).map (Sum.elim (fun (t : Int × Bool) => (Sum.inr t)) (fun (t : Int × Int) => (Sum.inl (t.1, t.2))))

def impl_stepsToRoot_n5 (x7891 : Int) : Option ((Int × Bool)) :=
  some (x7891, true)

def impl_stepsToRoot_n6 (x7844 : List Int) (x7845 : Int) : Option ((Int × Bool)) :=
  (impl_stepsToRoot_n4 x7844 x7845).bind (Sum.elim (fun (t : Int × Int) => impl_stepsToRoot_n5 t.2) (fun e => some ((fun (t : Int × Bool) => t) e)))

def impl_stepsToRoot_n7 (x7844 : List Int) (x7845 : Int) : Option ((Int × Bool)) :=
  (impl_stepsToRoot_n1).bind (fun (t : Unit) => impl_stepsToRoot_n6 x7844 x7845)

@[irreducible] def impl_stepsToRoot (x7844 : List Int) (x7845 : Int) : Option (Int × Bool) :=
  impl_stepsToRoot_n7 x7844 x7845

def impl_TreeOk_n1 (x7785 : List Int) : Option (Unit ⊕ Bool) :=
  cond (decide ((((List.length x7785 : Nat) : Int)) < 1)) (some (Sum.inr false)) (cond (decide ((((List.length x7785 : Nat) : Int)) > 8)) (some (Sum.inr false)) ((impl_oneRoot x7785).bind fun (v7837 : Bool) => cond (!v7837) (some (Sum.inr false)) (some (Sum.inl ()))))

def impl_TreeOk_n2 (x7785 : List Int) : Option (Int) :=
  some (((List.length x7785 : Nat) : Int))

def impl_TreeOk_n3 (x7785 : List Int) (x7839 : Int) (x7907 : Int) : Option (Int ⊕ Bool ⊕ Unit) :=
  cond (decide (x7907 < x7839)) ((impl_stepsToRoot x7785 (IntKind.wrap .i64 (x7907 + 1))).bind fun (v7918 : Int × Bool) => cond (!(v7918.2)) (some (Sum.inr (Sum.inl false))) (some (Sum.inl (IntKind.wrap .i64 (x7907 + 1))))) (some (Sum.inr (Sum.inr ())))

def impl_TreeOk_n4 (x7785 : List Int) (x7839 : Int) : Option (Bool ⊕ Unit) :=
  nloop (fun (s : Int) => ((impl_TreeOk_n3 x7785 x7839 s).map (Sum.elim (fun (t : Int) => Sum.inl t) (Sum.elim (fun (t : Bool) => Sum.inr (Sum.inl t)) (fun (t : Unit) => Sum.inr (Sum.inr t)))) : Option ((Int) ⊕ (Bool ⊕ Unit)))) LL 0

def impl_TreeOk_n5 (x7785 : List Int) (x7839 : Int) : Option (Unit ⊕ Bool) :=
  (impl_TreeOk_n4 x7785 x7839).map (Sum.elim (fun (t : Bool) => (Sum.inr t)) (fun (t : Unit) => (Sum.inl ())))

def impl_TreeOk_n6 (x7785 : List Int) : Option (Unit ⊕ Bool) :=
  (impl_TreeOk_n2 x7785).bind (fun (t : Int) => impl_TreeOk_n5 x7785 t)

def impl_TreeOk_n7 : Option (Bool) :=
  some true

def impl_TreeOk_n8 (x7785 : List Int) : Option (Bool) :=
  (impl_TreeOk_n6 x7785).bind (Sum.elim (fun (t : Unit) => impl_TreeOk_n7) (fun e => some ((fun (t : Bool) => t) e)))

def impl_TreeOk_n9 (x7785 : List Int) : Option (Bool) :=
  (impl_TreeOk_n1 x7785).bind (Sum.elim (fun (t : Unit) => impl_TreeOk_n8 x7785) (fun e => some ((fun (t : Bool) => t) e)))

@[irreducible] def impl_TreeOk (x7785 : List Int) : Option (Bool) :=
  impl_TreeOk_n9 x7785

def impl_ScoreOf_n1 (x7670 : List (List Int)) (x7671 : List Int) : Option (Unit ⊕ Int) :=
  (impl_ScoresOk x7670).bind fun (v7929 : Bool) => cond (!v7929) (some (Sum.inr (-1))) ((impl_TreeOk x7671).bind fun (v7931 : Bool) => cond (!v7931) (some (Sum.inr (-1))) (cond ((((List.length x7671 : Nat) : Int)) != (((List.length x7670 : Nat) : Int))) (some (Sum.inr (-1))) (some (Sum.inl ()))))

def impl_ScoreOf_n2 (x7671 : List Int) : Option (Int) :=
  some (((List.length x7671 : Nat) : Int))

def impl_ScoreOf_n3 (x7670 : List (List Int)) (x7950 : Int) (x7671 : List Int) (x7936 : Int) (x7951 : Int) : Option ((Int × Int) ⊕ Int) :=
  cond (decide (x7951 < x7936)) ((idx x7671 x7951).bind fun (v7960 : Int) => (idx x7670 x7951).bind fun (v7961 : List Int) => (idx v7961 v7960).bind fun (v7962 : Int) => some (Sum.inl ((IntKind.wrap .i64 (x7950 + v7962)), (IntKind.wrap .i64 (x7951 + 1))))) (some (Sum.inr x7950))

def impl_ScoreOf_n4 (x7670 : List (List Int)) (x7671 : List Int) (x7936 : Int) : Option (Int) :=
  nloop (fun (s : Int × Int) => ((impl_ScoreOf_n3 x7670 s.1 x7671 x7936 s.2).map (Sum.elim (fun (t : Int × Int) => Sum.inl (t.1, t.2)) (fun (t : Int) => Sum.inr t)) : Option ((Int × Int) ⊕ (Int)))) LL (0, 0)

def impl_ScoreOf_n5 (x7670 : List (List Int)) (x7671 : List Int) (x7936 : Int) : Option (Int) :=
  (impl_ScoreOf_n4 x7670 x7671 x7936).map (fun (t : Int) => t)

def impl_ScoreOf_n6 (x7670 : List (List Int)) (x7671 : List Int) : Option (Int) :=
  (impl_ScoreOf_n2 x7671).bind (fun (t : Int) => impl_ScoreOf_n5 x7670 x7671 t)

def impl_ScoreOf_n7 (x7950 : Int) : Option (Int) :=
  some x7950

def impl_ScoreOf_n8 (x7670 : List (List Int)) (x7671 : List Int) : Option (Int) :=
  (impl_ScoreOf_n6 x7670 x7671).bind (fun (t : Int) => impl_ScoreOf_n7 t)

def impl_ScoreOf_n9 (x7670 : List (List Int)) (x7671 : List Int) : Option (Int) :=
  (impl_ScoreOf_n1 x7670 x7671).bind (Sum.elim (fun (t : Unit) => impl_ScoreOf_n8 x7670 x7671) (fun e => some ((fun (t : Int) => t) e)))

@[irreducible] def impl_ScoreOf (x7670 : List (List Int)) (x7671 : List Int) : Option (Int) :=
  impl_ScoreOf_n9 x7670 x7671

def spec_l1In_n1 (x7996 : Int) (x7997 : Int) (x7998 : Int) : Option (Bool) :=
  cond (decide (x7996 ≥ x7997)) (some (decide (x7996 ≤ x7998))) (some false)

@[irreducible] def spec_l1In (x7996 : Int) (x7997 : Int) (x7998 : Int) : Option (Bool) :=
  spec_l1In_n1 x7996 x7997 x7998

def spec_ScoresOk_n1 : Option (Unit) :=
  some ()

def spec_ScoresOk_n2 : Option (Unit) :=
  some ()

def spec_ScoresOk_n3 (x7975 : List (List Int)) (x8034 : Int) : Option (Unit ⊕ Unit) :=
  cond (decide (x8034 < (((List.length x7975 : Nat) : Int)))) (some (Sum.inl ())) (some (Sum.inr ()))

def spec_ScoresOk_n4 (x7975 : List (List Int)) (x8034 : Int) : Option (Unit ⊕ Bool) :=
  (idx x7975 x8034).bind fun (v8042 : List Int) => cond ((((List.length v8042 : Nat) : Int)) != (IntKind.wrap .i64 ((((List.length x7975 : Nat) : Int)) + 1))) (some (Sum.inr false)) (some (Sum.inl ()))

def spec_ScoresOk_n5 (x7975 : List (List Int)) (x8034 : Int) (x8065 : Int) : Option (Int ⊕ Bool ⊕ Unit) :=
  (idx x7975 x8034).bind fun (v8076 : List Int) => cond (decide (x8065 < (((List.length v8076 : Nat) : Int)))) ((idx x7975 x8034).bind fun (v8079 : List Int) => (idx v8079 x8065).bind fun (v8080 : Int) => (spec_l1In v8080 0 20).bind fun (v8081 : Bool) => cond (!v8081) (some (Sum.inr (Sum.inl false))) (some (Sum.inl (IntKind.wrap .i64 (x8065 + 1))))) (some (Sum.inr (Sum.inr ())))

def spec_ScoresOk_n6 (x7975 : List (List Int)) (x8034 : Int) : Option (Bool ⊕ Unit) :=
  nloop (fun (s : Int) => ((spec_ScoresOk_n5 x7975 x8034 s).map (Sum.elim (fun (t : Int) => Sum.inl t) (Sum.elim (fun (t : Bool) => Sum.inr (Sum.inl t)) (fun (t : Unit) => Sum.inr (Sum.inr t)))) : Option ((Int) ⊕ (Bool ⊕ Unit)))) LL 0

def spec_ScoresOk_n7 (x7975 : List (List Int)) (x8034 : Int) : Option (Unit ⊕ Bool) :=
  (spec_ScoresOk_n6 x7975 x8034).map (Sum.elim (fun (t : Bool) => (Sum.inr t)) (fun (t : Unit) => (Sum.inl ())))

def spec_ScoresOk_n8 (x7975 : List (List Int)) (x8034 : Int) : Option (Unit ⊕ Bool) :=
  (spec_ScoresOk_n4 x7975 x8034).bind (Sum.elim (fun (t : Unit) => spec_ScoresOk_n7 x7975 x8034) (fun e => some ((fun (t : Bool) => (Sum.inr t)) e)))

def spec_ScoresOk_n9 (x7975 : List (List Int)) (x8034 : Int) : Option (Unit ⊕ Bool) :=
  (spec_ScoresOk_n8 x7975 x8034).map (Sum.elim (fun (t : Unit) => (Sum.inl ())) (fun (t : Bool) => (Sum.inr t)))

def spec_ScoresOk_n10 (x8034 : Int) : Option (Int) :=
  some (IntKind.wrap .i64 (x8034 + 1))

def spec_ScoresOk_n11 (x7975 : List (List Int)) (x8034 : Int) : Option (Int ⊕ Bool) :=
  (spec_ScoresOk_n9 x7975 x8034).bind (Sum.elim (fun (t : Unit) => (spec_ScoresOk_n10 x8034).map (fun (t : Int) => (Sum.inl t))) (fun e => some ((fun (t : Bool) => (Sum.inr t)) e)))

def spec_ScoresOk_n12 (x7975 : List (List Int)) (x8034 : Int) : Option (Int ⊕ Bool ⊕ Unit) :=
  (spec_ScoresOk_n3 x7975 x8034).bind (Sum.elim (fun (t : Unit) => (spec_ScoresOk_n11 x7975 x8034).map (Sum.elim (fun (t : Int) => (Sum.inl t)) (fun (t : Bool) => (Sum.inr (Sum.inl t))))) (fun e => some ((fun (t : Unit) => (Sum.inr (Sum.inr t))) e)))

def spec_ScoresOk_n13 (x7975 : List (List Int)) : Option (Bool ⊕ Unit) :=
  nloop (fun (s : Int) => ((spec_ScoresOk_n12 x7975 s).map (Sum.elim (fun (t : Int) => Sum.inl t) (Sum.elim (fun (t : Bool) => Sum.inr (Sum.inl t)) (fun (t : Unit) => Sum.inr (Sum.inr t)))) : Option ((Int) ⊕ (Bool ⊕ Unit)))) LL 0

def spec_ScoresOk_n14 (x7975 : List (List Int)) : Option (Unit ⊕ Bool) :=
  (spec_ScoresOk_n13 x7975).map (Sum.elim (fun (t : Bool) => (Sum.inr t)) (fun (t : Unit) => (Sum.inl ())))

def spec_ScoresOk_n15 (x7975 : List (List Int)) : Option (Unit ⊕ Bool) :=
  (spec_ScoresOk_n2).bind (fun (t : Unit) => spec_ScoresOk_n14 x7975)

def spec_ScoresOk_n16 (x7975 : List (List Int)) : Option (Bool) :=
  (spec_l1In (((List.length x7975 : Nat) : Int)) 1 5).bind fun (v8088 : Bool) => some v8088

def spec_ScoresOk_n17 (x7975 : List (List Int)) : Option (Bool) :=
  (spec_ScoresOk_n15 x7975).bind (Sum.elim (fun (t : Unit) => spec_ScoresOk_n16 x7975) (fun e => some ((fun (t : Bool) => t) e)))

def spec_ScoresOk_n18 (x7975 : List (List Int)) : Option (Bool) :=
  (spec_ScoresOk_n1).bind (fun (t : Unit) => spec_ScoresOk_n17 x7975)

@[irreducible] def spec_ScoresOk (x7975 : List (List Int)) : Option (Bool) :=
  spec_ScoresOk_n18 x7975

def spec_TreeOk_n1 (x8092 : List Int) : Option (Int ⊕ Bool) :=
  (spec_l1In (((List.length x8092 : Nat) : Int)) 1 8).bind fun (v8098 : Bool) => cond (!v8098) (some (Sum.inr false)) (some (Sum.inl (((List.length x8092 : Nat) : Int))))

def spec_TreeOk_n2 : Option (Unit) :=
  some ()

def spec_TreeOk_n3 (x8097 : Int) (x8164 : Int) (x8165 : Int) : Option (Unit ⊕ Int) :=
  cond (decide (x8165 < x8097)) (some (Sum.inl ())) (some (Sum.inr x8164))

def spec_TreeOk_n4 (x8092 : List Int) (x8097 : Int) (x8164 : Int) (x8165 : Int) : Option ((Int × Int) ⊕ Bool) :=
  (idx x8092 x8165).bind fun (v8182 : Int) => (spec_l1In v8182 0 x8097).bind fun (v8183 : Bool) => cond (!v8183) (some (Sum.inr false)) ((idx x8092 x8165).bind fun (v8185 : Int) => cond (v8185 == (IntKind.wrap .i64 (x8165 + 1))) (some (Sum.inr false)) ((idx x8092 x8165).bind fun (v8188 : Int) => cond (v8188 == 0) (some (Sum.inl ((IntKind.wrap .i64 (x8164 + 1)), (IntKind.wrap .i64 (x8165 + 1))))) (some (Sum.inl (x8164, (IntKind.wrap .i64 (x8165 + 1)))))))

def spec_TreeOk_n5 : Option (Unit) :=
  some ()

def spec_TreeOk_n6 (x8092 : List Int) (x8097 : Int) (x8210 : Int) (x8211 : Int) : Option ((Int × Int) ⊕ Bool ⊕ Int) :=
  cond (decide (x8210 > 0)) (cond (decide (x8211 < x8097)) ((idx x8092 (IntKind.wrap .i64 (x8210 - 1))).bind fun (v8223 : Int) => (spec_l1In v8223 0 x8097).bind fun (v8224 : Bool) => cond (!v8224) (some (Sum.inr (Sum.inl false))) (some (Sum.inl (v8223, (IntKind.wrap .i64 (x8211 + 1)))))) (some (Sum.inr (Sum.inr x8210)))) (some (Sum.inr (Sum.inr x8210)))

def spec_TreeOk_n7 (x8092 : List Int) (x8097 : Int) (x8194 : Int) : Option (Bool ⊕ Int) :=
  nloop (fun (s : Int × Int) => ((spec_TreeOk_n6 x8092 x8097 s.1 s.2).map (Sum.elim (fun (t : Int × Int) => Sum.inl (t.1, t.2)) (Sum.elim (fun (t : Bool) => Sum.inr (Sum.inl t)) (fun (t : Int) => Sum.inr (Sum.inr t)))) : Option ((Int × Int) ⊕ (Bool ⊕ Int)))) LL (x8194, 0)

def spec_TreeOk_n8 (x8092 : List Int) (x8097 : Int) (x8194 : Int) : Option (Int ⊕ Bool) :=
  (spec_TreeOk_n7 x8092 x8097 x8194).map (Sum.elim (fun (t : Bool) => (Sum.inr t)) (fun (t : Int) => (Sum.inl t)))

def spec_TreeOk_n9 (x8092 : List Int) (x8097 : Int) (x8194 : Int) : Option (Int ⊕ Bool) :=
  (spec_TreeOk_n5).bind (fun (t : Unit) => spec_TreeOk_n8 x8092 x8097 x8194)

def spec_TreeOk_n10 (x8210 : Int) : Option (Unit ⊕ Bool) :=
  cond (decide (x8210 > 0)) (some (Sum.inr false)) (some (Sum.inl ()))

def spec_TreeOk_n11 (x8092 : List Int) (x8097 : Int) (x8194 : Int) : Option (Unit ⊕ Bool) :=
  (spec_TreeOk_n9 x8092 x8097 x8194).bind (Sum.elim (fun (t : Int) => spec_TreeOk_n10 t) (fun e => some ((fun (t : Bool) => (Sum.inr t)) e)))

def spec_TreeOk_n12 (x8092 : List Int) (x8097 : Int) (x8164 : Int) (x8165 : Int) : Option (Int ⊕ Bool) :=
  (spec_TreeOk_n4 x8092 x8097 x8164 x8165).bind (Sum.elim (fun (t : Int × Int) => (spec_TreeOk_n11 x8092 x8097 t.2).map (Sum.elim (fun (u : Unit) => (Sum.inl t.1)) (fun (u : Bool) => (Sum.inr u)))) (fun e => some ((fun (t : Bool) => (Sum.inr t)) e)))

def spec_TreeOk_n13 (x8092 : List Int) (x8097 : Int) (x8164 : Int) (x8165 : Int) : Option (Int ⊕ Bool) :=
  (spec_TreeOk_n12 x8092 x8097 x8164 x8165).map (Sum.elim (fun (t : Int) => (Sum.inl t)) (fun (t : Bool) => (Sum.inr t)))

def spec_TreeOk_n14 (x8165 : Int) : Option (Int) :=
  some (IntKind.wrap .i64 (x8165 + 1))

def spec_TreeOk_n15 (x8092 : List Int) (x8097 : Int) (x8164 : Int) (x8165 : Int) : Option ((Int × Int) ⊕ Bool) :=
  (spec_TreeOk_n13 x8092 x8097 x8164 x8165).bind (Sum.elim (fun (t : Int) => (spec_TreeOk_n14 x8165).map (fun (u : Int) => (Sum.inl (t, u)))) (fun e => some ((fun (t : Bool) => (Sum.inr t)) e)))

def spec_TreeOk_n16 (x8092 : List Int) (x8097 : Int) (x8164 : Int) (x8165 : Int) : Option ((Int × Int) ⊕ Bool ⊕ Int) :=
  (spec_TreeOk_n3 x8097 x8164 x8165).bind (Sum.elim (fun (t : Unit) => (spec_TreeOk_n15 x8092 x8097 x8164 x8165).map (Sum.elim (fun (t : Int × Int) => (Sum.inl (t.1, t.2))) (fun (t : Bool) => (Sum.inr (Sum.inl t))))) (fun e => some ((fun (t : Int) => (Sum.inr (Sum.inr t))) e)))

def spec_TreeOk_n17 (x8092 : List Int) (x8097 : Int) : Option (Bool ⊕ Int) :=
  nloop (fun (s : Int × Int) => ((spec_TreeOk_n16 x8092 x8097 s.1 s.2).map (Sum.elim (fun (t : Int × Int) => Sum.inl (t.1, t.2)) (Sum.elim (fun (t : Bool) => Sum.inr (Sum.inl t)) (fun (t : Int) => Sum.inr (Sum.inr t)))) : Option ((Int × Int) ⊕ (Bool ⊕ Int)))) LL (0, 0)

def spec_TreeOk_n18 (x8092 : List Int) (x8097 : Int) : Option (Int ⊕ Bool) :=
  (spec_TreeOk_n17 x8092 x8097).map (Sum.elim (fun (t : Bool) => (Sum.inr t)) (fun (t : Int) => (Sum.inl t)))

def spec_TreeOk_n19 (x8092 : List Int) (x8097 : Int) : Option (Int ⊕ Bool) :=
  (spec_TreeOk_n2).bind (fun (t : Unit) => spec_TreeOk_n18 x8092 x8097)

def spec_TreeOk_n20 (x8164 : Int) : Option (Bool) :=
  some (x8164 == 1)

def spec_TreeOk_n21 (x8092 : List Int) (x8097 : Int) : Option (Bool) :=
  (spec_TreeOk_n19 x8092 x8097).bind (Sum.elim (fun (t : Int) => spec_TreeOk_n20 t) (fun e => some ((fun (t : Bool) => t) e)))

def spec_TreeOk_n22 (x8092 : List Int) : Option (Bool) :=
  (spec_TreeOk_n1 x8092).bind (Sum.elim (fun (t : Int) => spec_TreeOk_n21 x8092 t) (fun e => some ((fun (t : Bool) => t) e)))

@[irreducible] def spec_TreeOk (x8092 : List Int) : Option (Bool) :=
  spec_TreeOk_n22 x8092

def spec_ScoreOf_n1 (x7973 : List (List Int)) (x7974 : List Int) : Option (Unit ⊕ Int) :=
  (spec_ScoresOk x7973).bind fun (v8238 : Bool) => cond (!v8238) (some (Sum.inr (-1))) ((spec_TreeOk x7974).bind fun (v8240 : Bool) => cond (!v8240) (some (Sum.inr (-1))) (cond ((((List.length x7974 : Nat) : Int)) != (((List.length x7973 : Nat) : Int))) (some (Sum.inr (-1))) (some (Sum.inl ()))))

def spec_ScoreOf_n2 : Option (Unit) :=
  some ()

def spec_ScoreOf_n3 (x7973 : List (List Int)) (x7974 : List Int) (x8260 : Int) (x8261 : Int) : Option ((Int × Int) ⊕ Int) :=
  cond (decide (x8261 < (((List.length x7974 : Nat) : Int)))) ((idx x7973 x8261).bind fun (v8272 : List Int) => (idx x7974 x8261).bind fun (v8273 : Int) => (idx v8272 v8273).bind fun (v8274 : Int) => some (Sum.inl ((IntKind.wrap .i64 (x8260 + v8274)), (IntKind.wrap .i64 (x8261 + 1))))) (some (Sum.inr x8260))

def spec_ScoreOf_n4 (x7973 : List (List Int)) (x7974 : List Int) : Option (Int) :=
  nloop (fun (s : Int × Int) => ((spec_ScoreOf_n3 x7973 x7974 s.1 s.2).map (Sum.elim (fun (t : Int × Int) => Sum.inl (t.1, t.2)) (fun (t : Int) => Sum.inr t)) : Option ((Int × Int) ⊕ (Int)))) LL (0, 0)

def spec_ScoreOf_n5 (x7973 : List (List Int)) (x7974 : List Int) : Option (Int) :=
  (spec_ScoreOf_n4 x7973 x7974).map (fun (t : Int) => t)

def spec_ScoreOf_n6 (x7973 : List (List Int)) (x7974 : List Int) : Option (Int) :=
  (spec_ScoreOf_n2).bind (fun (t : Unit) => spec_ScoreOf_n5 x7973 x7974)

def spec_ScoreOf_n7 (x8260 : Int) : Option (Int) :=
  some x8260

def spec_ScoreOf_n8 (x7973 : List (List Int)) (x7974 : List Int) : Option (Int) :=
  (spec_ScoreOf_n6 x7973 x7974).bind (fun (t : Int) => spec_ScoreOf_n7 t)

def spec_ScoreOf_n9 (x7973 : List (List Int)) (x7974 : List Int) : Option (Int) :=
  (spec_ScoreOf_n1 x7973 x7974).bind (Sum.elim (fun (t : Unit) => spec_ScoreOf_n8 x7973 x7974) (fun e => some ((fun (t : Int) => t) e)))

@[irreducible] def spec_ScoreOf (x7973 : List (List Int)) (x7974 : List Int) : Option (Int) :=
  spec_ScoreOf_n9 x7973 x7974

def laws_alive_n1 : Option (Bool) :=
  (impl_TreeOk ([0])).bind fun (v8296 : Bool) => cond v8296 ((impl_TreeOk ([1])).bind fun (v8298 : Bool) => some (!v8298)) (some false)

@[irreducible] def laws_alive : Option (Bool) :=
  laws_alive_n1

def impl_scoreBounds_n1 (x8320 : List (List Int)) : Option (((List Int))) :=
  (mk (IntKind.wrap .i64 ((((List.length x8320 : Nat) : Int)) + 1)) (IntKind.wrap .i64 ((((List.length x8320 : Nat) : Int)) + 1))).bind fun (v8323 : Nat) => some (List.replicate v8323 (0 : Int))

def impl_scoreBounds_n2 (x8320 : List (List Int)) : Option (Int) :=
  some (IntKind.wrap .i64 ((((List.length x8320 : Nat) : Int)) - 1))

def impl_scoreBounds_n3 (x8320 : List (List Int)) (x8347 : Int) (x8348 : List Int) : Option ((Int × (List Int)) ⊕ ((List Int))) :=
  cond (decide (x8347 ≥ 0)) ((idx x8320 x8347).bind fun (v8360 : List Int) => (inb (IntKind.wrap .i64 (x8347 + 1)) (List.length x8348)).bind fun (v8362 : Nat) => (x8348[v8362]?).bind fun (v8363 : Int) => (slices_Max_int_int v8360).bind fun (v8364 : Int) => (inb x8347 (List.length x8348)).bind fun (v8366 : Nat) => some (Sum.inl ((IntKind.wrap .i64 (x8347 - 1)), (x8348.set v8366 (IntKind.wrap .i64 (v8364 + v8363)))))) (some (Sum.inr x8348))

def impl_scoreBounds_n4 (x8320 : List (List Int)) (x8326 : Int) (x8324 : List Int) : Option (((List Int))) :=
  nloop (fun (s : Int × (List Int)) => ((impl_scoreBounds_n3 x8320 s.1 s.2).map (Sum.elim (fun (t : Int × (List Int)) => Sum.inl (t.1, t.2)) (fun (t : (List Int)) => Sum.inr t)) : Option ((Int × (List Int)) ⊕ (((List Int)))))) LL (x8326, x8324)

def impl_scoreBounds_n5 (x8320 : List (List Int)) (x8326 : Int) (x8324 : List Int) : Option (((List Int))) :=
  (impl_scoreBounds_n4 x8320 x8326 x8324).map (fun (t : (List Int)) => t)

def impl_scoreBounds_n6 (x8320 : List (List Int)) (x8324 : List Int) : Option (((List Int))) :=
  (impl_scoreBounds_n2 x8320).bind (fun (t : Int) => impl_scoreBounds_n5 x8320 t x8324)

def impl_scoreBounds_n7 (x8348 : List Int) : Option (((List Int))) :=
  some x8348

def impl_scoreBounds_n8 (x8320 : List (List Int)) (x8324 : List Int) : Option (((List Int))) :=
  (impl_scoreBounds_n6 x8320 x8324).bind (fun (t : (List Int)) => impl_scoreBounds_n7 t)

def impl_scoreBounds_n9 (x8320 : List (List Int)) : Option (((List Int))) :=
  (impl_scoreBounds_n1 x8320).bind (fun (t : (List Int)) => impl_scoreBounds_n8 x8320 t)

@[irreducible] def impl_scoreBounds (x8320 : List (List Int)) : Option ((List Int)) :=
  impl_scoreBounds_n9 x8320

def impl_newHeadSearch_n1 (x8318 : List (List Int)) : Option (((List Int) × (List Int))) :=
  (impl_scoreBounds x8318).bind fun (v8373 : List Int) => (mk (((List.length x8318 : Nat) : Int)) (((List.length x8318 : Nat) : Int))).bind fun (v8374 : Nat) => some ((List.replicate v8374 (0 : Int)), v8373)

@[irreducible] def impl_newHeadSearch (x8318 : List (List Int)) : Option ((List Int) × (List Int)) :=
  impl_newHeadSearch_n1 x8318

def impl_headSearch_giveFrom_n1 (R0 : Int → Int → (List (List Int)) → Int → (List Int) → (List Int) → Option (Int × (List Int))) (x8384 : Int) (x8385 : Int) (x8386 : List (List Int)) (x8387 : Int) (x8388 : List Int) (x8389 : List Int) : Option (((List Int) × Int) ⊕ (Int × (List Int))) :=
  (inb x8384 (List.length x8389)).bind fun (v8489 : Nat) => (x8389[v8489]?).bind fun (v8490 : Int) => cond (decide ((IntKind.wrap .i64 (x8385 + v8490)) ≤ x8387)) (some (Sum.inr (x8387, x8388))) (cond (x8384 == (((List.length x8388 : Nat) : Int))) ((impl_TreeOk x8388).bind fun (v8495 : Bool) => cond v8495 (some (Sum.inr (x8385, x8388))) (some (Sum.inr (x8387, x8388)))) ((idx x8386 x8384).bind fun (v8496 : List Int) => some (Sum.inl (v8496, (((List.length v8496 : Nat) : Int))))))

def impl_headSearch_giveFrom_n2 (R0 : Int → Int → (List (List Int)) → Int → (List Int) → (List Int) → Option (Int × (List Int))) (x8384 : Int) (x8385 : Int) (x8496 : List Int) (x8497 : Int) (x8519 : Int) (x8386 : List (List Int)) (x8520 : Int) (x8521 : List Int) (x8389 : List Int) : Option ((Int × Int × (List Int)) ⊕ (Int × (List Int))) :=
  cond (decide (x8519 < x8497)) ((idx x8496 x8519).bind fun (v8534 : Int) => (inb x8384 (List.length x8521)).bind fun (v8535 : Nat) => (R0 (IntKind.wrap .i64 (x8384 + 1)) (IntKind.wrap .i64 (x8385 + v8534)) x8386 x8520 (x8521.set v8535 x8519) x8389).bind fun (v8539 : Int × (List Int)) => some (Sum.inl ((IntKind.wrap .i64 (x8519 + 1)), (v8539.1), (v8539.2)))) (some (Sum.inr (x8520, x8521)))

def impl_headSearch_giveFrom_n3 (R0 : Int → Int → (List (List Int)) → Int → (List Int) → (List Int) → Option (Int × (List Int))) (x8384 : Int) (x8385 : Int) (x8496 : List Int) (x8497 : Int) (x8386 : List (List Int)) (x8387 : Int) (x8388 : List Int) (x8389 : List Int) : Option ((Int × (List Int))) :=
  nloop (fun (s : Int × Int × (List Int)) => ((impl_headSearch_giveFrom_n2 R0 x8384 x8385 x8496 x8497 s.1 x8386 s.2.1 s.2.2 x8389).map (Sum.elim (fun (t : Int × Int × (List Int)) => Sum.inl (t.1, t.2.1, t.2.2)) (fun (t : Int × (List Int)) => Sum.inr t)) : Option ((Int × Int × (List Int)) ⊕ ((Int × (List Int)))))) LL (0, x8387, x8388)

def impl_headSearch_giveFrom_n4 (R0 : Int → Int → (List (List Int)) → Int → (List Int) → (List Int) → Option (Int × (List Int))) (x8384 : Int) (x8385 : Int) (x8496 : List Int) (x8497 : Int) (x8386 : List (List Int)) (x8387 : Int) (x8388 : List Int) (x8389 : List Int) : Option ((Int × (List Int))) :=
  (impl_headSearch_giveFrom_n3 R0 x8384 x8385 x8496 x8497 x8386 x8387 x8388 x8389).map (fun (t : Int × (List Int)) => (t.1, t.2))

def impl_headSearch_giveFrom_n5 (R0 : Int → Int → (List (List Int)) → Int → (List Int) → (List Int) → Option (Int × (List Int))) (x8384 : Int) (x8385 : Int) (x8386 : List (List Int)) (x8387 : Int) (x8388 : List Int) (x8389 : List Int) : Option ((Int × (List Int)) ⊕ (Int × (List Int))) :=
  (impl_headSearch_giveFrom_n1 R0 x8384 x8385 x8386 x8387 x8388 x8389).bind (Sum.elim (fun (t : (List Int) × Int) => (impl_headSearch_giveFrom_n4 R0 x8384 x8385 t.1 t.2 x8386 x8387 x8388 x8389).map (fun (u : Int × (List Int)) => (Sum.inl (u.1, u.2)))) (fun e => some ((fun (t : Int × (List Int)) => (Sum.inr t)) e)))

def impl_headSearch_giveFrom_one (R0 : Int → Int → (List (List Int)) → Int → (List Int) → (List Int) → Option (Int × (List Int))) (x8384 : Int) (x8385 : Int) (x8386 : List (List Int)) (x8387 : Int) (x8388 : List Int) (x8389 : List Int) : Option (Int × (List Int)) :=
  (impl_headSearch_giveFrom_n5 R0 x8384 x8385 x8386 x8387 x8388 x8389).map (Sum.elim (fun (t : Int × (List Int)) => (t.1, t.2)) (fun (t : Int × (List Int)) => t))

def impl_headSearch_giveFrom_knot : Nat → (Int → Int → (List (List Int)) → Int → (List Int) → (List Int) → Option (Int × (List Int)))
  | 0 => (fun _ _ _ _ _ _ => none)
  | n + 1 => (fun y0 y1 y2 y3 y4 y5 => impl_headSearch_giveFrom_one (impl_headSearch_giveFrom_knot n) y0 y1 y2 y3 y4 y5)

def impl_headSearch_giveFrom_fuel (n : Nat) : Int → Int → (List (List Int)) → Int → (List Int) → (List Int) → Option (Int × (List Int)) := (impl_headSearch_giveFrom_knot n)

@[irreducible] def impl_headSearch_giveFrom (x8384 : Int) (x8385 : Int) (x8386 : List (List Int)) (x8387 : Int) (x8388 : List Int) (x8389 : List Int) : Option (Int × (List Int)) := impl_headSearch_giveFrom_fuel RR x8384 x8385 x8386 x8387 x8388 x8389

def impl_BestScore_n1 (x8313 : List (List Int)) : Option (Int) :=
  (impl_ScoresOk x8313).bind fun (v8556 : Bool) => cond (!v8556) (some (-1)) ((impl_newHeadSearch x8313).bind fun (v8558 : (List Int) × (List Int)) => (impl_headSearch_giveFrom 0 0 x8313 (-1) (v8558.1) (v8558.2)).bind fun (v8561 : Int × (List Int)) => some (v8561.1))

@[irreducible] def impl_BestScore (x8313 : List (List Int)) : Option (Int) :=
  impl_BestScore_n1 x8313

def impl_RootOf_n1 (x8577 : List Int) : Option (Unit ⊕ Int) :=
  (impl_TreeOk x8577).bind fun (v8580 : Bool) => cond (!v8580) (some (Sum.inr (-1))) (some (Sum.inl ()))

def impl_RootOf_n2 (x8577 : List Int) (x8590 : Int) (x8591 : Int) : Option ((Int × Int) ⊕ (Int × Int)) :=
  (impl_walker_up x8577 x8590 x8591).bind fun (v8596 : Bool × Int × Int) => cond (v8596.1) (some (Sum.inl ((v8596.2.1), (v8596.2.2)))) (some (Sum.inr ((v8596.2.1), (v8596.2.2))))

def impl_RootOf_n3 (x8577 : List Int) : Option ((Int × Int)) :=
  nloop (fun (s : Int × Int) => ((impl_RootOf_n2 x8577 s.1 s.2).map (Sum.elim (fun (t : Int × Int) => Sum.inl (t.1, t.2)) (fun (t : Int × Int) => Sum.inr t)) : Option ((Int × Int) ⊕ ((Int × Int))))) LL (1, 0)

def impl_RootOf_n4 (x8577 : List Int) : Option ((Int × Int)) :=
  (impl_RootOf_n3 x8577).map (fun (t : Int × Int) => (t.1, t.2))

def impl_RootOf_n5 (x8598 : Int) : Option (Int) :=
  some x8598

def impl_RootOf_n6 (x8577 : List Int) : Option (Int) :=
  (impl_RootOf_n4 x8577).bind (fun (t : Int × Int) => impl_RootOf_n5 t.1)

def impl_RootOf_n7 (x8577 : List Int) : Option (Int) :=
  (impl_RootOf_n1 x8577).bind (Sum.elim (fun (t : Unit) => impl_RootOf_n6 x8577) (fun e => some ((fun (t : Int) => t) e)))

@[irreducible] def impl_RootOf (x8577 : List Int) : Option (Int) :=
  impl_RootOf_n7 x8577

def impl_only_n1 (x8605 : Int) : Option (Int) :=
  (shl .u64 1 (IntKind.wrap .i64 (x8605 - 1))).bind fun (v8609 : Int) => some v8609

@[irreducible] def impl_only (x8605 : Int) : Option (Int) :=
  impl_only_n1 x8605

def impl_dependents_n1 : Option (Unit) :=
  some ()

def impl_dependents_n2 (x8611 : List Int) : Option (Int) :=
  some (((List.length x8611 : Nat) : Int))

def impl_dependents_n3 (x8611 : List Int) (x8612 : Int) (x8632 : Int) (x8613 : Int) (x8633 : Int) : Option ((Int × Int) ⊕ Int) :=
  cond (decide (x8633 < x8613)) ((idx x8611 x8633).bind fun (v8643 : Int) => cond (v8643 == x8612) ((impl_only (IntKind.wrap .i64 (x8633 + 1))).bind fun (v8646 : Int) => some (Sum.inl ((ior .u64 x8632 v8646), (IntKind.wrap .i64 (x8633 + 1))))) (some (Sum.inl (x8632, (IntKind.wrap .i64 (x8633 + 1)))))) (some (Sum.inr x8632))

def impl_dependents_n4 (x8611 : List Int) (x8612 : Int) (x8613 : Int) : Option (Int) :=
  nloop (fun (s : Int × Int) => ((impl_dependents_n3 x8611 x8612 s.1 x8613 s.2).map (Sum.elim (fun (t : Int × Int) => Sum.inl (t.1, t.2)) (fun (t : Int) => Sum.inr t)) : Option ((Int × Int) ⊕ (Int)))) LL (0, 0)

def impl_dependents_n5 (x8611 : List Int) (x8612 : Int) (x8613 : Int) : Option (Int) :=
  (impl_dependents_n4 x8611 x8612 x8613).map (fun (t : Int) => t)

def impl_dependents_n6 (x8611 : List Int) (x8612 : Int) : Option (Int) :=
  (impl_dependents_n2 x8611).bind (fun (t : Int) => impl_dependents_n5 x8611 x8612 t)

def impl_dependents_n7 (x8632 : Int) : Option (Int) :=
  some x8632

def impl_dependents_n8 (x8611 : List Int) (x8612 : Int) : Option (Int) :=
  (impl_dependents_n6 x8611 x8612).bind (fun (t : Int) => impl_dependents_n7 t)

def impl_dependents_n9 (x8611 : List Int) (x8612 : Int) : Option (Int) :=
  (impl_dependents_n1).bind (fun (t : Unit) => impl_dependents_n8 x8611 x8612)

@[irreducible] def impl_dependents (x8611 : List Int) (x8612 : Int) : Option (Int) :=
  impl_dependents_n9 x8611 x8612

def math_bits_OnesCount64_n1 (x8656 : Int) : Option (Int) :=
  (shr .u64 x8656 1).bind fun (v8657 : Int) => some (IntKind.wrap .u64 ((iand .u64 v8657 6148914691236517205) + (iand .u64 x8656 6148914691236517205)))

def math_bits_OnesCount64_n2 (x8660 : Int) : Option (Int) :=
  (shr .u64 x8660 2).bind fun (v8673 : Int) => some (IntKind.wrap .u64 ((iand .u64 v8673 3689348814741910323) + (iand .u64 x8660 3689348814741910323)))

def math_bits_OnesCount64_n3 (x8676 : Int) : Option (Int) :=
  (shr .u64 x8676 4).bind fun (v8680 : Int) => some (iand .u64 (IntKind.wrap .u64 (v8680 + x8676)) 1085102592571150095)

def math_bits_OnesCount64_n4 (x8682 : Int) : Option (Int) :=
  (shr .u64 x8682 8).bind fun (v8685 : Int) => some (IntKind.wrap .u64 (x8682 + v8685))

def math_bits_OnesCount64_n5 (x8686 : Int) : Option (Int) :=
  (shr .u64 x8686 16).bind fun (v8689 : Int) => some (IntKind.wrap .u64 (x8686 + v8689))

def math_bits_OnesCount64_n6 (x8690 : Int) : Option (Int) :=
  (shr .u64 x8690 32).bind fun (v8693 : Int) => some (IntKind.wrap .u64 (x8690 + v8693))

def math_bits_OnesCount64_n7 (x8694 : Int) : Option (Int) :=
  some (iand .i64 (IntKind.wrap .i64 x8694) 127)

def math_bits_OnesCount64_n8 (x8698 : Int) : Option (Int) :=
  some x8698

def math_bits_OnesCount64_n9 (x8694 : Int) : Option (Int) :=
  (math_bits_OnesCount64_n7 x8694).bind (fun (t : Int) => math_bits_OnesCount64_n8 t)

def math_bits_OnesCount64_n10 (x8690 : Int) : Option (Int) :=
  (math_bits_OnesCount64_n6 x8690).bind (fun (t : Int) => math_bits_OnesCount64_n9 t)

def math_bits_OnesCount64_n11 (x8686 : Int) : Option (Int) :=
  (math_bits_OnesCount64_n5 x8686).bind (fun (t : Int) => math_bits_OnesCount64_n10 t)

def math_bits_OnesCount64_n12 (x8682 : Int) : Option (Int) :=
  (math_bits_OnesCount64_n4 x8682).bind (fun (t : Int) => math_bits_OnesCount64_n11 t)

def math_bits_OnesCount64_n13 (x8676 : Int) : Option (Int) :=
  (math_bits_OnesCount64_n3 x8676).bind (fun (t : Int) => math_bits_OnesCount64_n12 t)

def math_bits_OnesCount64_n14 (x8660 : Int) : Option (Int) :=
  (math_bits_OnesCount64_n2 x8660).bind (fun (t : Int) => math_bits_OnesCount64_n13 t)

def math_bits_OnesCount64_n15 (x8656 : Int) : Option (Int) :=
  (math_bits_OnesCount64_n1 x8656).bind (fun (t : Int) => math_bits_OnesCount64_n14 t)

@[irreducible] def math_bits_OnesCount64 (x8656 : Int) : Option (Int) :=
  math_bits_OnesCount64_n15 x8656

def math_bits_OnesCount_n1 (x8655 : Int) : Option (Int) :=
  (math_bits_OnesCount64 x8655).bind fun (v8700 : Int) => some v8700

@[irreducible] def math_bits_OnesCount (x8655 : Int) : Option (Int) :=
  math_bits_OnesCount_n1 x8655

def impl_wordSet_count_n1 (x8654 : Int) : Option (Int) :=
  (math_bits_OnesCount x8654).bind fun (v8702 : Int) => some v8702

@[irreducible] def impl_wordSet_count (x8654 : Int) : Option (Int) :=
  impl_wordSet_count_n1 x8654

def math_bits_TrailingZeros64_n1 (x8709 : Int) : Option (Int) :=
  cond (x8709 == 0) (some 64) ((shr .u64 (IntKind.wrap .u64 ((iand .u64 x8709 (IntKind.wrap .u64 (0 - x8709))) * 285870213051353865)) 58).bind fun (v8723 : Int) => (same (List.length tab1) 64).bind fun (v8724 : Unit) => (idx tab1 v8723).bind fun (v8725 : Int) => some (IntKind.wrap .i64 v8725))

@[irreducible] def math_bits_TrailingZeros64 (x8709 : Int) : Option (Int) :=
  math_bits_TrailingZeros64_n1 x8709

def math_bits_TrailingZeros_n1 (x8708 : Int) : Option (Int) :=
  (math_bits_TrailingZeros64 x8708).bind fun (v8729 : Int) => some v8729

@[irreducible] def math_bits_TrailingZeros (x8708 : Int) : Option (Int) :=
  math_bits_TrailingZeros_n1 x8708

def impl_wordSet_list_n1 (x8653 : Int) : Option (((List Int))) :=
  (impl_wordSet_count x8653).bind fun (v8703 : Int) => (mk 0 v8703).bind fun (v8704 : Nat) => some (List.replicate v8704 (0 : Int))

def impl_wordSet_list_n2 : Option (Unit) :=
  some ()

def impl_wordSet_list_n3 (x8745 : Int) (x8746 : List Int) : Option ((Int × (List Int)) ⊕ ((List Int))) :=
  cond (x8745 != 0) ((math_bits_TrailingZeros x8745).bind fun (v8756 : Int) => (room ((List.length x8746) + List.length ([(IntKind.wrap .i64 (v8756 + 1))]))).bind fun (v8760 : Unit) => some (Sum.inl ((iand .u64 x8745 (IntKind.wrap .u64 (x8745 - 1))), (x8746 ++ ([(IntKind.wrap .i64 (v8756 + 1))]))))) (some (Sum.inr x8746))

def impl_wordSet_list_n4 (x8653 : Int) (x8705 : List Int) : Option (((List Int))) :=
  nloop (fun (s : Int × (List Int)) => ((impl_wordSet_list_n3 s.1 s.2).map (Sum.elim (fun (t : Int × (List Int)) => Sum.inl (t.1, t.2)) (fun (t : (List Int)) => Sum.inr t)) : Option ((Int × (List Int)) ⊕ (((List Int)))))) LL (x8653, x8705)

def impl_wordSet_list_n5 (x8653 : Int) (x8705 : List Int) : Option (((List Int))) :=
  (impl_wordSet_list_n4 x8653 x8705).map (fun (t : (List Int)) => t)

def impl_wordSet_list_n6 (x8653 : Int) (x8705 : List Int) : Option (((List Int))) :=
  (impl_wordSet_list_n2).bind (fun (t : Unit) => impl_wordSet_list_n5 x8653 x8705)

def impl_wordSet_list_n7 (x8746 : List Int) : Option (((List Int))) :=
  some x8746

def impl_wordSet_list_n8 (x8653 : Int) (x8705 : List Int) : Option (((List Int))) :=
  (impl_wordSet_list_n6 x8653 x8705).bind (fun (t : (List Int)) => impl_wordSet_list_n7 t)

def impl_wordSet_list_n9 (x8653 : Int) : Option (((List Int))) :=
  (impl_wordSet_list_n1 x8653).bind (fun (t : (List Int)) => impl_wordSet_list_n8 x8653 t)

@[irreducible] def impl_wordSet_list (x8653 : Int) : Option ((List Int)) :=
  impl_wordSet_list_n9 x8653

def impl_fillYields_n1 (R0 : (List Int) → Int → (List Int) → Option (Int × (List Int))) (x8603 : Int) : Option (Int) :=
  (impl_only x8603).bind fun (v8780 : Int) => some v8780

def impl_fillYields_n2 (R0 : (List Int) → Int → (List Int) → Option (Int × (List Int))) (x8602 : List Int) (x8603 : Int) : Option ((Int × (List Int))) :=
  (impl_dependents x8602 x8603).bind fun (v8781 : Int) => (impl_wordSet_list v8781).bind fun (v8782 : List Int) => some ((((List.length v8782 : Nat) : Int)), v8782)

def impl_fillYields_n3 (R0 : (List Int) → Int → (List Int) → Option (Int × (List Int))) (x8602 : List Int) (x8801 : Int) (x8783 : Int) (x8802 : Int) (x8803 : List Int) (x8782 : List Int) : Option ((Int × Int × (List Int)) ⊕ (Int × (List Int))) :=
  cond (decide (x8802 < x8783)) ((inb x8802 (List.length x8782)).bind fun (v8814 : Nat) => (x8782[v8814]?).bind fun (v8815 : Int) => (R0 x8602 v8815 x8803).bind fun (v8816 : Int × (List Int)) => some (Sum.inl ((ior .u64 x8801 (v8816.1)), (IntKind.wrap .i64 (x8802 + 1)), (v8816.2)))) (some (Sum.inr (x8801, x8803)))

def impl_fillYields_n4 (R0 : (List Int) → Int → (List Int) → Option (Int × (List Int))) (x8602 : List Int) (x8780 : Int) (x8783 : Int) (x8604 : List Int) (x8782 : List Int) : Option ((Int × (List Int))) :=
  nloop (fun (s : Int × Int × (List Int)) => ((impl_fillYields_n3 R0 x8602 s.1 x8783 s.2.1 s.2.2 x8782).map (Sum.elim (fun (t : Int × Int × (List Int)) => Sum.inl (t.1, t.2.1, t.2.2)) (fun (t : Int × (List Int)) => Sum.inr t)) : Option ((Int × Int × (List Int)) ⊕ ((Int × (List Int)))))) LL (x8780, 0, x8604)

def impl_fillYields_n5 (R0 : (List Int) → Int → (List Int) → Option (Int × (List Int))) (x8602 : List Int) (x8780 : Int) (x8783 : Int) (x8604 : List Int) (x8782 : List Int) : Option ((Int × (List Int))) :=
  (impl_fillYields_n4 R0 x8602 x8780 x8783 x8604 x8782).map (fun (t : Int × (List Int)) => (t.1, t.2))

def impl_fillYields_n6 (R0 : (List Int) → Int → (List Int) → Option (Int × (List Int))) (x8602 : List Int) (x8603 : Int) (x8780 : Int) (x8604 : List Int) : Option ((Int × (List Int))) :=
  (impl_fillYields_n2 R0 x8602 x8603).bind (fun (t : Int × (List Int)) => impl_fillYields_n5 R0 x8602 x8780 t.1 x8604 t.2)

def impl_fillYields_n7 (R0 : (List Int) → Int → (List Int) → Option (Int × (List Int))) (x8603 : Int) (x8801 : Int) (x8803 : List Int) : Option ((Int × (List Int))) :=
  (inb (IntKind.wrap .i64 (x8603 - 1)) (List.length x8803)).bind fun (v8828 : Nat) => some (x8801, (x8803.set v8828 x8801))

def impl_fillYields_n8 (R0 : (List Int) → Int → (List Int) → Option (Int × (List Int))) (x8602 : List Int) (x8603 : Int) (x8780 : Int) (x8604 : List Int) : Option ((Int × (List Int))) :=
  (impl_fillYields_n6 R0 x8602 x8603 x8780 x8604).bind (fun (t : Int × (List Int)) => impl_fillYields_n7 R0 x8603 t.1 t.2)

def impl_fillYields_n9 (R0 : (List Int) → Int → (List Int) → Option (Int × (List Int))) (x8602 : List Int) (x8603 : Int) (x8604 : List Int) : Option ((Int × (List Int))) :=
  (impl_fillYields_n1 R0 x8603).bind (fun (t : Int) => impl_fillYields_n8 R0 x8602 x8603 t x8604)

def impl_fillYields_one (R0 : (List Int) → Int → (List Int) → Option (Int × (List Int))) (x8602 : List Int) (x8603 : Int) (x8604 : List Int) : Option (Int × (List Int)) :=
  impl_fillYields_n9 R0 x8602 x8603 x8604

def impl_fillYields_knot : Nat → ((List Int) → Int → (List Int) → Option (Int × (List Int)))
  | 0 => (fun _ _ _ => none)
  | n + 1 => (fun y0 y1 y2 => impl_fillYields_one (impl_fillYields_knot n) y0 y1 y2)

def impl_fillYields_fuel (n : Nat) : (List Int) → Int → (List Int) → Option (Int × (List Int)) := (impl_fillYields_knot n)

@[irreducible] def impl_fillYields (x8602 : List Int) (x8603 : Int) (x8604 : List Int) : Option (Int × (List Int)) := impl_fillYields_fuel RR x8602 x8603 x8604

def impl_yieldsOf_n1 (x8570 : List Int) : Option (((List Int))) :=
  (mk (((List.length x8570 : Nat) : Int)) (((List.length x8570 : Nat) : Int))).bind fun (v8841 : Nat) => (impl_RootOf x8570).bind fun (v8843 : Int) => (impl_fillYields x8570 v8843 (List.replicate v8841 (0 : Int))).bind fun (v8844 : Int × (List Int)) => some (v8844.2)

@[irreducible] def impl_yieldsOf (x8570 : List Int) : Option ((List Int)) :=
  impl_yieldsOf_n1 x8570

def impl_wordSet_isRow_n1 (x8854 : Int) : Option (Bool) :=
  some ((iand .u64 x8854 (IntKind.wrap .u64 (x8854 + (iand .u64 x8854 (IntKind.wrap .u64 (0 - x8854)))))) == 0)

@[irreducible] def impl_wordSet_isRow (x8854 : Int) : Option (Bool) :=
  impl_wordSet_isRow_n1 x8854

def impl_FlatOk_n1 (x8567 : List Int) : Option (Unit ⊕ Bool) :=
  (impl_TreeOk x8567).bind fun (v8568 : Bool) => cond (!v8568) (some (Sum.inr false)) (some (Sum.inl ()))

def impl_FlatOk_n2 (x8567 : List Int) : Option ((Int × (List Int))) :=
  (impl_yieldsOf x8567).bind fun (v8847 : List Int) => some ((((List.length v8847 : Nat) : Int)), v8847)

def impl_FlatOk_n3 (x8848 : Int) (x8875 : Int) (x8847 : List Int) : Option (Int ⊕ Bool ⊕ Unit) :=
  cond (decide (x8875 < x8848)) ((inb x8875 (List.length x8847)).bind fun (v8884 : Nat) => (x8847[v8884]?).bind fun (v8885 : Int) => (impl_wordSet_isRow v8885).bind fun (v8886 : Bool) => cond (!v8886) (some (Sum.inr (Sum.inl false))) (some (Sum.inl (IntKind.wrap .i64 (x8875 + 1))))) (some (Sum.inr (Sum.inr ())))

def impl_FlatOk_n4 (x8848 : Int) (x8847 : List Int) : Option (Bool ⊕ Unit) :=
  nloop (fun (s : Int) => ((impl_FlatOk_n3 x8848 s x8847).map (Sum.elim (fun (t : Int) => Sum.inl t) (Sum.elim (fun (t : Bool) => Sum.inr (Sum.inl t)) (fun (t : Unit) => Sum.inr (Sum.inr t)))) : Option ((Int) ⊕ (Bool ⊕ Unit)))) LL 0

def impl_FlatOk_n5 (x8848 : Int) (x8847 : List Int) : Option (Unit ⊕ Bool) :=
  (impl_FlatOk_n4 x8848 x8847).map (Sum.elim (fun (t : Bool) => (Sum.inr t)) (fun (t : Unit) => (Sum.inl ())))

def impl_FlatOk_n6 (x8567 : List Int) : Option (Unit ⊕ Bool) :=
  (impl_FlatOk_n2 x8567).bind (fun (t : Int × (List Int)) => impl_FlatOk_n5 t.1 t.2)

def impl_FlatOk_n7 : Option (Bool) :=
  some true

def impl_FlatOk_n8 (x8567 : List Int) : Option (Bool) :=
  (impl_FlatOk_n6 x8567).bind (Sum.elim (fun (t : Unit) => impl_FlatOk_n7) (fun e => some ((fun (t : Bool) => t) e)))

def impl_FlatOk_n9 (x8567 : List Int) : Option (Bool) :=
  (impl_FlatOk_n1 x8567).bind (Sum.elim (fun (t : Unit) => impl_FlatOk_n8 x8567) (fun e => some ((fun (t : Bool) => t) e)))

@[irreducible] def impl_FlatOk (x8567 : List Int) : Option (Bool) :=
  impl_FlatOk_n9 x8567

def impl_partTable_between_1_n1 (x8952 : Int) (x8953 : List (Int × Int × Unit)) (x8954 : Int) (x8955 : Int) : Option (Int) :=
  (same (List.length x8953) 36).bind fun (v8976 : Unit) => (inb x8954 6).bind fun (v8977 : Nat) => (same (List.length ((x8953.drop (v8977 * 6)).take 6)) 6).bind fun (v8979 : Unit) => (idx ((x8953.drop (v8977 * 6)).take 6) x8952).bind fun (v8980 : Int × Int × Unit) => (same (List.length x8953) 36).bind fun (v8986 : Unit) => (inb (IntKind.wrap .i64 (x8952 + 1)) 6).bind fun (v8987 : Nat) => (same (List.length ((x8953.drop (v8987 * 6)).take 6)) 6).bind fun (v8989 : Unit) => (idx ((x8953.drop (v8987 * 6)).take 6) x8955).bind fun (v8990 : Int × Int × Unit) => some (IntKind.wrap .i64 ((v8980.1) + ((v8990.2).1)))

@[irreducible] def impl_partTable_between_1 (x8952 : Int) (x8953 : List (Int × Int × Unit)) (x8954 : Int) (x8955 : Int) : Option (Int) :=
  impl_partTable_between_1_n1 x8952 x8953 x8954 x8955

def impl_greatest_v2_n1 : Option (Unit) :=
  some ()

def impl_greatest_v2_n2 : Option (Unit) :=
  some ()

def impl_greatest_v2_n3 (x8946 : Int) (x8947 : List (Int × Int × Unit)) (x8948 : Int) (x8949 : Int) (x9002 : Int) (x9003 : Int) : Option ((Int × Int) ⊕ Int) :=
  cond (decide (x9003 ≤ x8946)) ((impl_partTable_between_1 x9003 x8947 x8948 x8949).bind fun (v9009 : Int) => some (Sum.inl ((imax x9002 v9009), (IntKind.wrap .i64 (x9003 + 1))))) (some (Sum.inr x9002))

def impl_greatest_v2_n4 (x8946 : Int) (x8947 : List (Int × Int × Unit)) (x8948 : Int) (x8949 : Int) (x8945 : Int) : Option (Int) :=
  nloop (fun (s : Int × Int) => ((impl_greatest_v2_n3 x8946 x8947 x8948 x8949 s.1 s.2).map (Sum.elim (fun (t : Int × Int) => Sum.inl (t.1, t.2)) (fun (t : Int) => Sum.inr t)) : Option ((Int × Int) ⊕ (Int)))) LL (0, x8945)

def impl_greatest_v2_n5 (x8946 : Int) (x8947 : List (Int × Int × Unit)) (x8948 : Int) (x8949 : Int) (x8945 : Int) : Option (Int) :=
  (impl_greatest_v2_n4 x8946 x8947 x8948 x8949 x8945).map (fun (t : Int) => t)

def impl_greatest_v2_n6 (x8945 : Int) (x8946 : Int) (x8947 : List (Int × Int × Unit)) (x8948 : Int) (x8949 : Int) : Option (Int) :=
  (impl_greatest_v2_n2).bind (fun (t : Unit) => impl_greatest_v2_n5 x8946 x8947 x8948 x8949 x8945)

def impl_greatest_v2_n7 (x9002 : Int) : Option (Int) :=
  some x9002

def impl_greatest_v2_n8 (x8945 : Int) (x8946 : Int) (x8947 : List (Int × Int × Unit)) (x8948 : Int) (x8949 : Int) : Option (Int) :=
  (impl_greatest_v2_n6 x8945 x8946 x8947 x8948 x8949).bind (fun (t : Int) => impl_greatest_v2_n7 t)

def impl_greatest_v2_n9 (x8945 : Int) (x8946 : Int) (x8947 : List (Int × Int × Unit)) (x8948 : Int) (x8949 : Int) : Option (Int) :=
  (impl_greatest_v2_n1).bind (fun (t : Unit) => impl_greatest_v2_n8 x8945 x8946 x8947 x8948 x8949)

@[irreducible] def impl_greatest_v2 (x8945 : Int) (x8946 : Int) (x8947 : List (Int × Int × Unit)) (x8948 : Int) (x8949 : Int) : Option (Int) :=
  impl_greatest_v2_n9 x8945 x8946 x8947 x8948 x8949

def impl_partTable_between_n1 (x8941 : List (Int × Int × Unit)) (x8942 : Int) (x8943 : Int) : Option (Int) :=
  (impl_greatest_v2 x8942 (IntKind.wrap .i64 (x8943 - 1)) x8941 x8942 x8943).bind fun (v9014 : Int) => some v9014

@[irreducible] def impl_partTable_between (x8941 : List (Int × Int × Unit)) (x8942 : Int) (x8943 : Int) : Option (Int) :=
  impl_partTable_between_n1 x8941 x8942 x8943

def impl_partTable_joined_1_n1 (x8924 : Int) (x8925 : List (Int × Int × Unit)) (x8926 : Int) (x8927 : List (List Int)) (x8928 : Int) : Option (Int) :=
  (idx x8927 (IntKind.wrap .i64 (x8924 - 1))).bind fun (v9019 : List Int) => (idx v9019 x8926).bind fun (v9020 : Int) => (same (List.length x8925) 36).bind fun (v9021 : Unit) => (inb x8924 6).bind fun (v9022 : Nat) => (same (List.length ((x8925.drop (v9022 * 6)).take 6)) 6).bind fun (v9024 : Unit) => (idx ((x8925.drop (v9022 * 6)).take 6) x8928).bind fun (v9025 : Int × Int × Unit) => (impl_partTable_between x8925 x8926 x8924).bind fun (v9030 : Int) => some (IntKind.wrap .i64 ((IntKind.wrap .i64 (v9030 + v9020)) + (v9025.1)))

@[irreducible] def impl_partTable_joined_1 (x8924 : Int) (x8925 : List (Int × Int × Unit)) (x8926 : Int) (x8927 : List (List Int)) (x8928 : Int) : Option (Int) :=
  impl_partTable_joined_1_n1 x8924 x8925 x8926 x8927 x8928

def impl_greatest_n1 : Option (Unit) :=
  some ()

def impl_greatest_n2 : Option (Unit) :=
  some ()

def impl_greatest_n3 (x8917 : Int) (x8918 : List (Int × Int × Unit)) (x8919 : Int) (x8920 : List (List Int)) (x8921 : Int) (x9039 : Int) (x9040 : Int) : Option ((Int × Int) ⊕ Int) :=
  cond (decide (x9040 ≤ x8917)) ((impl_partTable_joined_1 x9040 x8918 x8919 x8920 x8921).bind fun (v9046 : Int) => some (Sum.inl ((imax x9039 v9046), (IntKind.wrap .i64 (x9040 + 1))))) (some (Sum.inr x9039))

def impl_greatest_n4 (x8917 : Int) (x8918 : List (Int × Int × Unit)) (x8919 : Int) (x8920 : List (List Int)) (x8921 : Int) (x8916 : Int) : Option (Int) :=
  nloop (fun (s : Int × Int) => ((impl_greatest_n3 x8917 x8918 x8919 x8920 x8921 s.1 s.2).map (Sum.elim (fun (t : Int × Int) => Sum.inl (t.1, t.2)) (fun (t : Int) => Sum.inr t)) : Option ((Int × Int) ⊕ (Int)))) LL (0, x8916)

def impl_greatest_n5 (x8917 : Int) (x8918 : List (Int × Int × Unit)) (x8919 : Int) (x8920 : List (List Int)) (x8921 : Int) (x8916 : Int) : Option (Int) :=
  (impl_greatest_n4 x8917 x8918 x8919 x8920 x8921 x8916).map (fun (t : Int) => t)

def impl_greatest_n6 (x8916 : Int) (x8917 : Int) (x8918 : List (Int × Int × Unit)) (x8919 : Int) (x8920 : List (List Int)) (x8921 : Int) : Option (Int) :=
  (impl_greatest_n2).bind (fun (t : Unit) => impl_greatest_n5 x8917 x8918 x8919 x8920 x8921 x8916)

def impl_greatest_n7 (x9039 : Int) : Option (Int) :=
  some x9039

def impl_greatest_n8 (x8916 : Int) (x8917 : Int) (x8918 : List (Int × Int × Unit)) (x8919 : Int) (x8920 : List (List Int)) (x8921 : Int) : Option (Int) :=
  (impl_greatest_n6 x8916 x8917 x8918 x8919 x8920 x8921).bind (fun (t : Int) => impl_greatest_n7 t)

def impl_greatest_n9 (x8916 : Int) (x8917 : Int) (x8918 : List (Int × Int × Unit)) (x8919 : Int) (x8920 : List (List Int)) (x8921 : Int) : Option (Int) :=
  (impl_greatest_n1).bind (fun (t : Unit) => impl_greatest_n8 x8916 x8917 x8918 x8919 x8920 x8921)

@[irreducible] def impl_greatest (x8916 : Int) (x8917 : Int) (x8918 : List (Int × Int × Unit)) (x8919 : Int) (x8920 : List (List Int)) (x8921 : Int) : Option (Int) :=
  impl_greatest_n9 x8916 x8917 x8918 x8919 x8920 x8921

def impl_partTable_joined_2_n1 (x9058 : Int) (x9059 : List (Int × Int × Unit)) (x9060 : Int) (x9061 : List (List Int)) (x9062 : Int) : Option (Int) :=
  (same (List.length x9059) 36).bind fun (v9078 : Unit) => (inb x9060 6).bind fun (v9079 : Nat) => (same (List.length ((x9059.drop (v9079 * 6)).take 6)) 6).bind fun (v9081 : Unit) => (idx ((x9059.drop (v9079 * 6)).take 6) x9058).bind fun (v9082 : Int × Int × Unit) => (idx x9061 (IntKind.wrap .i64 (x9058 - 1))).bind fun (v9088 : List Int) => (idx v9088 x9062).bind fun (v9089 : Int) => (impl_partTable_between x9059 x9058 x9062).bind fun (v9091 : Int) => some (IntKind.wrap .i64 ((IntKind.wrap .i64 (((v9082.2).1) + v9089)) + v9091))

@[irreducible] def impl_partTable_joined_2 (x9058 : Int) (x9059 : List (Int × Int × Unit)) (x9060 : Int) (x9061 : List (List Int)) (x9062 : Int) : Option (Int) :=
  impl_partTable_joined_2_n1 x9058 x9059 x9060 x9061 x9062

def impl_greatest_v3_n1 : Option (Unit) :=
  some ()

def impl_greatest_v3_n2 : Option (Unit) :=
  some ()

def impl_greatest_v3_n3 (x9051 : Int) (x9052 : List (Int × Int × Unit)) (x9053 : Int) (x9054 : List (List Int)) (x9055 : Int) (x9099 : Int) (x9100 : Int) : Option ((Int × Int) ⊕ Int) :=
  cond (decide (x9100 ≤ x9051)) ((impl_partTable_joined_2 x9100 x9052 x9053 x9054 x9055).bind fun (v9106 : Int) => some (Sum.inl ((imax x9099 v9106), (IntKind.wrap .i64 (x9100 + 1))))) (some (Sum.inr x9099))

def impl_greatest_v3_n4 (x9051 : Int) (x9052 : List (Int × Int × Unit)) (x9053 : Int) (x9054 : List (List Int)) (x9055 : Int) (x9050 : Int) : Option (Int) :=
  nloop (fun (s : Int × Int) => ((impl_greatest_v3_n3 x9051 x9052 x9053 x9054 x9055 s.1 s.2).map (Sum.elim (fun (t : Int × Int) => Sum.inl (t.1, t.2)) (fun (t : Int) => Sum.inr t)) : Option ((Int × Int) ⊕ (Int)))) LL (0, x9050)

def impl_greatest_v3_n5 (x9051 : Int) (x9052 : List (Int × Int × Unit)) (x9053 : Int) (x9054 : List (List Int)) (x9055 : Int) (x9050 : Int) : Option (Int) :=
  (impl_greatest_v3_n4 x9051 x9052 x9053 x9054 x9055 x9050).map (fun (t : Int) => t)

def impl_greatest_v3_n6 (x9050 : Int) (x9051 : Int) (x9052 : List (Int × Int × Unit)) (x9053 : Int) (x9054 : List (List Int)) (x9055 : Int) : Option (Int) :=
  (impl_greatest_v3_n2).bind (fun (t : Unit) => impl_greatest_v3_n5 x9051 x9052 x9053 x9054 x9055 x9050)

def impl_greatest_v3_n7 (x9099 : Int) : Option (Int) :=
  some x9099

def impl_greatest_v3_n8 (x9050 : Int) (x9051 : Int) (x9052 : List (Int × Int × Unit)) (x9053 : Int) (x9054 : List (List Int)) (x9055 : Int) : Option (Int) :=
  (impl_greatest_v3_n6 x9050 x9051 x9052 x9053 x9054 x9055).bind (fun (t : Int) => impl_greatest_v3_n7 t)

def impl_greatest_v3_n9 (x9050 : Int) (x9051 : Int) (x9052 : List (Int × Int × Unit)) (x9053 : Int) (x9054 : List (List Int)) (x9055 : Int) : Option (Int) :=
  (impl_greatest_v3_n1).bind (fun (t : Unit) => impl_greatest_v3_n8 x9050 x9051 x9052 x9053 x9054 x9055)

@[irreducible] def impl_greatest_v3 (x9050 : Int) (x9051 : Int) (x9052 : List (Int × Int × Unit)) (x9053 : Int) (x9054 : List (List Int)) (x9055 : Int) : Option (Int) :=
  impl_greatest_v3_n9 x9050 x9051 x9052 x9053 x9054 x9055

def impl_partTable_joined_n1 (x8910 : List (Int × Int × Unit)) (x8911 : List (List Int)) (x8912 : Int) (x8913 : Int) : Option ((Int × Int)) :=
  (impl_greatest (IntKind.wrap .i64 (x8912 + 1)) x8913 x8910 x8912 x8911 x8913).bind fun (v9112 : Int) => (impl_greatest_v3 x8912 (IntKind.wrap .i64 (x8913 - 1)) x8910 x8912 x8911 x8913).bind fun (v9113 : Int) => some (v9112, v9113)

@[irreducible] def impl_partTable_joined (x8910 : List (Int × Int × Unit)) (x8911 : List (List Int)) (x8912 : Int) (x8913 : Int) : Option (Int × Int) :=
  impl_partTable_joined_n1 x8910 x8911 x8912 x8913

def impl_bestParts_n1 : Option (Unit) :=
  some ()

def impl_bestParts_n2 : Option (Unit) :=
  some ()

def impl_bestParts_n3 (x8901 : List (List Int)) (x9203 : Int) (x9204 : List (Int × Int × Unit)) : Option (Unit ⊕ ((List (Int × Int × Unit)))) :=
  cond (decide (x9203 ≤ (((List.length x8901 : Nat) : Int)))) (some (Sum.inl ())) (some (Sum.inr x9204))

def impl_bestParts_n4 (x9203 : Int) : Option (Int) :=
  some (IntKind.wrap .i64 (x9203 - 1))

def impl_bestParts_n5 (x8901 : List (List Int)) (x9203 : Int) (x9246 : Int) (x9247 : List (Int × Int × Unit)) : Option ((Int × (List (Int × Int × Unit))) ⊕ ((List (Int × Int × Unit)))) :=
  cond (decide (x9246 ≥ 1)) ((same (List.length x9247) 36).bind fun (v9268 : Unit) => (inb x9246 6).bind fun (v9269 : Nat) => (impl_partTable_joined x9247 x8901 x9246 x9203).bind fun (v9271 : Int × Int) => (sure (Nat.ble ((v9269 * 6) + 6) (List.length x9247))).bind fun (v9274 : Unit) => (inb x9203 6).bind fun (v9275 : Nat) => ((x9247)[((v9269 * 6) + v9275)]?).bind fun (v9277 : Int × Int × Unit) => some (Sum.inl ((IntKind.wrap .i64 (x9246 - 1)), ((x9247).set ((v9269 * 6) + v9275) ((v9271.1), ((v9271.2), ())))))) (some (Sum.inr x9247))

def impl_bestParts_n6 (x8901 : List (List Int)) (x9203 : Int) (x9207 : Int) (x9204 : List (Int × Int × Unit)) : Option (((List (Int × Int × Unit)))) :=
  nloop (fun (s : Int × (List (Int × Int × Unit))) => ((impl_bestParts_n5 x8901 x9203 s.1 s.2).map (Sum.elim (fun (t : Int × (List (Int × Int × Unit))) => Sum.inl (t.1, t.2)) (fun (t : (List (Int × Int × Unit))) => Sum.inr t)) : Option ((Int × (List (Int × Int × Unit))) ⊕ (((List (Int × Int × Unit))))))) LL (x9207, x9204)

def impl_bestParts_n7 (x8901 : List (List Int)) (x9203 : Int) (x9207 : Int) (x9204 : List (Int × Int × Unit)) : Option (((List (Int × Int × Unit)))) :=
  (impl_bestParts_n6 x8901 x9203 x9207 x9204).map (fun (t : (List (Int × Int × Unit))) => t)

def impl_bestParts_n8 (x8901 : List (List Int)) (x9203 : Int) (x9204 : List (Int × Int × Unit)) : Option (((List (Int × Int × Unit)))) :=
  (impl_bestParts_n4 x9203).bind (fun (t : Int) => impl_bestParts_n7 x8901 x9203 t x9204)

def impl_bestParts_n9 (x8901 : List (List Int)) (x9203 : Int) (x9204 : List (Int × Int × Unit)) : Option (((List (Int × Int × Unit)))) :=
  (impl_bestParts_n8 x8901 x9203 x9204).map (fun (t : (List (Int × Int × Unit))) => t)

def impl_bestParts_n10 (x9203 : Int) : Option (Int) :=
  some (IntKind.wrap .i64 (x9203 + 1))

def impl_bestParts_n11 (x8901 : List (List Int)) (x9203 : Int) (x9204 : List (Int × Int × Unit)) : Option ((Int × (List (Int × Int × Unit)))) :=
  (impl_bestParts_n9 x8901 x9203 x9204).bind (fun (t : (List (Int × Int × Unit))) => (impl_bestParts_n10 x9203).map (fun (u : Int) => (u, t)))

def impl_bestParts_n12 (x8901 : List (List Int)) (x9203 : Int) (x9204 : List (Int × Int × Unit)) : Option ((Int × (List (Int × Int × Unit))) ⊕ ((List (Int × Int × Unit)))) :=
  (impl_bestParts_n3 x8901 x9203 x9204).bind (Sum.elim (fun (t : Unit) => (impl_bestParts_n11 x8901 x9203 x9204).map (fun (t : Int × (List (Int × Int × Unit))) => (Sum.inl (t.1, t.2)))) (fun e => some ((fun (t : (List (Int × Int × Unit))) => (Sum.inr t)) e)))

def impl_bestParts_n13 (x8901 : List (List Int)) : Option (((List (Int × Int × Unit)))) :=
  nloop (fun (s : Int × (List (Int × Int × Unit))) => ((impl_bestParts_n12 x8901 s.1 s.2).map (Sum.elim (fun (t : Int × (List (Int × Int × Unit))) => Sum.inl (t.1, t.2)) (fun (t : (List (Int × Int × Unit))) => Sum.inr t)) : Option ((Int × (List (Int × Int × Unit))) ⊕ (((List (Int × Int × Unit))))))) LL (2, (List.replicate 36 ((0 : Int), ((0 : Int), ()))))

def impl_bestParts_n14 (x8901 : List (List Int)) : Option (((List (Int × Int × Unit)))) :=
  (impl_bestParts_n13 x8901).map (fun (t : (List (Int × Int × Unit))) => t)

def impl_bestParts_n15 (x8901 : List (List Int)) : Option (((List (Int × Int × Unit)))) :=
  (impl_bestParts_n2).bind (fun (t : Unit) => impl_bestParts_n14 x8901)

def impl_bestParts_n16 (x9204 : List (Int × Int × Unit)) : Option (((List (Int × Int × Unit)))) :=
  some x9204

def impl_bestParts_n17 (x8901 : List (List Int)) : Option (((List (Int × Int × Unit)))) :=
  (impl_bestParts_n15 x8901).bind (fun (t : (List (Int × Int × Unit))) => impl_bestParts_n16 t)

def impl_bestParts_n18 (x8901 : List (List Int)) : Option (((List (Int × Int × Unit)))) :=
  (impl_bestParts_n1).bind (fun (t : Unit) => impl_bestParts_n17 x8901)

@[irreducible] def impl_bestParts (x8901 : List (List Int)) : Option ((List (Int × Int × Unit))) :=
  impl_bestParts_n18 x8901

def impl_BestFlat_1_n1 (x9309 : Int) (x9310 : List (Int × Int × Unit)) (x9311 : List (List Int)) (x9312 : Int) : Option (Int) :=
  (same (List.length x9310) 36).bind fun (v9336 : Unit) => (inb 1 6).bind fun (v9337 : Nat) => (same (List.length ((x9310.drop (v9337 * 6)).take 6)) 6).bind fun (v9339 : Unit) => (idx ((x9310.drop (v9337 * 6)).take 6) x9309).bind fun (v9340 : Int × Int × Unit) => (idx x9311 (IntKind.wrap .i64 (x9309 - 1))).bind fun (v9346 : List Int) => (idx v9346 0).bind fun (v9347 : Int) => (same (List.length x9310) 36).bind fun (v9349 : Unit) => (inb x9309 6).bind fun (v9350 : Nat) => (same (List.length ((x9310.drop (v9350 * 6)).take 6)) 6).bind fun (v9352 : Unit) => (idx ((x9310.drop (v9350 * 6)).take 6) x9312).bind fun (v9353 : Int × Int × Unit) => some (IntKind.wrap .i64 ((IntKind.wrap .i64 (((v9340.2).1) + v9347)) + (v9353.1)))

@[irreducible] def impl_BestFlat_1 (x9309 : Int) (x9310 : List (Int × Int × Unit)) (x9311 : List (List Int)) (x9312 : Int) : Option (Int) :=
  impl_BestFlat_1_n1 x9309 x9310 x9311 x9312

def impl_greatest_v4_n1 : Option (Unit) :=
  some ()

def impl_greatest_v4_n2 : Option (Unit) :=
  some ()

def impl_greatest_v4_n3 (x9303 : Int) (x9304 : List (Int × Int × Unit)) (x9305 : List (List Int)) (x9306 : Int) (x9365 : Int) (x9366 : Int) : Option ((Int × Int) ⊕ Int) :=
  cond (decide (x9366 ≤ x9303)) ((impl_BestFlat_1 x9366 x9304 x9305 x9306).bind fun (v9372 : Int) => some (Sum.inl ((imax x9365 v9372), (IntKind.wrap .i64 (x9366 + 1))))) (some (Sum.inr x9365))

def impl_greatest_v4_n4 (x9303 : Int) (x9304 : List (Int × Int × Unit)) (x9305 : List (List Int)) (x9306 : Int) (x9302 : Int) : Option (Int) :=
  nloop (fun (s : Int × Int) => ((impl_greatest_v4_n3 x9303 x9304 x9305 x9306 s.1 s.2).map (Sum.elim (fun (t : Int × Int) => Sum.inl (t.1, t.2)) (fun (t : Int) => Sum.inr t)) : Option ((Int × Int) ⊕ (Int)))) LL (0, x9302)

def impl_greatest_v4_n5 (x9303 : Int) (x9304 : List (Int × Int × Unit)) (x9305 : List (List Int)) (x9306 : Int) (x9302 : Int) : Option (Int) :=
  (impl_greatest_v4_n4 x9303 x9304 x9305 x9306 x9302).map (fun (t : Int) => t)

def impl_greatest_v4_n6 (x9302 : Int) (x9303 : Int) (x9304 : List (Int × Int × Unit)) (x9305 : List (List Int)) (x9306 : Int) : Option (Int) :=
  (impl_greatest_v4_n2).bind (fun (t : Unit) => impl_greatest_v4_n5 x9303 x9304 x9305 x9306 x9302)

def impl_greatest_v4_n7 (x9365 : Int) : Option (Int) :=
  some x9365

def impl_greatest_v4_n8 (x9302 : Int) (x9303 : Int) (x9304 : List (Int × Int × Unit)) (x9305 : List (List Int)) (x9306 : Int) : Option (Int) :=
  (impl_greatest_v4_n6 x9302 x9303 x9304 x9305 x9306).bind (fun (t : Int) => impl_greatest_v4_n7 t)

def impl_greatest_v4_n9 (x9302 : Int) (x9303 : Int) (x9304 : List (Int × Int × Unit)) (x9305 : List (List Int)) (x9306 : Int) : Option (Int) :=
  (impl_greatest_v4_n1).bind (fun (t : Unit) => impl_greatest_v4_n8 x9302 x9303 x9304 x9305 x9306)

@[irreducible] def impl_greatest_v4 (x9302 : Int) (x9303 : Int) (x9304 : List (Int × Int × Unit)) (x9305 : List (List Int)) (x9306 : Int) : Option (Int) :=
  impl_greatest_v4_n9 x9302 x9303 x9304 x9305 x9306

def impl_BestFlat_n1 (x8895 : List (List Int)) : Option (Int) :=
  (impl_ScoresOk x8895).bind fun (v9376 : Bool) => cond (!v9376) (some (-1)) ((impl_bestParts x8895).bind fun (v9379 : List (Int × Int × Unit)) => (impl_greatest_v4 1 (((List.length x8895 : Nat) : Int)) v9379 x8895 (((List.length x8895 : Nat) : Int))).bind fun (v9380 : Int) => some v9380)

@[irreducible] def impl_BestFlat (x8895 : List (List Int)) : Option (Int) :=
  impl_BestFlat_n1 x8895

def laws_FnScoreOf_n1 (x6114 : List Int) : Option (Bool) :=
  cond (decide ((((List.length x6114 : Nat) : Int)) > 1048576)) (some true) ((spec_DrawScoreOf x6114).bind fun (v9389 : (List (List Int)) × (List Int)) => (impl_ScoreOf (v9389.1) (v9389.2)).bind fun (v9392 : Int) => (spec_ScoreOf (v9389.1) (v9389.2)).bind fun (v9393 : Int) => cond (v9392 != v9393) (some false) (cond (decide (v9392 < 0)) (cond (v9392 == (-1)) ((laws_alive).bind fun (v9397 : Bool) => some v9397) (some false)) ((impl_BestScore (v9389.1)).bind fun (v9398 : Int) => cond (decide (v9392 ≤ v9398)) ((impl_FlatOk (v9389.2)).bind fun (v9400 : Bool) => cond (!v9400) (some (decide (v9392 ≤ (IntKind.wrap .i64 (20 * (((List.length (v9389.2) : Nat) : Int))))))) ((impl_BestFlat (v9389.1)).bind fun (v9405 : Int) => cond (decide (v9392 ≤ v9405)) (some (decide (v9392 ≤ (IntKind.wrap .i64 (20 * (((List.length (v9389.2) : Nat) : Int))))))) (some false))) (some false))))

@[irreducible] def laws_FnScoreOf (x6114 : List Int) : Option (Bool) :=
  laws_FnScoreOf_n1 x6114

end Go.Rv
