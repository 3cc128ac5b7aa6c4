/-
  Plain functions, written by program for functions of the checked code. Conditions: none.
-/
import Derived.Test.YtgjhjbankpdcgaaFB
set_option linter.unusedVariables false
namespace Go.Rv
def spec_l20Open_n1 (x12 : List Int) : Option (((List Int))) :=
  cond (decide ((((List.length x12 : Nat) : Int)) > 2000)) ((inc 2000 (List.length x12)).bind fun (v29 : Nat) => some ((x12.take v29).drop 0)) (some x12)

@[irreducible] def spec_l20Open (x12 : List Int) : Option ((List Int)) :=
  spec_l20Open_n1 x12

def spec_l20Rd_pick_n1 (x35 : Int) (x36 : List Int) (x37 : Int) : Option ((Int × Int)) :=
  cond (decide (x35 < 1)) (some (0, (IntKind.wrap .i64 (x37 + 1)))) (cond ((((List.length x36 : Nat) : Int)) == 0) (some (0, (IntKind.wrap .i64 (x37 + 1)))) (cond (decide ((IntKind.wrap .i64 ((IntKind.wrap .i64 (x37 + 1)) - 1)) < (((List.length x36 : Nat) : Int)))) ((idx x36 (IntKind.wrap .i64 ((IntKind.wrap .i64 (x37 + 1)) - 1))).bind fun (v165 : Int) => (rem (IntKind.wrap .i64 v165) x35).bind fun (v167 : Int) => some (v167, (IntKind.wrap .i64 (x37 + 1)))) ((rem (IntKind.wrap .i64 ((IntKind.wrap .i64 (x37 + 1)) - 1)) (((List.length x36 : Nat) : Int))).bind fun (v169 : Int) => (idx x36 v169).bind fun (v170 : Int) => (rem (IntKind.wrap .i64 ((IntKind.wrap .i64 ((IntKind.wrap .i64 ((IntKind.wrap .i64 (x37 + 1)) - 1)) * 7)) + 3)) (((List.length x36 : Nat) : Int))).bind fun (v176 : Int) => (idx x36 v176).bind fun (v177 : Int) => (quo .i64 (IntKind.wrap .i64 ((IntKind.wrap .i64 (x37 + 1)) - 1)) (((List.length x36 : Nat) : Int))).bind fun (v184 : Int) => (quo .i64 (IntKind.wrap .i64 ((IntKind.wrap .i64 ((IntKind.wrap .i64 ((IntKind.wrap .i64 ((IntKind.wrap .i64 v170) * 131)) + (IntKind.wrap .i64 ((IntKind.wrap .i64 v177) * 1117)))) + (IntKind.wrap .i64 ((IntKind.wrap .i64 ((IntKind.wrap .i64 (x37 + 1)) - 1)) * 29)))) + (IntKind.wrap .i64 (v184 * 53)))) 64).bind fun (v187 : Int) => (rem (ixor .i64 (IntKind.wrap .i64 ((IntKind.wrap .i64 ((IntKind.wrap .i64 ((IntKind.wrap .i64 ((IntKind.wrap .i64 v170) * 131)) + (IntKind.wrap .i64 ((IntKind.wrap .i64 v177) * 1117)))) + (IntKind.wrap .i64 ((IntKind.wrap .i64 ((IntKind.wrap .i64 (x37 + 1)) - 1)) * 29)))) + (IntKind.wrap .i64 (v184 * 53)))) v187) x35).bind fun (v189 : Int) => some (v189, (IntKind.wrap .i64 (x37 + 1))))))

@[irreducible] def spec_l20Rd_pick (x35 : Int) (x36 : List Int) (x37 : Int) : Option (Int × Int) :=
  spec_l20Rd_pick_n1 x35 x36 x37

def spec_l20Order_n1 (x196 : List Int) (x197 : Int) : Option ((Int × Int)) :=
  (spec_l20Rd_pick 2 x196 x197).bind fun (v199 : Int × Int) => some ((v199.1), (v199.2))

def spec_l20Order_n2 : Option (Unit) :=
  some ()

def spec_l20Order_n3 (x195 : Int) (x200 : Int) (x343 : Int) (x196 : List Int) (x344 : Int) (x345 : List Int) : Option ((Int × Int × (List Int)) ⊕ (Int × (List Int))) :=
  cond (decide (x343 ≤ x195)) (cond (x200 == 0) ((spec_l20Rd_pick x343 x196 x344).bind fun (v417 : Int × Int) => (inc (v417.1) (List.length x345)).bind fun (v421 : Nat) => (room ((List.length ([] : List Int)) + List.length ((x345.drop 0).take (v421 - 0)))).bind fun (v425 : Unit) => (room ((List.length (([] : List Int) ++ ((x345.drop 0).take (v421 - 0)))) + List.length ([x343]))).bind fun (v429 : Unit) => (inc (v417.1) (List.length x345)).bind fun (v432 : Nat) => (room ((List.length ((([] : List Int) ++ ((x345.drop 0).take (v421 - 0))) ++ ([x343]))) + List.length ((x345.drop v432).take ((List.length x345) - v432)))).bind fun (v436 : Unit) => some (Sum.inl ((IntKind.wrap .i64 (x343 + 1)), (v417.2), (((([] : List Int) ++ ((x345.drop 0).take (v421 - 0))) ++ ([x343])) ++ ((x345.drop v432).take ((List.length x345) - v432)))))) ((spec_l20Rd_pick 3 x196 x344).bind fun (v439 : Int × Int) => cond ((v439.1) == 0) ((spec_l20Rd_pick x343 x196 (v439.2)).bind fun (v443 : Int × Int) => (inc (v443.1) (List.length x345)).bind fun (v447 : Nat) => (room ((List.length ([] : List Int)) + List.length ((x345.drop 0).take (v447 - 0)))).bind fun (v451 : Unit) => (room ((List.length (([] : List Int) ++ ((x345.drop 0).take (v447 - 0)))) + List.length ([x343]))).bind fun (v455 : Unit) => (inc (v443.1) (List.length x345)).bind fun (v458 : Nat) => (room ((List.length ((([] : List Int) ++ ((x345.drop 0).take (v447 - 0))) ++ ([x343]))) + List.length ((x345.drop v458).take ((List.length x345) - v458)))).bind fun (v462 : Unit) => some (Sum.inl ((IntKind.wrap .i64 (x343 + 1)), (v443.2), (((([] : List Int) ++ ((x345.drop 0).take (v447 - 0))) ++ ([x343])) ++ ((x345.drop v458).take ((List.length x345) - v458)))))) ((inc (((List.length x345 : Nat) : Int)) (List.length x345)).bind fun (v466 : Nat) => (room ((List.length ([] : List Int)) + List.length ((x345.drop 0).take (v466 - 0)))).bind fun (v470 : Unit) => (room ((List.length (([] : List Int) ++ ((x345.drop 0).take (v466 - 0)))) + List.length ([x343]))).bind fun (v474 : Unit) => (inc (((List.length x345 : Nat) : Int)) (List.length x345)).bind fun (v477 : Nat) => (room ((List.length ((([] : List Int) ++ ((x345.drop 0).take (v466 - 0))) ++ ([x343]))) + List.length ((x345.drop v477).take ((List.length x345) - v477)))).bind fun (v481 : Unit) => some (Sum.inl ((IntKind.wrap .i64 (x343 + 1)), (v439.2), (((([] : List Int) ++ ((x345.drop 0).take (v466 - 0))) ++ ([x343])) ++ ((x345.drop v477).take ((List.length x345) - v477)))))))) (some (Sum.inr (x344, x345)))

def spec_l20Order_n4 (x195 : Int) (x200 : Int) (x196 : List Int) (x201 : Int) : Option ((Int × (List Int))) :=
  nloop (fun (s : Int × Int × (List Int)) => ((spec_l20Order_n3 x195 x200 s.1 x196 s.2.1 s.2.2).map (Sum.elim (fun (t : Int × Int × (List Int)) => Sum.inl (t.1, t.2.1, t.2.2)) (fun (t : Int × (List Int)) => Sum.inr t)) : Option ((Int × Int × (List Int)) ⊕ ((Int × (List Int)))))) LL (1, x201, ([] : List Int))

def spec_l20Order_n5 (x195 : Int) (x200 : Int) (x196 : List Int) (x201 : Int) : Option ((Int × (List Int))) :=
  (spec_l20Order_n4 x195 x200 x196 x201).map (fun (t : Int × (List Int)) => (t.1, t.2))

def spec_l20Order_n6 (x195 : Int) (x200 : Int) (x196 : List Int) (x201 : Int) : Option ((Int × (List Int))) :=
  (spec_l20Order_n2).bind (fun (t : Unit) => spec_l20Order_n5 x195 x200 x196 x201)

def spec_l20Order_n7 (x344 : Int) (x345 : List Int) : Option ((Int × (List Int))) :=
  some (x344, x345)

def spec_l20Order_n8 (x195 : Int) (x200 : Int) (x196 : List Int) (x201 : Int) : Option ((Int × (List Int))) :=
  (spec_l20Order_n6 x195 x200 x196 x201).bind (fun (t : Int × (List Int)) => spec_l20Order_n7 t.1 t.2)

def spec_l20Order_n9 (x195 : Int) (x196 : List Int) (x197 : Int) : Option ((Int × (List Int))) :=
  (spec_l20Order_n1 x196 x197).bind (fun (t : Int × Int) => spec_l20Order_n8 x195 t.1 x196 t.2)

@[irreducible] def spec_l20Order (x195 : Int) (x196 : List Int) (x197 : Int) : Option (Int × (List Int)) :=
  spec_l20Order_n9 x195 x196 x197

def spec_l20Rd_odd_n1 (x499 : Int) (x500 : List Int) (x501 : Int) : Option ((Bool × Int)) :=
  cond (decide (x499 > 0)) ((spec_l20Rd_pick x499 x500 x501).bind fun (v509 : Int × Int) => some (((v509.1) == (IntKind.wrap .i64 (x499 - 1))), (v509.2))) (some (false, x501))

@[irreducible] def spec_l20Rd_odd (x499 : Int) (x500 : List Int) (x501 : Int) : Option (Bool × Int) :=
  spec_l20Rd_odd_n1 x499 x500 x501

def impl_OrderOk_n1 (x554 : List Int) (x555 : Int) : Option (Unit ⊕ Bool) :=
  cond (decide (x555 < 1)) (some (Sum.inr false)) (cond (decide (x555 > 8)) (some (Sum.inr false)) (cond ((((List.length x554 : Nat) : Int)) != x555) (some (Sum.inr false)) (some (Sum.inl ()))))

def impl_OrderOk_n2 (x554 : List Int) : Option (Int) :=
  some (((List.length x554 : Nat) : Int))

def impl_OrderOk_n3 (x555 : Int) (x554 : List Int) (x565 : Int) (x589 : Int) (x590 : List Bool) : Option ((Int × (List Bool)) ⊕ Bool ⊕ Unit) :=
  cond (decide (x589 < x565)) ((idx x554 x589).bind fun (v604 : Int) => cond (decide (v604 < 1)) (some (Sum.inr (Sum.inl false))) (cond (decide (v604 > x555)) (some (Sum.inr (Sum.inl false))) ((same (List.length x590) 9).bind fun (v607 : Unit) => (inb v604 9).bind fun (v608 : Nat) => (x590[v608]?).bind fun (v609 : Bool) => cond v609 (some (Sum.inr (Sum.inl false))) ((same (List.length x590) 9).bind fun (v610 : Unit) => (inb v604 9).bind fun (v611 : Nat) => some (Sum.inl ((IntKind.wrap .i64 (x589 + 1)), (x590.set v611 true))))))) (some (Sum.inr (Sum.inr ())))

def impl_OrderOk_n4 (x555 : Int) (x554 : List Int) (x565 : Int) : Option (Bool ⊕ Unit) :=
  nloop (fun (s : Int × (List Bool)) => ((impl_OrderOk_n3 x555 x554 x565 s.1 s.2).map (Sum.elim (fun (t : Int × (List Bool)) => Sum.inl (t.1, t.2)) (Sum.elim (fun (t : Bool) => Sum.inr (Sum.inl t)) (fun (t : Unit) => Sum.inr (Sum.inr t)))) : Option ((Int × (List Bool)) ⊕ (Bool ⊕ Unit)))) LL (0, (List.replicate 9 false))

def impl_OrderOk_n5 (x555 : Int) (x554 : List Int) (x565 : Int) : Option (Unit ⊕ Bool) :=
  (impl_OrderOk_n4 x555 x554 x565).map (Sum.elim (fun (t : Bool) => (Sum.inr t)) (fun (t : Unit) => (Sum.inl ())))

def impl_OrderOk_n6 (x554 : List Int) (x555 : Int) : Option (Unit ⊕ Bool) :=
  (impl_OrderOk_n2 x554).bind (fun (t : Int) => impl_OrderOk_n5 x555 x554 t)

def impl_OrderOk_n7 : Option (Bool) :=
  some true

def impl_OrderOk_n8 (x554 : List Int) (x555 : Int) : Option (Bool) :=
  (impl_OrderOk_n6 x554 x555).bind (Sum.elim (fun (t : Unit) => impl_OrderOk_n7) (fun e => some ((fun (t : Bool) => t) e)))

def impl_OrderOk_n9 (x554 : List Int) (x555 : Int) : Option (Bool) :=
  (impl_OrderOk_n1 x554 x555).bind (Sum.elim (fun (t : Unit) => impl_OrderOk_n8 x554 x555) (fun e => some ((fun (t : Bool) => t) e)))

@[irreducible] def impl_OrderOk (x554 : List Int) (x555 : Int) : Option (Bool) :=
  impl_OrderOk_n9 x554 x555

def slices_Grow_int_int_n1 (x866 : Int) : Option ((Nat × (List Int))) :=
  cond (decide (x866 < 0)) (none) ((sure true).bind fun (v931 : Unit) => cond (decide ((IntKind.wrap .i64 (x866 - (IntKind.wrap .i64 (0 - ((0 : Nat) : Int))))) > 0)) ((sure true).bind fun (v935 : Unit) => (sure ((0 : Int) == 0)).bind fun (v936 : Unit) => (mkz (IntKind.wrap .i64 (x866 - (IntKind.wrap .i64 (0 - ((0 : Nat) : Int)))))).bind fun (v937 : Nat) => (inc ((0 : Nat) : Int) (List.length (List.replicate v937 (0 : Int)))).bind fun (v940 : Nat) => some ((v940 - 0), (List.replicate v937 (0 : Int)))) (some ((List.length ([] : List Int)), ([] : List Int))))

@[irreducible] def slices_Grow_int_int (x866 : Int) : Option (Nat × (List Int)) :=
  slices_Grow_int_int_n1 x866

def slices_Concat_int_int_n1 : Option (Unit) :=
  some ()

def slices_Concat_int_int_n2 (x836 : List (List Int)) : Option (Int) :=
  some (((List.length x836 : Nat) : Int))

def slices_Concat_int_int_n3 (x836 : List (List Int)) (x976 : Int) (x962 : Int) (x977 : Int) : Option ((Int × Int) ⊕ Int) :=
  cond (decide (x977 < x962)) ((idx x836 x977).bind fun (v986 : List Int) => cond (decide ((IntKind.wrap .i64 (x976 + (((List.length v986 : Nat) : Int)))) < 0)) (none) (some (Sum.inl ((IntKind.wrap .i64 (x976 + (((List.length v986 : Nat) : Int)))), (IntKind.wrap .i64 (x977 + 1)))))) (some (Sum.inr x976))

def slices_Concat_int_int_n4 (x836 : List (List Int)) (x962 : Int) : Option (Int) :=
  nloop (fun (s : Int × Int) => ((slices_Concat_int_int_n3 x836 s.1 x962 s.2).map (Sum.elim (fun (t : Int × Int) => Sum.inl (t.1, t.2)) (fun (t : Int) => Sum.inr t)) : Option ((Int × Int) ⊕ (Int)))) LL (0, 0)

def slices_Concat_int_int_n5 (x836 : List (List Int)) (x962 : Int) : Option (Int) :=
  (slices_Concat_int_int_n4 x836 x962).map (fun (t : Int) => t)

def slices_Concat_int_int_n6 (x836 : List (List Int)) : Option (Int) :=
  (slices_Concat_int_int_n2 x836).bind (fun (t : Int) => slices_Concat_int_int_n5 x836 t)

def slices_Concat_int_int_n7 (x976 : Int) : Option ((Nat × (List Int))) :=
  (slices_Grow_int_int x976).bind fun (v991 : Nat × (List Int)) => some ((v991.1), (v991.2))

def slices_Concat_int_int_n8 (x836 : List (List Int)) : Option (Int) :=
  some (((List.length x836 : Nat) : Int))

def slices_Concat_int_int_n9 (x1009 : Nat) (x836 : List (List Int)) (x994 : Int) (x1010 : Int) (x1011 : List Int) : Option ((Nat × Int × (List Int)) ⊕ (Nat × (List Int))) :=
  cond (decide (x1010 < x994)) ((idx x836 x1010).bind fun (v1020 : List Int) => (room (x1009 + List.length v1020)).bind fun (v1022 : Unit) => some (Sum.inl ((List.length (((x1011.drop 0).take x1009) ++ v1020)), (IntKind.wrap .i64 (x1010 + 1)), (((x1011.drop 0).take x1009) ++ v1020)))) (some (Sum.inr (x1009, x1011)))

def slices_Concat_int_int_n10 (x992 : Nat) (x836 : List (List Int)) (x994 : Int) (x993 : List Int) : Option ((Nat × (List Int))) :=
  nloop (fun (s : Nat × Int × (List Int)) => ((slices_Concat_int_int_n9 s.1 x836 x994 s.2.1 s.2.2).map (Sum.elim (fun (t : Nat × Int × (List Int)) => Sum.inl (t.1, t.2.1, t.2.2)) (fun (t : Nat × (List Int)) => Sum.inr t)) : Option ((Nat × Int × (List Int)) ⊕ ((Nat × (List Int)))))) LL (x992, 0, x993)

def slices_Concat_int_int_n11 (x992 : Nat) (x836 : List (List Int)) (x994 : Int) (x993 : List Int) : Option ((Nat × (List Int))) :=
  (slices_Concat_int_int_n10 x992 x836 x994 x993).map (fun (t : Nat × (List Int)) => (t.1, t.2))

def slices_Concat_int_int_n12 (x836 : List (List Int)) (x992 : Nat) (x993 : List Int) : Option ((Nat × (List Int))) :=
  (slices_Concat_int_int_n8 x836).bind (fun (t : Int) => slices_Concat_int_int_n11 x992 x836 t x993)

def slices_Concat_int_int_n13 (x1009 : Nat) (x1011 : List Int) : Option ((Nat × (List Int))) :=
  some (x1009, x1011)

def slices_Concat_int_int_n14 (x836 : List (List Int)) (x992 : Nat) (x993 : List Int) : Option ((Nat × (List Int))) :=
  (slices_Concat_int_int_n12 x836 x992 x993).bind (fun (t : Nat × (List Int)) => slices_Concat_int_int_n13 t.1 t.2)

def slices_Concat_int_int_n15 (x836 : List (List Int)) (x976 : Int) : Option ((Nat × (List Int))) :=
  (slices_Concat_int_int_n7 x976).bind (fun (t : Nat × (List Int)) => slices_Concat_int_int_n14 x836 t.1 t.2)

def slices_Concat_int_int_n16 (x836 : List (List Int)) : Option ((Nat × (List Int))) :=
  (slices_Concat_int_int_n6 x836).bind (fun (t : Int) => slices_Concat_int_int_n15 x836 t)

def slices_Concat_int_int_n17 (x836 : List (List Int)) : Option ((Nat × (List Int))) :=
  (slices_Concat_int_int_n1).bind (fun (t : Unit) => slices_Concat_int_int_n16 x836)

@[irreducible] def slices_Concat_int_int (x836 : List (List Int)) : Option (Nat × (List Int)) :=
  slices_Concat_int_int_n17 x836

def impl_merged_n1 (x673 : List Int) (x674 : List Int) : Option (((List Int))) :=
  (mk 0 (IntKind.wrap .i64 ((((List.length x673 : Nat) : Int)) + (((List.length x674 : Nat) : Int))))).bind fun (v763 : Nat) => some (List.replicate v763 (0 : Int))

def impl_merged_n2 (x798 : List Int) (x799 : List Int) (x800 : Int) (x801 : List Int) : Option (((List Int) × (List Int) × Int × (List Int)) ⊕ ((List Int) × (List Int) × Int × (List Int))) :=
  cond (decide ((((List.length x798 : Nat) : Int)) > 0)) (cond (decide ((((List.length x799 : Nat) : Int)) > 0)) ((idx x798 0).bind fun (v810 : Int) => (idx x799 0).bind fun (v811 : Int) => cond (decide (v810 < v811)) ((idx x798 0).bind fun (v813 : Int) => (room ((List.length x801) + List.length ([v813]))).bind fun (v816 : Unit) => (inc 1 (List.length x798)).bind fun (v819 : Nat) => some (Sum.inl (((x798.take (List.length x798)).drop v819), x799, x800, (x801 ++ ([v813]))))) ((idx x799 0).bind fun (v823 : Int) => (room ((List.length x801) + List.length ([v823]))).bind fun (v826 : Unit) => (inc 1 (List.length x799)).bind fun (v829 : Nat) => some (Sum.inl (x798, ((x799.take (List.length x799)).drop v829), (IntKind.wrap .i64 (x800 + (((List.length x798 : Nat) : Int)))), (x801 ++ ([v823])))))) (some (Sum.inr (x798, x799, x800, x801)))) (some (Sum.inr (x798, x799, x800, x801)))

def impl_merged_n3 (x673 : List Int) (x674 : List Int) (x764 : List Int) : Option (((List Int) × (List Int) × Int × (List Int))) :=
  nloop (fun (s : (List Int) × (List Int) × Int × (List Int)) => ((impl_merged_n2 s.1 s.2.1 s.2.2.1 s.2.2.2).map (Sum.elim (fun (t : (List Int) × (List Int) × Int × (List Int)) => Sum.inl (t.1, t.2.1, t.2.2.1, t.2.2.2)) (fun (t : (List Int) × (List Int) × Int × (List Int)) => Sum.inr t)) : Option (((List Int) × (List Int) × Int × (List Int)) ⊕ (((List Int) × (List Int) × Int × (List Int)))))) LL (x673, x674, 0, x764)

def impl_merged_n4 (x673 : List Int) (x674 : List Int) (x764 : List Int) : Option (((List Int) × (List Int) × Int × (List Int))) :=
  (impl_merged_n3 x673 x674 x764).map (fun (t : (List Int) × (List Int) × Int × (List Int)) => (t.1, t.2.1, t.2.2.1, t.2.2.2))

def impl_merged_n5 (x798 : List Int) (x799 : List Int) (x800 : Int) (x801 : List Int) : Option ((Nat × Int × (List Int))) :=
  (slices_Concat_int_int ([x801, x798, x799])).bind fun (v1030 : Nat × (List Int)) => some ((v1030.1), x800, (v1030.2))

def impl_merged_n6 (x673 : List Int) (x674 : List Int) (x764 : List Int) : Option ((Nat × Int × (List Int))) :=
  (impl_merged_n4 x673 x674 x764).bind (fun (t : (List Int) × (List Int) × Int × (List Int)) => impl_merged_n5 t.1 t.2.1 t.2.2.1 t.2.2.2)

def impl_merged_n7 (x673 : List Int) (x674 : List Int) : Option ((Nat × Int × (List Int))) :=
  (impl_merged_n1 x673 x674).bind (fun (t : (List Int)) => impl_merged_n6 x673 x674 t)

@[irreducible] def impl_merged (x673 : List Int) (x674 : List Int) : Option (Nat × Int × (List Int)) :=
  impl_merged_n7 x673 x674

def impl_sorted_n1 (R0 : (List Int) → Option ((List Int) × Int)) (x621 : List Int) : Option (((List Int) × Int)) :=
  cond (decide ((((List.length x621 : Nat) : Int)) < 2)) (some (x621, 0)) ((quo .i64 (((List.length x621 : Nat) : Int)) 2).bind fun (v1231 : Int) => (inc v1231 (List.length x621)).bind fun (v1233 : Nat) => (R0 ((x621.take v1233).drop 0)).bind fun (v1235 : (List Int) × Int) => (inc v1231 (List.length x621)).bind fun (v1239 : Nat) => (R0 ((x621.take (List.length x621)).drop v1239)).bind fun (v1241 : (List Int) × Int) => (impl_merged (v1235.1) (v1241.1)).bind fun (v1244 : Nat × Int × (List Int)) => some ((((v1244.2.2).drop 0).take (v1244.1)), (IntKind.wrap .i64 ((IntKind.wrap .i64 ((v1235.2) + (v1241.2))) + (v1244.2.1)))))

def impl_sorted_one (R0 : (List Int) → Option ((List Int) × Int)) (x621 : List Int) : Option ((List Int) × Int) :=
  impl_sorted_n1 R0 x621

def impl_sorted_knot : Nat → ((List Int) → Option ((List Int) × Int))
  | 0 => (fun _ => none)
  | n + 1 => (fun y0 => impl_sorted_one (impl_sorted_knot n) y0)

def impl_sorted_fuel (n : Nat) : (List Int) → Option ((List Int) × Int) := (impl_sorted_knot n)

@[irreducible] def impl_sorted (x621 : List Int) : Option ((List Int) × Int) := impl_sorted_fuel RR x621

def impl_CountTurned_n1 (x552 : List Int) : Option (Int) :=
  (impl_OrderOk x552 (((List.length x552 : Nat) : Int))).bind fun (v1263 : Bool) => cond (!v1263) (some (-1)) ((impl_sorted x552).bind fun (v1265 : (List Int) × Int) => some (v1265.2))

@[irreducible] def impl_CountTurned (x552 : List Int) : Option (Int) :=
  impl_CountTurned_n1 x552

def spec_l1In_n1 (x1281 : Int) (x1282 : Int) (x1283 : Int) : Option (Bool) :=
  cond (decide (x1281 ≥ x1282)) (some (decide (x1281 ≤ x1283))) (some false)

@[irreducible] def spec_l1In (x1281 : Int) (x1282 : Int) (x1283 : Int) : Option (Bool) :=
  spec_l1In_n1 x1281 x1282 x1283

def spec_OrderOk_n1 : Option (Unit) :=
  some ()

def spec_OrderOk_n2 : Option (Unit) :=
  some ()

def spec_OrderOk_n3 (x1276 : List Int) (x1316 : Int) : Option (Unit ⊕ Unit) :=
  cond (decide (x1316 < (((List.length x1276 : Nat) : Int)))) (some (Sum.inl ())) (some (Sum.inr ()))

def spec_OrderOk_n4 (x1276 : List Int) (x1277 : Int) (x1316 : Int) : Option (Unit ⊕ Bool) :=
  (idx x1276 x1316).bind fun (v1322 : Int) => (spec_l1In v1322 1 x1277).bind fun (v1323 : Bool) => cond (!v1323) (some (Sum.inr false)) (some (Sum.inl ()))

def spec_OrderOk_n5 (x1276 : List Int) (x1316 : Int) (x1335 : Int) : Option (Int ⊕ Bool ⊕ Unit) :=
  cond (decide (x1335 < x1316)) ((idx x1276 x1335).bind fun (v1342 : Int) => (idx x1276 x1316).bind fun (v1343 : Int) => cond (v1342 == v1343) (some (Sum.inr (Sum.inl false))) (some (Sum.inl (IntKind.wrap .i64 (x1335 + 1))))) (some (Sum.inr (Sum.inr ())))

def spec_OrderOk_n6 (x1276 : List Int) (x1316 : Int) : Option (Bool ⊕ Unit) :=
  nloop (fun (s : Int) => ((spec_OrderOk_n5 x1276 x1316 s).map (Sum.elim (fun (t : Int) => Sum.inl t) (Sum.elim (fun (t : Bool) => Sum.inr (Sum.inl t)) (fun (t : Unit) => Sum.inr (Sum.inr t)))) : Option ((Int) ⊕ (Bool ⊕ Unit)))) LL 0

def spec_OrderOk_n7 (x1276 : List Int) (x1316 : Int) : Option (Unit ⊕ Bool) :=
  (spec_OrderOk_n6 x1276 x1316).map (Sum.elim (fun (t : Bool) => (Sum.inr t)) (fun (t : Unit) => (Sum.inl ())))

def spec_OrderOk_n8 (x1276 : List Int) (x1277 : Int) (x1316 : Int) : Option (Unit ⊕ Bool) :=
  (spec_OrderOk_n4 x1276 x1277 x1316).bind (Sum.elim (fun (t : Unit) => spec_OrderOk_n7 x1276 x1316) (fun e => some ((fun (t : Bool) => (Sum.inr t)) e)))

def spec_OrderOk_n9 (x1276 : List Int) (x1277 : Int) (x1316 : Int) : Option (Unit ⊕ Bool) :=
  (spec_OrderOk_n8 x1276 x1277 x1316).map (Sum.elim (fun (t : Unit) => (Sum.inl ())) (fun (t : Bool) => (Sum.inr t)))

def spec_OrderOk_n10 (x1316 : Int) : Option (Int) :=
  some (IntKind.wrap .i64 (x1316 + 1))

def spec_OrderOk_n11 (x1276 : List Int) (x1277 : Int) (x1316 : Int) : Option (Int ⊕ Bool) :=
  (spec_OrderOk_n9 x1276 x1277 x1316).bind (Sum.elim (fun (t : Unit) => (spec_OrderOk_n10 x1316).map (fun (t : Int) => (Sum.inl t))) (fun e => some ((fun (t : Bool) => (Sum.inr t)) e)))

def spec_OrderOk_n12 (x1276 : List Int) (x1277 : Int) (x1316 : Int) : Option (Int ⊕ Bool ⊕ Unit) :=
  (spec_OrderOk_n3 x1276 x1316).bind (Sum.elim (fun (t : Unit) => (spec_OrderOk_n11 x1276 x1277 x1316).map (Sum.elim (fun (t : Int) => (Sum.inl t)) (fun (t : Bool) => (Sum.inr (Sum.inl t))))) (fun e => some ((fun (t : Unit) => (Sum.inr (Sum.inr t))) e)))

def spec_OrderOk_n13 (x1276 : List Int) (x1277 : Int) : Option (Bool ⊕ Unit) :=
  nloop (fun (s : Int) => ((spec_OrderOk_n12 x1276 x1277 s).map (Sum.elim (fun (t : Int) => Sum.inl t) (Sum.elim (fun (t : Bool) => Sum.inr (Sum.inl t)) (fun (t : Unit) => Sum.inr (Sum.inr t)))) : Option ((Int) ⊕ (Bool ⊕ Unit)))) LL 0

def spec_OrderOk_n14 (x1276 : List Int) (x1277 : Int) : Option (Unit ⊕ Bool) :=
  (spec_OrderOk_n13 x1276 x1277).map (Sum.elim (fun (t : Bool) => (Sum.inr t)) (fun (t : Unit) => (Sum.inl ())))

def spec_OrderOk_n15 (x1276 : List Int) (x1277 : Int) : Option (Unit ⊕ Bool) :=
  (spec_OrderOk_n2).bind (fun (t : Unit) => spec_OrderOk_n14 x1276 x1277)

def spec_OrderOk_n16 (x1276 : List Int) (x1277 : Int) : Option (Bool) :=
  (spec_l1In x1277 1 8).bind fun (v1350 : Bool) => cond v1350 (some ((((List.length x1276 : Nat) : Int)) == x1277)) (some false)

def spec_OrderOk_n17 (x1276 : List Int) (x1277 : Int) : Option (Bool) :=
  (spec_OrderOk_n15 x1276 x1277).bind (Sum.elim (fun (t : Unit) => spec_OrderOk_n16 x1276 x1277) (fun e => some ((fun (t : Bool) => t) e)))

def spec_OrderOk_n18 (x1276 : List Int) (x1277 : Int) : Option (Bool) :=
  (spec_OrderOk_n1).bind (fun (t : Unit) => spec_OrderOk_n17 x1276 x1277)

@[irreducible] def spec_OrderOk (x1276 : List Int) (x1277 : Int) : Option (Bool) :=
  spec_OrderOk_n18 x1276 x1277

def impl_oneRoot_n1 : Option (Unit) :=
  some ()

def impl_oneRoot_n2 (x1448 : List Int) : Option (Int) :=
  some (((List.length x1448 : Nat) : Int))

def impl_oneRoot_n3 (x1448 : List Int) (x1470 : Int) (x1449 : Int) (x1471 : Int) : Option ((Int × Int) ⊕ Bool ⊕ Int) :=
  cond (decide (x1471 < x1449)) ((idx x1448 x1471).bind fun (v1482 : Int) => cond (decide (v1482 < 0)) (some (Sum.inr (Sum.inl false))) (cond (decide (v1482 > (((List.length x1448 : Nat) : Int)))) (some (Sum.inr (Sum.inl false))) (cond (v1482 == 0) (some (Sum.inl ((IntKind.wrap .i64 (x1470 + 1)), (IntKind.wrap .i64 (x1471 + 1))))) (some (Sum.inl (x1470, (IntKind.wrap .i64 (x1471 + 1)))))))) (some (Sum.inr (Sum.inr x1470)))

def impl_oneRoot_n4 (x1448 : List Int) (x1449 : Int) : Option (Bool ⊕ Int) :=
  nloop (fun (s : Int × Int) => ((impl_oneRoot_n3 x1448 s.1 x1449 s.2).map (Sum.elim (fun (t : Int × Int) => Sum.inl (t.1, t.2)) (Sum.elim (fun (t : Bool) => Sum.inr (Sum.inl t)) (fun (t : Int) => Sum.inr (Sum.inr t)))) : Option ((Int × Int) ⊕ (Bool ⊕ Int)))) LL (0, 0)

def impl_oneRoot_n5 (x1448 : List Int) (x1449 : Int) : Option (Int ⊕ Bool) :=
  (impl_oneRoot_n4 x1448 x1449).map (Sum.elim (fun (t : Bool) => (Sum.inr t)) (fun (t : Int) => (Sum.inl t)))

def impl_oneRoot_n6 (x1448 : List Int) : Option (Int ⊕ Bool) :=
  (impl_oneRoot_n2 x1448).bind (fun (t : Int) => impl_oneRoot_n5 x1448 t)

def impl_oneRoot_n7 (x1470 : Int) : Option (Bool) :=
  some (x1470 == 1)

def impl_oneRoot_n8 (x1448 : List Int) : Option (Bool) :=
  (impl_oneRoot_n6 x1448).bind (Sum.elim (fun (t : Int) => impl_oneRoot_n7 t) (fun e => some ((fun (t : Bool) => t) e)))

def impl_oneRoot_n9 (x1448 : List Int) : Option (Bool) :=
  (impl_oneRoot_n1).bind (fun (t : Unit) => impl_oneRoot_n8 x1448)

@[irreducible] def impl_oneRoot (x1448 : List Int) : Option (Bool) :=
  impl_oneRoot_n9 x1448

def impl_walker_up_n1 (x1504 : List Int) (x1505 : Int) (x1506 : Int) : Option ((Bool × Int × Int)) :=
  (idx x1504 (IntKind.wrap .i64 (x1505 - 1))).bind fun (v1524 : Int) => cond (v1524 == 0) (some (false, x1505, x1506)) (some (true, v1524, (IntKind.wrap .i64 (x1506 + 1))))

@[irreducible] def impl_walker_up (x1504 : List Int) (x1505 : Int) (x1506 : Int) : Option (Bool × Int × Int) :=
  impl_walker_up_n1 x1504 x1505 x1506

def impl_stepsToRoot_n1 : Option (Unit) :=
  some ()

def impl_stepsToRoot_n2 (x1502 : List Int) (x1540 : Int) (x1541 : Int) : Option ((Int × Int) ⊕ (Int × Bool) ⊕ (Int × Int)) :=
  (impl_walker_up x1502 x1540 x1541).bind fun (v1546 : Bool × Int × Int) => cond (v1546.1) (cond (decide ((v1546.2.2) ≥ (((List.length x1502 : Nat) : Int)))) (some (Sum.inr (Sum.inl (0, false)))) (some (Sum.inl ((v1546.2.1), (v1546.2.2))))) (some (Sum.inr (Sum.inr ((v1546.2.1), (v1546.2.2)))))

def impl_stepsToRoot_n3 (x1502 : List Int) (x1503 : Int) : Option ((Int × Bool) ⊕ (Int × Int)) :=
  nloop (fun (s : Int × Int) => ((impl_stepsToRoot_n2 x1502 s.1 s.2).map (Sum.elim (fun (t : Int × Int) => Sum.inl (t.1, t.2)) (Sum.elim (fun (t : Int × Bool) => Sum.inr (Sum.inl t)) (fun (t : Int × Int) => Sum.inr (Sum.inr t)))) : Option ((Int × Int) ⊕ ((Int × Bool) ⊕ (Int × Int))))) LL (x1503, 0)

def impl_stepsToRoot_n4 (x1502 : List Int) (x1503 : Int) : Option ((Int × Int) ⊕ (Int × Bool)) :=
  (impl_stepsToRoot_n3 x1502 x1503).map (Sum.elim (fun (t : Int × Bool) => (Sum.inr t)) (fun (t : Int × Int) => (Sum.inl (t.1, t.2))))

def impl_stepsToRoot_n5 (x1549 : Int) : Option ((Int × Bool)) :=
  some (x1549, true)

def impl_stepsToRoot_n6 (x1502 : List Int) (x1503 : Int) : Option ((Int × Bool)) :=
  (impl_stepsToRoot_n4 x1502 x1503).bind (Sum.elim (fun (t : Int × Int) => impl_stepsToRoot_n5 t.2) (fun e => some ((fun (t : Int × Bool) => t) e)))

def impl_stepsToRoot_n7 (x1502 : List Int) (x1503 : Int) : Option ((Int × Bool)) :=
  (impl_stepsToRoot_n1).bind (fun (t : Unit) => impl_stepsToRoot_n6 x1502 x1503)

@[irreducible] def impl_stepsToRoot (x1502 : List Int) (x1503 : Int) : Option (Int × Bool) :=
  impl_stepsToRoot_n7 x1502 x1503

def impl_TreeOk_n1 (x1443 : List Int) : Option (Unit ⊕ Bool) :=
  cond (decide ((((List.length x1443 : Nat) : Int)) < 1)) (some (Sum.inr false)) (cond (decide ((((List.length x1443 : Nat) : Int)) > 8)) (some (Sum.inr false)) ((impl_oneRoot x1443).bind fun (v1495 : Bool) => cond (!v1495) (some (Sum.inr false)) (some (Sum.inl ()))))

def impl_TreeOk_n2 (x1443 : List Int) : Option (Int) :=
  some (((List.length x1443 : Nat) : Int))

def impl_TreeOk_n3 (x1443 : List Int) (x1497 : Int) (x1565 : Int) : Option (Int ⊕ Bool ⊕ Unit) :=
  cond (decide (x1565 < x1497)) ((impl_stepsToRoot x1443 (IntKind.wrap .i64 (x1565 + 1))).bind fun (v1576 : Int × Bool) => cond (!(v1576.2)) (some (Sum.inr (Sum.inl false))) (some (Sum.inl (IntKind.wrap .i64 (x1565 + 1))))) (some (Sum.inr (Sum.inr ())))

def impl_TreeOk_n4 (x1443 : List Int) (x1497 : Int) : Option (Bool ⊕ Unit) :=
  nloop (fun (s : Int) => ((impl_TreeOk_n3 x1443 x1497 s).map (Sum.elim (fun (t : Int) => Sum.inl t) (Sum.elim (fun (t : Bool) => Sum.inr (Sum.inl t)) (fun (t : Unit) => Sum.inr (Sum.inr t)))) : Option ((Int) ⊕ (Bool ⊕ Unit)))) LL 0

def impl_TreeOk_n5 (x1443 : List Int) (x1497 : Int) : Option (Unit ⊕ Bool) :=
  (impl_TreeOk_n4 x1443 x1497).map (Sum.elim (fun (t : Bool) => (Sum.inr t)) (fun (t : Unit) => (Sum.inl ())))

def impl_TreeOk_n6 (x1443 : List Int) : Option (Unit ⊕ Bool) :=
  (impl_TreeOk_n2 x1443).bind (fun (t : Int) => impl_TreeOk_n5 x1443 t)

def impl_TreeOk_n7 : Option (Bool) :=
  some true

def impl_TreeOk_n8 (x1443 : List Int) : Option (Bool) :=
  (impl_TreeOk_n6 x1443).bind (Sum.elim (fun (t : Unit) => impl_TreeOk_n7) (fun e => some ((fun (t : Bool) => t) e)))

def impl_TreeOk_n9 (x1443 : List Int) : Option (Bool) :=
  (impl_TreeOk_n1 x1443).bind (Sum.elim (fun (t : Unit) => impl_TreeOk_n8 x1443) (fun e => some ((fun (t : Bool) => t) e)))

@[irreducible] def impl_TreeOk (x1443 : List Int) : Option (Bool) :=
  impl_TreeOk_n9 x1443

def laws_alive_n1 : Option (Bool) :=
  (impl_TreeOk ([0])).bind fun (v1587 : Bool) => cond v1587 ((impl_TreeOk ([1])).bind fun (v1589 : Bool) => some (!v1589)) (some false)

@[irreducible] def laws_alive : Option (Bool) :=
  laws_alive_n1

def spec_DrawExchangedAt_n1 (x1702 : List Int) : Option ((Int × (List Int))) :=
  (spec_l20Open x1702).bind fun (v1760 : List Int) => (spec_l20Rd_pick 8 v1760 0).bind fun (v1761 : Int × Int) => (spec_l20Order (IntKind.wrap .i64 (1 + (v1761.1))) v1760 (v1761.2)).bind fun (v1765 : Int × (List Int)) => (spec_l20Rd_odd 9 v1760 (v1765.1)).bind fun (v1768 : Bool × Int) => cond (v1768.1) ((inb 0 (List.length (v1765.2))).bind fun (v1771 : Nat) => (spec_l20Rd_pick (IntKind.wrap .i64 ((((List.length ((v1765.2).set v1771 0) : Nat) : Int)) + 1)) v1760 (v1768.2)).bind fun (v1775 : Int × Int) => (spec_l20Rd_pick 20 v1760 (v1775.2)).bind fun (v1778 : Int × Int) => (quo .i64 (v1778.1) 19).bind fun (v1781 : Int) => some ((IntKind.wrap .i64 ((v1775.1) - v1781)), ((v1765.2).set v1771 0))) ((spec_l20Rd_pick (IntKind.wrap .i64 ((((List.length (v1765.2) : Nat) : Int)) + 1)) v1760 (v1768.2)).bind fun (v1785 : Int × Int) => (spec_l20Rd_pick 20 v1760 (v1785.2)).bind fun (v1788 : Int × Int) => (quo .i64 (v1788.1) 19).bind fun (v1791 : Int) => some ((IntKind.wrap .i64 ((v1785.1) - v1791)), (v1765.2)))

@[irreducible] def spec_DrawExchangedAt (x1702 : List Int) : Option (Int × (List Int)) :=
  spec_DrawExchangedAt_n1 x1702

def slices_Clone_int_int_n1 (x1819 : List Int) : Option (((List Int))) :=
  (sure (!(List.isEmpty x1819))).bind fun (v1825 : Unit) => (room ((List.length ([] : List Int)) + List.length x1819)).bind fun (v1827 : Unit) => some (([] : List Int) ++ x1819)

@[irreducible] def slices_Clone_int_int (x1819 : List Int) : Option ((List Int)) :=
  slices_Clone_int_int_n1 x1819

def impl_ExchangedAt_n1 (x1803 : List Int) (x1804 : Int) : Option ((Bool × (List Int))) :=
  (impl_OrderOk x1803 (((List.length x1803 : Nat) : Int))).bind fun (v1863 : Bool) => cond (!v1863) (some (false, ([] : List Int))) (cond (decide (x1804 < 0)) (some (false, ([] : List Int))) (cond (decide (x1804 ≥ (IntKind.wrap .i64 ((((List.length x1803 : Nat) : Int)) - 1)))) (some (false, ([] : List Int))) ((slices_Clone_int_int x1803).bind fun (v1869 : List Int) => (idx x1803 (IntKind.wrap .i64 (x1804 + 1))).bind fun (v1872 : Int) => (idx x1803 x1804).bind fun (v1873 : Int) => (inb x1804 (List.length v1869)).bind fun (v1874 : Nat) => (inb (IntKind.wrap .i64 (x1804 + 1)) (List.length (v1869.set v1874 v1872))).bind fun (v1876 : Nat) => some (true, ((v1869.set v1874 v1872).set v1876 v1873)))))

@[irreducible] def impl_ExchangedAt (x1803 : List Int) (x1804 : Int) : Option (Bool × (List Int)) :=
  impl_ExchangedAt_n1 x1803 x1804

def spec_ExchangedAt_n1 (x1891 : List Int) (x1892 : Int) : Option ((Bool × (List Int))) :=
  (spec_OrderOk x1891 (((List.length x1891 : Nat) : Int))).bind fun (v1980 : Bool) => cond (!v1980) (some (false, ([] : List Int))) ((spec_l1In x1892 0 (IntKind.wrap .i64 ((((List.length x1891 : Nat) : Int)) - 2))).bind fun (v1984 : Bool) => cond (!v1984) (some (false, ([] : List Int))) ((room ((List.length ([] : List Int)) + List.length x1891)).bind fun (v1987 : Unit) => (inb x1892 (List.length (([] : List Int) ++ x1891))).bind fun (v1989 : Nat) => ((([] : List Int) ++ x1891)[v1989]?).bind fun (v1990 : Int) => (inb (IntKind.wrap .i64 (x1892 + 1)) (List.length (([] : List Int) ++ x1891))).bind fun (v1992 : Nat) => ((([] : List Int) ++ x1891)[v1992]?).bind fun (v1993 : Int) => (inb x1892 (List.length (([] : List Int) ++ x1891))).bind fun (v1994 : Nat) => (inb (IntKind.wrap .i64 (x1892 + 1)) (List.length ((([] : List Int) ++ x1891).set v1994 v1993))).bind fun (v1997 : Nat) => some (true, (((([] : List Int) ++ x1891).set v1994 v1993).set v1997 v1990))))

@[irreducible] def spec_ExchangedAt (x1891 : List Int) (x1892 : Int) : Option (Bool × (List Int)) :=
  spec_ExchangedAt_n1 x1891 x1892

def laws_sameInts_n1 (x2015 : List Int) (x2016 : List Int) : Option (Unit ⊕ Bool) :=
  cond ((((List.length x2015 : Nat) : Int)) != (((List.length x2016 : Nat) : Int))) (some (Sum.inr false)) (some (Sum.inl ()))

def laws_sameInts_n2 : Option (Unit) :=
  some ()

def laws_sameInts_n3 (x2015 : List Int) (x2016 : List Int) (x2033 : Int) : Option (Int ⊕ Bool ⊕ Unit) :=
  cond (decide (x2033 < (((List.length x2015 : Nat) : Int)))) ((idx x2015 x2033).bind fun (v2043 : Int) => (idx x2016 x2033).bind fun (v2044 : Int) => cond (v2043 != v2044) (some (Sum.inr (Sum.inl false))) (some (Sum.inl (IntKind.wrap .i64 (x2033 + 1))))) (some (Sum.inr (Sum.inr ())))

def laws_sameInts_n4 (x2015 : List Int) (x2016 : List Int) : Option (Bool ⊕ Unit) :=
  nloop (fun (s : Int) => ((laws_sameInts_n3 x2015 x2016 s).map (Sum.elim (fun (t : Int) => Sum.inl t) (Sum.elim (fun (t : Bool) => Sum.inr (Sum.inl t)) (fun (t : Unit) => Sum.inr (Sum.inr t)))) : Option ((Int) ⊕ (Bool ⊕ Unit)))) LL 0

def laws_sameInts_n5 (x2015 : List Int) (x2016 : List Int) : Option (Unit ⊕ Bool) :=
  (laws_sameInts_n4 x2015 x2016).map (Sum.elim (fun (t : Bool) => (Sum.inr t)) (fun (t : Unit) => (Sum.inl ())))

def laws_sameInts_n6 (x2015 : List Int) (x2016 : List Int) : Option (Unit ⊕ Bool) :=
  (laws_sameInts_n2).bind (fun (t : Unit) => laws_sameInts_n5 x2015 x2016)

def laws_sameInts_n7 : Option (Bool) :=
  some true

def laws_sameInts_n8 (x2015 : List Int) (x2016 : List Int) : Option (Bool) :=
  (laws_sameInts_n6 x2015 x2016).bind (Sum.elim (fun (t : Unit) => laws_sameInts_n7) (fun e => some ((fun (t : Bool) => t) e)))

def laws_sameInts_n9 (x2015 : List Int) (x2016 : List Int) : Option (Bool) :=
  (laws_sameInts_n1 x2015 x2016).bind (Sum.elim (fun (t : Unit) => laws_sameInts_n8 x2015 x2016) (fun e => some ((fun (t : Bool) => t) e)))

@[irreducible] def laws_sameInts (x2015 : List Int) (x2016 : List Int) : Option (Bool) :=
  laws_sameInts_n9 x2015 x2016

def laws_FnExchangedAt_n1 (x1697 : List Int) : Option (Bool) :=
  cond (decide ((((List.length x1697 : Nat) : Int)) > 1048576)) (some true) ((spec_DrawExchangedAt x1697).bind fun (v2187 : Int × (List Int)) => (impl_ExchangedAt (v2187.2) (v2187.1)).bind fun (v2190 : Bool × (List Int)) => (spec_ExchangedAt (v2187.2) (v2187.1)).bind fun (v2193 : Bool × (List Int)) => (laws_sameInts (v2190.2) (v2193.2)).bind fun (v2196 : Bool) => cond (!v2196) (some false) (cond ((v2190.1) != (v2193.1)) (some false) (cond (!(v2190.1)) (cond ((((List.length (v2190.2) : Nat) : Int)) == 0) ((laws_alive).bind fun (v2202 : Bool) => some v2202) (some false)) ((inb (v2187.1) (List.length (v2187.2))).bind fun (v2203 : Nat) => ((v2187.2)[v2203]?).bind fun (v2204 : Int) => (inb (IntKind.wrap .i64 ((v2187.1) + 1)) (List.length (v2187.2))).bind fun (v2206 : Nat) => ((v2187.2)[v2206]?).bind fun (v2207 : Int) => cond (decide (v2204 > v2207)) ((impl_ExchangedAt (v2190.2) (v2187.1)).bind fun (v2209 : Bool × (List Int)) => (impl_OrderOk (v2190.2) (((List.length (v2187.2) : Nat) : Int))).bind fun (v2213 : Bool) => cond v2213 ((impl_CountTurned (v2190.2)).bind fun (v2214 : Int) => (impl_CountTurned (v2187.2)).bind fun (v2215 : Int) => cond (v2214 == (IntKind.wrap .i64 (v2215 + (-1)))) (cond (v2209.1) ((laws_sameInts (v2209.2) (v2187.2)).bind fun (v2218 : Bool) => some v2218) (some false)) (some false)) (some false)) ((impl_ExchangedAt (v2190.2) (v2187.1)).bind fun (v2219 : Bool × (List Int)) => (impl_OrderOk (v2190.2) (((List.length (v2187.2) : Nat) : Int))).bind fun (v2223 : Bool) => cond v2223 ((impl_CountTurned (v2190.2)).bind fun (v2224 : Int) => (impl_CountTurned (v2187.2)).bind fun (v2225 : Int) => cond (v2224 == (IntKind.wrap .i64 (v2225 + 1))) (cond (v2219.1) ((laws_sameInts (v2219.2) (v2187.2)).bind fun (v2228 : Bool) => some v2228) (some false)) (some false)) (some false))))))

@[irreducible] def laws_FnExchangedAt (x1697 : List Int) : Option (Bool) :=
  laws_FnExchangedAt_n1 x1697

end Go.Rv
