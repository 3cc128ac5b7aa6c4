/-
  Plain functions, written by program for functions of the checked code. Conditions: none.
-/
import Derived.Test.YtgjhjbankpdcgaaFB
set_option linter.unusedVariables false
namespace Go.Rv
def impl_OrderOk_n1 (x554 : List Int) (x555 : Int) : Option (Unit ⊕ Bool) :=
  cond (decide (x555 < 1)) (some (Sum.inr false)) (cond (decide (x555 > 8)) (some (Sum.inr false)) (cond ((((List.length x554 : Nat) : Int)) != x555) (some (Sum.inr false)) (some (Sum.inl ()))))

def impl_OrderOk_n2 (x554 : List Int) : Option (Int) :=
  some (((List.length x554 : Nat) : Int))

def impl_OrderOk_n3 (x555 : Int) (x554 : List Int) (x565 : Int) (x589 : Int) (x590 : List Bool) : Option ((Int × (List Bool)) ⊕ Bool ⊕ Unit) :=
  cond (decide (x589 < x565)) ((idx x554 x589).bind fun (v604 : Int) => cond (decide (v604 < 1)) (some (Sum.inr (Sum.inl false))) (cond (decide (v604 > x555)) (some (Sum.inr (Sum.inl false))) ((same (List.length x590) 9).bind fun (v607 : Unit) => (inb v604 9).bind fun (v608 : Nat) => (x590[v608]?).bind fun (v609 : Bool) => cond v609 (some (Sum.inr (Sum.inl false))) ((same (List.length x590) 9).bind fun (v610 : Unit) => (inb v604 9).bind fun (v611 : Nat) => some (Sum.inl ((IntKind.wrap .i64 (x589 + 1)), (x590.set v611 true))))))) (some (Sum.inr (Sum.inr ())))

def impl_OrderOk_n4 (x555 : Int) (x554 : List Int) (x565 : Int) : Option (Bool ⊕ Unit) :=
  nloop (fun (s : Int × (List Bool)) => ((impl_OrderOk_n3 x555 x554 x565 s.1 s.2).map (Sum.elim (fun (t : Int × (List Bool)) => Sum.inl (t.1, t.2)) (Sum.elim (fun (t : Bool) => Sum.inr (Sum.inl t)) (fun (t : Unit) => Sum.inr (Sum.inr t)))) : Option ((Int × (List Bool)) ⊕ (Bool ⊕ Unit)))) LL (0, (List.replicate 9 false))

def impl_OrderOk_n5 (x555 : Int) (x554 : List Int) (x565 : Int) : Option (Unit ⊕ Bool) :=
  (impl_OrderOk_n4 x555 x554 x565).map (Sum.elim (fun (t : Bool) => (Sum.inr t)) (fun (t : Unit) => (Sum.inl ())))

def impl_OrderOk_n6 (x554 : List Int) (x555 : Int) : Option (Unit ⊕ Bool) :=
  (impl_OrderOk_n2 x554).bind (fun (t : Int) => impl_OrderOk_n5 x555 x554 t)

def impl_OrderOk_n7 : Option (Bool) :=
  some true

def impl_OrderOk_n8 (x554 : List Int) (x555 : Int) : Option (Bool) :=
  (impl_OrderOk_n6 x554 x555).bind (Sum.elim (fun (t : Unit) => impl_OrderOk_n7) (fun e => some ((fun (t : Bool) => t) e)))

def impl_OrderOk_n9 (x554 : List Int) (x555 : Int) : Option (Bool) :=
  (impl_OrderOk_n1 x554 x555).bind (Sum.elim (fun (t : Unit) => impl_OrderOk_n8 x554 x555) (fun e => some ((fun (t : Bool) => t) e)))

@[irreducible] def impl_OrderOk (x554 : List Int) (x555 : Int) : Option (Bool) :=
  impl_OrderOk_n9 x554 x555

def slices_Grow_int_int_n1 (x866 : Int) : Option ((Nat × (List Int))) :=
  cond (decide (x866 < 0)) (none) ((sure true).bind fun (v931 : Unit) => cond (decide ((IntKind.wrap .i64 (x866 - (IntKind.wrap .i64 (0 - ((0 : Nat) : Int))))) > 0)) ((sure true).bind fun (v935 : Unit) => (sure ((0 : Int) == 0)).bind fun (v936 : Unit) => (mkz (IntKind.wrap .i64 (x866 - (IntKind.wrap .i64 (0 - ((0 : Nat) : Int)))))).bind fun (v937 : Nat) => (inc ((0 : Nat) : Int) (List.length (List.replicate v937 (0 : Int)))).bind fun (v940 : Nat) => some ((v940 - 0), (List.replicate v937 (0 : Int)))) (some ((List.length ([] : List Int)), ([] : List Int))))

@[irreducible] def slices_Grow_int_int (x866 : Int) : Option (Nat × (List Int)) :=
  slices_Grow_int_int_n1 x866

def slices_Concat_int_int_n1 : Option (Unit) :=
  some ()

def slices_Concat_int_int_n2 (x836 : List (List Int)) : Option (Int) :=
  some (((List.length x836 : Nat) : Int))

def slices_Concat_int_int_n3 (x836 : List (List Int)) (x976 : Int) (x962 : Int) (x977 : Int) : Option ((Int × Int) ⊕ Int) :=
  cond (decide (x977 < x962)) ((idx x836 x977).bind fun (v986 : List Int) => cond (decide ((IntKind.wrap .i64 (x976 + (((List.length v986 : Nat) : Int)))) < 0)) (none) (some (Sum.inl ((IntKind.wrap .i64 (x976 + (((List.length v986 : Nat) : Int)))), (IntKind.wrap .i64 (x977 + 1)))))) (some (Sum.inr x976))

def slices_Concat_int_int_n4 (x836 : List (List Int)) (x962 : Int) : Option (Int) :=
  nloop (fun (s : Int × Int) => ((slices_Concat_int_int_n3 x836 s.1 x962 s.2).map (Sum.elim (fun (t : Int × Int) => Sum.inl (t.1, t.2)) (fun (t : Int) => Sum.inr t)) : Option ((Int × Int) ⊕ (Int)))) LL (0, 0)

def slices_Concat_int_int_n5 (x836 : List (List Int)) (x962 : Int) : Option (Int) :=
  (slices_Concat_int_int_n4 x836 x962).map (fun (t : Int) => t)

def slices_Concat_int_int_n6 (x836 : List (List Int)) : Option (Int) :=
  (slices_Concat_int_int_n2 x836).bind (fun (t : Int) => slices_Concat_int_int_n5 x836 t)

def slices_Concat_int_int_n7 (x976 : Int) : Option ((Nat × (List Int))) :=
  (slices_Grow_int_int x976).bind fun (v991 : Nat × (List Int)) => some ((v991.1), (v991.2))

def slices_Concat_int_int_n8 (x836 : List (List Int)) : Option (Int) :=
  some (((List.length x836 : Nat) : Int))

def slices_Concat_int_int_n9 (x1009 : Nat) (x836 : List (List Int)) (x994 : Int) (x1010 : Int) (x1011 : List Int) : Option ((Nat × Int × (List Int)) ⊕ (Nat × (List Int))) :=
  cond (decide (x1010 < x994)) ((idx x836 x1010).bind fun (v1020 : List Int) => (room (x1009 + List.length v1020)).bind fun (v1022 : Unit) => some (Sum.inl ((List.length (((x1011.drop 0).take x1009) ++ v1020)), (IntKind.wrap .i64 (x1010 + 1)), (((x1011.drop 0).take x1009) ++ v1020)))) (some (Sum.inr (x1009, x1011)))

def slices_Concat_int_int_n10 (x992 : Nat) (x836 : List (List Int)) (x994 : Int) (x993 : List Int) : Option ((Nat × (List Int))) :=
  nloop (fun (s : Nat × Int × (List Int)) => ((slices_Concat_int_int_n9 s.1 x836 x994 s.2.1 s.2.2).map (Sum.elim (fun (t : Nat × Int × (List Int)) => Sum.inl (t.1, t.2.1, t.2.2)) (fun (t : Nat × (List Int)) => Sum.inr t)) : Option ((Nat × Int × (List Int)) ⊕ ((Nat × (List Int)))))) LL (x992, 0, x993)

def slices_Concat_int_int_n11 (x992 : Nat) (x836 : List (List Int)) (x994 : Int) (x993 : List Int) : Option ((Nat × (List Int))) :=
  (slices_Concat_int_int_n10 x992 x836 x994 x993).map (fun (t : Nat × (List Int)) => (t.1, t.2))

def slices_Concat_int_int_n12 (x836 : List (List Int)) (x992 : Nat) (x993 : List Int) : Option ((Nat × (List Int))) :=
  (slices_Concat_int_int_n8 x836).bind (fun (t : Int) => slices_Concat_int_int_n11 x992 x836 t x993)

def slices_Concat_int_int_n13 (x1009 : Nat) (x1011 : List Int) : Option ((Nat × (List Int))) :=
  some (x1009, x1011)

def slices_Concat_int_int_n14 (x836 : List (List Int)) (x992 : Nat) (x993 : List Int) : Option ((Nat × (List Int))) :=
  (slices_Concat_int_int_n12 x836 x992 x993).bind (fun (t : Nat × (List Int)) => slices_Concat_int_int_n13 t.1 t.2)

def slices_Concat_int_int_n15 (x836 : List (List Int)) (x976 : Int) : Option ((Nat × (List Int))) :=
  (slices_Concat_int_int_n7 x976).bind (fun (t : Nat × (List Int)) => slices_Concat_int_int_n14 x836 t.1 t.2)

def slices_Concat_int_int_n16 (x836 : List (List Int)) : Option ((Nat × (List Int))) :=
  (slices_Concat_int_int_n6 x836).bind (fun (t : Int) => slices_Concat_int_int_n15 x836 t)

def slices_Concat_int_int_n17 (x836 : List (List Int)) : Option ((Nat × (List Int))) :=
  (slices_Concat_int_int_n1).bind (fun (t : Unit) => slices_Concat_int_int_n16 x836)

@[irreducible] def slices_Concat_int_int (x836 : List (List Int)) : Option (Nat × (List Int)) :=
  slices_Concat_int_int_n17 x836

def impl_merged_n1 (x673 : List Int) (x674 : List Int) : Option (((List Int))) :=
  (mk 0 (IntKind.wrap .i64 ((((List.length x673 : Nat) : Int)) + (((List.length x674 : Nat) : Int))))).bind fun (v763 : Nat) => some (List.replicate v763 (0 : Int))

def impl_merged_n2 (x798 : List Int) (x799 : List Int) (x800 : Int) (x801 : List Int) : Option (((List Int) × (List Int) × Int × (List Int)) ⊕ ((List Int) × (List Int) × Int × (List Int))) :=
  cond (decide ((((List.length x798 : Nat) : Int)) > 0)) (cond (decide ((((List.length x799 : Nat) : Int)) > 0)) ((idx x798 0).bind fun (v810 : Int) => (idx x799 0).bind fun (v811 : Int) => cond (decide (v810 < v811)) ((idx x798 0).bind fun (v813 : Int) => (room ((List.length x801) + List.length ([v813]))).bind fun (v816 : Unit) => (inc 1 (List.length x798)).bind fun (v819 : Nat) => some (Sum.inl (((x798.take (List.length x798)).drop v819), x799, x800, (x801 ++ ([v813]))))) ((idx x799 0).bind fun (v823 : Int) => (room ((List.length x801) + List.length ([v823]))).bind fun (v826 : Unit) => (inc 1 (List.length x799)).bind fun (v829 : Nat) => some (Sum.inl (x798, ((x799.take (List.length x799)).drop v829), (IntKind.wrap .i64 (x800 + (((List.length x798 : Nat) : Int)))), (x801 ++ ([v823])))))) (some (Sum.inr (x798, x799, x800, x801)))) (some (Sum.inr (x798, x799, x800, x801)))

def impl_merged_n3 (x673 : List Int) (x674 : List Int) (x764 : List Int) : Option (((List Int) × (List Int) × Int × (List Int))) :=
  nloop (fun (s : (List Int) × (List Int) × Int × (List Int)) => ((impl_merged_n2 s.1 s.2.1 s.2.2.1 s.2.2.2).map (Sum.elim (fun (t : (List Int) × (List Int) × Int × (List Int)) => Sum.inl (t.1, t.2.1, t.2.2.1, t.2.2.2)) (fun (t : (List Int) × (List Int) × Int × (List Int)) => Sum.inr t)) : Option (((List Int) × (List Int) × Int × (List Int)) ⊕ (((List Int) × (List Int) × Int × (List Int)))))) LL (x673, x674, 0, x764)

def impl_merged_n4 (x673 : List Int) (x674 : List Int) (x764 : List Int) : Option (((List Int) × (List Int) × Int × (List Int))) :=
  (impl_merged_n3 x673 x674 x764).map (fun (t : (List Int) × (List Int) × Int × (List Int)) => (t.1, t.2.1, t.2.2.1, t.2.2.2))

def impl_merged_n5 (x798 : List Int) (x799 : List Int) (x800 : Int) (x801 : List Int) : Option ((Nat × Int × (List Int))) :=
  (slices_Concat_int_int ([x801, x798, x799])).bind fun (v1030 : Nat × (List Int)) => some ((v1030.1), x800, (v1030.2))

def impl_merged_n6 (x673 : List Int) (x674 : List Int) (x764 : List Int) : Option ((Nat × Int × (List Int))) :=
  (impl_merged_n4 x673 x674 x764).bind (fun (t : (List Int) × (List Int) × Int × (List Int)) => impl_merged_n5 t.1 t.2.1 t.2.2.1 t.2.2.2)

def impl_merged_n7 (x673 : List Int) (x674 : List Int) : Option ((Nat × Int × (List Int))) :=
  (impl_merged_n1 x673 x674).bind (fun (t : (List Int)) => impl_merged_n6 x673 x674 t)

@[irreducible] def impl_merged (x673 : List Int) (x674 : List Int) : Option (Nat × Int × (List Int)) :=
  impl_merged_n7 x673 x674

def impl_sorted_n1 (R0 : (List Int) → Option ((List Int) × Int)) (x621 : List Int) : Option (((List Int) × Int)) :=
  cond (decide ((((List.length x621 : Nat) : Int)) < 2)) (some (x621, 0)) ((quo .i64 (((List.length x621 : Nat) : Int)) 2).bind fun (v1231 : Int) => (inc v1231 (List.length x621)).bind fun (v1233 : Nat) => (R0 ((x621.take v1233).drop 0)).bind fun (v1235 : (List Int) × Int) => (inc v1231 (List.length x621)).bind fun (v1239 : Nat) => (R0 ((x621.take (List.length x621)).drop v1239)).bind fun (v1241 : (List Int) × Int) => (impl_merged (v1235.1) (v1241.1)).bind fun (v1244 : Nat × Int × (List Int)) => some ((((v1244.2.2).drop 0).take (v1244.1)), (IntKind.wrap .i64 ((IntKind.wrap .i64 ((v1235.2) + (v1241.2))) + (v1244.2.1)))))

def impl_sorted_one (R0 : (List Int) → Option ((List Int) × Int)) (x621 : List Int) : Option ((List Int) × Int) :=
  impl_sorted_n1 R0 x621

def impl_sorted_knot : Nat → ((List Int) → Option ((List Int) × Int))
  | 0 => (fun _ => none)
  | n + 1 => (fun y0 => impl_sorted_one (impl_sorted_knot n) y0)

def impl_sorted_fuel (n : Nat) : (List Int) → Option ((List Int) × Int) := (impl_sorted_knot n)

@[irreducible] def impl_sorted (x621 : List Int) : Option ((List Int) × Int) := impl_sorted_fuel RR x621

def impl_CountTurned_n1 (x552 : List Int) : Option (Int) :=
  (impl_OrderOk x552 (((List.length x552 : Nat) : Int))).bind fun (v1263 : Bool) => cond (!v1263) (some (-1)) ((impl_sorted x552).bind fun (v1265 : (List Int) × Int) => some (v1265.2))

@[irreducible] def impl_CountTurned (x552 : List Int) : Option (Int) :=
  impl_CountTurned_n1 x552

def spec_l1In_n1 (x1281 : Int) (x1282 : Int) (x1283 : Int) : Option (Bool) :=
  cond (decide (x1281 ≥ x1282)) (some (decide (x1281 ≤ x1283))) (some false)

@[irreducible] def spec_l1In (x1281 : Int) (x1282 : Int) (x1283 : Int) : Option (Bool) :=
  spec_l1In_n1 x1281 x1282 x1283

def spec_OrderOk_n1 : Option (Unit) :=
  some ()

def spec_OrderOk_n2 : Option (Unit) :=
  some ()

def spec_OrderOk_n3 (x1276 : List Int) (x1316 : Int) : Option (Unit ⊕ Unit) :=
  cond (decide (x1316 < (((List.length x1276 : Nat) : Int)))) (some (Sum.inl ())) (some (Sum.inr ()))

def spec_OrderOk_n4 (x1276 : List Int) (x1277 : Int) (x1316 : Int) : Option (Unit ⊕ Bool) :=
  (idx x1276 x1316).bind fun (v1322 : Int) => (spec_l1In v1322 1 x1277).bind fun (v1323 : Bool) => cond (!v1323) (some (Sum.inr false)) (some (Sum.inl ()))

def spec_OrderOk_n5 (x1276 : List Int) (x1316 : Int) (x1335 : Int) : Option (Int ⊕ Bool ⊕ Unit) :=
  cond (decide (x1335 < x1316)) ((idx x1276 x1335).bind fun (v1342 : Int) => (idx x1276 x1316).bind fun (v1343 : Int) => cond (v1342 == v1343) (some (Sum.inr (Sum.inl false))) (some (Sum.inl (IntKind.wrap .i64 (x1335 + 1))))) (some (Sum.inr (Sum.inr ())))

def spec_OrderOk_n6 (x1276 : List Int) (x1316 : Int) : Option (Bool ⊕ Unit) :=
  nloop (fun (s : Int) => ((spec_OrderOk_n5 x1276 x1316 s).map (Sum.elim (fun (t : Int) => Sum.inl t) (Sum.elim (fun (t : Bool) => Sum.inr (Sum.inl t)) (fun (t : Unit) => Sum.inr (Sum.inr t)))) : Option ((Int) ⊕ (Bool ⊕ Unit)))) LL 0

def spec_OrderOk_n7 (x1276 : List Int) (x1316 : Int) : Option (Unit ⊕ Bool) :=
  (spec_OrderOk_n6 x1276 x1316).map (Sum.elim (fun (t : Bool) => (Sum.inr t)) (fun (t : Unit) => (Sum.inl ())))

def spec_OrderOk_n8 (x1276 : List Int) (x1277 : Int) (x1316 : Int) : Option (Unit ⊕ Bool) :=
  (spec_OrderOk_n4 x1276 x1277 x1316).bind (Sum.elim (fun (t : Unit) => spec_OrderOk_n7 x1276 x1316) (fun e => some ((fun (t : Bool) => (Sum.inr t)) e)))

def spec_OrderOk_n9 (x1276 : List Int) (x1277 : Int) (x1316 : Int) : Option (Unit ⊕ Bool) :=
  (spec_OrderOk_n8 x1276 x1277 x1316).map (Sum.elim (fun (t : Unit) => (Sum.inl ())) (fun (t : Bool) => (Sum.inr t)))

def spec_OrderOk_n10 (x1316 : Int) : Option (Int) :=
  some (IntKind.wrap .i64 (x1316 + 1))

def spec_OrderOk_n11 (x1276 : List Int) (x1277 : Int) (x1316 : Int) : Option (Int ⊕ Bool) :=
  (spec_OrderOk_n9 x1276 x1277 x1316).bind (Sum.elim (fun (t : Unit) => (spec_OrderOk_n10 x1316).map (fun (t : Int) => (Sum.inl t))) (fun e => some ((fun (t : Bool) => (Sum.inr t)) e)))

def spec_OrderOk_n12 (x1276 : List Int) (x1277 : Int) (x1316 : Int) : Option (Int ⊕ Bool ⊕ Unit) :=
  (spec_OrderOk_n3 x1276 x1316).bind (Sum.elim (fun (t : Unit) => (spec_OrderOk_n11 x1276 x1277 x1316).map (Sum.elim (fun (t : Int) => (Sum.inl t)) (fun (t : Bool) => (Sum.inr (Sum.inl t))))) (fun e => some ((fun (t : Unit) => (Sum.inr (Sum.inr t))) e)))

def spec_OrderOk_n13 (x1276 : List Int) (x1277 : Int) : Option (Bool ⊕ Unit) :=
  nloop (fun (s : Int) => ((spec_OrderOk_n12 x1276 x1277 s).map (Sum.elim (fun (t : Int) => Sum.inl t) (Sum.elim (fun (t : Bool) => Sum.inr (Sum.inl t)) (fun (t : Unit) => Sum.inr (Sum.inr t)))) : Option ((Int) ⊕ (Bool ⊕ Unit)))) LL 0

def spec_OrderOk_n14 (x1276 : List Int) (x1277 : Int) : Option (Unit ⊕ Bool) :=
  (spec_OrderOk_n13 x1276 x1277).map (Sum.elim (fun (t : Bool) => (Sum.inr t)) (fun (t : Unit) => (Sum.inl ())))

def spec_OrderOk_n15 (x1276 : List Int) (x1277 : Int) : Option (Unit ⊕ Bool) :=
  (spec_OrderOk_n2).bind (fun (t : Unit) => spec_OrderOk_n14 x1276 x1277)

def spec_OrderOk_n16 (x1276 : List Int) (x1277 : Int) : Option (Bool) :=
  (spec_l1In x1277 1 8).bind fun (v1350 : Bool) => cond v1350 (some ((((List.length x1276 : Nat) : Int)) == x1277)) (some false)

def spec_OrderOk_n17 (x1276 : List Int) (x1277 : Int) : Option (Bool) :=
  (spec_OrderOk_n15 x1276 x1277).bind (Sum.elim (fun (t : Unit) => spec_OrderOk_n16 x1276 x1277) (fun e => some ((fun (t : Bool) => t) e)))

def spec_OrderOk_n18 (x1276 : List Int) (x1277 : Int) : Option (Bool) :=
  (spec_OrderOk_n1).bind (fun (t : Unit) => spec_OrderOk_n17 x1276 x1277)

@[irreducible] def spec_OrderOk (x1276 : List Int) (x1277 : Int) : Option (Bool) :=
  spec_OrderOk_n18 x1276 x1277

def spec_CountTurned_n1 (x1274 : List Int) : Option (Unit ⊕ Int) :=
  (spec_OrderOk x1274 (((List.length x1274 : Nat) : Int))).bind fun (v1357 : Bool) => cond (!v1357) (some (Sum.inr (-1))) (some (Sum.inl ()))

def spec_CountTurned_n2 : Option (Unit) :=
  some ()

def spec_CountTurned_n3 (x1274 : List Int) (x1394 : Int) (x1395 : Int) : Option (Unit ⊕ Int) :=
  cond (decide (x1395 < (((List.length x1274 : Nat) : Int)))) (some (Sum.inl ())) (some (Sum.inr x1394))

def spec_CountTurned_n4 : Option (Unit) :=
  some ()

def spec_CountTurned_n5 (x1274 : List Int) (x1413 : Int) (x1395 : Int) (x1414 : Int) : Option ((Int × Int) ⊕ Int) :=
  cond (decide (x1414 < x1395)) ((idx x1274 x1414).bind fun (v1422 : Int) => (idx x1274 x1395).bind fun (v1423 : Int) => cond (decide (v1422 > v1423)) (some (Sum.inl ((IntKind.wrap .i64 (x1413 + 1)), (IntKind.wrap .i64 (x1414 + 1))))) (some (Sum.inl (x1413, (IntKind.wrap .i64 (x1414 + 1)))))) (some (Sum.inr x1413))

def spec_CountTurned_n6 (x1274 : List Int) (x1394 : Int) (x1395 : Int) : Option (Int) :=
  nloop (fun (s : Int × Int) => ((spec_CountTurned_n5 x1274 s.1 x1395 s.2).map (Sum.elim (fun (t : Int × Int) => Sum.inl (t.1, t.2)) (fun (t : Int) => Sum.inr t)) : Option ((Int × Int) ⊕ (Int)))) LL (x1394, 0)

def spec_CountTurned_n7 (x1274 : List Int) (x1394 : Int) (x1395 : Int) : Option (Int) :=
  (spec_CountTurned_n6 x1274 x1394 x1395).map (fun (t : Int) => t)

def spec_CountTurned_n8 (x1274 : List Int) (x1394 : Int) (x1395 : Int) : Option (Int) :=
  (spec_CountTurned_n4).bind (fun (t : Unit) => spec_CountTurned_n7 x1274 x1394 x1395)

def spec_CountTurned_n9 (x1274 : List Int) (x1394 : Int) (x1395 : Int) : Option (Int) :=
  (spec_CountTurned_n8 x1274 x1394 x1395).map (fun (t : Int) => t)

def spec_CountTurned_n10 (x1395 : Int) : Option (Int) :=
  some (IntKind.wrap .i64 (x1395 + 1))

def spec_CountTurned_n11 (x1274 : List Int) (x1394 : Int) (x1395 : Int) : Option ((Int × Int)) :=
  (spec_CountTurned_n9 x1274 x1394 x1395).bind (fun (t : Int) => (spec_CountTurned_n10 x1395).map (fun (u : Int) => (t, u)))

def spec_CountTurned_n12 (x1274 : List Int) (x1394 : Int) (x1395 : Int) : Option ((Int × Int) ⊕ Int) :=
  (spec_CountTurned_n3 x1274 x1394 x1395).bind (Sum.elim (fun (t : Unit) => (spec_CountTurned_n11 x1274 x1394 x1395).map (fun (t : Int × Int) => (Sum.inl (t.1, t.2)))) (fun e => some ((fun (t : Int) => (Sum.inr t)) e)))

def spec_CountTurned_n13 (x1274 : List Int) : Option (Int) :=
  nloop (fun (s : Int × Int) => ((spec_CountTurned_n12 x1274 s.1 s.2).map (Sum.elim (fun (t : Int × Int) => Sum.inl (t.1, t.2)) (fun (t : Int) => Sum.inr t)) : Option ((Int × Int) ⊕ (Int)))) LL (0, 0)

def spec_CountTurned_n14 (x1274 : List Int) : Option (Int) :=
  (spec_CountTurned_n13 x1274).map (fun (t : Int) => t)

def spec_CountTurned_n15 (x1274 : List Int) : Option (Int) :=
  (spec_CountTurned_n2).bind (fun (t : Unit) => spec_CountTurned_n14 x1274)

def spec_CountTurned_n16 (x1394 : Int) : Option (Int) :=
  some x1394

def spec_CountTurned_n17 (x1274 : List Int) : Option (Int) :=
  (spec_CountTurned_n15 x1274).bind (fun (t : Int) => spec_CountTurned_n16 t)

def spec_CountTurned_n18 (x1274 : List Int) : Option (Int) :=
  (spec_CountTurned_n1 x1274).bind (Sum.elim (fun (t : Unit) => spec_CountTurned_n17 x1274) (fun e => some ((fun (t : Int) => t) e)))

@[irreducible] def spec_CountTurned (x1274 : List Int) : Option (Int) :=
  spec_CountTurned_n18 x1274

def laws_toIntS_n1 (x2238 : List Int) : Option (((List Int))) :=
  (mk (((List.length x2238 : Nat) : Int)) (((List.length x2238 : Nat) : Int))).bind fun (v2240 : Nat) => some (List.replicate v2240 (0 : Int))

def laws_toIntS_n2 : Option (Unit) :=
  some ()

def laws_toIntS_n3 (x2238 : List Int) (x2255 : Int) (x2256 : List Int) : Option ((Int × (List Int)) ⊕ ((List Int))) :=
  cond (decide (x2255 < (((List.length x2238 : Nat) : Int)))) ((idx x2238 x2255).bind fun (v2266 : Int) => (inb x2255 (List.length x2256)).bind fun (v2267 : Nat) => some (Sum.inl ((IntKind.wrap .i64 (x2255 + 1)), (x2256.set v2267 v2266)))) (some (Sum.inr x2256))

def laws_toIntS_n4 (x2238 : List Int) (x2241 : List Int) : Option (((List Int))) :=
  nloop (fun (s : Int × (List Int)) => ((laws_toIntS_n3 x2238 s.1 s.2).map (Sum.elim (fun (t : Int × (List Int)) => Sum.inl (t.1, t.2)) (fun (t : (List Int)) => Sum.inr t)) : Option ((Int × (List Int)) ⊕ (((List Int)))))) LL (0, x2241)

def laws_toIntS_n5 (x2238 : List Int) (x2241 : List Int) : Option (((List Int))) :=
  (laws_toIntS_n4 x2238 x2241).map (fun (t : (List Int)) => t)

def laws_toIntS_n6 (x2238 : List Int) (x2241 : List Int) : Option (((List Int))) :=
  (laws_toIntS_n2).bind (fun (t : Unit) => laws_toIntS_n5 x2238 x2241)

def laws_toIntS_n7 (x2256 : List Int) : Option (((List Int))) :=
  some x2256

def laws_toIntS_n8 (x2238 : List Int) (x2241 : List Int) : Option (((List Int))) :=
  (laws_toIntS_n6 x2238 x2241).bind (fun (t : (List Int)) => laws_toIntS_n7 t)

def laws_toIntS_n9 (x2238 : List Int) : Option (((List Int))) :=
  (laws_toIntS_n1 x2238).bind (fun (t : (List Int)) => laws_toIntS_n8 x2238 t)

@[irreducible] def laws_toIntS (x2238 : List Int) : Option ((List Int)) :=
  laws_toIntS_n9 x2238

def laws_eqIntS_n1 (x2763 : List Int) (x2764 : List Int) : Option (Unit ⊕ Bool) :=
  cond ((((List.length x2763 : Nat) : Int)) != (((List.length x2764 : Nat) : Int))) (some (Sum.inr false)) (some (Sum.inl ()))

def laws_eqIntS_n2 : Option (Unit) :=
  some ()

def laws_eqIntS_n3 (x2763 : List Int) (x2764 : List Int) (x2781 : Int) : Option (Int ⊕ Bool ⊕ Unit) :=
  cond (decide (x2781 < (((List.length x2763 : Nat) : Int)))) ((idx x2763 x2781).bind fun (v2791 : Int) => (idx x2764 x2781).bind fun (v2792 : Int) => cond (v2791 != v2792) (some (Sum.inr (Sum.inl false))) (some (Sum.inl (IntKind.wrap .i64 (x2781 + 1))))) (some (Sum.inr (Sum.inr ())))

def laws_eqIntS_n4 (x2763 : List Int) (x2764 : List Int) : Option (Bool ⊕ Unit) :=
  nloop (fun (s : Int) => ((laws_eqIntS_n3 x2763 x2764 s).map (Sum.elim (fun (t : Int) => Sum.inl t) (Sum.elim (fun (t : Bool) => Sum.inr (Sum.inl t)) (fun (t : Unit) => Sum.inr (Sum.inr t)))) : Option ((Int) ⊕ (Bool ⊕ Unit)))) LL 0

def laws_eqIntS_n5 (x2763 : List Int) (x2764 : List Int) : Option (Unit ⊕ Bool) :=
  (laws_eqIntS_n4 x2763 x2764).map (Sum.elim (fun (t : Bool) => (Sum.inr t)) (fun (t : Unit) => (Sum.inl ())))

def laws_eqIntS_n6 (x2763 : List Int) (x2764 : List Int) : Option (Unit ⊕ Bool) :=
  (laws_eqIntS_n2).bind (fun (t : Unit) => laws_eqIntS_n5 x2763 x2764)

def laws_eqIntS_n7 : Option (Bool) :=
  some true

def laws_eqIntS_n8 (x2763 : List Int) (x2764 : List Int) : Option (Bool) :=
  (laws_eqIntS_n6 x2763 x2764).bind (Sum.elim (fun (t : Unit) => laws_eqIntS_n7) (fun e => some ((fun (t : Bool) => t) e)))

def laws_eqIntS_n9 (x2763 : List Int) (x2764 : List Int) : Option (Bool) :=
  (laws_eqIntS_n1 x2763 x2764).bind (Sum.elim (fun (t : Unit) => laws_eqIntS_n8 x2763 x2764) (fun e => some ((fun (t : Bool) => t) e)))

@[irreducible] def laws_eqIntS (x2763 : List Int) (x2764 : List Int) : Option (Bool) :=
  laws_eqIntS_n9 x2763 x2764

def laws_FnExactCountTurned_n1 (x2836 : List Int) : Option (Bool) :=
  cond (decide ((((List.length x2836 : Nat) : Int)) > 1048576)) (some true) ((laws_toIntS x2836).bind fun (v2883 : List Int) => (spec_CountTurned v2883).bind fun (v2884 : Int) => (laws_toIntS x2836).bind fun (v2885 : List Int) => (impl_CountTurned v2885).bind fun (v2886 : Int) => cond (v2886 != v2884) (some false) ((laws_toIntS x2836).bind fun (v2888 : List Int) => (laws_eqIntS v2885 v2888).bind fun (v2889 : Bool) => cond (!v2889) (some false) (some true)))

@[irreducible] def laws_FnExactCountTurned (x2836 : List Int) : Option (Bool) :=
  laws_FnExactCountTurned_n1 x2836

end Go.Rv
