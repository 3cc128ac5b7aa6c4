/-
  Plain functions, written by program for functions of the checked code. Conditions: none.
-/
import Derived.Test.YteefjoepogdgpaaFB
set_option linter.unusedVariables false
namespace Go.Rv
def slices_Min_int_int_n1 (x17091 : List Int) : Option (Int) :=
  cond (decide ((((List.length x17091 : Nat) : Int)) < 1)) (none) ((idx x17091 0).bind fun (v17096 : Int) => some v17096)

def slices_Min_int_int_n2 : Option (Unit) :=
  some ()

def slices_Min_int_int_n3 (x17091 : List Int) (x17108 : Int) (x17109 : Int) : Option ((Int × Int) ⊕ Int) :=
  cond (decide (x17109 < (((List.length x17091 : Nat) : Int)))) ((idx x17091 x17109).bind fun (v17118 : Int) => some (Sum.inl ((imin x17108 v17118), (IntKind.wrap .i64 (x17109 + 1))))) (some (Sum.inr x17108))

def slices_Min_int_int_n4 (x17091 : List Int) (x17096 : Int) : Option (Int) :=
  nloop (fun (s : Int × Int) => ((slices_Min_int_int_n3 x17091 s.1 s.2).map (Sum.elim (fun (t : Int × Int) => Sum.inl (t.1, t.2)) (fun (t : Int) => Sum.inr t)) : Option ((Int × Int) ⊕ (Int)))) LL (x17096, 1)

def slices_Min_int_int_n5 (x17091 : List Int) (x17096 : Int) : Option (Int) :=
  (slices_Min_int_int_n4 x17091 x17096).map (fun (t : Int) => t)

def slices_Min_int_int_n6 (x17091 : List Int) (x17096 : Int) : Option (Int) :=
  (slices_Min_int_int_n2).bind (fun (t : Unit) => slices_Min_int_int_n5 x17091 x17096)

def slices_Min_int_int_n7 (x17108 : Int) : Option (Int) :=
  some x17108

def slices_Min_int_int_n8 (x17091 : List Int) (x17096 : Int) : Option (Int) :=
  (slices_Min_int_int_n6 x17091 x17096).bind (fun (t : Int) => slices_Min_int_int_n7 t)

def slices_Min_int_int_n9 (x17091 : List Int) : Option (Int) :=
  (slices_Min_int_int_n1 x17091).bind (fun (t : Int) => slices_Min_int_int_n8 x17091 t)

@[irreducible] def slices_Min_int_int (x17091 : List Int) : Option (Int) :=
  slices_Min_int_int_n9 x17091

def slices_Max_int_int_n1 (x17123 : List Int) : Option (Int) :=
  cond (decide ((((List.length x17123 : Nat) : Int)) < 1)) (none) ((idx x17123 0).bind fun (v17128 : Int) => some v17128)

def slices_Max_int_int_n2 : Option (Unit) :=
  some ()

def slices_Max_int_int_n3 (x17123 : List Int) (x17140 : Int) (x17141 : Int) : Option ((Int × Int) ⊕ Int) :=
  cond (decide (x17141 < (((List.length x17123 : Nat) : Int)))) ((idx x17123 x17141).bind fun (v17150 : Int) => some (Sum.inl ((imax x17140 v17150), (IntKind.wrap .i64 (x17141 + 1))))) (some (Sum.inr x17140))

def slices_Max_int_int_n4 (x17123 : List Int) (x17128 : Int) : Option (Int) :=
  nloop (fun (s : Int × Int) => ((slices_Max_int_int_n3 x17123 s.1 s.2).map (Sum.elim (fun (t : Int × Int) => Sum.inl (t.1, t.2)) (fun (t : Int) => Sum.inr t)) : Option ((Int × Int) ⊕ (Int)))) LL (x17128, 1)

def slices_Max_int_int_n5 (x17123 : List Int) (x17128 : Int) : Option (Int) :=
  (slices_Max_int_int_n4 x17123 x17128).map (fun (t : Int) => t)

def slices_Max_int_int_n6 (x17123 : List Int) (x17128 : Int) : Option (Int) :=
  (slices_Max_int_int_n2).bind (fun (t : Unit) => slices_Max_int_int_n5 x17123 x17128)

def slices_Max_int_int_n7 (x17140 : Int) : Option (Int) :=
  some x17140

def slices_Max_int_int_n8 (x17123 : List Int) (x17128 : Int) : Option (Int) :=
  (slices_Max_int_int_n6 x17123 x17128).bind (fun (t : Int) => slices_Max_int_int_n7 t)

def slices_Max_int_int_n9 (x17123 : List Int) : Option (Int) :=
  (slices_Max_int_int_n1 x17123).bind (fun (t : Int) => slices_Max_int_int_n8 x17123 t)

@[irreducible] def slices_Max_int_int (x17123 : List Int) : Option (Int) :=
  slices_Max_int_int_n9 x17123

def impl_scoreRowOk_n1 (x17086 : List Int) (x17087 : Int) : Option (Bool) :=
  cond ((((List.length x17086 : Nat) : Int)) == (IntKind.wrap .i64 (x17087 + 1))) ((slices_Min_int_int x17086).bind fun (v17158 : Int) => cond (decide (v17158 ≥ 0)) ((slices_Max_int_int x17086).bind fun (v17160 : Int) => some (decide (v17160 ≤ 20))) (some false)) (some false)

@[irreducible] def impl_scoreRowOk (x17086 : List Int) (x17087 : Int) : Option (Bool) :=
  impl_scoreRowOk_n1 x17086 x17087

def impl_ScoresOk_n1 (x17075 : List (List Int)) : Option (Unit ⊕ Bool) :=
  cond (decide ((((List.length x17075 : Nat) : Int)) < 1)) (some (Sum.inr false)) (cond (decide ((((List.length x17075 : Nat) : Int)) > 5)) (some (Sum.inr false)) (some (Sum.inl ())))

def impl_ScoresOk_n2 (x17075 : List (List Int)) : Option (Int) :=
  some (((List.length x17075 : Nat) : Int))

def impl_ScoresOk_n3 (x17075 : List (List Int)) (x17080 : Int) (x17171 : Int) : Option (Int ⊕ Bool ⊕ Unit) :=
  cond (decide (x17171 < x17080)) ((idx x17075 x17171).bind fun (v17180 : List Int) => (impl_scoreRowOk v17180 (((List.length x17075 : Nat) : Int))).bind fun (v17182 : Bool) => cond (!v17182) (some (Sum.inr (Sum.inl false))) (some (Sum.inl (IntKind.wrap .i64 (x17171 + 1))))) (some (Sum.inr (Sum.inr ())))

def impl_ScoresOk_n4 (x17075 : List (List Int)) (x17080 : Int) : Option (Bool ⊕ Unit) :=
  nloop (fun (s : Int) => ((impl_ScoresOk_n3 x17075 x17080 s).map (Sum.elim (fun (t : Int) => Sum.inl t) (Sum.elim (fun (t : Bool) => Sum.inr (Sum.inl t)) (fun (t : Unit) => Sum.inr (Sum.inr t)))) : Option ((Int) ⊕ (Bool ⊕ Unit)))) LL 0

def impl_ScoresOk_n5 (x17075 : List (List Int)) (x17080 : Int) : Option (Unit ⊕ Bool) :=
  (impl_ScoresOk_n4 x17075 x17080).map (Sum.elim (fun (t : Bool) => (Sum.inr t)) (fun (t : Unit) => (Sum.inl ())))

def impl_ScoresOk_n6 (x17075 : List (List Int)) : Option (Unit ⊕ Bool) :=
  (impl_ScoresOk_n2 x17075).bind (fun (t : Int) => impl_ScoresOk_n5 x17075 t)

def impl_ScoresOk_n7 : Option (Bool) :=
  some true

def impl_ScoresOk_n8 (x17075 : List (List Int)) : Option (Bool) :=
  (impl_ScoresOk_n6 x17075).bind (Sum.elim (fun (t : Unit) => impl_ScoresOk_n7) (fun e => some ((fun (t : Bool) => t) e)))

def impl_ScoresOk_n9 (x17075 : List (List Int)) : Option (Bool) :=
  (impl_ScoresOk_n1 x17075).bind (Sum.elim (fun (t : Unit) => impl_ScoresOk_n8 x17075) (fun e => some ((fun (t : Bool) => t) e)))

@[irreducible] def impl_ScoresOk (x17075 : List (List Int)) : Option (Bool) :=
  impl_ScoresOk_n9 x17075

def spec_l1In_n1 (x17212 : Int) (x17213 : Int) (x17214 : Int) : Option (Bool) :=
  cond (decide (x17212 ≥ x17213)) (some (decide (x17212 ≤ x17214))) (some false)

@[irreducible] def spec_l1In (x17212 : Int) (x17213 : Int) (x17214 : Int) : Option (Bool) :=
  spec_l1In_n1 x17212 x17213 x17214

def spec_ScoresOk_n1 : Option (Unit) :=
  some ()

def spec_ScoresOk_n2 : Option (Unit) :=
  some ()

def spec_ScoresOk_n3 (x17191 : List (List Int)) (x17250 : Int) : Option (Unit ⊕ Unit) :=
  cond (decide (x17250 < (((List.length x17191 : Nat) : Int)))) (some (Sum.inl ())) (some (Sum.inr ()))

def spec_ScoresOk_n4 (x17191 : List (List Int)) (x17250 : Int) : Option (Unit ⊕ Bool) :=
  (idx x17191 x17250).bind fun (v17258 : List Int) => cond ((((List.length v17258 : Nat) : Int)) != (IntKind.wrap .i64 ((((List.length x17191 : Nat) : Int)) + 1))) (some (Sum.inr false)) (some (Sum.inl ()))

def spec_ScoresOk_n5 (x17191 : List (List Int)) (x17250 : Int) (x17281 : Int) : Option (Int ⊕ Bool ⊕ Unit) :=
  (idx x17191 x17250).bind fun (v17292 : List Int) => cond (decide (x17281 < (((List.length v17292 : Nat) : Int)))) ((idx x17191 x17250).bind fun (v17295 : List Int) => (idx v17295 x17281).bind fun (v17296 : Int) => (spec_l1In v17296 0 20).bind fun (v17297 : Bool) => cond (!v17297) (some (Sum.inr (Sum.inl false))) (some (Sum.inl (IntKind.wrap .i64 (x17281 + 1))))) (some (Sum.inr (Sum.inr ())))

def spec_ScoresOk_n6 (x17191 : List (List Int)) (x17250 : Int) : Option (Bool ⊕ Unit) :=
  nloop (fun (s : Int) => ((spec_ScoresOk_n5 x17191 x17250 s).map (Sum.elim (fun (t : Int) => Sum.inl t) (Sum.elim (fun (t : Bool) => Sum.inr (Sum.inl t)) (fun (t : Unit) => Sum.inr (Sum.inr t)))) : Option ((Int) ⊕ (Bool ⊕ Unit)))) LL 0

def spec_ScoresOk_n7 (x17191 : List (List Int)) (x17250 : Int) : Option (Unit ⊕ Bool) :=
  (spec_ScoresOk_n6 x17191 x17250).map (Sum.elim (fun (t : Bool) => (Sum.inr t)) (fun (t : Unit) => (Sum.inl ())))

def spec_ScoresOk_n8 (x17191 : List (List Int)) (x17250 : Int) : Option (Unit ⊕ Bool) :=
  (spec_ScoresOk_n4 x17191 x17250).bind (Sum.elim (fun (t : Unit) => spec_ScoresOk_n7 x17191 x17250) (fun e => some ((fun (t : Bool) => (Sum.inr t)) e)))

def spec_ScoresOk_n9 (x17191 : List (List Int)) (x17250 : Int) : Option (Unit ⊕ Bool) :=
  (spec_ScoresOk_n8 x17191 x17250).map (Sum.elim (fun (t : Unit) => (Sum.inl ())) (fun (t : Bool) => (Sum.inr t)))

def spec_ScoresOk_n10 (x17250 : Int) : Option (Int) :=
  some (IntKind.wrap .i64 (x17250 + 1))

def spec_ScoresOk_n11 (x17191 : List (List Int)) (x17250 : Int) : Option (Int ⊕ Bool) :=
  (spec_ScoresOk_n9 x17191 x17250).bind (Sum.elim (fun (t : Unit) => (spec_ScoresOk_n10 x17250).map (fun (t : Int) => (Sum.inl t))) (fun e => some ((fun (t : Bool) => (Sum.inr t)) e)))

def spec_ScoresOk_n12 (x17191 : List (List Int)) (x17250 : Int) : Option (Int ⊕ Bool ⊕ Unit) :=
  (spec_ScoresOk_n3 x17191 x17250).bind (Sum.elim (fun (t : Unit) => (spec_ScoresOk_n11 x17191 x17250).map (Sum.elim (fun (t : Int) => (Sum.inl t)) (fun (t : Bool) => (Sum.inr (Sum.inl t))))) (fun e => some ((fun (t : Unit) => (Sum.inr (Sum.inr t))) e)))

def spec_ScoresOk_n13 (x17191 : List (List Int)) : Option (Bool ⊕ Unit) :=
  nloop (fun (s : Int) => ((spec_ScoresOk_n12 x17191 s).map (Sum.elim (fun (t : Int) => Sum.inl t) (Sum.elim (fun (t : Bool) => Sum.inr (Sum.inl t)) (fun (t : Unit) => Sum.inr (Sum.inr t)))) : Option ((Int) ⊕ (Bool ⊕ Unit)))) LL 0

def spec_ScoresOk_n14 (x17191 : List (List Int)) : Option (Unit ⊕ Bool) :=
  (spec_ScoresOk_n13 x17191).map (Sum.elim (fun (t : Bool) => (Sum.inr t)) (fun (t : Unit) => (Sum.inl ())))

def spec_ScoresOk_n15 (x17191 : List (List Int)) : Option (Unit ⊕ Bool) :=
  (spec_ScoresOk_n2).bind (fun (t : Unit) => spec_ScoresOk_n14 x17191)

def spec_ScoresOk_n16 (x17191 : List (List Int)) : Option (Bool) :=
  (spec_l1In (((List.length x17191 : Nat) : Int)) 1 5).bind fun (v17304 : Bool) => some v17304

def spec_ScoresOk_n17 (x17191 : List (List Int)) : Option (Bool) :=
  (spec_ScoresOk_n15 x17191).bind (Sum.elim (fun (t : Unit) => spec_ScoresOk_n16 x17191) (fun e => some ((fun (t : Bool) => t) e)))

def spec_ScoresOk_n18 (x17191 : List (List Int)) : Option (Bool) :=
  (spec_ScoresOk_n1).bind (fun (t : Unit) => spec_ScoresOk_n17 x17191)

@[irreducible] def spec_ScoresOk (x17191 : List (List Int)) : Option (Bool) :=
  spec_ScoresOk_n18 x17191

def impl_partTable_between_1_n1 (x18298 : Int) (x18299 : List (Int × Int × Unit)) (x18300 : Int) (x18301 : Int) : Option (Int) :=
  (same (List.length x18299) 36).bind fun (v18322 : Unit) => (inb x18300 6).bind fun (v18323 : Nat) => (same (List.length ((x18299.drop (v18323 * 6)).take 6)) 6).bind fun (v18325 : Unit) => (idx ((x18299.drop (v18323 * 6)).take 6) x18298).bind fun (v18326 : Int × Int × Unit) => (same (List.length x18299) 36).bind fun (v18332 : Unit) => (inb (IntKind.wrap .i64 (x18298 + 1)) 6).bind fun (v18333 : Nat) => (same (List.length ((x18299.drop (v18333 * 6)).take 6)) 6).bind fun (v18335 : Unit) => (idx ((x18299.drop (v18333 * 6)).take 6) x18301).bind fun (v18336 : Int × Int × Unit) => some (IntKind.wrap .i64 ((v18326.1) + ((v18336.2).1)))

@[irreducible] def impl_partTable_between_1 (x18298 : Int) (x18299 : List (Int × Int × Unit)) (x18300 : Int) (x18301 : Int) : Option (Int) :=
  impl_partTable_between_1_n1 x18298 x18299 x18300 x18301

def impl_greatest_v2_n1 : Option (Unit) :=
  some ()

def impl_greatest_v2_n2 : Option (Unit) :=
  some ()

def impl_greatest_v2_n3 (x18292 : Int) (x18293 : List (Int × Int × Unit)) (x18294 : Int) (x18295 : Int) (x18348 : Int) (x18349 : Int) : Option ((Int × Int) ⊕ Int) :=
  cond (decide (x18349 ≤ x18292)) ((impl_partTable_between_1 x18349 x18293 x18294 x18295).bind fun (v18355 : Int) => some (Sum.inl ((imax x18348 v18355), (IntKind.wrap .i64 (x18349 + 1))))) (some (Sum.inr x18348))

def impl_greatest_v2_n4 (x18292 : Int) (x18293 : List (Int × Int × Unit)) (x18294 : Int) (x18295 : Int) (x18291 : Int) : Option (Int) :=
  nloop (fun (s : Int × Int) => ((impl_greatest_v2_n3 x18292 x18293 x18294 x18295 s.1 s.2).map (Sum.elim (fun (t : Int × Int) => Sum.inl (t.1, t.2)) (fun (t : Int) => Sum.inr t)) : Option ((Int × Int) ⊕ (Int)))) LL (0, x18291)

def impl_greatest_v2_n5 (x18292 : Int) (x18293 : List (Int × Int × Unit)) (x18294 : Int) (x18295 : Int) (x18291 : Int) : Option (Int) :=
  (impl_greatest_v2_n4 x18292 x18293 x18294 x18295 x18291).map (fun (t : Int) => t)

def impl_greatest_v2_n6 (x18291 : Int) (x18292 : Int) (x18293 : List (Int × Int × Unit)) (x18294 : Int) (x18295 : Int) : Option (Int) :=
  (impl_greatest_v2_n2).bind (fun (t : Unit) => impl_greatest_v2_n5 x18292 x18293 x18294 x18295 x18291)

def impl_greatest_v2_n7 (x18348 : Int) : Option (Int) :=
  some x18348

def impl_greatest_v2_n8 (x18291 : Int) (x18292 : Int) (x18293 : List (Int × Int × Unit)) (x18294 : Int) (x18295 : Int) : Option (Int) :=
  (impl_greatest_v2_n6 x18291 x18292 x18293 x18294 x18295).bind (fun (t : Int) => impl_greatest_v2_n7 t)

def impl_greatest_v2_n9 (x18291 : Int) (x18292 : Int) (x18293 : List (Int × Int × Unit)) (x18294 : Int) (x18295 : Int) : Option (Int) :=
  (impl_greatest_v2_n1).bind (fun (t : Unit) => impl_greatest_v2_n8 x18291 x18292 x18293 x18294 x18295)

@[irreducible] def impl_greatest_v2 (x18291 : Int) (x18292 : Int) (x18293 : List (Int × Int × Unit)) (x18294 : Int) (x18295 : Int) : Option (Int) :=
  impl_greatest_v2_n9 x18291 x18292 x18293 x18294 x18295

def impl_partTable_between_n1 (x18287 : List (Int × Int × Unit)) (x18288 : Int) (x18289 : Int) : Option (Int) :=
  (impl_greatest_v2 x18288 (IntKind.wrap .i64 (x18289 - 1)) x18287 x18288 x18289).bind fun (v18360 : Int) => some v18360

@[irreducible] def impl_partTable_between (x18287 : List (Int × Int × Unit)) (x18288 : Int) (x18289 : Int) : Option (Int) :=
  impl_partTable_between_n1 x18287 x18288 x18289

def impl_partTable_joined_1_n1 (x18270 : Int) (x18271 : List (Int × Int × Unit)) (x18272 : Int) (x18273 : List (List Int)) (x18274 : Int) : Option (Int) :=
  (idx x18273 (IntKind.wrap .i64 (x18270 - 1))).bind fun (v18365 : List Int) => (idx v18365 x18272).bind fun (v18366 : Int) => (same (List.length x18271) 36).bind fun (v18367 : Unit) => (inb x18270 6).bind fun (v18368 : Nat) => (same (List.length ((x18271.drop (v18368 * 6)).take 6)) 6).bind fun (v18370 : Unit) => (idx ((x18271.drop (v18368 * 6)).take 6) x18274).bind fun (v18371 : Int × Int × Unit) => (impl_partTable_between x18271 x18272 x18270).bind fun (v18376 : Int) => some (IntKind.wrap .i64 ((IntKind.wrap .i64 (v18376 + v18366)) + (v18371.1)))

@[irreducible] def impl_partTable_joined_1 (x18270 : Int) (x18271 : List (Int × Int × Unit)) (x18272 : Int) (x18273 : List (List Int)) (x18274 : Int) : Option (Int) :=
  impl_partTable_joined_1_n1 x18270 x18271 x18272 x18273 x18274

def impl_greatest_n1 : Option (Unit) :=
  some ()

def impl_greatest_n2 : Option (Unit) :=
  some ()

def impl_greatest_n3 (x18263 : Int) (x18264 : List (Int × Int × Unit)) (x18265 : Int) (x18266 : List (List Int)) (x18267 : Int) (x18385 : Int) (x18386 : Int) : Option ((Int × Int) ⊕ Int) :=
  cond (decide (x18386 ≤ x18263)) ((impl_partTable_joined_1 x18386 x18264 x18265 x18266 x18267).bind fun (v18392 : Int) => some (Sum.inl ((imax x18385 v18392), (IntKind.wrap .i64 (x18386 + 1))))) (some (Sum.inr x18385))

def impl_greatest_n4 (x18263 : Int) (x18264 : List (Int × Int × Unit)) (x18265 : Int) (x18266 : List (List Int)) (x18267 : Int) (x18262 : Int) : Option (Int) :=
  nloop (fun (s : Int × Int) => ((impl_greatest_n3 x18263 x18264 x18265 x18266 x18267 s.1 s.2).map (Sum.elim (fun (t : Int × Int) => Sum.inl (t.1, t.2)) (fun (t : Int) => Sum.inr t)) : Option ((Int × Int) ⊕ (Int)))) LL (0, x18262)

def impl_greatest_n5 (x18263 : Int) (x18264 : List (Int × Int × Unit)) (x18265 : Int) (x18266 : List (List Int)) (x18267 : Int) (x18262 : Int) : Option (Int) :=
  (impl_greatest_n4 x18263 x18264 x18265 x18266 x18267 x18262).map (fun (t : Int) => t)

def impl_greatest_n6 (x18262 : Int) (x18263 : Int) (x18264 : List (Int × Int × Unit)) (x18265 : Int) (x18266 : List (List Int)) (x18267 : Int) : Option (Int) :=
  (impl_greatest_n2).bind (fun (t : Unit) => impl_greatest_n5 x18263 x18264 x18265 x18266 x18267 x18262)

def impl_greatest_n7 (x18385 : Int) : Option (Int) :=
  some x18385

def impl_greatest_n8 (x18262 : Int) (x18263 : Int) (x18264 : List (Int × Int × Unit)) (x18265 : Int) (x18266 : List (List Int)) (x18267 : Int) : Option (Int) :=
  (impl_greatest_n6 x18262 x18263 x18264 x18265 x18266 x18267).bind (fun (t : Int) => impl_greatest_n7 t)

def impl_greatest_n9 (x18262 : Int) (x18263 : Int) (x18264 : List (Int × Int × Unit)) (x18265 : Int) (x18266 : List (List Int)) (x18267 : Int) : Option (Int) :=
  (impl_greatest_n1).bind (fun (t : Unit) => impl_greatest_n8 x18262 x18263 x18264 x18265 x18266 x18267)

@[irreducible] def impl_greatest (x18262 : Int) (x18263 : Int) (x18264 : List (Int × Int × Unit)) (x18265 : Int) (x18266 : List (List Int)) (x18267 : Int) : Option (Int) :=
  impl_greatest_n9 x18262 x18263 x18264 x18265 x18266 x18267

def impl_partTable_joined_2_n1 (x18404 : Int) (x18405 : List (Int × Int × Unit)) (x18406 : Int) (x18407 : List (List Int)) (x18408 : Int) : Option (Int) :=
  (same (List.length x18405) 36).bind fun (v18424 : Unit) => (inb x18406 6).bind fun (v18425 : Nat) => (same (List.length ((x18405.drop (v18425 * 6)).take 6)) 6).bind fun (v18427 : Unit) => (idx ((x18405.drop (v18425 * 6)).take 6) x18404).bind fun (v18428 : Int × Int × Unit) => (idx x18407 (IntKind.wrap .i64 (x18404 - 1))).bind fun (v18434 : List Int) => (idx v18434 x18408).bind fun (v18435 : Int) => (impl_partTable_between x18405 x18404 x18408).bind fun (v18437 : Int) => some (IntKind.wrap .i64 ((IntKind.wrap .i64 (((v18428.2).1) + v18435)) + v18437))

@[irreducible] def impl_partTable_joined_2 (x18404 : Int) (x18405 : List (Int × Int × Unit)) (x18406 : Int) (x18407 : List (List Int)) (x18408 : Int) : Option (Int) :=
  impl_partTable_joined_2_n1 x18404 x18405 x18406 x18407 x18408

def impl_greatest_v3_n1 : Option (Unit) :=
  some ()

def impl_greatest_v3_n2 : Option (Unit) :=
  some ()

def impl_greatest_v3_n3 (x18397 : Int) (x18398 : List (Int × Int × Unit)) (x18399 : Int) (x18400 : List (List Int)) (x18401 : Int) (x18445 : Int) (x18446 : Int) : Option ((Int × Int) ⊕ Int) :=
  cond (decide (x18446 ≤ x18397)) ((impl_partTable_joined_2 x18446 x18398 x18399 x18400 x18401).bind fun (v18452 : Int) => some (Sum.inl ((imax x18445 v18452), (IntKind.wrap .i64 (x18446 + 1))))) (some (Sum.inr x18445))

def impl_greatest_v3_n4 (x18397 : Int) (x18398 : List (Int × Int × Unit)) (x18399 : Int) (x18400 : List (List Int)) (x18401 : Int) (x18396 : Int) : Option (Int) :=
  nloop (fun (s : Int × Int) => ((impl_greatest_v3_n3 x18397 x18398 x18399 x18400 x18401 s.1 s.2).map (Sum.elim (fun (t : Int × Int) => Sum.inl (t.1, t.2)) (fun (t : Int) => Sum.inr t)) : Option ((Int × Int) ⊕ (Int)))) LL (0, x18396)

def impl_greatest_v3_n5 (x18397 : Int) (x18398 : List (Int × Int × Unit)) (x18399 : Int) (x18400 : List (List Int)) (x18401 : Int) (x18396 : Int) : Option (Int) :=
  (impl_greatest_v3_n4 x18397 x18398 x18399 x18400 x18401 x18396).map (fun (t : Int) => t)

def impl_greatest_v3_n6 (x18396 : Int) (x18397 : Int) (x18398 : List (Int × Int × Unit)) (x18399 : Int) (x18400 : List (List Int)) (x18401 : Int) : Option (Int) :=
  (impl_greatest_v3_n2).bind (fun (t : Unit) => impl_greatest_v3_n5 x18397 x18398 x18399 x18400 x18401 x18396)

def impl_greatest_v3_n7 (x18445 : Int) : Option (Int) :=
  some x18445

def impl_greatest_v3_n8 (x18396 : Int) (x18397 : Int) (x18398 : List (Int × Int × Unit)) (x18399 : Int) (x18400 : List (List Int)) (x18401 : Int) : Option (Int) :=
  (impl_greatest_v3_n6 x18396 x18397 x18398 x18399 x18400 x18401).bind (fun (t : Int) => impl_greatest_v3_n7 t)

def impl_greatest_v3_n9 (x18396 : Int) (x18397 : Int) (x18398 : List (Int × Int × Unit)) (x18399 : Int) (x18400 : List (List Int)) (x18401 : Int) : Option (Int) :=
  (impl_greatest_v3_n1).bind (fun (t : Unit) => impl_greatest_v3_n8 x18396 x18397 x18398 x18399 x18400 x18401)

@[irreducible] def impl_greatest_v3 (x18396 : Int) (x18397 : Int) (x18398 : List (Int × Int × Unit)) (x18399 : Int) (x18400 : List (List Int)) (x18401 : Int) : Option (Int) :=
  impl_greatest_v3_n9 x18396 x18397 x18398 x18399 x18400 x18401

def impl_partTable_joined_n1 (x18256 : List (Int × Int × Unit)) (x18257 : List (List Int)) (x18258 : Int) (x18259 : Int) : Option ((Int × Int)) :=
  (impl_greatest (IntKind.wrap .i64 (x18258 + 1)) x18259 x18256 x18258 x18257 x18259).bind fun (v18458 : Int) => (impl_greatest_v3 x18258 (IntKind.wrap .i64 (x18259 - 1)) x18256 x18258 x18257 x18259).bind fun (v18459 : Int) => some (v18458, v18459)

@[irreducible] def impl_partTable_joined (x18256 : List (Int × Int × Unit)) (x18257 : List (List Int)) (x18258 : Int) (x18259 : Int) : Option (Int × Int) :=
  impl_partTable_joined_n1 x18256 x18257 x18258 x18259

def impl_bestParts_n1 : Option (Unit) :=
  some ()

def impl_bestParts_n2 : Option (Unit) :=
  some ()

def impl_bestParts_n3 (x18247 : List (List Int)) (x18548 : Int) (x18549 : List (Int × Int × Unit)) : Option (Unit ⊕ ((List (Int × Int × Unit)))) :=
  cond (decide (x18548 ≤ (((List.length x18247 : Nat) : Int)))) (some (Sum.inl ())) (some (Sum.inr x18549))

def impl_bestParts_n4 (x18548 : Int) : Option (Int) :=
  some (IntKind.wrap .i64 (x18548 - 1))

def impl_bestParts_n5 (x18247 : List (List Int)) (x18548 : Int) (x18591 : Int) (x18592 : List (Int × Int × Unit)) : Option ((Int × (List (Int × Int × Unit))) ⊕ ((List (Int × Int × Unit)))) :=
  cond (decide (x18591 ≥ 1)) ((same (List.length x18592) 36).bind fun (v18613 : Unit) => (inb x18591 6).bind fun (v18614 : Nat) => (impl_partTable_joined x18592 x18247 x18591 x18548).bind fun (v18616 : Int × Int) => (sure (Nat.ble ((v18614 * 6) + 6) (List.length x18592))).bind fun (v18619 : Unit) => (inb x18548 6).bind fun (v18620 : Nat) => ((x18592)[((v18614 * 6) + v18620)]?).bind fun (v18622 : Int × Int × Unit) => some (Sum.inl ((IntKind.wrap .i64 (x18591 - 1)), ((x18592).set ((v18614 * 6) + v18620) ((v18616.1), ((v18616.2), ())))))) (some (Sum.inr x18592))

def impl_bestParts_n6 (x18247 : List (List Int)) (x18548 : Int) (x18552 : Int) (x18549 : List (Int × Int × Unit)) : Option (((List (Int × Int × Unit)))) :=
  nloop (fun (s : Int × (List (Int × Int × Unit))) => ((impl_bestParts_n5 x18247 x18548 s.1 s.2).map (Sum.elim (fun (t : Int × (List (Int × Int × Unit))) => Sum.inl (t.1, t.2)) (fun (t : (List (Int × Int × Unit))) => Sum.inr t)) : Option ((Int × (List (Int × Int × Unit))) ⊕ (((List (Int × Int × Unit))))))) LL (x18552, x18549)

def impl_bestParts_n7 (x18247 : List (List Int)) (x18548 : Int) (x18552 : Int) (x18549 : List (Int × Int × Unit)) : Option (((List (Int × Int × Unit)))) :=
  (impl_bestParts_n6 x18247 x18548 x18552 x18549).map (fun (t : (List (Int × Int × Unit))) => t)

def impl_bestParts_n8 (x18247 : List (List Int)) (x18548 : Int) (x18549 : List (Int × Int × Unit)) : Option (((List (Int × Int × Unit)))) :=
  (impl_bestParts_n4 x18548).bind (fun (t : Int) => impl_bestParts_n7 x18247 x18548 t x18549)

def impl_bestParts_n9 (x18247 : List (List Int)) (x18548 : Int) (x18549 : List (Int × Int × Unit)) : Option (((List (Int × Int × Unit)))) :=
  (impl_bestParts_n8 x18247 x18548 x18549).map (fun (t : (List (Int × Int × Unit))) => t)

def impl_bestParts_n10 (x18548 : Int) : Option (Int) :=
  some (IntKind.wrap .i64 (x18548 + 1))

def impl_bestParts_n11 (x18247 : List (List Int)) (x18548 : Int) (x18549 : List (Int × Int × Unit)) : Option ((Int × (List (Int × Int × Unit)))) :=
  (impl_bestParts_n9 x18247 x18548 x18549).bind (fun (t : (List (Int × Int × Unit))) => (impl_bestParts_n10 x18548).map (fun (u : Int) => (u, t)))

def impl_bestParts_n12 (x18247 : List (List Int)) (x18548 : Int) (x18549 : List (Int × Int × Unit)) : Option ((Int × (List (Int × Int × Unit))) ⊕ ((List (Int × Int × Unit)))) :=
  (impl_bestParts_n3 x18247 x18548 x18549).bind (Sum.elim (fun (t : Unit) => (impl_bestParts_n11 x18247 x18548 x18549).map (fun (t : Int × (List (Int × Int × Unit))) => (Sum.inl (t.1, t.2)))) (fun e => some ((fun (t : (List (Int × Int × Unit))) => (Sum.inr t)) e)))

def impl_bestParts_n13 (x18247 : List (List Int)) : Option (((List (Int × Int × Unit)))) :=
  nloop (fun (s : Int × (List (Int × Int × Unit))) => ((impl_bestParts_n12 x18247 s.1 s.2).map (Sum.elim (fun (t : Int × (List (Int × Int × Unit))) => Sum.inl (t.1, t.2)) (fun (t : (List (Int × Int × Unit))) => Sum.inr t)) : Option ((Int × (List (Int × Int × Unit))) ⊕ (((List (Int × Int × Unit))))))) LL (2, (List.replicate 36 ((0 : Int), ((0 : Int), ()))))

def impl_bestParts_n14 (x18247 : List (List Int)) : Option (((List (Int × Int × Unit)))) :=
  (impl_bestParts_n13 x18247).map (fun (t : (List (Int × Int × Unit))) => t)

def impl_bestParts_n15 (x18247 : List (List Int)) : Option (((List (Int × Int × Unit)))) :=
  (impl_bestParts_n2).bind (fun (t : Unit) => impl_bestParts_n14 x18247)

def impl_bestParts_n16 (x18549 : List (Int × Int × Unit)) : Option (((List (Int × Int × Unit)))) :=
  some x18549

def impl_bestParts_n17 (x18247 : List (List Int)) : Option (((List (Int × Int × Unit)))) :=
  (impl_bestParts_n15 x18247).bind (fun (t : (List (Int × Int × Unit))) => impl_bestParts_n16 t)

def impl_bestParts_n18 (x18247 : List (List Int)) : Option (((List (Int × Int × Unit)))) :=
  (impl_bestParts_n1).bind (fun (t : Unit) => impl_bestParts_n17 x18247)

@[irreducible] def impl_bestParts (x18247 : List (List Int)) : Option ((List (Int × Int × Unit))) :=
  impl_bestParts_n18 x18247

def impl_BestFlat_1_n1 (x18654 : Int) (x18655 : List (Int × Int × Unit)) (x18656 : List (List Int)) (x18657 : Int) : Option (Int) :=
  (same (List.length x18655) 36).bind fun (v18681 : Unit) => (inb 1 6).bind fun (v18682 : Nat) => (same (List.length ((x18655.drop (v18682 * 6)).take 6)) 6).bind fun (v18684 : Unit) => (idx ((x18655.drop (v18682 * 6)).take 6) x18654).bind fun (v18685 : Int × Int × Unit) => (idx x18656 (IntKind.wrap .i64 (x18654 - 1))).bind fun (v18691 : List Int) => (idx v18691 0).bind fun (v18692 : Int) => (same (List.length x18655) 36).bind fun (v18694 : Unit) => (inb x18654 6).bind fun (v18695 : Nat) => (same (List.length ((x18655.drop (v18695 * 6)).take 6)) 6).bind fun (v18697 : Unit) => (idx ((x18655.drop (v18695 * 6)).take 6) x18657).bind fun (v18698 : Int × Int × Unit) => some (IntKind.wrap .i64 ((IntKind.wrap .i64 (((v18685.2).1) + v18692)) + (v18698.1)))

@[irreducible] def impl_BestFlat_1 (x18654 : Int) (x18655 : List (Int × Int × Unit)) (x18656 : List (List Int)) (x18657 : Int) : Option (Int) :=
  impl_BestFlat_1_n1 x18654 x18655 x18656 x18657

def impl_greatest_v4_n1 : Option (Unit) :=
  some ()

def impl_greatest_v4_n2 : Option (Unit) :=
  some ()

def impl_greatest_v4_n3 (x18648 : Int) (x18649 : List (Int × Int × Unit)) (x18650 : List (List Int)) (x18651 : Int) (x18710 : Int) (x18711 : Int) : Option ((Int × Int) ⊕ Int) :=
  cond (decide (x18711 ≤ x18648)) ((impl_BestFlat_1 x18711 x18649 x18650 x18651).bind fun (v18717 : Int) => some (Sum.inl ((imax x18710 v18717), (IntKind.wrap .i64 (x18711 + 1))))) (some (Sum.inr x18710))

def impl_greatest_v4_n4 (x18648 : Int) (x18649 : List (Int × Int × Unit)) (x18650 : List (List Int)) (x18651 : Int) (x18647 : Int) : Option (Int) :=
  nloop (fun (s : Int × Int) => ((impl_greatest_v4_n3 x18648 x18649 x18650 x18651 s.1 s.2).map (Sum.elim (fun (t : Int × Int) => Sum.inl (t.1, t.2)) (fun (t : Int) => Sum.inr t)) : Option ((Int × Int) ⊕ (Int)))) LL (0, x18647)

def impl_greatest_v4_n5 (x18648 : Int) (x18649 : List (Int × Int × Unit)) (x18650 : List (List Int)) (x18651 : Int) (x18647 : Int) : Option (Int) :=
  (impl_greatest_v4_n4 x18648 x18649 x18650 x18651 x18647).map (fun (t : Int) => t)

def impl_greatest_v4_n6 (x18647 : Int) (x18648 : Int) (x18649 : List (Int × Int × Unit)) (x18650 : List (List Int)) (x18651 : Int) : Option (Int) :=
  (impl_greatest_v4_n2).bind (fun (t : Unit) => impl_greatest_v4_n5 x18648 x18649 x18650 x18651 x18647)

def impl_greatest_v4_n7 (x18710 : Int) : Option (Int) :=
  some x18710

def impl_greatest_v4_n8 (x18647 : Int) (x18648 : Int) (x18649 : List (Int × Int × Unit)) (x18650 : List (List Int)) (x18651 : Int) : Option (Int) :=
  (impl_greatest_v4_n6 x18647 x18648 x18649 x18650 x18651).bind (fun (t : Int) => impl_greatest_v4_n7 t)

def impl_greatest_v4_n9 (x18647 : Int) (x18648 : Int) (x18649 : List (Int × Int × Unit)) (x18650 : List (List Int)) (x18651 : Int) : Option (Int) :=
  (impl_greatest_v4_n1).bind (fun (t : Unit) => impl_greatest_v4_n8 x18647 x18648 x18649 x18650 x18651)

@[irreducible] def impl_greatest_v4 (x18647 : Int) (x18648 : Int) (x18649 : List (Int × Int × Unit)) (x18650 : List (List Int)) (x18651 : Int) : Option (Int) :=
  impl_greatest_v4_n9 x18647 x18648 x18649 x18650 x18651

def impl_BestFlat_n1 (x18241 : List (List Int)) : Option (Int) :=
  (impl_ScoresOk x18241).bind fun (v18721 : Bool) => cond (!v18721) (some (-1)) ((impl_bestParts x18241).bind fun (v18724 : List (Int × Int × Unit)) => (impl_greatest_v4 1 (((List.length x18241 : Nat) : Int)) v18724 x18241 (((List.length x18241 : Nat) : Int))).bind fun (v18725 : Int) => some v18725)

@[irreducible] def impl_BestFlat (x18241 : List (List Int)) : Option (Int) :=
  impl_BestFlat_n1 x18241

def spec_l9Tree_n1 (R0 : (List (List Int)) → Int → Int → Int → Option Int) (R1 : (List (List Int)) → Int → Int → Int → Option Int) : Option (Unit) :=
  some ()

def spec_l9Tree_n2 (R0 : (List (List Int)) → Int → Int → Int → Option Int) (R1 : (List (List Int)) → Int → Int → Int → Option Int) : Option (Unit) :=
  some ()

def spec_l9Tree_n3 (R0 : (List (List Int)) → Int → Int → Int → Option Int) (R1 : (List (List Int)) → Int → Int → Int → Option Int) (x18795 : List (List Int)) (x18796 : Int) (x18797 : Int) (x18798 : Int) (x18931 : Int) (x18932 : Int) : Option ((Int × Int) ⊕ Int) :=
  cond (decide (x18932 ≤ x18797)) ((idx x18795 (IntKind.wrap .i64 (x18932 - 1))).bind fun (v18947 : List Int) => (idx v18947 x18798).bind fun (v18948 : Int) => (R1 x18795 x18796 (IntKind.wrap .i64 (x18932 - 1)) x18932).bind fun (v18951 : Int) => (R1 x18795 (IntKind.wrap .i64 (x18932 + 1)) x18797 x18932).bind fun (v18953 : Int) => some (Sum.inl ((imax x18931 (IntKind.wrap .i64 ((IntKind.wrap .i64 (v18948 + v18951)) + v18953))), (IntKind.wrap .i64 (x18932 + 1))))) (some (Sum.inr x18931))

def spec_l9Tree_n4 (R0 : (List (List Int)) → Int → Int → Int → Option Int) (R1 : (List (List Int)) → Int → Int → Int → Option Int) (x18795 : List (List Int)) (x18796 : Int) (x18797 : Int) (x18798 : Int) : Option (Int) :=
  nloop (fun (s : Int × Int) => ((spec_l9Tree_n3 R0 R1 x18795 x18796 x18797 x18798 s.1 s.2).map (Sum.elim (fun (t : Int × Int) => Sum.inl (t.1, t.2)) (fun (t : Int) => Sum.inr t)) : Option ((Int × Int) ⊕ (Int)))) LL ((-1), x18796)

def spec_l9Tree_n5 (R0 : (List (List Int)) → Int → Int → Int → Option Int) (R1 : (List (List Int)) → Int → Int → Int → Option Int) (x18795 : List (List Int)) (x18796 : Int) (x18797 : Int) (x18798 : Int) : Option (Int) :=
  (spec_l9Tree_n4 R0 R1 x18795 x18796 x18797 x18798).map (fun (t : Int) => t)

def spec_l9Tree_n6 (R0 : (List (List Int)) → Int → Int → Int → Option Int) (R1 : (List (List Int)) → Int → Int → Int → Option Int) (x18795 : List (List Int)) (x18796 : Int) (x18797 : Int) (x18798 : Int) : Option (Int) :=
  (spec_l9Tree_n2 R0 R1).bind (fun (t : Unit) => spec_l9Tree_n5 R0 R1 x18795 x18796 x18797 x18798)

def spec_l9Tree_n7 (R0 : (List (List Int)) → Int → Int → Int → Option Int) (R1 : (List (List Int)) → Int → Int → Int → Option Int) (x18931 : Int) : Option (Int) :=
  some x18931

def spec_l9Tree_n8 (R0 : (List (List Int)) → Int → Int → Int → Option Int) (R1 : (List (List Int)) → Int → Int → Int → Option Int) (x18795 : List (List Int)) (x18796 : Int) (x18797 : Int) (x18798 : Int) : Option (Int) :=
  (spec_l9Tree_n6 R0 R1 x18795 x18796 x18797 x18798).bind (fun (t : Int) => spec_l9Tree_n7 R0 R1 t)

def spec_l9Tree_n9 (R0 : (List (List Int)) → Int → Int → Int → Option Int) (R1 : (List (List Int)) → Int → Int → Int → Option Int) (x18795 : List (List Int)) (x18796 : Int) (x18797 : Int) (x18798 : Int) : Option (Int) :=
  (spec_l9Tree_n1 R0 R1).bind (fun (t : Unit) => spec_l9Tree_n8 R0 R1 x18795 x18796 x18797 x18798)

def spec_l9Tree_one (R0 : (List (List Int)) → Int → Int → Int → Option Int) (R1 : (List (List Int)) → Int → Int → Int → Option Int) (x18795 : List (List Int)) (x18796 : Int) (x18797 : Int) (x18798 : Int) : Option (Int) :=
  spec_l9Tree_n9 R0 R1 x18795 x18796 x18797 x18798

def spec_l9Row_n1 (R0 : (List (List Int)) → Int → Int → Int → Option Int) (R1 : (List (List Int)) → Int → Int → Int → Option Int) (x18871 : Int) (x18872 : Int) : Option (Unit ⊕ Int) :=
  cond (decide (x18871 > x18872)) (some (Sum.inr 0)) (some (Sum.inl ()))

def spec_l9Row_n2 (R0 : (List (List Int)) → Int → Int → Int → Option Int) (R1 : (List (List Int)) → Int → Int → Int → Option Int) : Option (Unit) :=
  some ()

def spec_l9Row_n3 (R0 : (List (List Int)) → Int → Int → Int → Option Int) (R1 : (List (List Int)) → Int → Int → Int → Option Int) (x18870 : List (List Int)) (x18871 : Int) (x18872 : Int) (x18873 : Int) (x18897 : Int) (x18898 : Int) : Option ((Int × Int) ⊕ Int) :=
  cond (decide (x18898 ≤ x18872)) ((R0 x18870 x18871 x18898 x18873).bind fun (v18907 : Int) => (R1 x18870 (IntKind.wrap .i64 (x18898 + 1)) x18872 x18873).bind fun (v18909 : Int) => some (Sum.inl ((imax x18897 (IntKind.wrap .i64 (v18907 + v18909))), (IntKind.wrap .i64 (x18898 + 1))))) (some (Sum.inr x18897))

def spec_l9Row_n4 (R0 : (List (List Int)) → Int → Int → Int → Option Int) (R1 : (List (List Int)) → Int → Int → Int → Option Int) (x18870 : List (List Int)) (x18871 : Int) (x18872 : Int) (x18873 : Int) : Option (Int) :=
  nloop (fun (s : Int × Int) => ((spec_l9Row_n3 R0 R1 x18870 x18871 x18872 x18873 s.1 s.2).map (Sum.elim (fun (t : Int × Int) => Sum.inl (t.1, t.2)) (fun (t : Int) => Sum.inr t)) : Option ((Int × Int) ⊕ (Int)))) LL ((-1), x18871)

def spec_l9Row_n5 (R0 : (List (List Int)) → Int → Int → Int → Option Int) (R1 : (List (List Int)) → Int → Int → Int → Option Int) (x18870 : List (List Int)) (x18871 : Int) (x18872 : Int) (x18873 : Int) : Option (Int) :=
  (spec_l9Row_n4 R0 R1 x18870 x18871 x18872 x18873).map (fun (t : Int) => t)

def spec_l9Row_n6 (R0 : (List (List Int)) → Int → Int → Int → Option Int) (R1 : (List (List Int)) → Int → Int → Int → Option Int) (x18870 : List (List Int)) (x18871 : Int) (x18872 : Int) (x18873 : Int) : Option (Int) :=
  (spec_l9Row_n2 R0 R1).bind (fun (t : Unit) => spec_l9Row_n5 R0 R1 x18870 x18871 x18872 x18873)

def spec_l9Row_n7 (R0 : (List (List Int)) → Int → Int → Int → Option Int) (R1 : (List (List Int)) → Int → Int → Int → Option Int) (x18897 : Int) : Option (Int) :=
  some x18897

def spec_l9Row_n8 (R0 : (List (List Int)) → Int → Int → Int → Option Int) (R1 : (List (List Int)) → Int → Int → Int → Option Int) (x18870 : List (List Int)) (x18871 : Int) (x18872 : Int) (x18873 : Int) : Option (Int) :=
  (spec_l9Row_n6 R0 R1 x18870 x18871 x18872 x18873).bind (fun (t : Int) => spec_l9Row_n7 R0 R1 t)

def spec_l9Row_n9 (R0 : (List (List Int)) → Int → Int → Int → Option Int) (R1 : (List (List Int)) → Int → Int → Int → Option Int) (x18870 : List (List Int)) (x18871 : Int) (x18872 : Int) (x18873 : Int) : Option (Int) :=
  (spec_l9Row_n1 R0 R1 x18871 x18872).bind (Sum.elim (fun (t : Unit) => spec_l9Row_n8 R0 R1 x18870 x18871 x18872 x18873) (fun e => some ((fun (t : Int) => t) e)))

def spec_l9Row_one (R0 : (List (List Int)) → Int → Int → Int → Option Int) (R1 : (List (List Int)) → Int → Int → Int → Option Int) (x18870 : List (List Int)) (x18871 : Int) (x18872 : Int) (x18873 : Int) : Option (Int) :=
  spec_l9Row_n9 R0 R1 x18870 x18871 x18872 x18873

def spec_l9Tree_knot : Nat → ((List (List Int)) → Int → Int → Int → Option Int) × ((List (List Int)) → Int → Int → Int → Option Int)
  | 0 => ((fun _ _ _ _ => none), (fun _ _ _ _ => none))
  | n + 1 => ((fun y0 y1 y2 y3 => spec_l9Tree_one (spec_l9Tree_knot n).1 (spec_l9Tree_knot n).2 y0 y1 y2 y3), (fun y0 y1 y2 y3 => spec_l9Row_one (spec_l9Tree_knot n).1 (spec_l9Tree_knot n).2 y0 y1 y2 y3))

def spec_l9Tree_fuel (n : Nat) : (List (List Int)) → Int → Int → Int → Option Int := (spec_l9Tree_knot n).1

@[irreducible] def spec_l9Tree (x18795 : List (List Int)) (x18796 : Int) (x18797 : Int) (x18798 : Int) : Option (Int) := spec_l9Tree_fuel RR x18795 x18796 x18797 x18798

def spec_l9Row_fuel (n : Nat) : (List (List Int)) → Int → Int → Int → Option Int := (spec_l9Tree_knot n).2

@[irreducible] def spec_l9Row (x18870 : List (List Int)) (x18871 : Int) (x18872 : Int) (x18873 : Int) : Option (Int) := spec_l9Row_fuel RR x18870 x18871 x18872 x18873

def spec_BestFlat_n1 (x18789 : List (List Int)) : Option (Int) :=
  (spec_ScoresOk x18789).bind fun (v18958 : Bool) => cond (!v18958) (some (-1)) ((spec_l9Tree x18789 1 (((List.length x18789 : Nat) : Int)) 0).bind fun (v18961 : Int) => some v18961)

@[irreducible] def spec_BestFlat (x18789 : List (List Int)) : Option (Int) :=
  spec_BestFlat_n1 x18789

def laws_szIntS_n1 (x20454 : List Int) (x20455 : Int) : Option (Int) :=
  cond (decide ((IntKind.wrap .i64 (x20455 - (((List.length x20454 : Nat) : Int)))) < 0)) (some (-1)) (some (IntKind.wrap .i64 (x20455 - (((List.length x20454 : Nat) : Int)))))

@[irreducible] def laws_szIntS (x20454 : List Int) (x20455 : Int) : Option (Int) :=
  laws_szIntS_n1 x20454 x20455

def laws_szIntSS_n1 (x20442 : List (List Int)) (x20443 : Int) : Option (Int ⊕ Int) :=
  cond (decide ((IntKind.wrap .i64 (x20443 - (((List.length x20442 : Nat) : Int)))) < 0)) (some (Sum.inr (-1))) (some (Sum.inl (IntKind.wrap .i64 (x20443 - (((List.length x20442 : Nat) : Int))))))

def laws_szIntSS_n2 : Option (Unit) :=
  some ()

def laws_szIntSS_n3 (x20442 : List (List Int)) (x20476 : Int) (x20477 : Int) : Option ((Int × Int) ⊕ Int ⊕ Int) :=
  cond (decide (x20477 < (((List.length x20442 : Nat) : Int)))) ((idx x20442 x20477).bind fun (v20487 : List Int) => (laws_szIntS v20487 x20476).bind fun (v20488 : Int) => cond (decide (v20488 < 0)) (some (Sum.inr (Sum.inl (-1)))) (some (Sum.inl (v20488, (IntKind.wrap .i64 (x20477 + 1)))))) (some (Sum.inr (Sum.inr x20476)))

def laws_szIntSS_n4 (x20442 : List (List Int)) (x20447 : Int) : Option (Int ⊕ Int) :=
  nloop (fun (s : Int × Int) => ((laws_szIntSS_n3 x20442 s.1 s.2).map (Sum.elim (fun (t : Int × Int) => Sum.inl (t.1, t.2)) (Sum.elim (fun (t : Int) => Sum.inr (Sum.inl t)) (fun (t : Int) => Sum.inr (Sum.inr t)))) : Option ((Int × Int) ⊕ (Int ⊕ Int)))) LL (x20447, 0)

def laws_szIntSS_n5 (x20442 : List (List Int)) (x20447 : Int) : Option (Int ⊕ Int) :=
  (laws_szIntSS_n4 x20442 x20447).map (Sum.elim (fun (t : Int) => (Sum.inr t)) (fun (t : Int) => (Sum.inl t)))

def laws_szIntSS_n6 (x20442 : List (List Int)) (x20447 : Int) : Option (Int ⊕ Int) :=
  (laws_szIntSS_n2).bind (fun (t : Unit) => laws_szIntSS_n5 x20442 x20447)

def laws_szIntSS_n7 (x20476 : Int) : Option (Int) :=
  some x20476

def laws_szIntSS_n8 (x20442 : List (List Int)) (x20447 : Int) : Option (Int) :=
  (laws_szIntSS_n6 x20442 x20447).bind (Sum.elim (fun (t : Int) => laws_szIntSS_n7 t) (fun e => some ((fun (t : Int) => t) e)))

def laws_szIntSS_n9 (x20442 : List (List Int)) (x20443 : Int) : Option (Int) :=
  (laws_szIntSS_n1 x20442 x20443).bind (Sum.elim (fun (t : Int) => laws_szIntSS_n8 x20442 t) (fun e => some ((fun (t : Int) => t) e)))

@[irreducible] def laws_szIntSS (x20442 : List (List Int)) (x20443 : Int) : Option (Int) :=
  laws_szIntSS_n9 x20442 x20443

def laws_toIntS_n1 (x20506 : List Int) : Option (((List Int))) :=
  (mk (((List.length x20506 : Nat) : Int)) (((List.length x20506 : Nat) : Int))).bind fun (v20508 : Nat) => some (List.replicate v20508 (0 : Int))

def laws_toIntS_n2 : Option (Unit) :=
  some ()

def laws_toIntS_n3 (x20506 : List Int) (x20523 : Int) (x20524 : List Int) : Option ((Int × (List Int)) ⊕ ((List Int))) :=
  cond (decide (x20523 < (((List.length x20506 : Nat) : Int)))) ((idx x20506 x20523).bind fun (v20534 : Int) => (inb x20523 (List.length x20524)).bind fun (v20535 : Nat) => some (Sum.inl ((IntKind.wrap .i64 (x20523 + 1)), (x20524.set v20535 v20534)))) (some (Sum.inr x20524))

def laws_toIntS_n4 (x20506 : List Int) (x20509 : List Int) : Option (((List Int))) :=
  nloop (fun (s : Int × (List Int)) => ((laws_toIntS_n3 x20506 s.1 s.2).map (Sum.elim (fun (t : Int × (List Int)) => Sum.inl (t.1, t.2)) (fun (t : (List Int)) => Sum.inr t)) : Option ((Int × (List Int)) ⊕ (((List Int)))))) LL (0, x20509)

def laws_toIntS_n5 (x20506 : List Int) (x20509 : List Int) : Option (((List Int))) :=
  (laws_toIntS_n4 x20506 x20509).map (fun (t : (List Int)) => t)

def laws_toIntS_n6 (x20506 : List Int) (x20509 : List Int) : Option (((List Int))) :=
  (laws_toIntS_n2).bind (fun (t : Unit) => laws_toIntS_n5 x20506 x20509)

def laws_toIntS_n7 (x20524 : List Int) : Option (((List Int))) :=
  some x20524

def laws_toIntS_n8 (x20506 : List Int) (x20509 : List Int) : Option (((List Int))) :=
  (laws_toIntS_n6 x20506 x20509).bind (fun (t : (List Int)) => laws_toIntS_n7 t)

def laws_toIntS_n9 (x20506 : List Int) : Option (((List Int))) :=
  (laws_toIntS_n1 x20506).bind (fun (t : (List Int)) => laws_toIntS_n8 x20506 t)

@[irreducible] def laws_toIntS (x20506 : List Int) : Option ((List Int)) :=
  laws_toIntS_n9 x20506

def laws_toIntSS_n1 (x20497 : List (List Int)) : Option (((List (List Int)))) :=
  (mk (((List.length x20497 : Nat) : Int)) (((List.length x20497 : Nat) : Int))).bind fun (v20499 : Nat) => some (List.replicate v20499 [])

def laws_toIntSS_n2 : Option (Unit) :=
  some ()

def laws_toIntSS_n3 (x20497 : List (List Int)) (x20550 : Int) (x20551 : List (List Int)) : Option ((Int × (List (List Int))) ⊕ ((List (List Int)))) :=
  cond (decide (x20550 < (((List.length x20497 : Nat) : Int)))) ((idx x20497 x20550).bind fun (v20563 : List Int) => (laws_toIntS v20563).bind fun (v20564 : List Int) => (inb x20550 (List.length x20551)).bind fun (v20565 : Nat) => (within v20565 (List.length x20551)).bind fun (v20566 : Unit) => some (Sum.inl ((IntKind.wrap .i64 (x20550 + 1)), ((x20551).set v20565 v20564)))) (some (Sum.inr x20551))

def laws_toIntSS_n4 (x20497 : List (List Int)) (x20500 : List (List Int)) : Option (((List (List Int)))) :=
  nloop (fun (s : Int × (List (List Int))) => ((laws_toIntSS_n3 x20497 s.1 s.2).map (Sum.elim (fun (t : Int × (List (List Int))) => Sum.inl (t.1, t.2)) (fun (t : (List (List Int))) => Sum.inr t)) : Option ((Int × (List (List Int))) ⊕ (((List (List Int))))))) LL (0, x20500)

def laws_toIntSS_n5 (x20497 : List (List Int)) (x20500 : List (List Int)) : Option (((List (List Int)))) :=
  (laws_toIntSS_n4 x20497 x20500).map (fun (t : (List (List Int))) => t)

def laws_toIntSS_n6 (x20497 : List (List Int)) (x20500 : List (List Int)) : Option (((List (List Int)))) :=
  (laws_toIntSS_n2).bind (fun (t : Unit) => laws_toIntSS_n5 x20497 x20500)

def laws_toIntSS_n7 (x20551 : List (List Int)) : Option (((List (List Int)))) :=
  some x20551

def laws_toIntSS_n8 (x20497 : List (List Int)) (x20500 : List (List Int)) : Option (((List (List Int)))) :=
  (laws_toIntSS_n6 x20497 x20500).bind (fun (t : (List (List Int))) => laws_toIntSS_n7 t)

def laws_toIntSS_n9 (x20497 : List (List Int)) : Option (((List (List Int)))) :=
  (laws_toIntSS_n1 x20497).bind (fun (t : (List (List Int))) => laws_toIntSS_n8 x20497 t)

@[irreducible] def laws_toIntSS (x20497 : List (List Int)) : Option ((List (List Int))) :=
  laws_toIntSS_n9 x20497

def laws_eqIntS_n1 (x20608 : List Int) (x20609 : List Int) : Option (Unit ⊕ Bool) :=
  cond ((((List.length x20608 : Nat) : Int)) != (((List.length x20609 : Nat) : Int))) (some (Sum.inr false)) (some (Sum.inl ()))

def laws_eqIntS_n2 : Option (Unit) :=
  some ()

def laws_eqIntS_n3 (x20608 : List Int) (x20609 : List Int) (x20626 : Int) : Option (Int ⊕ Bool ⊕ Unit) :=
  cond (decide (x20626 < (((List.length x20608 : Nat) : Int)))) ((idx x20608 x20626).bind fun (v20636 : Int) => (idx x20609 x20626).bind fun (v20637 : Int) => cond (v20636 != v20637) (some (Sum.inr (Sum.inl false))) (some (Sum.inl (IntKind.wrap .i64 (x20626 + 1))))) (some (Sum.inr (Sum.inr ())))

def laws_eqIntS_n4 (x20608 : List Int) (x20609 : List Int) : Option (Bool ⊕ Unit) :=
  nloop (fun (s : Int) => ((laws_eqIntS_n3 x20608 x20609 s).map (Sum.elim (fun (t : Int) => Sum.inl t) (Sum.elim (fun (t : Bool) => Sum.inr (Sum.inl t)) (fun (t : Unit) => Sum.inr (Sum.inr t)))) : Option ((Int) ⊕ (Bool ⊕ Unit)))) LL 0

def laws_eqIntS_n5 (x20608 : List Int) (x20609 : List Int) : Option (Unit ⊕ Bool) :=
  (laws_eqIntS_n4 x20608 x20609).map (Sum.elim (fun (t : Bool) => (Sum.inr t)) (fun (t : Unit) => (Sum.inl ())))

def laws_eqIntS_n6 (x20608 : List Int) (x20609 : List Int) : Option (Unit ⊕ Bool) :=
  (laws_eqIntS_n2).bind (fun (t : Unit) => laws_eqIntS_n5 x20608 x20609)

def laws_eqIntS_n7 : Option (Bool) :=
  some true

def laws_eqIntS_n8 (x20608 : List Int) (x20609 : List Int) : Option (Bool) :=
  (laws_eqIntS_n6 x20608 x20609).bind (Sum.elim (fun (t : Unit) => laws_eqIntS_n7) (fun e => some ((fun (t : Bool) => t) e)))

def laws_eqIntS_n9 (x20608 : List Int) (x20609 : List Int) : Option (Bool) :=
  (laws_eqIntS_n1 x20608 x20609).bind (Sum.elim (fun (t : Unit) => laws_eqIntS_n8 x20608 x20609) (fun e => some ((fun (t : Bool) => t) e)))

@[irreducible] def laws_eqIntS (x20608 : List Int) (x20609 : List Int) : Option (Bool) :=
  laws_eqIntS_n9 x20608 x20609

def laws_eqIntSS_n1 (x20597 : List (List Int)) (x20598 : List (List Int)) : Option (Unit ⊕ Bool) :=
  cond ((((List.length x20597 : Nat) : Int)) != (((List.length x20598 : Nat) : Int))) (some (Sum.inr false)) (some (Sum.inl ()))

def laws_eqIntSS_n2 : Option (Unit) :=
  some ()

def laws_eqIntSS_n3 (x20597 : List (List Int)) (x20598 : List (List Int)) (x20650 : Int) : Option (Int ⊕ Bool ⊕ Unit) :=
  cond (decide (x20650 < (((List.length x20597 : Nat) : Int)))) ((idx x20597 x20650).bind fun (v20661 : List Int) => (idx x20598 x20650).bind fun (v20662 : List Int) => (laws_eqIntS v20661 v20662).bind fun (v20663 : Bool) => cond (!v20663) (some (Sum.inr (Sum.inl false))) (some (Sum.inl (IntKind.wrap .i64 (x20650 + 1))))) (some (Sum.inr (Sum.inr ())))

def laws_eqIntSS_n4 (x20597 : List (List Int)) (x20598 : List (List Int)) : Option (Bool ⊕ Unit) :=
  nloop (fun (s : Int) => ((laws_eqIntSS_n3 x20597 x20598 s).map (Sum.elim (fun (t : Int) => Sum.inl t) (Sum.elim (fun (t : Bool) => Sum.inr (Sum.inl t)) (fun (t : Unit) => Sum.inr (Sum.inr t)))) : Option ((Int) ⊕ (Bool ⊕ Unit)))) LL 0

def laws_eqIntSS_n5 (x20597 : List (List Int)) (x20598 : List (List Int)) : Option (Unit ⊕ Bool) :=
  (laws_eqIntSS_n4 x20597 x20598).map (Sum.elim (fun (t : Bool) => (Sum.inr t)) (fun (t : Unit) => (Sum.inl ())))

def laws_eqIntSS_n6 (x20597 : List (List Int)) (x20598 : List (List Int)) : Option (Unit ⊕ Bool) :=
  (laws_eqIntSS_n2).bind (fun (t : Unit) => laws_eqIntSS_n5 x20597 x20598)

def laws_eqIntSS_n7 : Option (Bool) :=
  some true

def laws_eqIntSS_n8 (x20597 : List (List Int)) (x20598 : List (List Int)) : Option (Bool) :=
  (laws_eqIntSS_n6 x20597 x20598).bind (Sum.elim (fun (t : Unit) => laws_eqIntSS_n7) (fun e => some ((fun (t : Bool) => t) e)))

def laws_eqIntSS_n9 (x20597 : List (List Int)) (x20598 : List (List Int)) : Option (Bool) :=
  (laws_eqIntSS_n1 x20597 x20598).bind (Sum.elim (fun (t : Unit) => laws_eqIntSS_n8 x20597 x20598) (fun e => some ((fun (t : Bool) => t) e)))

@[irreducible] def laws_eqIntSS (x20597 : List (List Int)) (x20598 : List (List Int)) : Option (Bool) :=
  laws_eqIntSS_n9 x20597 x20598

def laws_FnExactBestFlat_n1 (x20875 : List (List Int)) : Option (Bool) :=
  (laws_szIntSS x20875 1048576).bind fun (v20921 : Int) => cond (decide (v20921 < 0)) (some true) ((laws_toIntSS x20875).bind fun (v20923 : List (List Int)) => (spec_BestFlat v20923).bind fun (v20924 : Int) => (laws_toIntSS x20875).bind fun (v20925 : List (List Int)) => (impl_BestFlat v20925).bind fun (v20926 : Int) => cond (v20926 != v20924) (some false) ((laws_toIntSS x20875).bind fun (v20928 : List (List Int)) => (laws_eqIntSS v20925 v20928).bind fun (v20929 : Bool) => cond (!v20929) (some false) (some true)))

@[irreducible] def laws_FnExactBestFlat (x20875 : List (List Int)) : Option (Bool) :=
  laws_FnExactBestFlat_n1 x20875

end Go.Rv
