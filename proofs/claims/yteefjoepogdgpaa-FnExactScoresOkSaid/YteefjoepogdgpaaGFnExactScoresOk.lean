/-
  Plain functions, written by program for functions of the checked code. Conditions: none.
-/
import Derived.Test.YteefjoepogdgpaaFB
set_option linter.unusedVariables false
namespace Go.Rv
def slices_Min_int_int_n1 (x17091 : List Int) : Option (Int) :=
  cond (decide ((((List.length x17091 : Nat) : Int)) < 1)) (none) ((idx x17091 0).bind fun (v17096 : Int) => some v17096)

def slices_Min_int_int_n2 : Option (Unit) :=
  some ()

def slices_Min_int_int_n3 (x17091 : List Int) (x17108 : Int) (x17109 : Int) : Option ((Int × Int) ⊕ Int) :=
  cond (decide (x17109 < (((List.length x17091 : Nat) : Int)))) ((idx x17091 x17109).bind fun (v17118 : Int) => some (Sum.inl ((imin x17108 v17118), (IntKind.wrap .i64 (x17109 + 1))))) (some (Sum.inr x17108))

def slices_Min_int_int_n4 (x17091 : List Int) (x17096 : Int) : Option (Int) :=
  nloop (fun (s : Int × Int) => ((slices_Min_int_int_n3 x17091 s.1 s.2).map (Sum.elim (fun (t : Int × Int) => Sum.inl (t.1, t.2)) (fun (t : Int) => Sum.inr t)) : Option ((Int × Int) ⊕ (Int)))) LL (x17096, 1)

def slices_Min_int_int_n5 (x17091 : List Int) (x17096 : Int) : Option (Int) :=
  (slices_Min_int_int_n4 x17091 x17096).map (fun (t : Int) => t)

def slices_Min_int_int_n6 (x17091 : List Int) (x17096 : Int) : Option (Int) :=
  (slices_Min_int_int_n2).bind (fun (t : Unit) => slices_Min_int_int_n5 x17091 x17096)

def slices_Min_int_int_n7 (x17108 : Int) : Option (Int) :=
  some x17108

def slices_Min_int_int_n8 (x17091 : List Int) (x17096 : Int) : Option (Int) :=
  (slices_Min_int_int_n6 x17091 x17096).bind (fun (t : Int) => slices_Min_int_int_n7 t)

def slices_Min_int_int_n9 (x17091 : List Int) : Option (Int) :=
  (slices_Min_int_int_n1 x17091).bind (fun (t : Int) => slices_Min_int_int_n8 x17091 t)

@[irreducible] def slices_Min_int_int (x17091 : List Int) : Option (Int) :=
  slices_Min_int_int_n9 x17091

def slices_Max_int_int_n1 (x17123 : List Int) : Option (Int) :=
  cond (decide ((((List.length x17123 : Nat) : Int)) < 1)) (none) ((idx x17123 0).bind fun (v17128 : Int) => some v17128)

def slices_Max_int_int_n2 : Option (Unit) :=
  some ()

def slices_Max_int_int_n3 (x17123 : List Int) (x17140 : Int) (x17141 : Int) : Option ((Int × Int) ⊕ Int) :=
  cond (decide (x17141 < (((List.length x17123 : Nat) : Int)))) ((idx x17123 x17141).bind fun (v17150 : Int) => some (Sum.inl ((imax x17140 v17150), (IntKind.wrap .i64 (x17141 + 1))))) (some (Sum.inr x17140))

def slices_Max_int_int_n4 (x17123 : List Int) (x17128 : Int) : Option (Int) :=
  nloop (fun (s : Int × Int) => ((slices_Max_int_int_n3 x17123 s.1 s.2).map (Sum.elim (fun (t : Int × Int) => Sum.inl (t.1, t.2)) (fun (t : Int) => Sum.inr t)) : Option ((Int × Int) ⊕ (Int)))) LL (x17128, 1)

def slices_Max_int_int_n5 (x17123 : List Int) (x17128 : Int) : Option (Int) :=
  (slices_Max_int_int_n4 x17123 x17128).map (fun (t : Int) => t)

def slices_Max_int_int_n6 (x17123 : List Int) (x17128 : Int) : Option (Int) :=
  (slices_Max_int_int_n2).bind (fun (t : Unit) => slices_Max_int_int_n5 x17123 x17128)

def slices_Max_int_int_n7 (x17140 : Int) : Option (Int) :=
  some x17140

def slices_Max_int_int_n8 (x17123 : List Int) (x17128 : Int) : Option (Int) :=
  (slices_Max_int_int_n6 x17123 x17128).bind (fun (t : Int) => slices_Max_int_int_n7 t)

def slices_Max_int_int_n9 (x17123 : List Int) : Option (Int) :=
  (slices_Max_int_int_n1 x17123).bind (fun (t : Int) => slices_Max_int_int_n8 x17123 t)

@[irreducible] def slices_Max_int_int (x17123 : List Int) : Option (Int) :=
  slices_Max_int_int_n9 x17123

def impl_scoreRowOk_n1 (x17086 : List Int) (x17087 : Int) : Option (Bool) :=
  cond ((((List.length x17086 : Nat) : Int)) == (IntKind.wrap .i64 (x17087 + 1))) ((slices_Min_int_int x17086).bind fun (v17158 : Int) => cond (decide (v17158 ≥ 0)) ((slices_Max_int_int x17086).bind fun (v17160 : Int) => some (decide (v17160 ≤ 20))) (some false)) (some false)

@[irreducible] def impl_scoreRowOk (x17086 : List Int) (x17087 : Int) : Option (Bool) :=
  impl_scoreRowOk_n1 x17086 x17087

def impl_ScoresOk_n1 (x17075 : List (List Int)) : Option (Unit ⊕ Bool) :=
  cond (decide ((((List.length x17075 : Nat) : Int)) < 1)) (some (Sum.inr false)) (cond (decide ((((List.length x17075 : Nat) : Int)) > 5)) (some (Sum.inr false)) (some (Sum.inl ())))

def impl_ScoresOk_n2 (x17075 : List (List Int)) : Option (Int) :=
  some (((List.length x17075 : Nat) : Int))

def impl_ScoresOk_n3 (x17075 : List (List Int)) (x17080 : Int) (x17171 : Int) : Option (Int ⊕ Bool ⊕ Unit) :=
  cond (decide (x17171 < x17080)) ((idx x17075 x17171).bind fun (v17180 : List Int) => (impl_scoreRowOk v17180 (((List.length x17075 : Nat) : Int))).bind fun (v17182 : Bool) => cond (!v17182) (some (Sum.inr (Sum.inl false))) (some (Sum.inl (IntKind.wrap .i64 (x17171 + 1))))) (some (Sum.inr (Sum.inr ())))

def impl_ScoresOk_n4 (x17075 : List (List Int)) (x17080 : Int) : Option (Bool ⊕ Unit) :=
  nloop (fun (s : Int) => ((impl_ScoresOk_n3 x17075 x17080 s).map (Sum.elim (fun (t : Int) => Sum.inl t) (Sum.elim (fun (t : Bool) => Sum.inr (Sum.inl t)) (fun (t : Unit) => Sum.inr (Sum.inr t)))) : Option ((Int) ⊕ (Bool ⊕ Unit)))) LL 0

def impl_ScoresOk_n5 (x17075 : List (List Int)) (x17080 : Int) : Option (Unit ⊕ Bool) :=
  (impl_ScoresOk_n4 x17075 x17080).map (Sum.elim (fun (t : Bool) => (Sum.inr t)) (fun (t : Unit) => (Sum.inl ())))

def impl_ScoresOk_n6 (x17075 : List (List Int)) : Option (Unit ⊕ Bool) :=
  (impl_ScoresOk_n2 x17075).bind (fun (t : Int) => impl_ScoresOk_n5 x17075 t)

def impl_ScoresOk_n7 : Option (Bool) :=
  some true

def impl_ScoresOk_n8 (x17075 : List (List Int)) : Option (Bool) :=
  (impl_ScoresOk_n6 x17075).bind (Sum.elim (fun (t : Unit) => impl_ScoresOk_n7) (fun e => some ((fun (t : Bool) => t) e)))

def impl_ScoresOk_n9 (x17075 : List (List Int)) : Option (Bool) :=
  (impl_ScoresOk_n1 x17075).bind (Sum.elim (fun (t : Unit) => impl_ScoresOk_n8 x17075) (fun e => some ((fun (t : Bool) => t) e)))

@[irreducible] def impl_ScoresOk (x17075 : List (List Int)) : Option (Bool) :=
  impl_ScoresOk_n9 x17075

def spec_l1In_n1 (x17212 : Int) (x17213 : Int) (x17214 : Int) : Option (Bool) :=
  cond (decide (x17212 ≥ x17213)) (some (decide (x17212 ≤ x17214))) (some false)

@[irreducible] def spec_l1In (x17212 : Int) (x17213 : Int) (x17214 : Int) : Option (Bool) :=
  spec_l1In_n1 x17212 x17213 x17214

def spec_ScoresOk_n1 : Option (Unit) :=
  some ()

def spec_ScoresOk_n2 : Option (Unit) :=
  some ()

def spec_ScoresOk_n3 (x17191 : List (List Int)) (x17250 : Int) : Option (Unit ⊕ Unit) :=
  cond (decide (x17250 < (((List.length x17191 : Nat) : Int)))) (some (Sum.inl ())) (some (Sum.inr ()))

def spec_ScoresOk_n4 (x17191 : List (List Int)) (x17250 : Int) : Option (Unit ⊕ Bool) :=
  (idx x17191 x17250).bind fun (v17258 : List Int) => cond ((((List.length v17258 : Nat) : Int)) != (IntKind.wrap .i64 ((((List.length x17191 : Nat) : Int)) + 1))) (some (Sum.inr false)) (some (Sum.inl ()))

def spec_ScoresOk_n5 (x17191 : List (List Int)) (x17250 : Int) (x17281 : Int) : Option (Int ⊕ Bool ⊕ Unit) :=
  (idx x17191 x17250).bind fun (v17292 : List Int) => cond (decide (x17281 < (((List.length v17292 : Nat) : Int)))) ((idx x17191 x17250).bind fun (v17295 : List Int) => (idx v17295 x17281).bind fun (v17296 : Int) => (spec_l1In v17296 0 20).bind fun (v17297 : Bool) => cond (!v17297) (some (Sum.inr (Sum.inl false))) (some (Sum.inl (IntKind.wrap .i64 (x17281 + 1))))) (some (Sum.inr (Sum.inr ())))

def spec_ScoresOk_n6 (x17191 : List (List Int)) (x17250 : Int) : Option (Bool ⊕ Unit) :=
  nloop (fun (s : Int) => ((spec_ScoresOk_n5 x17191 x17250 s).map (Sum.elim (fun (t : Int) => Sum.inl t) (Sum.elim (fun (t : Bool) => Sum.inr (Sum.inl t)) (fun (t : Unit) => Sum.inr (Sum.inr t)))) : Option ((Int) ⊕ (Bool ⊕ Unit)))) LL 0

def spec_ScoresOk_n7 (x17191 : List (List Int)) (x17250 : Int) : Option (Unit ⊕ Bool) :=
  (spec_ScoresOk_n6 x17191 x17250).map (Sum.elim (fun (t : Bool) => (Sum.inr t)) (fun (t : Unit) => (Sum.inl ())))

def spec_ScoresOk_n8 (x17191 : List (List Int)) (x17250 : Int) : Option (Unit ⊕ Bool) :=
  (spec_ScoresOk_n4 x17191 x17250).bind (Sum.elim (fun (t : Unit) => spec_ScoresOk_n7 x17191 x17250) (fun e => some ((fun (t : Bool) => (Sum.inr t)) e)))

def spec_ScoresOk_n9 (x17191 : List (List Int)) (x17250 : Int) : Option (Unit ⊕ Bool) :=
  (spec_ScoresOk_n8 x17191 x17250).map (Sum.elim (fun (t : Unit) => (Sum.inl ())) (fun (t : Bool) => (Sum.inr t)))

def spec_ScoresOk_n10 (x17250 : Int) : Option (Int) :=
  some (IntKind.wrap .i64 (x17250 + 1))

def spec_ScoresOk_n11 (x17191 : List (List Int)) (x17250 : Int) : Option (Int ⊕ Bool) :=
  (spec_ScoresOk_n9 x17191 x17250).bind (Sum.elim (fun (t : Unit) => (spec_ScoresOk_n10 x17250).map (fun (t : Int) => (Sum.inl t))) (fun e => some ((fun (t : Bool) => (Sum.inr t)) e)))

def spec_ScoresOk_n12 (x17191 : List (List Int)) (x17250 : Int) : Option (Int ⊕ Bool ⊕ Unit) :=
  (spec_ScoresOk_n3 x17191 x17250).bind (Sum.elim (fun (t : Unit) => (spec_ScoresOk_n11 x17191 x17250).map (Sum.elim (fun (t : Int) => (Sum.inl t)) (fun (t : Bool) => (Sum.inr (Sum.inl t))))) (fun e => some ((fun (t : Unit) => (Sum.inr (Sum.inr t))) e)))

def spec_ScoresOk_n13 (x17191 : List (List Int)) : Option (Bool ⊕ Unit) :=
  nloop (fun (s : Int) => ((spec_ScoresOk_n12 x17191 s).map (Sum.elim (fun (t : Int) => Sum.inl t) (Sum.elim (fun (t : Bool) => Sum.inr (Sum.inl t)) (fun (t : Unit) => Sum.inr (Sum.inr t)))) : Option ((Int) ⊕ (Bool ⊕ Unit)))) LL 0

def spec_ScoresOk_n14 (x17191 : List (List Int)) : Option (Unit ⊕ Bool) :=
  (spec_ScoresOk_n13 x17191).map (Sum.elim (fun (t : Bool) => (Sum.inr t)) (fun (t : Unit) => (Sum.inl ())))

def spec_ScoresOk_n15 (x17191 : List (List Int)) : Option (Unit ⊕ Bool) :=
  (spec_ScoresOk_n2).bind (fun (t : Unit) => spec_ScoresOk_n14 x17191)

def spec_ScoresOk_n16 (x17191 : List (List Int)) : Option (Bool) :=
  (spec_l1In (((List.length x17191 : Nat) : Int)) 1 5).bind fun (v17304 : Bool) => some v17304

def spec_ScoresOk_n17 (x17191 : List (List Int)) : Option (Bool) :=
  (spec_ScoresOk_n15 x17191).bind (Sum.elim (fun (t : Unit) => spec_ScoresOk_n16 x17191) (fun e => some ((fun (t : Bool) => t) e)))

def spec_ScoresOk_n18 (x17191 : List (List Int)) : Option (Bool) :=
  (spec_ScoresOk_n1).bind (fun (t : Unit) => spec_ScoresOk_n17 x17191)

@[irreducible] def spec_ScoresOk (x17191 : List (List Int)) : Option (Bool) :=
  spec_ScoresOk_n18 x17191

def laws_szIntS_n1 (x20454 : List Int) (x20455 : Int) : Option (Int) :=
  cond (decide ((IntKind.wrap .i64 (x20455 - (((List.length x20454 : Nat) : Int)))) < 0)) (some (-1)) (some (IntKind.wrap .i64 (x20455 - (((List.length x20454 : Nat) : Int)))))

@[irreducible] def laws_szIntS (x20454 : List Int) (x20455 : Int) : Option (Int) :=
  laws_szIntS_n1 x20454 x20455

def laws_szIntSS_n1 (x20442 : List (List Int)) (x20443 : Int) : Option (Int ⊕ Int) :=
  cond (decide ((IntKind.wrap .i64 (x20443 - (((List.length x20442 : Nat) : Int)))) < 0)) (some (Sum.inr (-1))) (some (Sum.inl (IntKind.wrap .i64 (x20443 - (((List.length x20442 : Nat) : Int))))))

def laws_szIntSS_n2 : Option (Unit) :=
  some ()

def laws_szIntSS_n3 (x20442 : List (List Int)) (x20476 : Int) (x20477 : Int) : Option ((Int × Int) ⊕ Int ⊕ Int) :=
  cond (decide (x20477 < (((List.length x20442 : Nat) : Int)))) ((idx x20442 x20477).bind fun (v20487 : List Int) => (laws_szIntS v20487 x20476).bind fun (v20488 : Int) => cond (decide (v20488 < 0)) (some (Sum.inr (Sum.inl (-1)))) (some (Sum.inl (v20488, (IntKind.wrap .i64 (x20477 + 1)))))) (some (Sum.inr (Sum.inr x20476)))

def laws_szIntSS_n4 (x20442 : List (List Int)) (x20447 : Int) : Option (Int ⊕ Int) :=
  nloop (fun (s : Int × Int) => ((laws_szIntSS_n3 x20442 s.1 s.2).map (Sum.elim (fun (t : Int × Int) => Sum.inl (t.1, t.2)) (Sum.elim (fun (t : Int) => Sum.inr (Sum.inl t)) (fun (t : Int) => Sum.inr (Sum.inr t)))) : Option ((Int × Int) ⊕ (Int ⊕ Int)))) LL (x20447, 0)

def laws_szIntSS_n5 (x20442 : List (List Int)) (x20447 : Int) : Option (Int ⊕ Int) :=
  (laws_szIntSS_n4 x20442 x20447).map (Sum.elim (fun (t : Int) => (Sum.inr t)) (fun (t : Int) => (Sum.inl t)))

def laws_szIntSS_n6 (x20442 : List (List Int)) (x20447 : Int) : Option (Int ⊕ Int) :=
  (laws_szIntSS_n2).bind (fun (t : Unit) => laws_szIntSS_n5 x20442 x20447)

def laws_szIntSS_n7 (x20476 : Int) : Option (Int) :=
  some x20476

def laws_szIntSS_n8 (x20442 : List (List Int)) (x20447 : Int) : Option (Int) :=
  (laws_szIntSS_n6 x20442 x20447).bind (Sum.elim (fun (t : Int) => laws_szIntSS_n7 t) (fun e => some ((fun (t : Int) => t) e)))

def laws_szIntSS_n9 (x20442 : List (List Int)) (x20443 : Int) : Option (Int) :=
  (laws_szIntSS_n1 x20442 x20443).bind (Sum.elim (fun (t : Int) => laws_szIntSS_n8 x20442 t) (fun e => some ((fun (t : Int) => t) e)))

@[irreducible] def laws_szIntSS (x20442 : List (List Int)) (x20443 : Int) : Option (Int) :=
  laws_szIntSS_n9 x20442 x20443

def laws_toIntS_n1 (x20506 : List Int) : Option (((List Int))) :=
  (mk (((List.length x20506 : Nat) : Int)) (((List.length x20506 : Nat) : Int))).bind fun (v20508 : Nat) => some (List.replicate v20508 (0 : Int))

def laws_toIntS_n2 : Option (Unit) :=
  some ()

def laws_toIntS_n3 (x20506 : List Int) (x20523 : Int) (x20524 : List Int) : Option ((Int × (List Int)) ⊕ ((List Int))) :=
  cond (decide (x20523 < (((List.length x20506 : Nat) : Int)))) ((idx x20506 x20523).bind fun (v20534 : Int) => (inb x20523 (List.length x20524)).bind fun (v20535 : Nat) => some (Sum.inl ((IntKind.wrap .i64 (x20523 + 1)), (x20524.set v20535 v20534)))) (some (Sum.inr x20524))

def laws_toIntS_n4 (x20506 : List Int) (x20509 : List Int) : Option (((List Int))) :=
  nloop (fun (s : Int × (List Int)) => ((laws_toIntS_n3 x20506 s.1 s.2).map (Sum.elim (fun (t : Int × (List Int)) => Sum.inl (t.1, t.2)) (fun (t : (List Int)) => Sum.inr t)) : Option ((Int × (List Int)) ⊕ (((List Int)))))) LL (0, x20509)

def laws_toIntS_n5 (x20506 : List Int) (x20509 : List Int) : Option (((List Int))) :=
  (laws_toIntS_n4 x20506 x20509).map (fun (t : (List Int)) => t)

def laws_toIntS_n6 (x20506 : List Int) (x20509 : List Int) : Option (((List Int))) :=
  (laws_toIntS_n2).bind (fun (t : Unit) => laws_toIntS_n5 x20506 x20509)

def laws_toIntS_n7 (x20524 : List Int) : Option (((List Int))) :=
  some x20524

def laws_toIntS_n8 (x20506 : List Int) (x20509 : List Int) : Option (((List Int))) :=
  (laws_toIntS_n6 x20506 x20509).bind (fun (t : (List Int)) => laws_toIntS_n7 t)

def laws_toIntS_n9 (x20506 : List Int) : Option (((List Int))) :=
  (laws_toIntS_n1 x20506).bind (fun (t : (List Int)) => laws_toIntS_n8 x20506 t)

@[irreducible] def laws_toIntS (x20506 : List Int) : Option ((List Int)) :=
  laws_toIntS_n9 x20506

def laws_toIntSS_n1 (x20497 : List (List Int)) : Option (((List (List Int)))) :=
  (mk (((List.length x20497 : Nat) : Int)) (((List.length x20497 : Nat) : Int))).bind fun (v20499 : Nat) => some (List.replicate v20499 [])

def laws_toIntSS_n2 : Option (Unit) :=
  some ()

def laws_toIntSS_n3 (x20497 : List (List Int)) (x20550 : Int) (x20551 : List (List Int)) : Option ((Int × (List (List Int))) ⊕ ((List (List Int)))) :=
  cond (decide (x20550 < (((List.length x20497 : Nat) : Int)))) ((idx x20497 x20550).bind fun (v20563 : List Int) => (laws_toIntS v20563).bind fun (v20564 : List Int) => (inb x20550 (List.length x20551)).bind fun (v20565 : Nat) => (within v20565 (List.length x20551)).bind fun (v20566 : Unit) => some (Sum.inl ((IntKind.wrap .i64 (x20550 + 1)), ((x20551).set v20565 v20564)))) (some (Sum.inr x20551))

def laws_toIntSS_n4 (x20497 : List (List Int)) (x20500 : List (List Int)) : Option (((List (List Int)))) :=
  nloop (fun (s : Int × (List (List Int))) => ((laws_toIntSS_n3 x20497 s.1 s.2).map (Sum.elim (fun (t : Int × (List (List Int))) => Sum.inl (t.1, t.2)) (fun (t : (List (List Int))) => Sum.inr t)) : Option ((Int × (List (List Int))) ⊕ (((List (List Int))))))) LL (0, x20500)

def laws_toIntSS_n5 (x20497 : List (List Int)) (x20500 : List (List Int)) : Option (((List (List Int)))) :=
  (laws_toIntSS_n4 x20497 x20500).map (fun (t : (List (List Int))) => t)

def laws_toIntSS_n6 (x20497 : List (List Int)) (x20500 : List (List Int)) : Option (((List (List Int)))) :=
  (laws_toIntSS_n2).bind (fun (t : Unit) => laws_toIntSS_n5 x20497 x20500)

def laws_toIntSS_n7 (x20551 : List (List Int)) : Option (((List (List Int)))) :=
  some x20551

def laws_toIntSS_n8 (x20497 : List (List Int)) (x20500 : List (List Int)) : Option (((List (List Int)))) :=
  (laws_toIntSS_n6 x20497 x20500).bind (fun (t : (List (List Int))) => laws_toIntSS_n7 t)

def laws_toIntSS_n9 (x20497 : List (List Int)) : Option (((List (List Int)))) :=
  (laws_toIntSS_n1 x20497).bind (fun (t : (List (List Int))) => laws_toIntSS_n8 x20497 t)

@[irreducible] def laws_toIntSS (x20497 : List (List Int)) : Option ((List (List Int))) :=
  laws_toIntSS_n9 x20497

def laws_eqIntS_n1 (x20608 : List Int) (x20609 : List Int) : Option (Unit ⊕ Bool) :=
  cond ((((List.length x20608 : Nat) : Int)) != (((List.length x20609 : Nat) : Int))) (some (Sum.inr false)) (some (Sum.inl ()))

def laws_eqIntS_n2 : Option (Unit) :=
  some ()

def laws_eqIntS_n3 (x20608 : List Int) (x20609 : List Int) (x20626 : Int) : Option (Int ⊕ Bool ⊕ Unit) :=
  cond (decide (x20626 < (((List.length x20608 : Nat) : Int)))) ((idx x20608 x20626).bind fun (v20636 : Int) => (idx x20609 x20626).bind fun (v20637 : Int) => cond (v20636 != v20637) (some (Sum.inr (Sum.inl false))) (some (Sum.inl (IntKind.wrap .i64 (x20626 + 1))))) (some (Sum.inr (Sum.inr ())))

def laws_eqIntS_n4 (x20608 : List Int) (x20609 : List Int) : Option (Bool ⊕ Unit) :=
  nloop (fun (s : Int) => ((laws_eqIntS_n3 x20608 x20609 s).map (Sum.elim (fun (t : Int) => Sum.inl t) (Sum.elim (fun (t : Bool) => Sum.inr (Sum.inl t)) (fun (t : Unit) => Sum.inr (Sum.inr t)))) : Option ((Int) ⊕ (Bool ⊕ Unit)))) LL 0

def laws_eqIntS_n5 (x20608 : List Int) (x20609 : List Int) : Option (Unit ⊕ Bool) :=
  (laws_eqIntS_n4 x20608 x20609).map (Sum.elim (fun (t : Bool) => (Sum.inr t)) (fun (t : Unit) => (Sum.inl ())))

def laws_eqIntS_n6 (x20608 : List Int) (x20609 : List Int) : Option (Unit ⊕ Bool) :=
  (laws_eqIntS_n2).bind (fun (t : Unit) => laws_eqIntS_n5 x20608 x20609)

def laws_eqIntS_n7 : Option (Bool) :=
  some true

def laws_eqIntS_n8 (x20608 : List Int) (x20609 : List Int) : Option (Bool) :=
  (laws_eqIntS_n6 x20608 x20609).bind (Sum.elim (fun (t : Unit) => laws_eqIntS_n7) (fun e => some ((fun (t : Bool) => t) e)))

def laws_eqIntS_n9 (x20608 : List Int) (x20609 : List Int) : Option (Bool) :=
  (laws_eqIntS_n1 x20608 x20609).bind (Sum.elim (fun (t : Unit) => laws_eqIntS_n8 x20608 x20609) (fun e => some ((fun (t : Bool) => t) e)))

@[irreducible] def laws_eqIntS (x20608 : List Int) (x20609 : List Int) : Option (Bool) :=
  laws_eqIntS_n9 x20608 x20609

def laws_eqIntSS_n1 (x20597 : List (List Int)) (x20598 : List (List Int)) : Option (Unit ⊕ Bool) :=
  cond ((((List.length x20597 : Nat) : Int)) != (((List.length x20598 : Nat) : Int))) (some (Sum.inr false)) (some (Sum.inl ()))

def laws_eqIntSS_n2 : Option (Unit) :=
  some ()

def laws_eqIntSS_n3 (x20597 : List (List Int)) (x20598 : List (List Int)) (x20650 : Int) : Option (Int ⊕ Bool ⊕ Unit) :=
  cond (decide (x20650 < (((List.length x20597 : Nat) : Int)))) ((idx x20597 x20650).bind fun (v20661 : List Int) => (idx x20598 x20650).bind fun (v20662 : List Int) => (laws_eqIntS v20661 v20662).bind fun (v20663 : Bool) => cond (!v20663) (some (Sum.inr (Sum.inl false))) (some (Sum.inl (IntKind.wrap .i64 (x20650 + 1))))) (some (Sum.inr (Sum.inr ())))

def laws_eqIntSS_n4 (x20597 : List (List Int)) (x20598 : List (List Int)) : Option (Bool ⊕ Unit) :=
  nloop (fun (s : Int) => ((laws_eqIntSS_n3 x20597 x20598 s).map (Sum.elim (fun (t : Int) => Sum.inl t) (Sum.elim (fun (t : Bool) => Sum.inr (Sum.inl t)) (fun (t : Unit) => Sum.inr (Sum.inr t)))) : Option ((Int) ⊕ (Bool ⊕ Unit)))) LL 0

def laws_eqIntSS_n5 (x20597 : List (List Int)) (x20598 : List (List Int)) : Option (Unit ⊕ Bool) :=
  (laws_eqIntSS_n4 x20597 x20598).map (Sum.elim (fun (t : Bool) => (Sum.inr t)) (fun (t : Unit) => (Sum.inl ())))

def laws_eqIntSS_n6 (x20597 : List (List Int)) (x20598 : List (List Int)) : Option (Unit ⊕ Bool) :=
  (laws_eqIntSS_n2).bind (fun (t : Unit) => laws_eqIntSS_n5 x20597 x20598)

def laws_eqIntSS_n7 : Option (Bool) :=
  some true

def laws_eqIntSS_n8 (x20597 : List (List Int)) (x20598 : List (List Int)) : Option (Bool) :=
  (laws_eqIntSS_n6 x20597 x20598).bind (Sum.elim (fun (t : Unit) => laws_eqIntSS_n7) (fun e => some ((fun (t : Bool) => t) e)))

def laws_eqIntSS_n9 (x20597 : List (List Int)) (x20598 : List (List Int)) : Option (Bool) :=
  (laws_eqIntSS_n1 x20597 x20598).bind (Sum.elim (fun (t : Unit) => laws_eqIntSS_n8 x20597 x20598) (fun e => some ((fun (t : Bool) => t) e)))

@[irreducible] def laws_eqIntSS (x20597 : List (List Int)) (x20598 : List (List Int)) : Option (Bool) :=
  laws_eqIntSS_n9 x20597 x20598

def laws_FnExactScoresOk_n1 (x20441 : List (List Int)) : Option (Bool) :=
  (laws_szIntSS x20441 1048576).bind fun (v20679 : Int) => cond (decide (v20679 < 0)) (some true) ((laws_toIntSS x20441).bind fun (v20681 : List (List Int)) => (spec_ScoresOk v20681).bind fun (v20682 : Bool) => (laws_toIntSS x20441).bind fun (v20683 : List (List Int)) => (impl_ScoresOk v20683).bind fun (v20684 : Bool) => cond (v20684 != v20682) (some false) ((laws_toIntSS x20441).bind fun (v20686 : List (List Int)) => (laws_eqIntSS v20683 v20686).bind fun (v20687 : Bool) => cond (!v20687) (some false) (some true)))

@[irreducible] def laws_FnExactScoresOk (x20441 : List (List Int)) : Option (Bool) :=
  laws_FnExactScoresOk_n1 x20441

end Go.Rv
