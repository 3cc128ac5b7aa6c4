/-
  Plain functions, written by program for functions of the checked code. Conditions: none.
-/
import Derived.Test.YtihgceegapfngacFB
set_option linter.unusedVariables false
namespace Go.Rv
def laws_toIntS_n1 (x855 : List Int) : Option (((List Int))) :=
  (mk (((List.length x855 : Nat) : Int)) (((List.length x855 : Nat) : Int))).bind fun (v857 : Nat) => some (List.replicate v857 (0 : Int))

def laws_toIntS_n2 : Option (Unit) :=
  some ()

def laws_toIntS_n3 (x855 : List Int) (x872 : Int) (x873 : List Int) : Option ((Int × (List Int)) ⊕ ((List Int))) :=
  cond (decide (x872 < (((List.length x855 : Nat) : Int)))) ((idx x855 x872).bind fun (v883 : Int) => (inb x872 (List.length x873)).bind fun (v884 : Nat) => some (Sum.inl ((IntKind.wrap .i64 (x872 + 1)), (x873.set v884 v883)))) (some (Sum.inr x873))

def laws_toIntS_n4 (x855 : List Int) (x858 : List Int) : Option (((List Int))) :=
  nloop (fun (s : Int × (List Int)) => ((laws_toIntS_n3 x855 s.1 s.2).map (Sum.elim (fun (t : Int × (List Int)) => Sum.inl (t.1, t.2)) (fun (t : (List Int)) => Sum.inr t)) : Option ((Int × (List Int)) ⊕ (((List Int)))))) LL (0, x858)

def laws_toIntS_n5 (x855 : List Int) (x858 : List Int) : Option (((List Int))) :=
  (laws_toIntS_n4 x855 x858).map (fun (t : (List Int)) => t)

def laws_toIntS_n6 (x855 : List Int) (x858 : List Int) : Option (((List Int))) :=
  (laws_toIntS_n2).bind (fun (t : Unit) => laws_toIntS_n5 x855 x858)

def laws_toIntS_n7 (x873 : List Int) : Option (((List Int))) :=
  some x873

def laws_toIntS_n8 (x855 : List Int) (x858 : List Int) : Option (((List Int))) :=
  (laws_toIntS_n6 x855 x858).bind (fun (t : (List Int)) => laws_toIntS_n7 t)

def laws_toIntS_n9 (x855 : List Int) : Option (((List Int))) :=
  (laws_toIntS_n1 x855).bind (fun (t : (List Int)) => laws_toIntS_n8 x855 t)

@[irreducible] def laws_toIntS (x855 : List Int) : Option ((List Int)) :=
  laws_toIntS_n9 x855

def spec_l1In_n1 (x953 : Int) (x954 : Int) (x955 : Int) : Option (Bool) :=
  cond (decide (x953 ≥ x954)) (some (decide (x953 ≤ x955))) (some false)

@[irreducible] def spec_l1In (x953 : Int) (x954 : Int) (x955 : Int) : Option (Bool) :=
  spec_l1In_n1 x953 x954 x955

def spec_TreeOk_n1 (x950 : List Int) : Option (Int ⊕ Bool) :=
  (spec_l1In (((List.length x950 : Nat) : Int)) 1 8).bind fun (v964 : Bool) => cond (!v964) (some (Sum.inr false)) (some (Sum.inl (((List.length x950 : Nat) : Int))))

def spec_TreeOk_n2 : Option (Unit) :=
  some ()

def spec_TreeOk_n3 (x963 : Int) (x1030 : Int) (x1031 : Int) : Option (Unit ⊕ Int) :=
  cond (decide (x1031 < x963)) (some (Sum.inl ())) (some (Sum.inr x1030))

def spec_TreeOk_n4 (x950 : List Int) (x963 : Int) (x1030 : Int) (x1031 : Int) : Option ((Int × Int) ⊕ Bool) :=
  (idx x950 x1031).bind fun (v1048 : Int) => (spec_l1In v1048 0 x963).bind fun (v1049 : Bool) => cond (!v1049) (some (Sum.inr false)) ((idx x950 x1031).bind fun (v1051 : Int) => cond (v1051 == (IntKind.wrap .i64 (x1031 + 1))) (some (Sum.inr false)) ((idx x950 x1031).bind fun (v1054 : Int) => cond (v1054 == 0) (some (Sum.inl ((IntKind.wrap .i64 (x1030 + 1)), (IntKind.wrap .i64 (x1031 + 1))))) (some (Sum.inl (x1030, (IntKind.wrap .i64 (x1031 + 1)))))))

def spec_TreeOk_n5 : Option (Unit) :=
  some ()

def spec_TreeOk_n6 (x950 : List Int) (x963 : Int) (x1076 : Int) (x1077 : Int) : Option ((Int × Int) ⊕ Bool ⊕ Int) :=
  cond (decide (x1076 > 0)) (cond (decide (x1077 < x963)) ((idx x950 (IntKind.wrap .i64 (x1076 - 1))).bind fun (v1089 : Int) => (spec_l1In v1089 0 x963).bind fun (v1090 : Bool) => cond (!v1090) (some (Sum.inr (Sum.inl false))) (some (Sum.inl (v1089, (IntKind.wrap .i64 (x1077 + 1)))))) (some (Sum.inr (Sum.inr x1076)))) (some (Sum.inr (Sum.inr x1076)))

def spec_TreeOk_n7 (x950 : List Int) (x963 : Int) (x1060 : Int) : Option (Bool ⊕ Int) :=
  nloop (fun (s : Int × Int) => ((spec_TreeOk_n6 x950 x963 s.1 s.2).map (Sum.elim (fun (t : Int × Int) => Sum.inl (t.1, t.2)) (Sum.elim (fun (t : Bool) => Sum.inr (Sum.inl t)) (fun (t : Int) => Sum.inr (Sum.inr t)))) : Option ((Int × Int) ⊕ (Bool ⊕ Int)))) LL (x1060, 0)

def spec_TreeOk_n8 (x950 : List Int) (x963 : Int) (x1060 : Int) : Option (Int ⊕ Bool) :=
  (spec_TreeOk_n7 x950 x963 x1060).map (Sum.elim (fun (t : Bool) => (Sum.inr t)) (fun (t : Int) => (Sum.inl t)))

def spec_TreeOk_n9 (x950 : List Int) (x963 : Int) (x1060 : Int) : Option (Int ⊕ Bool) :=
  (spec_TreeOk_n5).bind (fun (t : Unit) => spec_TreeOk_n8 x950 x963 x1060)

def spec_TreeOk_n10 (x1076 : Int) : Option (Unit ⊕ Bool) :=
  cond (decide (x1076 > 0)) (some (Sum.inr false)) (some (Sum.inl ()))

def spec_TreeOk_n11 (x950 : List Int) (x963 : Int) (x1060 : Int) : Option (Unit ⊕ Bool) :=
  (spec_TreeOk_n9 x950 x963 x1060).bind (Sum.elim (fun (t : Int) => spec_TreeOk_n10 t) (fun e => some ((fun (t : Bool) => (Sum.inr t)) e)))

def spec_TreeOk_n12 (x950 : List Int) (x963 : Int) (x1030 : Int) (x1031 : Int) : Option (Int ⊕ Bool) :=
  (spec_TreeOk_n4 x950 x963 x1030 x1031).bind (Sum.elim (fun (t : Int × Int) => (spec_TreeOk_n11 x950 x963 t.2).map (Sum.elim (fun (u : Unit) => (Sum.inl t.1)) (fun (u : Bool) => (Sum.inr u)))) (fun e => some ((fun (t : Bool) => (Sum.inr t)) e)))

def spec_TreeOk_n13 (x950 : List Int) (x963 : Int) (x1030 : Int) (x1031 : Int) : Option (Int ⊕ Bool) :=
  (spec_TreeOk_n12 x950 x963 x1030 x1031).map (Sum.elim (fun (t : Int) => (Sum.inl t)) (fun (t : Bool) => (Sum.inr t)))

def spec_TreeOk_n14 (x1031 : Int) : Option (Int) :=
  some (IntKind.wrap .i64 (x1031 + 1))

def spec_TreeOk_n15 (x950 : List Int) (x963 : Int) (x1030 : Int) (x1031 : Int) : Option ((Int × Int) ⊕ Bool) :=
  (spec_TreeOk_n13 x950 x963 x1030 x1031).bind (Sum.elim (fun (t : Int) => (spec_TreeOk_n14 x1031).map (fun (u : Int) => (Sum.inl (t, u)))) (fun e => some ((fun (t : Bool) => (Sum.inr t)) e)))

def spec_TreeOk_n16 (x950 : List Int) (x963 : Int) (x1030 : Int) (x1031 : Int) : Option ((Int × Int) ⊕ Bool ⊕ Int) :=
  (spec_TreeOk_n3 x963 x1030 x1031).bind (Sum.elim (fun (t : Unit) => (spec_TreeOk_n15 x950 x963 x1030 x1031).map (Sum.elim (fun (t : Int × Int) => (Sum.inl (t.1, t.2))) (fun (t : Bool) => (Sum.inr (Sum.inl t))))) (fun e => some ((fun (t : Int) => (Sum.inr (Sum.inr t))) e)))

def spec_TreeOk_n17 (x950 : List Int) (x963 : Int) : Option (Bool ⊕ Int) :=
  nloop (fun (s : Int × Int) => ((spec_TreeOk_n16 x950 x963 s.1 s.2).map (Sum.elim (fun (t : Int × Int) => Sum.inl (t.1, t.2)) (Sum.elim (fun (t : Bool) => Sum.inr (Sum.inl t)) (fun (t : Int) => Sum.inr (Sum.inr t)))) : Option ((Int × Int) ⊕ (Bool ⊕ Int)))) LL (0, 0)

def spec_TreeOk_n18 (x950 : List Int) (x963 : Int) : Option (Int ⊕ Bool) :=
  (spec_TreeOk_n17 x950 x963).map (Sum.elim (fun (t : Bool) => (Sum.inr t)) (fun (t : Int) => (Sum.inl t)))

def spec_TreeOk_n19 (x950 : List Int) (x963 : Int) : Option (Int ⊕ Bool) :=
  (spec_TreeOk_n2).bind (fun (t : Unit) => spec_TreeOk_n18 x950 x963)

def spec_TreeOk_n20 (x1030 : Int) : Option (Bool) :=
  some (x1030 == 1)

def spec_TreeOk_n21 (x950 : List Int) (x963 : Int) : Option (Bool) :=
  (spec_TreeOk_n19 x950 x963).bind (Sum.elim (fun (t : Int) => spec_TreeOk_n20 t) (fun e => some ((fun (t : Bool) => t) e)))

def spec_TreeOk_n22 (x950 : List Int) : Option (Bool) :=
  (spec_TreeOk_n1 x950).bind (Sum.elim (fun (t : Int) => spec_TreeOk_n21 x950 t) (fun e => some ((fun (t : Bool) => t) e)))

@[irreducible] def spec_TreeOk (x950 : List Int) : Option (Bool) :=
  spec_TreeOk_n22 x950

def impl_oneRoot_n1 : Option (Unit) :=
  some ()

def impl_oneRoot_n2 (x1154 : List Int) : Option (Int) :=
  some (((List.length x1154 : Nat) : Int))

def impl_oneRoot_n3 (x1154 : List Int) (x1176 : Int) (x1155 : Int) (x1177 : Int) : Option ((Int × Int) ⊕ Bool ⊕ Int) :=
  cond (decide (x1177 < x1155)) ((idx x1154 x1177).bind fun (v1188 : Int) => cond (decide (v1188 < 0)) (some (Sum.inr (Sum.inl false))) (cond (decide (v1188 > (((List.length x1154 : Nat) : Int)))) (some (Sum.inr (Sum.inl false))) (cond (v1188 == 0) (some (Sum.inl ((IntKind.wrap .i64 (x1176 + 1)), (IntKind.wrap .i64 (x1177 + 1))))) (some (Sum.inl (x1176, (IntKind.wrap .i64 (x1177 + 1)))))))) (some (Sum.inr (Sum.inr x1176)))

def impl_oneRoot_n4 (x1154 : List Int) (x1155 : Int) : Option (Bool ⊕ Int) :=
  nloop (fun (s : Int × Int) => ((impl_oneRoot_n3 x1154 s.1 x1155 s.2).map (Sum.elim (fun (t : Int × Int) => Sum.inl (t.1, t.2)) (Sum.elim (fun (t : Bool) => Sum.inr (Sum.inl t)) (fun (t : Int) => Sum.inr (Sum.inr t)))) : Option ((Int × Int) ⊕ (Bool ⊕ Int)))) LL (0, 0)

def impl_oneRoot_n5 (x1154 : List Int) (x1155 : Int) : Option (Int ⊕ Bool) :=
  (impl_oneRoot_n4 x1154 x1155).map (Sum.elim (fun (t : Bool) => (Sum.inr t)) (fun (t : Int) => (Sum.inl t)))

def impl_oneRoot_n6 (x1154 : List Int) : Option (Int ⊕ Bool) :=
  (impl_oneRoot_n2 x1154).bind (fun (t : Int) => impl_oneRoot_n5 x1154 t)

def impl_oneRoot_n7 (x1176 : Int) : Option (Bool) :=
  some (x1176 == 1)

def impl_oneRoot_n8 (x1154 : List Int) : Option (Bool) :=
  (impl_oneRoot_n6 x1154).bind (Sum.elim (fun (t : Int) => impl_oneRoot_n7 t) (fun e => some ((fun (t : Bool) => t) e)))

def impl_oneRoot_n9 (x1154 : List Int) : Option (Bool) :=
  (impl_oneRoot_n1).bind (fun (t : Unit) => impl_oneRoot_n8 x1154)

@[irreducible] def impl_oneRoot (x1154 : List Int) : Option (Bool) :=
  impl_oneRoot_n9 x1154

def impl_walker_up_n1 (x1210 : List Int) (x1211 : Int) (x1212 : Int) : Option ((Bool × Int × Int)) :=
  (idx x1210 (IntKind.wrap .i64 (x1211 - 1))).bind fun (v1230 : Int) => cond (v1230 == 0) (some (false, x1211, x1212)) (some (true, v1230, (IntKind.wrap .i64 (x1212 + 1))))

@[irreducible] def impl_walker_up (x1210 : List Int) (x1211 : Int) (x1212 : Int) : Option (Bool × Int × Int) :=
  impl_walker_up_n1 x1210 x1211 x1212

def impl_stepsToRoot_n1 : Option (Unit) :=
  some ()

def impl_stepsToRoot_n2 (x1208 : List Int) (x1246 : Int) (x1247 : Int) : Option ((Int × Int) ⊕ (Int × Bool) ⊕ (Int × Int)) :=
  (impl_walker_up x1208 x1246 x1247).bind fun (v1252 : Bool × Int × Int) => cond (v1252.1) (cond (decide ((v1252.2.2) ≥ (((List.length x1208 : Nat) : Int)))) (some (Sum.inr (Sum.inl (0, false)))) (some (Sum.inl ((v1252.2.1), (v1252.2.2))))) (some (Sum.inr (Sum.inr ((v1252.2.1), (v1252.2.2)))))

def impl_stepsToRoot_n3 (x1208 : List Int) (x1209 : Int) : Option ((Int × Bool) ⊕ (Int × Int)) :=
  nloop (fun (s : Int × Int) => ((impl_stepsToRoot_n2 x1208 s.1 s.2).map (Sum.elim (fun (t : Int × Int) => Sum.inl (t.1, t.2)) (Sum.elim (fun (t : Int × Bool) => Sum.inr (Sum.inl t)) (fun (t : Int × Int) => Sum.inr (Sum.inr t)))) : Option ((Int × Int) ⊕ ((Int × Bool) ⊕ (Int × Int))))) LL (x1209, 0)

def impl_stepsToRoot_n4 (x1208 : List Int) (x1209 : Int) : Option ((Int × Int) ⊕ (Int × Bool)) :=
  (impl_stepsToRoot_n3 x1208 x1209).map (Sum.elim (fun (t : Int × Bool) => (Sum.inr t)) (fun (t : Int × Int) => (Sum.inl (t.1, t.2))))

def impl_stepsToRoot_n5 (x1255 : Int) : Option ((Int × Bool)) :=
  some (x1255, true)

def impl_stepsToRoot_n6 (x1208 : List Int) (x1209 : Int) : Option ((Int × Bool)) :=
  (impl_stepsToRoot_n4 x1208 x1209).bind (Sum.elim (fun (t : Int × Int) => impl_stepsToRoot_n5 t.2) (fun e => some ((fun (t : Int × Bool) => t) e)))

def impl_stepsToRoot_n7 (x1208 : List Int) (x1209 : Int) : Option ((Int × Bool)) :=
  (impl_stepsToRoot_n1).bind (fun (t : Unit) => impl_stepsToRoot_n6 x1208 x1209)

@[irreducible] def impl_stepsToRoot (x1208 : List Int) (x1209 : Int) : Option (Int × Bool) :=
  impl_stepsToRoot_n7 x1208 x1209

def impl_TreeOk_n1 (x1149 : List Int) : Option (Unit ⊕ Bool) :=
  cond (decide ((((List.length x1149 : Nat) : Int)) < 1)) (some (Sum.inr false)) (cond (decide ((((List.length x1149 : Nat) : Int)) > 8)) (some (Sum.inr false)) ((impl_oneRoot x1149).bind fun (v1201 : Bool) => cond (!v1201) (some (Sum.inr false)) (some (Sum.inl ()))))

def impl_TreeOk_n2 (x1149 : List Int) : Option (Int) :=
  some (((List.length x1149 : Nat) : Int))

def impl_TreeOk_n3 (x1149 : List Int) (x1203 : Int) (x1271 : Int) : Option (Int ⊕ Bool ⊕ Unit) :=
  cond (decide (x1271 < x1203)) ((impl_stepsToRoot x1149 (IntKind.wrap .i64 (x1271 + 1))).bind fun (v1282 : Int × Bool) => cond (!(v1282.2)) (some (Sum.inr (Sum.inl false))) (some (Sum.inl (IntKind.wrap .i64 (x1271 + 1))))) (some (Sum.inr (Sum.inr ())))

def impl_TreeOk_n4 (x1149 : List Int) (x1203 : Int) : Option (Bool ⊕ Unit) :=
  nloop (fun (s : Int) => ((impl_TreeOk_n3 x1149 x1203 s).map (Sum.elim (fun (t : Int) => Sum.inl t) (Sum.elim (fun (t : Bool) => Sum.inr (Sum.inl t)) (fun (t : Unit) => Sum.inr (Sum.inr t)))) : Option ((Int) ⊕ (Bool ⊕ Unit)))) LL 0

def impl_TreeOk_n5 (x1149 : List Int) (x1203 : Int) : Option (Unit ⊕ Bool) :=
  (impl_TreeOk_n4 x1149 x1203).map (Sum.elim (fun (t : Bool) => (Sum.inr t)) (fun (t : Unit) => (Sum.inl ())))

def impl_TreeOk_n6 (x1149 : List Int) : Option (Unit ⊕ Bool) :=
  (impl_TreeOk_n2 x1149).bind (fun (t : Int) => impl_TreeOk_n5 x1149 t)

def impl_TreeOk_n7 : Option (Bool) :=
  some true

def impl_TreeOk_n8 (x1149 : List Int) : Option (Bool) :=
  (impl_TreeOk_n6 x1149).bind (Sum.elim (fun (t : Unit) => impl_TreeOk_n7) (fun e => some ((fun (t : Bool) => t) e)))

def impl_TreeOk_n9 (x1149 : List Int) : Option (Bool) :=
  (impl_TreeOk_n1 x1149).bind (Sum.elim (fun (t : Unit) => impl_TreeOk_n8 x1149) (fun e => some ((fun (t : Bool) => t) e)))

@[irreducible] def impl_TreeOk (x1149 : List Int) : Option (Bool) :=
  impl_TreeOk_n9 x1149

def laws_eqIntS_n1 (x1347 : List Int) (x1348 : List Int) : Option (Unit ⊕ Bool) :=
  cond ((((List.length x1347 : Nat) : Int)) != (((List.length x1348 : Nat) : Int))) (some (Sum.inr false)) (some (Sum.inl ()))

def laws_eqIntS_n2 : Option (Unit) :=
  some ()

def laws_eqIntS_n3 (x1347 : List Int) (x1348 : List Int) (x1365 : Int) : Option (Int ⊕ Bool ⊕ Unit) :=
  cond (decide (x1365 < (((List.length x1347 : Nat) : Int)))) ((idx x1347 x1365).bind fun (v1375 : Int) => (idx x1348 x1365).bind fun (v1376 : Int) => cond (v1375 != v1376) (some (Sum.inr (Sum.inl false))) (some (Sum.inl (IntKind.wrap .i64 (x1365 + 1))))) (some (Sum.inr (Sum.inr ())))

def laws_eqIntS_n4 (x1347 : List Int) (x1348 : List Int) : Option (Bool ⊕ Unit) :=
  nloop (fun (s : Int) => ((laws_eqIntS_n3 x1347 x1348 s).map (Sum.elim (fun (t : Int) => Sum.inl t) (Sum.elim (fun (t : Bool) => Sum.inr (Sum.inl t)) (fun (t : Unit) => Sum.inr (Sum.inr t)))) : Option ((Int) ⊕ (Bool ⊕ Unit)))) LL 0

def laws_eqIntS_n5 (x1347 : List Int) (x1348 : List Int) : Option (Unit ⊕ Bool) :=
  (laws_eqIntS_n4 x1347 x1348).map (Sum.elim (fun (t : Bool) => (Sum.inr t)) (fun (t : Unit) => (Sum.inl ())))

def laws_eqIntS_n6 (x1347 : List Int) (x1348 : List Int) : Option (Unit ⊕ Bool) :=
  (laws_eqIntS_n2).bind (fun (t : Unit) => laws_eqIntS_n5 x1347 x1348)

def laws_eqIntS_n7 : Option (Bool) :=
  some true

def laws_eqIntS_n8 (x1347 : List Int) (x1348 : List Int) : Option (Bool) :=
  (laws_eqIntS_n6 x1347 x1348).bind (Sum.elim (fun (t : Unit) => laws_eqIntS_n7) (fun e => some ((fun (t : Bool) => t) e)))

def laws_eqIntS_n9 (x1347 : List Int) (x1348 : List Int) : Option (Bool) :=
  (laws_eqIntS_n1 x1347 x1348).bind (Sum.elim (fun (t : Unit) => laws_eqIntS_n8 x1347 x1348) (fun e => some ((fun (t : Bool) => t) e)))

@[irreducible] def laws_eqIntS (x1347 : List Int) (x1348 : List Int) : Option (Bool) :=
  laws_eqIntS_n9 x1347 x1348

def laws_eqIntSS_n1 (x1384 : List (List Int)) (x1385 : List (List Int)) : Option (Unit ⊕ Bool) :=
  cond ((((List.length x1384 : Nat) : Int)) != (((List.length x1385 : Nat) : Int))) (some (Sum.inr false)) (some (Sum.inl ()))

def laws_eqIntSS_n2 : Option (Unit) :=
  some ()

def laws_eqIntSS_n3 (x1384 : List (List Int)) (x1385 : List (List Int)) (x1404 : Int) : Option (Int ⊕ Bool ⊕ Unit) :=
  cond (decide (x1404 < (((List.length x1384 : Nat) : Int)))) ((idx x1384 x1404).bind fun (v1415 : List Int) => (idx x1385 x1404).bind fun (v1416 : List Int) => (laws_eqIntS v1415 v1416).bind fun (v1417 : Bool) => cond (!v1417) (some (Sum.inr (Sum.inl false))) (some (Sum.inl (IntKind.wrap .i64 (x1404 + 1))))) (some (Sum.inr (Sum.inr ())))

def laws_eqIntSS_n4 (x1384 : List (List Int)) (x1385 : List (List Int)) : Option (Bool ⊕ Unit) :=
  nloop (fun (s : Int) => ((laws_eqIntSS_n3 x1384 x1385 s).map (Sum.elim (fun (t : Int) => Sum.inl t) (Sum.elim (fun (t : Bool) => Sum.inr (Sum.inl t)) (fun (t : Unit) => Sum.inr (Sum.inr t)))) : Option ((Int) ⊕ (Bool ⊕ Unit)))) LL 0

def laws_eqIntSS_n5 (x1384 : List (List Int)) (x1385 : List (List Int)) : Option (Unit ⊕ Bool) :=
  (laws_eqIntSS_n4 x1384 x1385).map (Sum.elim (fun (t : Bool) => (Sum.inr t)) (fun (t : Unit) => (Sum.inl ())))

def laws_eqIntSS_n6 (x1384 : List (List Int)) (x1385 : List (List Int)) : Option (Unit ⊕ Bool) :=
  (laws_eqIntSS_n2).bind (fun (t : Unit) => laws_eqIntSS_n5 x1384 x1385)

def laws_eqIntSS_n7 : Option (Bool) :=
  some true

def laws_eqIntSS_n8 (x1384 : List (List Int)) (x1385 : List (List Int)) : Option (Bool) :=
  (laws_eqIntSS_n6 x1384 x1385).bind (Sum.elim (fun (t : Unit) => laws_eqIntSS_n7) (fun e => some ((fun (t : Bool) => t) e)))

def laws_eqIntSS_n9 (x1384 : List (List Int)) (x1385 : List (List Int)) : Option (Bool) :=
  (laws_eqIntSS_n1 x1384 x1385).bind (Sum.elim (fun (t : Unit) => laws_eqIntSS_n8 x1384 x1385) (fun e => some ((fun (t : Bool) => t) e)))

@[irreducible] def laws_eqIntSS (x1384 : List (List Int)) (x1385 : List (List Int)) : Option (Bool) :=
  laws_eqIntSS_n9 x1384 x1385

def laws_eqDesk_n1 (x1343 : List Int) (x1344 : List (List Int)) (x1345 : List Int) (x1346 : List (List Int)) : Option (Bool) :=
  (laws_eqIntS x1343 x1345).bind fun (v1427 : Bool) => cond (!v1427) (some false) ((laws_eqIntSS x1344 x1346).bind fun (v1429 : Bool) => cond (!v1429) (some false) (some true))

@[irreducible] def laws_eqDesk (x1343 : List Int) (x1344 : List (List Int)) (x1345 : List Int) (x1346 : List (List Int)) : Option (Bool) :=
  laws_eqDesk_n1 x1343 x1344 x1345 x1346

def laws_eqDesk_v2_n1 (x1629 : List Int) (x1630 : List (List Int)) (x1631 : List Int) : Option (Bool) :=
  (laws_eqIntS x1629 x1631).bind fun (v1642 : Bool) => cond (!v1642) (some false) ((laws_eqIntSS x1630 ([] : List (List Int))).bind fun (v1644 : Bool) => cond (!v1644) (some false) (some true))

@[irreducible] def laws_eqDesk_v2 (x1629 : List Int) (x1630 : List (List Int)) (x1631 : List Int) : Option (Bool) :=
  laws_eqDesk_v2_n1 x1629 x1630 x1631

def spec_DeskNew_n1 (x1474 : List Int) : Option ((Bool × (List Int))) :=
  (spec_TreeOk x1474).bind fun (v1494 : Bool) => cond (!v1494) (some (false, ([] : List Int))) ((room ((List.length ([] : List Int)) + List.length x1474)).bind fun (v1497 : Unit) => some (true, (([] : List Int) ++ x1474)))

@[irreducible] def spec_DeskNew (x1474 : List Int) : Option (Bool × (List Int)) :=
  spec_DeskNew_n1 x1474

def slices_Clone_int_int (x1 : List Int) : Option (List Int) := cloneD x1

def impl_newDesk_n1 (x1523 : List Int) : Option (((List Int))) :=
  (slices_Clone_int_int x1523).bind fun (v1549 : List Int) => some v1549

def impl_newDesk_n2 (x1524 : List (List Int)) : Option (Int) :=
  some (((List.length x1524 : Nat) : Int))

def impl_newDesk_n3 (x1524 : List (List Int)) (x1550 : Int) (x1564 : Int) (x1565 : List (List Int)) : Option ((Int × (List (List Int))) ⊕ ((List (List Int)))) :=
  cond (decide (x1564 < x1550)) ((idx x1524 x1564).bind fun (v1574 : List Int) => (slices_Clone_int_int v1574).bind fun (v1575 : List Int) => (room (List.length x1565 + 1)).bind fun (v1576 : Unit) => some (Sum.inl ((IntKind.wrap .i64 (x1564 + 1)), ((x1565 ++ [[]]).set (List.length x1565) v1575)))) (some (Sum.inr x1565))

def impl_newDesk_n4 (x1524 : List (List Int)) (x1550 : Int) : Option (((List (List Int)))) :=
  nloop (fun (s : Int × (List (List Int))) => ((impl_newDesk_n3 x1524 x1550 s.1 s.2).map (Sum.elim (fun (t : Int × (List (List Int))) => Sum.inl (t.1, t.2)) (fun (t : (List (List Int))) => Sum.inr t)) : Option ((Int × (List (List Int))) ⊕ (((List (List Int))))))) LL (0, ([] : List (List Int)))

def impl_newDesk_n5 (x1524 : List (List Int)) (x1550 : Int) : Option (((List (List Int)))) :=
  (impl_newDesk_n4 x1524 x1550).map (fun (t : (List (List Int))) => t)

def impl_newDesk_n6 (x1524 : List (List Int)) : Option (((List (List Int)))) :=
  (impl_newDesk_n2 x1524).bind (fun (t : Int) => impl_newDesk_n5 x1524 t)

def impl_newDesk_n7 (x1549 : List Int) (x1565 : List (List Int)) : Option (((List Int) × (List (List Int)))) :=
  some (x1549, x1565)

def impl_newDesk_n8 (x1524 : List (List Int)) (x1549 : List Int) : Option (((List Int) × (List (List Int)))) :=
  (impl_newDesk_n6 x1524).bind (fun (t : (List (List Int))) => impl_newDesk_n7 x1549 t)

def impl_newDesk_n9 (x1523 : List Int) (x1524 : List (List Int)) : Option (((List Int) × (List (List Int)))) :=
  (impl_newDesk_n1 x1523).bind (fun (t : (List Int)) => impl_newDesk_n8 x1524 t)

@[irreducible] def impl_newDesk (x1523 : List Int) (x1524 : List (List Int)) : Option ((List Int) × (List (List Int))) :=
  impl_newDesk_n9 x1523 x1524

def impl_DeskNew_n1 (x1518 : List Int) : Option ((Bool × (List Int) × (List (List Int)))) :=
  (impl_TreeOk x1518).bind fun (v1606 : Bool) => cond (!v1606) (some (false, ([] : List Int), ([] : List (List Int)))) ((impl_newDesk x1518 ([] : List (List Int))).bind fun (v1608 : (List Int) × (List (List Int))) => some (true, (v1608.1), (v1608.2)))

@[irreducible] def impl_DeskNew (x1518 : List Int) : Option (Bool × (List Int) × (List (List Int))) :=
  impl_DeskNew_n1 x1518

def laws_markIntS_n1 : Option (Unit) :=
  some ()

def laws_markIntS_n2 : Option (Unit) :=
  some ()

def laws_markIntS_n3 (x1716 : Int) (x1717 : Int) (x1718 : List Int) : Option ((Int × Int × (List Int)) ⊕ (Int × (List Int))) :=
  cond (decide (x1717 < (((List.length x1718 : Nat) : Int)))) ((inb x1717 (List.length x1718)).bind fun (v1728 : Nat) => some (Sum.inl ((IntKind.wrap .i64 (x1716 + 1)), (IntKind.wrap .i64 (x1717 + 1)), (x1718.set v1728 x1716)))) (some (Sum.inr (x1716, x1718)))

def laws_markIntS_n4 (x1701 : Int) (x1702 : List Int) : Option ((Int × (List Int))) :=
  nloop (fun (s : Int × Int × (List Int)) => ((laws_markIntS_n3 s.1 s.2.1 s.2.2).map (Sum.elim (fun (t : Int × Int × (List Int)) => Sum.inl (t.1, t.2.1, t.2.2)) (fun (t : Int × (List Int)) => Sum.inr t)) : Option ((Int × Int × (List Int)) ⊕ ((Int × (List Int)))))) LL (x1701, 0, x1702)

def laws_markIntS_n5 (x1701 : Int) (x1702 : List Int) : Option ((Int × (List Int))) :=
  (laws_markIntS_n4 x1701 x1702).map (fun (t : Int × (List Int)) => (t.1, t.2))

def laws_markIntS_n6 (x1701 : Int) (x1702 : List Int) : Option ((Int × (List Int))) :=
  (laws_markIntS_n2).bind (fun (t : Unit) => laws_markIntS_n5 x1701 x1702)

def laws_markIntS_n7 (x1716 : Int) (x1718 : List Int) : Option ((Int × (List Int))) :=
  some (x1716, x1718)

def laws_markIntS_n8 (x1701 : Int) (x1702 : List Int) : Option ((Int × (List Int))) :=
  (laws_markIntS_n6 x1701 x1702).bind (fun (t : Int × (List Int)) => laws_markIntS_n7 t.1 t.2)

def laws_markIntS_n9 (x1701 : Int) (x1702 : List Int) : Option ((Int × (List Int))) :=
  (laws_markIntS_n1).bind (fun (t : Unit) => laws_markIntS_n8 x1701 x1702)

@[irreducible] def laws_markIntS (x1701 : Int) (x1702 : List Int) : Option (Int × (List Int)) :=
  laws_markIntS_n9 x1701 x1702

def laws_markIntSS_n1 : Option (Unit) :=
  some ()

def laws_markIntSS_n2 : Option (Unit) :=
  some ()

def laws_markIntSS_n3 (x1849 : Int) (x1850 : Int) (x1851 : List (List Int)) : Option ((Int × Int × (List (List Int))) ⊕ (Int × (List (List Int)))) :=
  cond (decide (x1850 < (((List.length x1851 : Nat) : Int)))) ((inb x1850 (List.length x1851)).bind fun (v1865 : Nat) => ((x1851)[v1865]?).bind fun (v1866 : List Int) => (laws_markIntS x1849 v1866).bind fun (v1868 : Int × (List Int)) => some (Sum.inl ((v1868.1), (IntKind.wrap .i64 (x1850 + 1)), ((((x1851).set v1865 [])).set v1865 (v1868.2))))) (some (Sum.inr (x1849, x1851)))

def laws_markIntSS_n4 (x1816 : Int) (x1817 : List (List Int)) : Option ((Int × (List (List Int)))) :=
  nloop (fun (s : Int × Int × (List (List Int))) => ((laws_markIntSS_n3 s.1 s.2.1 s.2.2).map (Sum.elim (fun (t : Int × Int × (List (List Int))) => Sum.inl (t.1, t.2.1, t.2.2)) (fun (t : Int × (List (List Int))) => Sum.inr t)) : Option ((Int × Int × (List (List Int))) ⊕ ((Int × (List (List Int))))))) LL (x1816, 0, x1817)

def laws_markIntSS_n5 (x1816 : Int) (x1817 : List (List Int)) : Option ((Int × (List (List Int)))) :=
  (laws_markIntSS_n4 x1816 x1817).map (fun (t : Int × (List (List Int))) => (t.1, t.2))

def laws_markIntSS_n6 (x1816 : Int) (x1817 : List (List Int)) : Option ((Int × (List (List Int)))) :=
  (laws_markIntSS_n2).bind (fun (t : Unit) => laws_markIntSS_n5 x1816 x1817)

def laws_markIntSS_n7 (x1849 : Int) (x1851 : List (List Int)) : Option ((Int × (List (List Int)))) :=
  some (x1849, x1851)

def laws_markIntSS_n8 (x1816 : Int) (x1817 : List (List Int)) : Option ((Int × (List (List Int)))) :=
  (laws_markIntSS_n6 x1816 x1817).bind (fun (t : Int × (List (List Int))) => laws_markIntSS_n7 t.1 t.2)

def laws_markIntSS_n9 (x1816 : Int) (x1817 : List (List Int)) : Option ((Int × (List (List Int)))) :=
  (laws_markIntSS_n1).bind (fun (t : Unit) => laws_markIntSS_n8 x1816 x1817)

@[irreducible] def laws_markIntSS (x1816 : Int) (x1817 : List (List Int)) : Option (Int × (List (List Int))) :=
  laws_markIntSS_n9 x1816 x1817

def laws_markDesk_n1 (x1807 : Int) (x1808 : List Int) (x1809 : List (List Int)) : Option ((Int × (List Int) × (List (List Int)))) :=
  (laws_markIntS x1807 x1808).bind fun (v1882 : Int × (List Int)) => (laws_markIntSS (v1882.1) x1809).bind fun (v1885 : Int × (List (List Int))) => some ((v1885.1), (v1882.2), (v1885.2))

@[irreducible] def laws_markDesk (x1807 : Int) (x1808 : List Int) (x1809 : List (List Int)) : Option (Int × (List Int) × (List (List Int))) :=
  laws_markDesk_n1 x1807 x1808 x1809

def laws_heldIntS_n1 : Option (Unit) :=
  some ()

def laws_heldIntS_n2 : Option (Unit) :=
  some ()

def laws_heldIntS_n3 (x1951 : List Int) (x1966 : Int) (x1967 : Int) : Option ((Int × Int) ⊕ Int ⊕ Int) :=
  cond (decide (x1967 < (((List.length x1951 : Nat) : Int)))) ((idx x1951 x1967).bind fun (v1977 : Int) => cond (v1977 != x1966) (some (Sum.inr (Sum.inl (-1)))) (some (Sum.inl ((IntKind.wrap .i64 (x1966 + 1)), (IntKind.wrap .i64 (x1967 + 1)))))) (some (Sum.inr (Sum.inr x1966)))

def laws_heldIntS_n4 (x1951 : List Int) (x1952 : Int) : Option (Int ⊕ Int) :=
  nloop (fun (s : Int × Int) => ((laws_heldIntS_n3 x1951 s.1 s.2).map (Sum.elim (fun (t : Int × Int) => Sum.inl (t.1, t.2)) (Sum.elim (fun (t : Int) => Sum.inr (Sum.inl t)) (fun (t : Int) => Sum.inr (Sum.inr t)))) : Option ((Int × Int) ⊕ (Int ⊕ Int)))) LL (x1952, 0)

def laws_heldIntS_n5 (x1951 : List Int) (x1952 : Int) : Option (Int ⊕ Int) :=
  (laws_heldIntS_n4 x1951 x1952).map (Sum.elim (fun (t : Int) => (Sum.inr t)) (fun (t : Int) => (Sum.inl t)))

def laws_heldIntS_n6 (x1951 : List Int) (x1952 : Int) : Option (Int ⊕ Int) :=
  (laws_heldIntS_n2).bind (fun (t : Unit) => laws_heldIntS_n5 x1951 x1952)

def laws_heldIntS_n7 (x1966 : Int) : Option (Int) :=
  some x1966

def laws_heldIntS_n8 (x1951 : List Int) (x1952 : Int) : Option (Int) :=
  (laws_heldIntS_n6 x1951 x1952).bind (Sum.elim (fun (t : Int) => laws_heldIntS_n7 t) (fun e => some ((fun (t : Int) => t) e)))

def laws_heldIntS_n9 (x1951 : List Int) (x1952 : Int) : Option (Int) :=
  (laws_heldIntS_n1).bind (fun (t : Unit) => laws_heldIntS_n8 x1951 x1952)

@[irreducible] def laws_heldIntS (x1951 : List Int) (x1952 : Int) : Option (Int) :=
  laws_heldIntS_n9 x1951 x1952

def laws_heldIntSS_n1 : Option (Unit) :=
  some ()

def laws_heldIntSS_n2 : Option (Unit) :=
  some ()

def laws_heldIntSS_n3 (x1987 : List (List Int)) (x2002 : Int) (x2003 : Int) : Option ((Int × Int) ⊕ Int ⊕ Int) :=
  cond (decide (x2003 < (((List.length x1987 : Nat) : Int)))) ((idx x1987 x2003).bind fun (v2013 : List Int) => (laws_heldIntS v2013 x2002).bind fun (v2014 : Int) => cond (decide (v2014 < 0)) (some (Sum.inr (Sum.inl (-1)))) (some (Sum.inl (v2014, (IntKind.wrap .i64 (x2003 + 1)))))) (some (Sum.inr (Sum.inr x2002)))

def laws_heldIntSS_n4 (x1987 : List (List Int)) (x1988 : Int) : Option (Int ⊕ Int) :=
  nloop (fun (s : Int × Int) => ((laws_heldIntSS_n3 x1987 s.1 s.2).map (Sum.elim (fun (t : Int × Int) => Sum.inl (t.1, t.2)) (Sum.elim (fun (t : Int) => Sum.inr (Sum.inl t)) (fun (t : Int) => Sum.inr (Sum.inr t)))) : Option ((Int × Int) ⊕ (Int ⊕ Int)))) LL (x1988, 0)

def laws_heldIntSS_n5 (x1987 : List (List Int)) (x1988 : Int) : Option (Int ⊕ Int) :=
  (laws_heldIntSS_n4 x1987 x1988).map (Sum.elim (fun (t : Int) => (Sum.inr t)) (fun (t : Int) => (Sum.inl t)))

def laws_heldIntSS_n6 (x1987 : List (List Int)) (x1988 : Int) : Option (Int ⊕ Int) :=
  (laws_heldIntSS_n2).bind (fun (t : Unit) => laws_heldIntSS_n5 x1987 x1988)

def laws_heldIntSS_n7 (x2002 : Int) : Option (Int) :=
  some x2002

def laws_heldIntSS_n8 (x1987 : List (List Int)) (x1988 : Int) : Option (Int) :=
  (laws_heldIntSS_n6 x1987 x1988).bind (Sum.elim (fun (t : Int) => laws_heldIntSS_n7 t) (fun e => some ((fun (t : Int) => t) e)))

def laws_heldIntSS_n9 (x1987 : List (List Int)) (x1988 : Int) : Option (Int) :=
  (laws_heldIntSS_n1).bind (fun (t : Unit) => laws_heldIntSS_n8 x1987 x1988)

@[irreducible] def laws_heldIntSS (x1987 : List (List Int)) (x1988 : Int) : Option (Int) :=
  laws_heldIntSS_n9 x1987 x1988

def laws_heldDesk_n1 (x1948 : List Int) (x1949 : List (List Int)) (x1950 : Int) : Option (Int) :=
  (laws_heldIntS x1948 x1950).bind fun (v2027 : Int) => cond (decide (v2027 < 0)) (some (-1)) ((laws_heldIntSS x1949 v2027).bind fun (v2029 : Int) => cond (decide (v2029 < 0)) (some (-1)) (some v2029))

@[irreducible] def laws_heldDesk (x1948 : List Int) (x1949 : List (List Int)) (x1950 : Int) : Option (Int) :=
  laws_heldDesk_n1 x1948 x1949 x1950

def laws_FnExactDeskNew_n1 (x1468 : List Int) : Option (Bool) :=
  cond (decide ((((List.length x1468 : Nat) : Int)) > 1048576)) (some true) ((laws_toIntS x1468).bind fun (v2375 : List Int) => (spec_DeskNew v2375).bind fun (v2376 : Bool × (List Int)) => (laws_toIntS x1468).bind fun (v2379 : List Int) => (impl_DeskNew v2379).bind fun (v2380 : Bool × (List Int) × (List (List Int))) => (laws_eqDesk_v2 (v2380.2.1) (v2380.2.2) (v2376.2)).bind fun (v2384 : Bool) => cond (!v2384) (some false) (cond ((v2380.1) != (v2376.1)) (some false) ((laws_toIntS x1468).bind fun (v2387 : List Int) => (laws_eqIntS v2379 v2387).bind fun (v2388 : Bool) => cond (!v2388) (some false) ((laws_markIntS 1 v2379).bind fun (v2390 : Int × (List Int)) => cond (decide ((v2390.1) < 0)) (some false) ((laws_eqDesk_v2 (v2380.2.1) (v2380.2.2) (v2376.2)).bind fun (v2394 : Bool) => cond (!v2394) (some false) (cond ((v2380.1) != (v2376.1)) (some false) ((laws_markDesk 1 (v2380.2.1) (v2380.2.2)).bind fun (v2397 : Int × (List Int) × (List (List Int))) => (laws_heldDesk (v2397.2.1) (v2397.2.2) 1).bind fun (v2401 : Int) => cond (decide (v2401 < 0)) (some false) (cond (v2401 != (v2397.1)) (some false) ((laws_toIntS x1468).bind fun (v2404 : List Int) => (impl_DeskNew v2404).bind fun (v2405 : Bool × (List Int) × (List (List Int))) => (laws_eqDesk_v2 (v2405.2.1) (v2405.2.2) (v2376.2)).bind fun (v2409 : Bool) => cond (!v2409) (some false) (cond ((v2405.1) != (v2376.1)) (some false) ((laws_heldDesk (v2397.2.1) (v2397.2.2) 1).bind fun (v2412 : Int) => cond (decide (v2412 < 0)) (some false) (cond (v2412 != (v2397.1)) (some false) (some true)))))))))))))

@[irreducible] def laws_FnExactDeskNew (x1468 : List Int) : Option (Bool) :=
  laws_FnExactDeskNew_n1 x1468

end Go.Rv
