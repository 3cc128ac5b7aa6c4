/-
  Plain functions, written by program for functions of the checked code. Conditions: none.
-/
import Derived.Test.YtgjhjbankpdcgaaFB
set_option linter.unusedVariables false
namespace Go.Rv
def spec_l1In_n1 (x1281 : Int) (x1282 : Int) (x1283 : Int) : Option (Bool) :=
  cond (decide (x1281 ≥ x1282)) (some (decide (x1281 ≤ x1283))) (some false)

@[irreducible] def spec_l1In (x1281 : Int) (x1282 : Int) (x1283 : Int) : Option (Bool) :=
  spec_l1In_n1 x1281 x1282 x1283

def impl_oneRoot_n1 : Option (Unit) :=
  some ()

def impl_oneRoot_n2 (x1448 : List Int) : Option (Int) :=
  some (((List.length x1448 : Nat) : Int))

def impl_oneRoot_n3 (x1448 : List Int) (x1470 : Int) (x1449 : Int) (x1471 : Int) : Option ((Int × Int) ⊕ Bool ⊕ Int) :=
  cond (decide (x1471 < x1449)) ((idx x1448 x1471).bind fun (v1482 : Int) => cond (decide (v1482 < 0)) (some (Sum.inr (Sum.inl false))) (cond (decide (v1482 > (((List.length x1448 : Nat) : Int)))) (some (Sum.inr (Sum.inl false))) (cond (v1482 == 0) (some (Sum.inl ((IntKind.wrap .i64 (x1470 + 1)), (IntKind.wrap .i64 (x1471 + 1))))) (some (Sum.inl (x1470, (IntKind.wrap .i64 (x1471 + 1)))))))) (some (Sum.inr (Sum.inr x1470)))

def impl_oneRoot_n4 (x1448 : List Int) (x1449 : Int) : Option (Bool ⊕ Int) :=
  nloop (fun (s : Int × Int) => ((impl_oneRoot_n3 x1448 s.1 x1449 s.2).map (Sum.elim (fun (t : Int × Int) => Sum.inl (t.1, t.2)) (Sum.elim (fun (t : Bool) => Sum.inr (Sum.inl t)) (fun (t : Int) => Sum.inr (Sum.inr t)))) : Option ((Int × Int) ⊕ (Bool ⊕ Int)))) LL (0, 0)

def impl_oneRoot_n5 (x1448 : List Int) (x1449 : Int) : Option (Int ⊕ Bool) :=
  (impl_oneRoot_n4 x1448 x1449).map (Sum.elim (fun (t : Bool) => (Sum.inr t)) (fun (t : Int) => (Sum.inl t)))

def impl_oneRoot_n6 (x1448 : List Int) : Option (Int ⊕ Bool) :=
  (impl_oneRoot_n2 x1448).bind (fun (t : Int) => impl_oneRoot_n5 x1448 t)

def impl_oneRoot_n7 (x1470 : Int) : Option (Bool) :=
  some (x1470 == 1)

def impl_oneRoot_n8 (x1448 : List Int) : Option (Bool) :=
  (impl_oneRoot_n6 x1448).bind (Sum.elim (fun (t : Int) => impl_oneRoot_n7 t) (fun e => some ((fun (t : Bool) => t) e)))

def impl_oneRoot_n9 (x1448 : List Int) : Option (Bool) :=
  (impl_oneRoot_n1).bind (fun (t : Unit) => impl_oneRoot_n8 x1448)

@[irreducible] def impl_oneRoot (x1448 : List Int) : Option (Bool) :=
  impl_oneRoot_n9 x1448

def impl_walker_up_n1 (x1504 : List Int) (x1505 : Int) (x1506 : Int) : Option ((Bool × Int × Int)) :=
  (idx x1504 (IntKind.wrap .i64 (x1505 - 1))).bind fun (v1524 : Int) => cond (v1524 == 0) (some (false, x1505, x1506)) (some (true, v1524, (IntKind.wrap .i64 (x1506 + 1))))

@[irreducible] def impl_walker_up (x1504 : List Int) (x1505 : Int) (x1506 : Int) : Option (Bool × Int × Int) :=
  impl_walker_up_n1 x1504 x1505 x1506

def impl_stepsToRoot_n1 : Option (Unit) :=
  some ()

def impl_stepsToRoot_n2 (x1502 : List Int) (x1540 : Int) (x1541 : Int) : Option ((Int × Int) ⊕ (Int × Bool) ⊕ (Int × Int)) :=
  (impl_walker_up x1502 x1540 x1541).bind fun (v1546 : Bool × Int × Int) => cond (v1546.1) (cond (decide ((v1546.2.2) ≥ (((List.length x1502 : Nat) : Int)))) (some (Sum.inr (Sum.inl (0, false)))) (some (Sum.inl ((v1546.2.1), (v1546.2.2))))) (some (Sum.inr (Sum.inr ((v1546.2.1), (v1546.2.2)))))

def impl_stepsToRoot_n3 (x1502 : List Int) (x1503 : Int) : Option ((Int × Bool) ⊕ (Int × Int)) :=
  nloop (fun (s : Int × Int) => ((impl_stepsToRoot_n2 x1502 s.1 s.2).map (Sum.elim (fun (t : Int × Int) => Sum.inl (t.1, t.2)) (Sum.elim (fun (t : Int × Bool) => Sum.inr (Sum.inl t)) (fun (t : Int × Int) => Sum.inr (Sum.inr t)))) : Option ((Int × Int) ⊕ ((Int × Bool) ⊕ (Int × Int))))) LL (x1503, 0)

def impl_stepsToRoot_n4 (x1502 : List Int) (x1503 : Int) : Option ((Int × Int) ⊕ (Int × Bool)) :=
  (impl_stepsToRoot_n3 x1502 x1503).map (Sum.elim (fun (t : Int × Bool) => (Sum.inr t)) (fun (t : Int × Int) => (Sum.inl (t.1, t.2))))

def impl_stepsToRoot_n5 (x1549 : Int) : Option ((Int × Bool)) :=
  some (x1549, true)

def impl_stepsToRoot_n6 (x1502 : List Int) (x1503 : Int) : Option ((Int × Bool)) :=
  (impl_stepsToRoot_n4 x1502 x1503).bind (Sum.elim (fun (t : Int × Int) => impl_stepsToRoot_n5 t.2) (fun e => some ((fun (t : Int × Bool) => t) e)))

def impl_stepsToRoot_n7 (x1502 : List Int) (x1503 : Int) : Option ((Int × Bool)) :=
  (impl_stepsToRoot_n1).bind (fun (t : Unit) => impl_stepsToRoot_n6 x1502 x1503)

@[irreducible] def impl_stepsToRoot (x1502 : List Int) (x1503 : Int) : Option (Int × Bool) :=
  impl_stepsToRoot_n7 x1502 x1503

def impl_TreeOk_n1 (x1443 : List Int) : Option (Unit ⊕ Bool) :=
  cond (decide ((((List.length x1443 : Nat) : Int)) < 1)) (some (Sum.inr false)) (cond (decide ((((List.length x1443 : Nat) : Int)) > 8)) (some (Sum.inr false)) ((impl_oneRoot x1443).bind fun (v1495 : Bool) => cond (!v1495) (some (Sum.inr false)) (some (Sum.inl ()))))

def impl_TreeOk_n2 (x1443 : List Int) : Option (Int) :=
  some (((List.length x1443 : Nat) : Int))

def impl_TreeOk_n3 (x1443 : List Int) (x1497 : Int) (x1565 : Int) : Option (Int ⊕ Bool ⊕ Unit) :=
  cond (decide (x1565 < x1497)) ((impl_stepsToRoot x1443 (IntKind.wrap .i64 (x1565 + 1))).bind fun (v1576 : Int × Bool) => cond (!(v1576.2)) (some (Sum.inr (Sum.inl false))) (some (Sum.inl (IntKind.wrap .i64 (x1565 + 1))))) (some (Sum.inr (Sum.inr ())))

def impl_TreeOk_n4 (x1443 : List Int) (x1497 : Int) : Option (Bool ⊕ Unit) :=
  nloop (fun (s : Int) => ((impl_TreeOk_n3 x1443 x1497 s).map (Sum.elim (fun (t : Int) => Sum.inl t) (Sum.elim (fun (t : Bool) => Sum.inr (Sum.inl t)) (fun (t : Unit) => Sum.inr (Sum.inr t)))) : Option ((Int) ⊕ (Bool ⊕ Unit)))) LL 0

def impl_TreeOk_n5 (x1443 : List Int) (x1497 : Int) : Option (Unit ⊕ Bool) :=
  (impl_TreeOk_n4 x1443 x1497).map (Sum.elim (fun (t : Bool) => (Sum.inr t)) (fun (t : Unit) => (Sum.inl ())))

def impl_TreeOk_n6 (x1443 : List Int) : Option (Unit ⊕ Bool) :=
  (impl_TreeOk_n2 x1443).bind (fun (t : Int) => impl_TreeOk_n5 x1443 t)

def impl_TreeOk_n7 : Option (Bool) :=
  some true

def impl_TreeOk_n8 (x1443 : List Int) : Option (Bool) :=
  (impl_TreeOk_n6 x1443).bind (Sum.elim (fun (t : Unit) => impl_TreeOk_n7) (fun e => some ((fun (t : Bool) => t) e)))

def impl_TreeOk_n9 (x1443 : List Int) : Option (Bool) :=
  (impl_TreeOk_n1 x1443).bind (Sum.elim (fun (t : Unit) => impl_TreeOk_n8 x1443) (fun e => some ((fun (t : Bool) => t) e)))

@[irreducible] def impl_TreeOk (x1443 : List Int) : Option (Bool) :=
  impl_TreeOk_n9 x1443

def laws_toIntS_n1 (x2238 : List Int) : Option (((List Int))) :=
  (mk (((List.length x2238 : Nat) : Int)) (((List.length x2238 : Nat) : Int))).bind fun (v2240 : Nat) => some (List.replicate v2240 (0 : Int))

def laws_toIntS_n2 : Option (Unit) :=
  some ()

def laws_toIntS_n3 (x2238 : List Int) (x2255 : Int) (x2256 : List Int) : Option ((Int × (List Int)) ⊕ ((List Int))) :=
  cond (decide (x2255 < (((List.length x2238 : Nat) : Int)))) ((idx x2238 x2255).bind fun (v2266 : Int) => (inb x2255 (List.length x2256)).bind fun (v2267 : Nat) => some (Sum.inl ((IntKind.wrap .i64 (x2255 + 1)), (x2256.set v2267 v2266)))) (some (Sum.inr x2256))

def laws_toIntS_n4 (x2238 : List Int) (x2241 : List Int) : Option (((List Int))) :=
  nloop (fun (s : Int × (List Int)) => ((laws_toIntS_n3 x2238 s.1 s.2).map (Sum.elim (fun (t : Int × (List Int)) => Sum.inl (t.1, t.2)) (fun (t : (List Int)) => Sum.inr t)) : Option ((Int × (List Int)) ⊕ (((List Int)))))) LL (0, x2241)

def laws_toIntS_n5 (x2238 : List Int) (x2241 : List Int) : Option (((List Int))) :=
  (laws_toIntS_n4 x2238 x2241).map (fun (t : (List Int)) => t)

def laws_toIntS_n6 (x2238 : List Int) (x2241 : List Int) : Option (((List Int))) :=
  (laws_toIntS_n2).bind (fun (t : Unit) => laws_toIntS_n5 x2238 x2241)

def laws_toIntS_n7 (x2256 : List Int) : Option (((List Int))) :=
  some x2256

def laws_toIntS_n8 (x2238 : List Int) (x2241 : List Int) : Option (((List Int))) :=
  (laws_toIntS_n6 x2238 x2241).bind (fun (t : (List Int)) => laws_toIntS_n7 t)

def laws_toIntS_n9 (x2238 : List Int) : Option (((List Int))) :=
  (laws_toIntS_n1 x2238).bind (fun (t : (List Int)) => laws_toIntS_n8 x2238 t)

@[irreducible] def laws_toIntS (x2238 : List Int) : Option ((List Int)) :=
  laws_toIntS_n9 x2238

def spec_TreeOk_n1 (x2273 : List Int) : Option (Int ⊕ Bool) :=
  (spec_l1In (((List.length x2273 : Nat) : Int)) 1 8).bind fun (v2279 : Bool) => cond (!v2279) (some (Sum.inr false)) (some (Sum.inl (((List.length x2273 : Nat) : Int))))

def spec_TreeOk_n2 : Option (Unit) :=
  some ()

def spec_TreeOk_n3 (x2278 : Int) (x2345 : Int) (x2346 : Int) : Option (Unit ⊕ Int) :=
  cond (decide (x2346 < x2278)) (some (Sum.inl ())) (some (Sum.inr x2345))

def spec_TreeOk_n4 (x2273 : List Int) (x2278 : Int) (x2345 : Int) (x2346 : Int) : Option ((Int × Int) ⊕ Bool) :=
  (idx x2273 x2346).bind fun (v2363 : Int) => (spec_l1In v2363 0 x2278).bind fun (v2364 : Bool) => cond (!v2364) (some (Sum.inr false)) ((idx x2273 x2346).bind fun (v2366 : Int) => cond (v2366 == (IntKind.wrap .i64 (x2346 + 1))) (some (Sum.inr false)) ((idx x2273 x2346).bind fun (v2369 : Int) => cond (v2369 == 0) (some (Sum.inl ((IntKind.wrap .i64 (x2345 + 1)), (IntKind.wrap .i64 (x2346 + 1))))) (some (Sum.inl (x2345, (IntKind.wrap .i64 (x2346 + 1)))))))

def spec_TreeOk_n5 : Option (Unit) :=
  some ()

def spec_TreeOk_n6 (x2273 : List Int) (x2278 : Int) (x2391 : Int) (x2392 : Int) : Option ((Int × Int) ⊕ Bool ⊕ Int) :=
  cond (decide (x2391 > 0)) (cond (decide (x2392 < x2278)) ((idx x2273 (IntKind.wrap .i64 (x2391 - 1))).bind fun (v2404 : Int) => (spec_l1In v2404 0 x2278).bind fun (v2405 : Bool) => cond (!v2405) (some (Sum.inr (Sum.inl false))) (some (Sum.inl (v2404, (IntKind.wrap .i64 (x2392 + 1)))))) (some (Sum.inr (Sum.inr x2391)))) (some (Sum.inr (Sum.inr x2391)))

def spec_TreeOk_n7 (x2273 : List Int) (x2278 : Int) (x2375 : Int) : Option (Bool ⊕ Int) :=
  nloop (fun (s : Int × Int) => ((spec_TreeOk_n6 x2273 x2278 s.1 s.2).map (Sum.elim (fun (t : Int × Int) => Sum.inl (t.1, t.2)) (Sum.elim (fun (t : Bool) => Sum.inr (Sum.inl t)) (fun (t : Int) => Sum.inr (Sum.inr t)))) : Option ((Int × Int) ⊕ (Bool ⊕ Int)))) LL (x2375, 0)

def spec_TreeOk_n8 (x2273 : List Int) (x2278 : Int) (x2375 : Int) : Option (Int ⊕ Bool) :=
  (spec_TreeOk_n7 x2273 x2278 x2375).map (Sum.elim (fun (t : Bool) => (Sum.inr t)) (fun (t : Int) => (Sum.inl t)))

def spec_TreeOk_n9 (x2273 : List Int) (x2278 : Int) (x2375 : Int) : Option (Int ⊕ Bool) :=
  (spec_TreeOk_n5).bind (fun (t : Unit) => spec_TreeOk_n8 x2273 x2278 x2375)

def spec_TreeOk_n10 (x2391 : Int) : Option (Unit ⊕ Bool) :=
  cond (decide (x2391 > 0)) (some (Sum.inr false)) (some (Sum.inl ()))

def spec_TreeOk_n11 (x2273 : List Int) (x2278 : Int) (x2375 : Int) : Option (Unit ⊕ Bool) :=
  (spec_TreeOk_n9 x2273 x2278 x2375).bind (Sum.elim (fun (t : Int) => spec_TreeOk_n10 t) (fun e => some ((fun (t : Bool) => (Sum.inr t)) e)))

def spec_TreeOk_n12 (x2273 : List Int) (x2278 : Int) (x2345 : Int) (x2346 : Int) : Option (Int ⊕ Bool) :=
  (spec_TreeOk_n4 x2273 x2278 x2345 x2346).bind (Sum.elim (fun (t : Int × Int) => (spec_TreeOk_n11 x2273 x2278 t.2).map (Sum.elim (fun (u : Unit) => (Sum.inl t.1)) (fun (u : Bool) => (Sum.inr u)))) (fun e => some ((fun (t : Bool) => (Sum.inr t)) e)))

def spec_TreeOk_n13 (x2273 : List Int) (x2278 : Int) (x2345 : Int) (x2346 : Int) : Option (Int ⊕ Bool) :=
  (spec_TreeOk_n12 x2273 x2278 x2345 x2346).map (Sum.elim (fun (t : Int) => (Sum.inl t)) (fun (t : Bool) => (Sum.inr t)))

def spec_TreeOk_n14 (x2346 : Int) : Option (Int) :=
  some (IntKind.wrap .i64 (x2346 + 1))

def spec_TreeOk_n15 (x2273 : List Int) (x2278 : Int) (x2345 : Int) (x2346 : Int) : Option ((Int × Int) ⊕ Bool) :=
  (spec_TreeOk_n13 x2273 x2278 x2345 x2346).bind (Sum.elim (fun (t : Int) => (spec_TreeOk_n14 x2346).map (fun (u : Int) => (Sum.inl (t, u)))) (fun e => some ((fun (t : Bool) => (Sum.inr t)) e)))

def spec_TreeOk_n16 (x2273 : List Int) (x2278 : Int) (x2345 : Int) (x2346 : Int) : Option ((Int × Int) ⊕ Bool ⊕ Int) :=
  (spec_TreeOk_n3 x2278 x2345 x2346).bind (Sum.elim (fun (t : Unit) => (spec_TreeOk_n15 x2273 x2278 x2345 x2346).map (Sum.elim (fun (t : Int × Int) => (Sum.inl (t.1, t.2))) (fun (t : Bool) => (Sum.inr (Sum.inl t))))) (fun e => some ((fun (t : Int) => (Sum.inr (Sum.inr t))) e)))

def spec_TreeOk_n17 (x2273 : List Int) (x2278 : Int) : Option (Bool ⊕ Int) :=
  nloop (fun (s : Int × Int) => ((spec_TreeOk_n16 x2273 x2278 s.1 s.2).map (Sum.elim (fun (t : Int × Int) => Sum.inl (t.1, t.2)) (Sum.elim (fun (t : Bool) => Sum.inr (Sum.inl t)) (fun (t : Int) => Sum.inr (Sum.inr t)))) : Option ((Int × Int) ⊕ (Bool ⊕ Int)))) LL (0, 0)

def spec_TreeOk_n18 (x2273 : List Int) (x2278 : Int) : Option (Int ⊕ Bool) :=
  (spec_TreeOk_n17 x2273 x2278).map (Sum.elim (fun (t : Bool) => (Sum.inr t)) (fun (t : Int) => (Sum.inl t)))

def spec_TreeOk_n19 (x2273 : List Int) (x2278 : Int) : Option (Int ⊕ Bool) :=
  (spec_TreeOk_n2).bind (fun (t : Unit) => spec_TreeOk_n18 x2273 x2278)

def spec_TreeOk_n20 (x2345 : Int) : Option (Bool) :=
  some (x2345 == 1)

def spec_TreeOk_n21 (x2273 : List Int) (x2278 : Int) : Option (Bool) :=
  (spec_TreeOk_n19 x2273 x2278).bind (Sum.elim (fun (t : Int) => spec_TreeOk_n20 t) (fun e => some ((fun (t : Bool) => t) e)))

def spec_TreeOk_n22 (x2273 : List Int) : Option (Bool) :=
  (spec_TreeOk_n1 x2273).bind (Sum.elim (fun (t : Int) => spec_TreeOk_n21 x2273 t) (fun e => some ((fun (t : Bool) => t) e)))

@[irreducible] def spec_TreeOk (x2273 : List Int) : Option (Bool) :=
  spec_TreeOk_n22 x2273

def spec_SidesOf_n1 (x2271 : List Int) (x2272 : Int) : Option (Unit ⊕ (Int × Int × Bool)) :=
  (spec_TreeOk x2271).bind fun (v2424 : Bool) => cond (!v2424) (some (Sum.inr ((-1), (-1), false))) ((spec_l1In x2272 1 (((List.length x2271 : Nat) : Int))).bind fun (v2427 : Bool) => cond (!v2427) (some (Sum.inr ((-1), (-1), false))) (some (Sum.inl ())))

def spec_SidesOf_n2 : Option (Unit) :=
  some ()

def spec_SidesOf_n3 (x2271 : List Int) (x2272 : Int) (x2487 : Int) (x2488 : Int) (x2489 : Int) : Option ((Int × Int × Int) ⊕ (Int × Int)) :=
  cond (decide (x2489 < (((List.length x2271 : Nat) : Int)))) ((idx x2271 x2489).bind fun (v2516 : Int) => cond (v2516 == x2272) (cond (decide ((IntKind.wrap .i64 (x2489 + 1)) < x2272)) ((idx x2271 x2489).bind fun (v2521 : Int) => cond (v2521 == x2272) (cond (decide ((IntKind.wrap .i64 (x2489 + 1)) > x2272)) (some (Sum.inl ((IntKind.wrap .i64 (x2487 + 1)), (IntKind.wrap .i64 (x2488 + 1)), (IntKind.wrap .i64 (x2489 + 1))))) (some (Sum.inl ((IntKind.wrap .i64 (x2487 + 1)), x2488, (IntKind.wrap .i64 (x2489 + 1)))))) (some (Sum.inl ((IntKind.wrap .i64 (x2487 + 1)), x2488, (IntKind.wrap .i64 (x2489 + 1)))))) ((idx x2271 x2489).bind fun (v2529 : Int) => cond (v2529 == x2272) (cond (decide ((IntKind.wrap .i64 (x2489 + 1)) > x2272)) (some (Sum.inl (x2487, (IntKind.wrap .i64 (x2488 + 1)), (IntKind.wrap .i64 (x2489 + 1))))) (some (Sum.inl (x2487, x2488, (IntKind.wrap .i64 (x2489 + 1)))))) (some (Sum.inl (x2487, x2488, (IntKind.wrap .i64 (x2489 + 1))))))) ((idx x2271 x2489).bind fun (v2537 : Int) => cond (v2537 == x2272) (cond (decide ((IntKind.wrap .i64 (x2489 + 1)) > x2272)) (some (Sum.inl (x2487, (IntKind.wrap .i64 (x2488 + 1)), (IntKind.wrap .i64 (x2489 + 1))))) (some (Sum.inl (x2487, x2488, (IntKind.wrap .i64 (x2489 + 1)))))) (some (Sum.inl (x2487, x2488, (IntKind.wrap .i64 (x2489 + 1))))))) (some (Sum.inr (x2487, x2488)))

def spec_SidesOf_n4 (x2271 : List Int) (x2272 : Int) : Option ((Int × Int)) :=
  nloop (fun (s : Int × Int × Int) => ((spec_SidesOf_n3 x2271 x2272 s.1 s.2.1 s.2.2).map (Sum.elim (fun (t : Int × Int × Int) => Sum.inl (t.1, t.2.1, t.2.2)) (fun (t : Int × Int) => Sum.inr t)) : Option ((Int × Int × Int) ⊕ ((Int × Int))))) LL (0, 0, 0)

def spec_SidesOf_n5 (x2271 : List Int) (x2272 : Int) : Option ((Int × Int)) :=
  (spec_SidesOf_n4 x2271 x2272).map (fun (t : Int × Int) => (t.1, t.2))

def spec_SidesOf_n6 (x2271 : List Int) (x2272 : Int) : Option ((Int × Int)) :=
  (spec_SidesOf_n2).bind (fun (t : Unit) => spec_SidesOf_n5 x2271 x2272)

def spec_SidesOf_n7 (x2487 : Int) (x2488 : Int) : Option ((Int × Int × Bool)) :=
  some (x2487, x2488, true)

def spec_SidesOf_n8 (x2271 : List Int) (x2272 : Int) : Option ((Int × Int × Bool)) :=
  (spec_SidesOf_n6 x2271 x2272).bind (fun (t : Int × Int) => spec_SidesOf_n7 t.1 t.2)

def spec_SidesOf_n9 (x2271 : List Int) (x2272 : Int) : Option ((Int × Int × Bool)) :=
  (spec_SidesOf_n1 x2271 x2272).bind (Sum.elim (fun (t : Unit) => spec_SidesOf_n8 x2271 x2272) (fun e => some ((fun (t : Int × Int × Bool) => t) e)))

@[irreducible] def spec_SidesOf (x2271 : List Int) (x2272 : Int) : Option (Int × Int × Bool) :=
  spec_SidesOf_n9 x2271 x2272

def impl_wordOk_n1 (x2573 : List Int) (x2574 : Int) : Option (Bool) :=
  (impl_TreeOk x2573).bind fun (v2579 : Bool) => cond v2579 (cond (decide (x2574 ≥ 1)) (some (decide (x2574 ≤ (((List.length x2573 : Nat) : Int))))) (some false)) (some false)

@[irreducible] def impl_wordOk (x2573 : List Int) (x2574 : Int) : Option (Bool) :=
  impl_wordOk_n1 x2573 x2574

def impl_only_n1 (x2599 : Int) : Option (Int) :=
  (shl .u64 1 (IntKind.wrap .i64 (x2599 - 1))).bind fun (v2603 : Int) => some v2603

@[irreducible] def impl_only (x2599 : Int) : Option (Int) :=
  impl_only_n1 x2599

def impl_dependents_n1 : Option (Unit) :=
  some ()

def impl_dependents_n2 (x2590 : List Int) : Option (Int) :=
  some (((List.length x2590 : Nat) : Int))

def impl_dependents_n3 (x2590 : List Int) (x2591 : Int) (x2616 : Int) (x2592 : Int) (x2617 : Int) : Option ((Int × Int) ⊕ Int) :=
  cond (decide (x2617 < x2592)) ((idx x2590 x2617).bind fun (v2627 : Int) => cond (v2627 == x2591) ((impl_only (IntKind.wrap .i64 (x2617 + 1))).bind fun (v2630 : Int) => some (Sum.inl ((ior .u64 x2616 v2630), (IntKind.wrap .i64 (x2617 + 1))))) (some (Sum.inl (x2616, (IntKind.wrap .i64 (x2617 + 1)))))) (some (Sum.inr x2616))

def impl_dependents_n4 (x2590 : List Int) (x2591 : Int) (x2592 : Int) : Option (Int) :=
  nloop (fun (s : Int × Int) => ((impl_dependents_n3 x2590 x2591 s.1 x2592 s.2).map (Sum.elim (fun (t : Int × Int) => Sum.inl (t.1, t.2)) (fun (t : Int) => Sum.inr t)) : Option ((Int × Int) ⊕ (Int)))) LL (0, 0)

def impl_dependents_n5 (x2590 : List Int) (x2591 : Int) (x2592 : Int) : Option (Int) :=
  (impl_dependents_n4 x2590 x2591 x2592).map (fun (t : Int) => t)

def impl_dependents_n6 (x2590 : List Int) (x2591 : Int) : Option (Int) :=
  (impl_dependents_n2 x2590).bind (fun (t : Int) => impl_dependents_n5 x2590 x2591 t)

def impl_dependents_n7 (x2616 : Int) : Option (Int) :=
  some x2616

def impl_dependents_n8 (x2590 : List Int) (x2591 : Int) : Option (Int) :=
  (impl_dependents_n6 x2590 x2591).bind (fun (t : Int) => impl_dependents_n7 t)

def impl_dependents_n9 (x2590 : List Int) (x2591 : Int) : Option (Int) :=
  (impl_dependents_n1).bind (fun (t : Unit) => impl_dependents_n8 x2590 x2591)

@[irreducible] def impl_dependents (x2590 : List Int) (x2591 : Int) : Option (Int) :=
  impl_dependents_n9 x2590 x2591

def impl_before_n1 (x2638 : Int) : Option (Int) :=
  (impl_only x2638).bind fun (v2641 : Int) => some (IntKind.wrap .u64 (v2641 - 1))

@[irreducible] def impl_before (x2638 : Int) : Option (Int) :=
  impl_before_n1 x2638

def impl_dependentsBeside_n1 (x2588 : List Int) (x2589 : Int) : Option ((Int × Int)) :=
  (impl_dependents x2588 x2589).bind fun (v2647 : Int) => (impl_before x2589).bind fun (v2648 : Int) => (impl_before x2589).bind fun (v2650 : Int) => some ((iand .u64 v2647 v2648), (iandn .u64 v2647 v2650))

@[irreducible] def impl_dependentsBeside (x2588 : List Int) (x2589 : Int) : Option (Int × Int) :=
  impl_dependentsBeside_n1 x2588 x2589

def math_bits_OnesCount64_n1 (x2662 : Int) : Option (Int) :=
  (shr .u64 x2662 1).bind fun (v2663 : Int) => some (IntKind.wrap .u64 ((iand .u64 v2663 6148914691236517205) + (iand .u64 x2662 6148914691236517205)))

def math_bits_OnesCount64_n2 (x2667 : Int) : Option (Int) :=
  (shr .u64 x2667 2).bind fun (v2681 : Int) => some (IntKind.wrap .u64 ((iand .u64 v2681 3689348814741910323) + (iand .u64 x2667 3689348814741910323)))

def math_bits_OnesCount64_n3 (x2684 : Int) : Option (Int) :=
  (shr .u64 x2684 4).bind fun (v2690 : Int) => some (iand .u64 (IntKind.wrap .u64 (v2690 + x2684)) 1085102592571150095)

def math_bits_OnesCount64_n4 (x2692 : Int) : Option (Int) :=
  (shr .u64 x2692 8).bind fun (v2695 : Int) => some (IntKind.wrap .u64 (x2692 + v2695))

def math_bits_OnesCount64_n5 (x2696 : Int) : Option (Int) :=
  (shr .u64 x2696 16).bind fun (v2700 : Int) => some (IntKind.wrap .u64 (x2696 + v2700))

def math_bits_OnesCount64_n6 (x2701 : Int) : Option (Int) :=
  (shr .u64 x2701 32).bind fun (v2705 : Int) => some (IntKind.wrap .u64 (x2701 + v2705))

def math_bits_OnesCount64_n7 (x2706 : Int) : Option (Int) :=
  some (iand .i64 (IntKind.wrap .i64 x2706) 127)

def math_bits_OnesCount64_n8 (x2711 : Int) : Option (Int) :=
  some x2711

def math_bits_OnesCount64_n9 (x2706 : Int) : Option (Int) :=
  (math_bits_OnesCount64_n7 x2706).bind (fun (t : Int) => math_bits_OnesCount64_n8 t)

def math_bits_OnesCount64_n10 (x2701 : Int) : Option (Int) :=
  (math_bits_OnesCount64_n6 x2701).bind (fun (t : Int) => math_bits_OnesCount64_n9 t)

def math_bits_OnesCount64_n11 (x2696 : Int) : Option (Int) :=
  (math_bits_OnesCount64_n5 x2696).bind (fun (t : Int) => math_bits_OnesCount64_n10 t)

def math_bits_OnesCount64_n12 (x2692 : Int) : Option (Int) :=
  (math_bits_OnesCount64_n4 x2692).bind (fun (t : Int) => math_bits_OnesCount64_n11 t)

def math_bits_OnesCount64_n13 (x2684 : Int) : Option (Int) :=
  (math_bits_OnesCount64_n3 x2684).bind (fun (t : Int) => math_bits_OnesCount64_n12 t)

def math_bits_OnesCount64_n14 (x2667 : Int) : Option (Int) :=
  (math_bits_OnesCount64_n2 x2667).bind (fun (t : Int) => math_bits_OnesCount64_n13 t)

def math_bits_OnesCount64_n15 (x2662 : Int) : Option (Int) :=
  (math_bits_OnesCount64_n1 x2662).bind (fun (t : Int) => math_bits_OnesCount64_n14 t)

@[irreducible] def math_bits_OnesCount64 (x2662 : Int) : Option (Int) :=
  math_bits_OnesCount64_n15 x2662

def math_bits_OnesCount_n1 (x2661 : Int) : Option (Int) :=
  (math_bits_OnesCount64 x2661).bind fun (v2713 : Int) => some v2713

@[irreducible] def math_bits_OnesCount (x2661 : Int) : Option (Int) :=
  math_bits_OnesCount_n1 x2661

def impl_wordSet_count_n1 (x2660 : Int) : Option (Int) :=
  (math_bits_OnesCount x2660).bind fun (v2715 : Int) => some v2715

@[irreducible] def impl_wordSet_count (x2660 : Int) : Option (Int) :=
  impl_wordSet_count_n1 x2660

def impl_SidesOf_n1 (x2571 : List Int) (x2572 : Int) : Option ((Int × Int × Bool)) :=
  (impl_wordOk x2571 x2572).bind fun (v2718 : Bool) => cond (!v2718) (some ((-1), (-1), false)) ((impl_dependentsBeside x2571 x2572).bind fun (v2720 : Int × Int) => (impl_wordSet_count (v2720.1)).bind fun (v2723 : Int) => (impl_wordSet_count (v2720.2)).bind fun (v2724 : Int) => some (v2723, v2724, true))

@[irreducible] def impl_SidesOf (x2571 : List Int) (x2572 : Int) : Option (Int × Int × Bool) :=
  impl_SidesOf_n1 x2571 x2572

def laws_eqIntS_n1 (x2763 : List Int) (x2764 : List Int) : Option (Unit ⊕ Bool) :=
  cond ((((List.length x2763 : Nat) : Int)) != (((List.length x2764 : Nat) : Int))) (some (Sum.inr false)) (some (Sum.inl ()))

def laws_eqIntS_n2 : Option (Unit) :=
  some ()

def laws_eqIntS_n3 (x2763 : List Int) (x2764 : List Int) (x2781 : Int) : Option (Int ⊕ Bool ⊕ Unit) :=
  cond (decide (x2781 < (((List.length x2763 : Nat) : Int)))) ((idx x2763 x2781).bind fun (v2791 : Int) => (idx x2764 x2781).bind fun (v2792 : Int) => cond (v2791 != v2792) (some (Sum.inr (Sum.inl false))) (some (Sum.inl (IntKind.wrap .i64 (x2781 + 1))))) (some (Sum.inr (Sum.inr ())))

def laws_eqIntS_n4 (x2763 : List Int) (x2764 : List Int) : Option (Bool ⊕ Unit) :=
  nloop (fun (s : Int) => ((laws_eqIntS_n3 x2763 x2764 s).map (Sum.elim (fun (t : Int) => Sum.inl t) (Sum.elim (fun (t : Bool) => Sum.inr (Sum.inl t)) (fun (t : Unit) => Sum.inr (Sum.inr t)))) : Option ((Int) ⊕ (Bool ⊕ Unit)))) LL 0

def laws_eqIntS_n5 (x2763 : List Int) (x2764 : List Int) : Option (Unit ⊕ Bool) :=
  (laws_eqIntS_n4 x2763 x2764).map (Sum.elim (fun (t : Bool) => (Sum.inr t)) (fun (t : Unit) => (Sum.inl ())))

def laws_eqIntS_n6 (x2763 : List Int) (x2764 : List Int) : Option (Unit ⊕ Bool) :=
  (laws_eqIntS_n2).bind (fun (t : Unit) => laws_eqIntS_n5 x2763 x2764)

def laws_eqIntS_n7 : Option (Bool) :=
  some true

def laws_eqIntS_n8 (x2763 : List Int) (x2764 : List Int) : Option (Bool) :=
  (laws_eqIntS_n6 x2763 x2764).bind (Sum.elim (fun (t : Unit) => laws_eqIntS_n7) (fun e => some ((fun (t : Bool) => t) e)))

def laws_eqIntS_n9 (x2763 : List Int) (x2764 : List Int) : Option (Bool) :=
  (laws_eqIntS_n1 x2763 x2764).bind (Sum.elim (fun (t : Unit) => laws_eqIntS_n8 x2763 x2764) (fun e => some ((fun (t : Bool) => t) e)))

@[irreducible] def laws_eqIntS (x2763 : List Int) (x2764 : List Int) : Option (Bool) :=
  laws_eqIntS_n9 x2763 x2764

def laws_FnExactSidesOf_n1 (x2232 : List Int) (x2233 : Int) : Option (Bool) :=
  cond (decide ((((List.length x2232 : Nat) : Int)) > 1048576)) (some true) ((laws_toIntS x2232).bind fun (v2818 : List Int) => (spec_SidesOf v2818 x2233).bind fun (v2819 : Int × Int × Bool) => (laws_toIntS x2232).bind fun (v2823 : List Int) => (impl_SidesOf v2823 x2233).bind fun (v2824 : Int × Int × Bool) => cond ((v2824.1) != (v2819.1)) (some false) (cond ((v2824.2.1) != (v2819.2.1)) (some false) (cond ((v2824.2.2) != (v2819.2.2)) (some false) ((laws_toIntS x2232).bind fun (v2831 : List Int) => (laws_eqIntS v2823 v2831).bind fun (v2832 : Bool) => cond (!v2832) (some false) (some true)))))

@[irreducible] def laws_FnExactSidesOf (x2232 : List Int) (x2233 : Int) : Option (Bool) :=
  laws_FnExactSidesOf_n1 x2232 x2233

end Go.Rv
