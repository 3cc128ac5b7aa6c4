/-
  Plain functions, written by program for functions of the checked code. Conditions: none.
-/
import Derived.Test.YtihgceegapfngabFB
set_option linter.unusedVariables false
namespace Go.Rv
def spec_l20Open_n1 (x1861 : List Int) : Option (((List Int))) :=
  cond (decide ((((List.length x1861 : Nat) : Int)) > 2000)) ((inc 2000 (List.length x1861)).bind fun (v1875 : Nat) => some ((x1861.take v1875).drop 0)) (some x1861)

@[irreducible] def spec_l20Open (x1861 : List Int) : Option ((List Int)) :=
  spec_l20Open_n1 x1861

def spec_l20Rd_pick_n1 (x1888 : Int) (x1889 : List Int) (x1890 : Int) : Option ((Int × Int)) :=
  cond (decide (x1888 < 1)) (some (0, (IntKind.wrap .i64 (x1890 + 1)))) (cond ((((List.length x1889 : Nat) : Int)) == 0) (some (0, (IntKind.wrap .i64 (x1890 + 1)))) (cond (decide ((IntKind.wrap .i64 ((IntKind.wrap .i64 (x1890 + 1)) - 1)) < (((List.length x1889 : Nat) : Int)))) ((idx x1889 (IntKind.wrap .i64 ((IntKind.wrap .i64 (x1890 + 1)) - 1))).bind fun (v2010 : Int) => (rem (IntKind.wrap .i64 v2010) x1888).bind fun (v2012 : Int) => some (v2012, (IntKind.wrap .i64 (x1890 + 1)))) ((rem (IntKind.wrap .i64 ((IntKind.wrap .i64 (x1890 + 1)) - 1)) (((List.length x1889 : Nat) : Int))).bind fun (v2014 : Int) => (idx x1889 v2014).bind fun (v2015 : Int) => (rem (IntKind.wrap .i64 ((IntKind.wrap .i64 ((IntKind.wrap .i64 ((IntKind.wrap .i64 (x1890 + 1)) - 1)) * 7)) + 3)) (((List.length x1889 : Nat) : Int))).bind fun (v2021 : Int) => (idx x1889 v2021).bind fun (v2022 : Int) => (quo .i64 (IntKind.wrap .i64 ((IntKind.wrap .i64 (x1890 + 1)) - 1)) (((List.length x1889 : Nat) : Int))).bind fun (v2029 : Int) => (quo .i64 (IntKind.wrap .i64 ((IntKind.wrap .i64 ((IntKind.wrap .i64 ((IntKind.wrap .i64 ((IntKind.wrap .i64 v2015) * 131)) + (IntKind.wrap .i64 ((IntKind.wrap .i64 v2022) * 1117)))) + (IntKind.wrap .i64 ((IntKind.wrap .i64 ((IntKind.wrap .i64 (x1890 + 1)) - 1)) * 29)))) + (IntKind.wrap .i64 (v2029 * 53)))) 64).bind fun (v2032 : Int) => (rem (ixor .i64 (IntKind.wrap .i64 ((IntKind.wrap .i64 ((IntKind.wrap .i64 ((IntKind.wrap .i64 ((IntKind.wrap .i64 v2015) * 131)) + (IntKind.wrap .i64 ((IntKind.wrap .i64 v2022) * 1117)))) + (IntKind.wrap .i64 ((IntKind.wrap .i64 ((IntKind.wrap .i64 (x1890 + 1)) - 1)) * 29)))) + (IntKind.wrap .i64 (v2029 * 53)))) v2032) x1888).bind fun (v2034 : Int) => some (v2034, (IntKind.wrap .i64 (x1890 + 1))))))

@[irreducible] def spec_l20Rd_pick (x1888 : Int) (x1889 : List Int) (x1890 : Int) : Option (Int × Int) :=
  spec_l20Rd_pick_n1 x1888 x1889 x1890

def spec_l20Order_n1 (x2045 : List Int) (x2046 : Int) : Option ((Int × Int)) :=
  (spec_l20Rd_pick 2 x2045 x2046).bind fun (v2047 : Int × Int) => some ((v2047.1), (v2047.2))

def spec_l20Order_n2 : Option (Unit) :=
  some ()

def spec_l20Order_n3 (x2044 : Int) (x2048 : Int) (x2191 : Int) (x2045 : List Int) (x2192 : Int) (x2193 : List Int) : Option ((Int × Int × (List Int)) ⊕ (Int × (List Int))) :=
  cond (decide (x2191 ≤ x2044)) (cond (x2048 == 0) ((spec_l20Rd_pick x2191 x2045 x2192).bind fun (v2265 : Int × Int) => (inc (v2265.1) (List.length x2193)).bind fun (v2269 : Nat) => (room ((List.length ([] : List Int)) + List.length ((x2193.drop 0).take (v2269 - 0)))).bind fun (v2273 : Unit) => (room ((List.length (([] : List Int) ++ ((x2193.drop 0).take (v2269 - 0)))) + List.length ([x2191]))).bind fun (v2277 : Unit) => (inc (v2265.1) (List.length x2193)).bind fun (v2280 : Nat) => (room ((List.length ((([] : List Int) ++ ((x2193.drop 0).take (v2269 - 0))) ++ ([x2191]))) + List.length ((x2193.drop v2280).take ((List.length x2193) - v2280)))).bind fun (v2284 : Unit) => some (Sum.inl ((IntKind.wrap .i64 (x2191 + 1)), (v2265.2), (((([] : List Int) ++ ((x2193.drop 0).take (v2269 - 0))) ++ ([x2191])) ++ ((x2193.drop v2280).take ((List.length x2193) - v2280)))))) ((spec_l20Rd_pick 3 x2045 x2192).bind fun (v2287 : Int × Int) => cond ((v2287.1) == 0) ((spec_l20Rd_pick x2191 x2045 (v2287.2)).bind fun (v2291 : Int × Int) => (inc (v2291.1) (List.length x2193)).bind fun (v2295 : Nat) => (room ((List.length ([] : List Int)) + List.length ((x2193.drop 0).take (v2295 - 0)))).bind fun (v2299 : Unit) => (room ((List.length (([] : List Int) ++ ((x2193.drop 0).take (v2295 - 0)))) + List.length ([x2191]))).bind fun (v2303 : Unit) => (inc (v2291.1) (List.length x2193)).bind fun (v2306 : Nat) => (room ((List.length ((([] : List Int) ++ ((x2193.drop 0).take (v2295 - 0))) ++ ([x2191]))) + List.length ((x2193.drop v2306).take ((List.length x2193) - v2306)))).bind fun (v2310 : Unit) => some (Sum.inl ((IntKind.wrap .i64 (x2191 + 1)), (v2291.2), (((([] : List Int) ++ ((x2193.drop 0).take (v2295 - 0))) ++ ([x2191])) ++ ((x2193.drop v2306).take ((List.length x2193) - v2306)))))) ((inc (((List.length x2193 : Nat) : Int)) (List.length x2193)).bind fun (v2314 : Nat) => (room ((List.length ([] : List Int)) + List.length ((x2193.drop 0).take (v2314 - 0)))).bind fun (v2318 : Unit) => (room ((List.length (([] : List Int) ++ ((x2193.drop 0).take (v2314 - 0)))) + List.length ([x2191]))).bind fun (v2322 : Unit) => (inc (((List.length x2193 : Nat) : Int)) (List.length x2193)).bind fun (v2325 : Nat) => (room ((List.length ((([] : List Int) ++ ((x2193.drop 0).take (v2314 - 0))) ++ ([x2191]))) + List.length ((x2193.drop v2325).take ((List.length x2193) - v2325)))).bind fun (v2329 : Unit) => some (Sum.inl ((IntKind.wrap .i64 (x2191 + 1)), (v2287.2), (((([] : List Int) ++ ((x2193.drop 0).take (v2314 - 0))) ++ ([x2191])) ++ ((x2193.drop v2325).take ((List.length x2193) - v2325)))))))) (some (Sum.inr (x2192, x2193)))

def spec_l20Order_n4 (x2044 : Int) (x2048 : Int) (x2045 : List Int) (x2049 : Int) : Option ((Int × (List Int))) :=
  nloop (fun (s : Int × Int × (List Int)) => ((spec_l20Order_n3 x2044 x2048 s.1 x2045 s.2.1 s.2.2).map (Sum.elim (fun (t : Int × Int × (List Int)) => Sum.inl (t.1, t.2.1, t.2.2)) (fun (t : Int × (List Int)) => Sum.inr t)) : Option ((Int × Int × (List Int)) ⊕ ((Int × (List Int)))))) LL (1, x2049, ([] : List Int))

def spec_l20Order_n5 (x2044 : Int) (x2048 : Int) (x2045 : List Int) (x2049 : Int) : Option ((Int × (List Int))) :=
  (spec_l20Order_n4 x2044 x2048 x2045 x2049).map (fun (t : Int × (List Int)) => (t.1, t.2))

def spec_l20Order_n6 (x2044 : Int) (x2048 : Int) (x2045 : List Int) (x2049 : Int) : Option ((Int × (List Int))) :=
  (spec_l20Order_n2).bind (fun (t : Unit) => spec_l20Order_n5 x2044 x2048 x2045 x2049)

def spec_l20Order_n7 (x2192 : Int) (x2193 : List Int) : Option ((Int × (List Int))) :=
  some (x2192, x2193)

def spec_l20Order_n8 (x2044 : Int) (x2048 : Int) (x2045 : List Int) (x2049 : Int) : Option ((Int × (List Int))) :=
  (spec_l20Order_n6 x2044 x2048 x2045 x2049).bind (fun (t : Int × (List Int)) => spec_l20Order_n7 t.1 t.2)

def spec_l20Order_n9 (x2044 : Int) (x2045 : List Int) (x2046 : Int) : Option ((Int × (List Int))) :=
  (spec_l20Order_n1 x2045 x2046).bind (fun (t : Int × Int) => spec_l20Order_n8 x2044 t.1 x2045 t.2)

@[irreducible] def spec_l20Order (x2044 : Int) (x2045 : List Int) (x2046 : Int) : Option (Int × (List Int)) :=
  spec_l20Order_n9 x2044 x2045 x2046

def spec_l20Rd_odd_n1 (x2500 : Int) (x2501 : List Int) (x2502 : Int) : Option ((Bool × Int)) :=
  cond (decide (x2500 > 0)) ((spec_l20Rd_pick x2500 x2501 x2502).bind fun (v2510 : Int × Int) => some (((v2510.1) == (IntKind.wrap .i64 (x2500 - 1))), (v2510.2))) (some (false, x2502))

@[irreducible] def spec_l20Rd_odd (x2500 : Int) (x2501 : List Int) (x2502 : Int) : Option (Bool × Int) :=
  spec_l20Rd_odd_n1 x2500 x2501 x2502

def spec_l20Tree_n1 (x1886 : List Int) (x1887 : Int) : Option ((Int × Int × Int × (List Int) × (List Int))) :=
  (spec_l20Rd_pick 7 x1886 x1887).bind fun (v2347 : Int × Int) => (spec_l20Order (IntKind.wrap .i64 (1 + (v2347.1))) x1886 (v2347.2)).bind fun (v2351 : Int × (List Int)) => (mk (IntKind.wrap .i64 (1 + (v2347.1))) (IntKind.wrap .i64 (1 + (v2347.1)))).bind fun (v2354 : Nat) => (spec_l20Rd_pick 2 x1886 (v2351.1)).bind fun (v2356 : Int × Int) => some ((IntKind.wrap .i64 (1 + (v2347.1))), (v2356.1), (v2356.2), (v2351.2), (List.replicate v2354 (0 : Int)))

def spec_l20Tree_n2 : Option (Unit) :=
  some ()

def spec_l20Tree_n3 (x2350 : Int) (x2357 : Int) (x2428 : Int) (x1886 : List Int) (x2429 : Int) (x2353 : List Int) (x2430 : List Int) : Option ((Int × Int × (List Int)) ⊕ (Int × (List Int))) :=
  cond (decide (x2428 < x2350)) ((spec_l20Rd_pick x2428 x1886 x2429).bind fun (v2464 : Int × Int) => cond (x2357 == 1) ((spec_l20Rd_pick 2 x1886 (v2464.2)).bind fun (v2468 : Int × Int) => cond ((v2468.1) == 0) ((inb x2428 (List.length x2353)).bind fun (v2473 : Nat) => (x2353[v2473]?).bind fun (v2474 : Int) => (inb (IntKind.wrap .i64 (x2428 - 1)) (List.length x2353)).bind fun (v2476 : Nat) => (x2353[v2476]?).bind fun (v2477 : Int) => (inb (IntKind.wrap .i64 (v2474 - 1)) (List.length x2430)).bind fun (v2478 : Nat) => some (Sum.inl ((IntKind.wrap .i64 (x2428 + 1)), (v2468.2), (x2430.set v2478 v2477)))) ((inb x2428 (List.length x2353)).bind fun (v2481 : Nat) => (x2353[v2481]?).bind fun (v2482 : Int) => (inb (v2464.1) (List.length x2353)).bind fun (v2484 : Nat) => (x2353[v2484]?).bind fun (v2485 : Int) => (inb (IntKind.wrap .i64 (v2482 - 1)) (List.length x2430)).bind fun (v2486 : Nat) => some (Sum.inl ((IntKind.wrap .i64 (x2428 + 1)), (v2468.2), (x2430.set v2486 v2485))))) ((inb x2428 (List.length x2353)).bind fun (v2489 : Nat) => (x2353[v2489]?).bind fun (v2490 : Int) => (inb (v2464.1) (List.length x2353)).bind fun (v2492 : Nat) => (x2353[v2492]?).bind fun (v2493 : Int) => (inb (IntKind.wrap .i64 (v2490 - 1)) (List.length x2430)).bind fun (v2494 : Nat) => some (Sum.inl ((IntKind.wrap .i64 (x2428 + 1)), (v2464.2), (x2430.set v2494 v2493))))) (some (Sum.inr (x2429, x2430)))

def spec_l20Tree_n4 (x2350 : Int) (x2357 : Int) (x1886 : List Int) (x2358 : Int) (x2353 : List Int) (x2355 : List Int) : Option ((Int × (List Int))) :=
  nloop (fun (s : Int × Int × (List Int)) => ((spec_l20Tree_n3 x2350 x2357 s.1 x1886 s.2.1 x2353 s.2.2).map (Sum.elim (fun (t : Int × Int × (List Int)) => Sum.inl (t.1, t.2.1, t.2.2)) (fun (t : Int × (List Int)) => Sum.inr t)) : Option ((Int × Int × (List Int)) ⊕ ((Int × (List Int)))))) LL (1, x2358, x2355)

def spec_l20Tree_n5 (x2350 : Int) (x2357 : Int) (x1886 : List Int) (x2358 : Int) (x2353 : List Int) (x2355 : List Int) : Option ((Int × (List Int))) :=
  (spec_l20Tree_n4 x2350 x2357 x1886 x2358 x2353 x2355).map (fun (t : Int × (List Int)) => (t.1, t.2))

def spec_l20Tree_n6 (x2350 : Int) (x2357 : Int) (x1886 : List Int) (x2358 : Int) (x2353 : List Int) (x2355 : List Int) : Option ((Int × (List Int))) :=
  (spec_l20Tree_n2).bind (fun (t : Unit) => spec_l20Tree_n5 x2350 x2357 x1886 x2358 x2353 x2355)

def spec_l20Tree_n7 (x1885 : Int) (x2350 : Int) (x1886 : List Int) (x2429 : Int) (x2430 : List Int) : Option ((Int × (List Int))) :=
  (spec_l20Rd_odd x1885 x1886 x2429).bind fun (v2573 : Bool × Int) => cond (v2573.1) ((spec_l20Rd_pick 4 x1886 (v2573.2)).bind fun (v2576 : Int × Int) => cond ((v2576.1) == 0) (some ((v2576.2), ([] : List Int))) (cond ((v2576.1) == 1) (some ((v2576.2), ([2, 1, 0]))) (cond ((v2576.1) == 2) ((spec_l20Rd_pick x2350 x1886 (v2576.2)).bind fun (v2583 : Int × Int) => (inb (v2583.1) (List.length x2430)).bind fun (v2586 : Nat) => (room ((List.length (x2430.set v2586 0)) + List.length ([0]))).bind fun (v2590 : Unit) => some ((v2583.2), ((x2430.set v2586 0) ++ ([0])))) ((spec_l20Rd_pick 3 x1886 (v2576.2)).bind fun (v2594 : Int × Int) => (inb (v2594.1) (List.length ([1, (IntKind.wrap .i64 (x2350 + 1)), (-1)]))).bind fun (v2597 : Nat) => (([1, (IntKind.wrap .i64 (x2350 + 1)), (-1)])[v2597]?).bind fun (v2598 : Int) => (inb 0 (List.length x2430)).bind fun (v2599 : Nat) => some ((v2594.2), (x2430.set v2599 v2598)))))) (some ((v2573.2), x2430))

def spec_l20Tree_n8 (x1885 : Int) (x2350 : Int) (x2357 : Int) (x1886 : List Int) (x2358 : Int) (x2353 : List Int) (x2355 : List Int) : Option ((Int × (List Int))) :=
  (spec_l20Tree_n6 x2350 x2357 x1886 x2358 x2353 x2355).bind (fun (t : Int × (List Int)) => spec_l20Tree_n7 x1885 x2350 x1886 t.1 t.2)

def spec_l20Tree_n9 (x1885 : Int) (x1886 : List Int) (x1887 : Int) : Option ((Int × (List Int))) :=
  (spec_l20Tree_n1 x1886 x1887).bind (fun (t : Int × Int × Int × (List Int) × (List Int)) => spec_l20Tree_n8 x1885 t.1 t.2.1 x1886 t.2.2.1 t.2.2.2.1 t.2.2.2.2)

@[irreducible] def spec_l20Tree (x1885 : Int) (x1886 : List Int) (x1887 : Int) : Option (Int × (List Int)) :=
  spec_l20Tree_n9 x1885 x1886 x1887

def spec_l1In_n1 (x2616 : Int) (x2617 : Int) (x2618 : Int) : Option (Bool) :=
  cond (decide (x2616 ≥ x2617)) (some (decide (x2616 ≤ x2618))) (some false)

@[irreducible] def spec_l1In (x2616 : Int) (x2617 : Int) (x2618 : Int) : Option (Bool) :=
  spec_l1In_n1 x2616 x2617 x2618

def spec_TreeOk_n1 (x2613 : List Int) : Option (Int ⊕ Bool) :=
  (spec_l1In (((List.length x2613 : Nat) : Int)) 1 8).bind fun (v2627 : Bool) => cond (!v2627) (some (Sum.inr false)) (some (Sum.inl (((List.length x2613 : Nat) : Int))))

def spec_TreeOk_n2 : Option (Unit) :=
  some ()

def spec_TreeOk_n3 (x2626 : Int) (x2693 : Int) (x2694 : Int) : Option (Unit ⊕ Int) :=
  cond (decide (x2694 < x2626)) (some (Sum.inl ())) (some (Sum.inr x2693))

def spec_TreeOk_n4 (x2613 : List Int) (x2626 : Int) (x2693 : Int) (x2694 : Int) : Option ((Int × Int) ⊕ Bool) :=
  (idx x2613 x2694).bind fun (v2711 : Int) => (spec_l1In v2711 0 x2626).bind fun (v2712 : Bool) => cond (!v2712) (some (Sum.inr false)) ((idx x2613 x2694).bind fun (v2714 : Int) => cond (v2714 == (IntKind.wrap .i64 (x2694 + 1))) (some (Sum.inr false)) ((idx x2613 x2694).bind fun (v2717 : Int) => cond (v2717 == 0) (some (Sum.inl ((IntKind.wrap .i64 (x2693 + 1)), (IntKind.wrap .i64 (x2694 + 1))))) (some (Sum.inl (x2693, (IntKind.wrap .i64 (x2694 + 1)))))))

def spec_TreeOk_n5 : Option (Unit) :=
  some ()

def spec_TreeOk_n6 (x2613 : List Int) (x2626 : Int) (x2739 : Int) (x2740 : Int) : Option ((Int × Int) ⊕ Bool ⊕ Int) :=
  cond (decide (x2739 > 0)) (cond (decide (x2740 < x2626)) ((idx x2613 (IntKind.wrap .i64 (x2739 - 1))).bind fun (v2752 : Int) => (spec_l1In v2752 0 x2626).bind fun (v2753 : Bool) => cond (!v2753) (some (Sum.inr (Sum.inl false))) (some (Sum.inl (v2752, (IntKind.wrap .i64 (x2740 + 1)))))) (some (Sum.inr (Sum.inr x2739)))) (some (Sum.inr (Sum.inr x2739)))

def spec_TreeOk_n7 (x2613 : List Int) (x2626 : Int) (x2723 : Int) : Option (Bool ⊕ Int) :=
  nloop (fun (s : Int × Int) => ((spec_TreeOk_n6 x2613 x2626 s.1 s.2).map (Sum.elim (fun (t : Int × Int) => Sum.inl (t.1, t.2)) (Sum.elim (fun (t : Bool) => Sum.inr (Sum.inl t)) (fun (t : Int) => Sum.inr (Sum.inr t)))) : Option ((Int × Int) ⊕ (Bool ⊕ Int)))) LL (x2723, 0)

def spec_TreeOk_n8 (x2613 : List Int) (x2626 : Int) (x2723 : Int) : Option (Int ⊕ Bool) :=
  (spec_TreeOk_n7 x2613 x2626 x2723).map (Sum.elim (fun (t : Bool) => (Sum.inr t)) (fun (t : Int) => (Sum.inl t)))

def spec_TreeOk_n9 (x2613 : List Int) (x2626 : Int) (x2723 : Int) : Option (Int ⊕ Bool) :=
  (spec_TreeOk_n5).bind (fun (t : Unit) => spec_TreeOk_n8 x2613 x2626 x2723)

def spec_TreeOk_n10 (x2739 : Int) : Option (Unit ⊕ Bool) :=
  cond (decide (x2739 > 0)) (some (Sum.inr false)) (some (Sum.inl ()))

def spec_TreeOk_n11 (x2613 : List Int) (x2626 : Int) (x2723 : Int) : Option (Unit ⊕ Bool) :=
  (spec_TreeOk_n9 x2613 x2626 x2723).bind (Sum.elim (fun (t : Int) => spec_TreeOk_n10 t) (fun e => some ((fun (t : Bool) => (Sum.inr t)) e)))

def spec_TreeOk_n12 (x2613 : List Int) (x2626 : Int) (x2693 : Int) (x2694 : Int) : Option (Int ⊕ Bool) :=
  (spec_TreeOk_n4 x2613 x2626 x2693 x2694).bind (Sum.elim (fun (t : Int × Int) => (spec_TreeOk_n11 x2613 x2626 t.2).map (Sum.elim (fun (u : Unit) => (Sum.inl t.1)) (fun (u : Bool) => (Sum.inr u)))) (fun e => some ((fun (t : Bool) => (Sum.inr t)) e)))

def spec_TreeOk_n13 (x2613 : List Int) (x2626 : Int) (x2693 : Int) (x2694 : Int) : Option (Int ⊕ Bool) :=
  (spec_TreeOk_n12 x2613 x2626 x2693 x2694).map (Sum.elim (fun (t : Int) => (Sum.inl t)) (fun (t : Bool) => (Sum.inr t)))

def spec_TreeOk_n14 (x2694 : Int) : Option (Int) :=
  some (IntKind.wrap .i64 (x2694 + 1))

def spec_TreeOk_n15 (x2613 : List Int) (x2626 : Int) (x2693 : Int) (x2694 : Int) : Option ((Int × Int) ⊕ Bool) :=
  (spec_TreeOk_n13 x2613 x2626 x2693 x2694).bind (Sum.elim (fun (t : Int) => (spec_TreeOk_n14 x2694).map (fun (u : Int) => (Sum.inl (t, u)))) (fun e => some ((fun (t : Bool) => (Sum.inr t)) e)))

def spec_TreeOk_n16 (x2613 : List Int) (x2626 : Int) (x2693 : Int) (x2694 : Int) : Option ((Int × Int) ⊕ Bool ⊕ Int) :=
  (spec_TreeOk_n3 x2626 x2693 x2694).bind (Sum.elim (fun (t : Unit) => (spec_TreeOk_n15 x2613 x2626 x2693 x2694).map (Sum.elim (fun (t : Int × Int) => (Sum.inl (t.1, t.2))) (fun (t : Bool) => (Sum.inr (Sum.inl t))))) (fun e => some ((fun (t : Int) => (Sum.inr (Sum.inr t))) e)))

def spec_TreeOk_n17 (x2613 : List Int) (x2626 : Int) : Option (Bool ⊕ Int) :=
  nloop (fun (s : Int × Int) => ((spec_TreeOk_n16 x2613 x2626 s.1 s.2).map (Sum.elim (fun (t : Int × Int) => Sum.inl (t.1, t.2)) (Sum.elim (fun (t : Bool) => Sum.inr (Sum.inl t)) (fun (t : Int) => Sum.inr (Sum.inr t)))) : Option ((Int × Int) ⊕ (Bool ⊕ Int)))) LL (0, 0)

def spec_TreeOk_n18 (x2613 : List Int) (x2626 : Int) : Option (Int ⊕ Bool) :=
  (spec_TreeOk_n17 x2613 x2626).map (Sum.elim (fun (t : Bool) => (Sum.inr t)) (fun (t : Int) => (Sum.inl t)))

def spec_TreeOk_n19 (x2613 : List Int) (x2626 : Int) : Option (Int ⊕ Bool) :=
  (spec_TreeOk_n2).bind (fun (t : Unit) => spec_TreeOk_n18 x2613 x2626)

def spec_TreeOk_n20 (x2693 : Int) : Option (Bool) :=
  some (x2693 == 1)

def spec_TreeOk_n21 (x2613 : List Int) (x2626 : Int) : Option (Bool) :=
  (spec_TreeOk_n19 x2613 x2626).bind (Sum.elim (fun (t : Int) => spec_TreeOk_n20 t) (fun e => some ((fun (t : Bool) => t) e)))

def spec_TreeOk_n22 (x2613 : List Int) : Option (Bool) :=
  (spec_TreeOk_n1 x2613).bind (Sum.elim (fun (t : Int) => spec_TreeOk_n21 x2613 t) (fun e => some ((fun (t : Bool) => t) e)))

@[irreducible] def spec_TreeOk (x2613 : List Int) : Option (Bool) :=
  spec_TreeOk_n22 x2613

def spec_OrderOk_n1 : Option (Unit) :=
  some ()

def spec_OrderOk_n2 : Option (Unit) :=
  some ()

def spec_OrderOk_n3 (x2772 : List Int) (x2804 : Int) : Option (Unit ⊕ Unit) :=
  cond (decide (x2804 < (((List.length x2772 : Nat) : Int)))) (some (Sum.inl ())) (some (Sum.inr ()))

def spec_OrderOk_n4 (x2772 : List Int) (x2773 : Int) (x2804 : Int) : Option (Unit ⊕ Bool) :=
  (idx x2772 x2804).bind fun (v2810 : Int) => (spec_l1In v2810 1 x2773).bind fun (v2811 : Bool) => cond (!v2811) (some (Sum.inr false)) (some (Sum.inl ()))

def spec_OrderOk_n5 (x2772 : List Int) (x2804 : Int) (x2823 : Int) : Option (Int ⊕ Bool ⊕ Unit) :=
  cond (decide (x2823 < x2804)) ((idx x2772 x2823).bind fun (v2830 : Int) => (idx x2772 x2804).bind fun (v2831 : Int) => cond (v2830 == v2831) (some (Sum.inr (Sum.inl false))) (some (Sum.inl (IntKind.wrap .i64 (x2823 + 1))))) (some (Sum.inr (Sum.inr ())))

def spec_OrderOk_n6 (x2772 : List Int) (x2804 : Int) : Option (Bool ⊕ Unit) :=
  nloop (fun (s : Int) => ((spec_OrderOk_n5 x2772 x2804 s).map (Sum.elim (fun (t : Int) => Sum.inl t) (Sum.elim (fun (t : Bool) => Sum.inr (Sum.inl t)) (fun (t : Unit) => Sum.inr (Sum.inr t)))) : Option ((Int) ⊕ (Bool ⊕ Unit)))) LL 0

def spec_OrderOk_n7 (x2772 : List Int) (x2804 : Int) : Option (Unit ⊕ Bool) :=
  (spec_OrderOk_n6 x2772 x2804).map (Sum.elim (fun (t : Bool) => (Sum.inr t)) (fun (t : Unit) => (Sum.inl ())))

def spec_OrderOk_n8 (x2772 : List Int) (x2773 : Int) (x2804 : Int) : Option (Unit ⊕ Bool) :=
  (spec_OrderOk_n4 x2772 x2773 x2804).bind (Sum.elim (fun (t : Unit) => spec_OrderOk_n7 x2772 x2804) (fun e => some ((fun (t : Bool) => (Sum.inr t)) e)))

def spec_OrderOk_n9 (x2772 : List Int) (x2773 : Int) (x2804 : Int) : Option (Unit ⊕ Bool) :=
  (spec_OrderOk_n8 x2772 x2773 x2804).map (Sum.elim (fun (t : Unit) => (Sum.inl ())) (fun (t : Bool) => (Sum.inr t)))

def spec_OrderOk_n10 (x2804 : Int) : Option (Int) :=
  some (IntKind.wrap .i64 (x2804 + 1))

def spec_OrderOk_n11 (x2772 : List Int) (x2773 : Int) (x2804 : Int) : Option (Int ⊕ Bool) :=
  (spec_OrderOk_n9 x2772 x2773 x2804).bind (Sum.elim (fun (t : Unit) => (spec_OrderOk_n10 x2804).map (fun (t : Int) => (Sum.inl t))) (fun e => some ((fun (t : Bool) => (Sum.inr t)) e)))

def spec_OrderOk_n12 (x2772 : List Int) (x2773 : Int) (x2804 : Int) : Option (Int ⊕ Bool ⊕ Unit) :=
  (spec_OrderOk_n3 x2772 x2804).bind (Sum.elim (fun (t : Unit) => (spec_OrderOk_n11 x2772 x2773 x2804).map (Sum.elim (fun (t : Int) => (Sum.inl t)) (fun (t : Bool) => (Sum.inr (Sum.inl t))))) (fun e => some ((fun (t : Unit) => (Sum.inr (Sum.inr t))) e)))

def spec_OrderOk_n13 (x2772 : List Int) (x2773 : Int) : Option (Bool ⊕ Unit) :=
  nloop (fun (s : Int) => ((spec_OrderOk_n12 x2772 x2773 s).map (Sum.elim (fun (t : Int) => Sum.inl t) (Sum.elim (fun (t : Bool) => Sum.inr (Sum.inl t)) (fun (t : Unit) => Sum.inr (Sum.inr t)))) : Option ((Int) ⊕ (Bool ⊕ Unit)))) LL 0

def spec_OrderOk_n14 (x2772 : List Int) (x2773 : Int) : Option (Unit ⊕ Bool) :=
  (spec_OrderOk_n13 x2772 x2773).map (Sum.elim (fun (t : Bool) => (Sum.inr t)) (fun (t : Unit) => (Sum.inl ())))

def spec_OrderOk_n15 (x2772 : List Int) (x2773 : Int) : Option (Unit ⊕ Bool) :=
  (spec_OrderOk_n2).bind (fun (t : Unit) => spec_OrderOk_n14 x2772 x2773)

def spec_OrderOk_n16 (x2772 : List Int) (x2773 : Int) : Option (Bool) :=
  (spec_l1In x2773 1 8).bind fun (v2838 : Bool) => cond v2838 (some ((((List.length x2772 : Nat) : Int)) == x2773)) (some false)

def spec_OrderOk_n17 (x2772 : List Int) (x2773 : Int) : Option (Bool) :=
  (spec_OrderOk_n15 x2772 x2773).bind (Sum.elim (fun (t : Unit) => spec_OrderOk_n16 x2772 x2773) (fun e => some ((fun (t : Bool) => t) e)))

def spec_OrderOk_n18 (x2772 : List Int) (x2773 : Int) : Option (Bool) :=
  (spec_OrderOk_n1).bind (fun (t : Unit) => spec_OrderOk_n17 x2772 x2773)

@[irreducible] def spec_OrderOk (x2772 : List Int) (x2773 : Int) : Option (Bool) :=
  spec_OrderOk_n18 x2772 x2773

def spec_PutInOrder_n1 (x2767 : List Int) (x2768 : List Int) : Option (((List Int)) ⊕ (Bool × (List Int))) :=
  (spec_TreeOk x2767).bind fun (v2844 : Bool) => cond (!v2844) (some (Sum.inr (false, ([] : List Int)))) ((spec_OrderOk x2768 (((List.length x2767 : Nat) : Int))).bind fun (v2847 : Bool) => cond (!v2847) (some (Sum.inr (false, ([] : List Int)))) ((mk (IntKind.wrap .i64 ((((List.length x2767 : Nat) : Int)) + 1)) (IntKind.wrap .i64 ((((List.length x2767 : Nat) : Int)) + 1))).bind fun (v2851 : Nat) => some (Sum.inl (List.replicate v2851 (0 : Int)))))

def spec_PutInOrder_n2 : Option (Unit) :=
  some ()

def spec_PutInOrder_n3 (x2768 : List Int) (x2868 : Int) (x2869 : List Int) : Option ((Int × (List Int)) ⊕ ((List Int))) :=
  cond (decide (x2868 < (((List.length x2768 : Nat) : Int)))) ((idx x2768 x2868).bind fun (v2880 : Int) => (inb v2880 (List.length x2869)).bind fun (v2882 : Nat) => some (Sum.inl ((IntKind.wrap .i64 (x2868 + 1)), (x2869.set v2882 (IntKind.wrap .i64 (x2868 + 1)))))) (some (Sum.inr x2869))

def spec_PutInOrder_n4 (x2768 : List Int) (x2852 : List Int) : Option (((List Int))) :=
  nloop (fun (s : Int × (List Int)) => ((spec_PutInOrder_n3 x2768 s.1 s.2).map (Sum.elim (fun (t : Int × (List Int)) => Sum.inl (t.1, t.2)) (fun (t : (List Int)) => Sum.inr t)) : Option ((Int × (List Int)) ⊕ (((List Int)))))) LL (0, x2852)

def spec_PutInOrder_n5 (x2768 : List Int) (x2852 : List Int) : Option (((List Int))) :=
  (spec_PutInOrder_n4 x2768 x2852).map (fun (t : (List Int)) => t)

def spec_PutInOrder_n6 (x2768 : List Int) (x2852 : List Int) : Option (((List Int))) :=
  (spec_PutInOrder_n2).bind (fun (t : Unit) => spec_PutInOrder_n5 x2768 x2852)

def spec_PutInOrder_n7 : Option (Unit) :=
  some ()

def spec_PutInOrder_n8 : Option (Unit) :=
  some ()

def spec_PutInOrder_n9 (x2767 : List Int) (x2768 : List Int) (x2910 : Int) (x2869 : List Int) (x2911 : List Int) : Option ((Int × (List Int)) ⊕ ((List Int))) :=
  cond (decide (x2910 < (((List.length x2768 : Nat) : Int)))) ((idx x2768 x2910).bind fun (v2927 : Int) => (idx x2767 (IntKind.wrap .i64 (v2927 - 1))).bind fun (v2929 : Int) => (inb v2929 (List.length x2869)).bind fun (v2930 : Nat) => (x2869[v2930]?).bind fun (v2931 : Int) => (room ((List.length x2911) + List.length ([v2931]))).bind fun (v2934 : Unit) => some (Sum.inl ((IntKind.wrap .i64 (x2910 + 1)), (x2911 ++ ([v2931]))))) (some (Sum.inr x2911))

def spec_PutInOrder_n10 (x2767 : List Int) (x2768 : List Int) (x2869 : List Int) : Option (((List Int))) :=
  nloop (fun (s : Int × (List Int)) => ((spec_PutInOrder_n9 x2767 x2768 s.1 x2869 s.2).map (Sum.elim (fun (t : Int × (List Int)) => Sum.inl (t.1, t.2)) (fun (t : (List Int)) => Sum.inr t)) : Option ((Int × (List Int)) ⊕ (((List Int)))))) LL (0, ([] : List Int))

def spec_PutInOrder_n11 (x2767 : List Int) (x2768 : List Int) (x2869 : List Int) : Option (((List Int))) :=
  (spec_PutInOrder_n10 x2767 x2768 x2869).map (fun (t : (List Int)) => t)

def spec_PutInOrder_n12 (x2767 : List Int) (x2768 : List Int) (x2869 : List Int) : Option (((List Int))) :=
  (spec_PutInOrder_n8).bind (fun (t : Unit) => spec_PutInOrder_n11 x2767 x2768 x2869)

def spec_PutInOrder_n13 (x2911 : List Int) : Option ((Bool × (List Int))) :=
  some (true, x2911)

def spec_PutInOrder_n14 (x2767 : List Int) (x2768 : List Int) (x2869 : List Int) : Option ((Bool × (List Int))) :=
  (spec_PutInOrder_n12 x2767 x2768 x2869).bind (fun (t : (List Int)) => spec_PutInOrder_n13 t)

def spec_PutInOrder_n15 (x2767 : List Int) (x2768 : List Int) (x2869 : List Int) : Option ((Bool × (List Int))) :=
  (spec_PutInOrder_n7).bind (fun (t : Unit) => spec_PutInOrder_n14 x2767 x2768 x2869)

def spec_PutInOrder_n16 (x2767 : List Int) (x2768 : List Int) (x2852 : List Int) : Option ((Bool × (List Int))) :=
  (spec_PutInOrder_n6 x2768 x2852).bind (fun (t : (List Int)) => spec_PutInOrder_n15 x2767 x2768 t)

def spec_PutInOrder_n17 (x2767 : List Int) (x2768 : List Int) : Option ((Bool × (List Int))) :=
  (spec_PutInOrder_n1 x2767 x2768).bind (Sum.elim (fun (t : (List Int)) => spec_PutInOrder_n16 x2767 x2768 t) (fun e => some ((fun (t : Bool × (List Int)) => t) e)))

@[irreducible] def spec_PutInOrder (x2767 : List Int) (x2768 : List Int) : Option (Bool × (List Int)) :=
  spec_PutInOrder_n17 x2767 x2768

def spec_l20Fill_n1 (R0 : Int → Int → Int → (List Int) → Int → (List Int) → Option (Int × (List Int))) (x3008 : Int) (x3009 : Int) (x3010 : Int) (x3011 : List Int) (x3012 : Int) (x3013 : List Int) : Option ((Int × Int × (List Int)) ⊕ (Int × (List Int))) :=
  cond (decide (x3008 > x3009)) (some (Sum.inr (x3012, x3013))) ((spec_l20Rd_pick (IntKind.wrap .i64 ((IntKind.wrap .i64 (x3009 - x3008)) + 1)) x3011 x3012).bind fun (v3081 : Int × Int) => (inb (IntKind.wrap .i64 ((IntKind.wrap .i64 (x3008 + (v3081.1))) - 1)) (List.length x3013)).bind fun (v3086 : Nat) => some (Sum.inl ((IntKind.wrap .i64 (x3008 + (v3081.1))), (v3081.2), (x3013.set v3086 x3010))))

def spec_l20Fill_n2 (R0 : Int → Int → Int → (List Int) → Int → (List Int) → Option (Int × (List Int))) (x3084 : Int) (x3099 : Int) (x3011 : List Int) (x3100 : Int) (x3101 : List Int) : Option ((Int × Int × (List Int)) ⊕ (Int × (List Int))) :=
  cond (decide (x3099 < x3084)) ((spec_l20Rd_pick (IntKind.wrap .i64 (x3084 - x3099)) x3011 x3100).bind fun (v3105 : Int × Int) => (R0 x3099 (IntKind.wrap .i64 (x3099 + (v3105.1))) x3084 x3011 (v3105.2) x3101).bind fun (v3109 : Int × (List Int)) => some (Sum.inl ((IntKind.wrap .i64 ((IntKind.wrap .i64 (x3099 + (v3105.1))) + 1)), (v3109.1), (v3109.2)))) (some (Sum.inr (x3100, x3101)))

def spec_l20Fill_n3 (R0 : Int → Int → Int → (List Int) → Int → (List Int) → Option (Int × (List Int))) (x3084 : Int) (x3008 : Int) (x3011 : List Int) (x3083 : Int) (x3087 : List Int) : Option ((Int × (List Int))) :=
  nloop (fun (s : Int × Int × (List Int)) => ((spec_l20Fill_n2 R0 x3084 s.1 x3011 s.2.1 s.2.2).map (Sum.elim (fun (t : Int × Int × (List Int)) => Sum.inl (t.1, t.2.1, t.2.2)) (fun (t : Int × (List Int)) => Sum.inr t)) : Option ((Int × Int × (List Int)) ⊕ ((Int × (List Int)))))) LL (x3008, x3083, x3087)

def spec_l20Fill_n4 (R0 : Int → Int → Int → (List Int) → Int → (List Int) → Option (Int × (List Int))) (x3084 : Int) (x3008 : Int) (x3011 : List Int) (x3083 : Int) (x3087 : List Int) : Option ((Int × (List Int))) :=
  (spec_l20Fill_n3 R0 x3084 x3008 x3011 x3083 x3087).map (fun (t : Int × (List Int)) => (t.1, t.2))

def spec_l20Fill_n5 (R0 : Int → Int → Int → (List Int) → Int → (List Int) → Option (Int × (List Int))) (x3084 : Int) : Option (Int) :=
  some (IntKind.wrap .i64 (x3084 + 1))

def spec_l20Fill_n6 (R0 : Int → Int → Int → (List Int) → Int → (List Int) → Option (Int × (List Int))) (x3009 : Int) (x3084 : Int) (x3126 : Int) (x3011 : List Int) (x3127 : Int) (x3128 : List Int) : Option ((Int × Int × (List Int)) ⊕ (Int × (List Int))) :=
  cond (decide (x3126 ≤ x3009)) ((spec_l20Rd_pick (IntKind.wrap .i64 ((IntKind.wrap .i64 (x3009 - x3126)) + 1)) x3011 x3127).bind fun (v3133 : Int × Int) => (R0 x3126 (IntKind.wrap .i64 (x3126 + (v3133.1))) x3084 x3011 (v3133.2) x3128).bind fun (v3137 : Int × (List Int)) => some (Sum.inl ((IntKind.wrap .i64 ((IntKind.wrap .i64 (x3126 + (v3133.1))) + 1)), (v3137.1), (v3137.2)))) (some (Sum.inr (x3127, x3128)))

def spec_l20Fill_n7 (R0 : Int → Int → Int → (List Int) → Int → (List Int) → Option (Int × (List Int))) (x3009 : Int) (x3084 : Int) (x3113 : Int) (x3011 : List Int) (x3100 : Int) (x3101 : List Int) : Option ((Int × (List Int))) :=
  nloop (fun (s : Int × Int × (List Int)) => ((spec_l20Fill_n6 R0 x3009 x3084 s.1 x3011 s.2.1 s.2.2).map (Sum.elim (fun (t : Int × Int × (List Int)) => Sum.inl (t.1, t.2.1, t.2.2)) (fun (t : Int × (List Int)) => Sum.inr t)) : Option ((Int × Int × (List Int)) ⊕ ((Int × (List Int)))))) LL (x3113, x3100, x3101)

def spec_l20Fill_n8 (R0 : Int → Int → Int → (List Int) → Int → (List Int) → Option (Int × (List Int))) (x3009 : Int) (x3084 : Int) (x3113 : Int) (x3011 : List Int) (x3100 : Int) (x3101 : List Int) : Option ((Int × (List Int))) :=
  (spec_l20Fill_n7 R0 x3009 x3084 x3113 x3011 x3100 x3101).map (fun (t : Int × (List Int)) => (t.1, t.2))

def spec_l20Fill_n9 (R0 : Int → Int → Int → (List Int) → Int → (List Int) → Option (Int × (List Int))) (x3009 : Int) (x3084 : Int) (x3011 : List Int) (x3100 : Int) (x3101 : List Int) : Option ((Int × (List Int))) :=
  (spec_l20Fill_n5 R0 x3084).bind (fun (t : Int) => spec_l20Fill_n8 R0 x3009 x3084 t x3011 x3100 x3101)

def spec_l20Fill_n10 (R0 : Int → Int → Int → (List Int) → Int → (List Int) → Option (Int × (List Int))) (x3009 : Int) (x3084 : Int) (x3008 : Int) (x3011 : List Int) (x3083 : Int) (x3087 : List Int) : Option ((Int × (List Int))) :=
  (spec_l20Fill_n4 R0 x3084 x3008 x3011 x3083 x3087).bind (fun (t : Int × (List Int)) => spec_l20Fill_n9 R0 x3009 x3084 x3011 t.1 t.2)

def spec_l20Fill_n11 (R0 : Int → Int → Int → (List Int) → Int → (List Int) → Option (Int × (List Int))) (x3008 : Int) (x3009 : Int) (x3010 : Int) (x3011 : List Int) (x3012 : Int) (x3013 : List Int) : Option ((Int × (List Int)) ⊕ (Int × (List Int))) :=
  (spec_l20Fill_n1 R0 x3008 x3009 x3010 x3011 x3012 x3013).bind (Sum.elim (fun (t : Int × Int × (List Int)) => (spec_l20Fill_n10 R0 x3009 t.1 x3008 x3011 t.2.1 t.2.2).map (fun (u : Int × (List Int)) => (Sum.inl (u.1, u.2)))) (fun e => some ((fun (t : Int × (List Int)) => (Sum.inr t)) e)))

def spec_l20Fill_one (R0 : Int → Int → Int → (List Int) → Int → (List Int) → Option (Int × (List Int))) (x3008 : Int) (x3009 : Int) (x3010 : Int) (x3011 : List Int) (x3012 : Int) (x3013 : List Int) : Option (Int × (List Int)) :=
  (spec_l20Fill_n11 R0 x3008 x3009 x3010 x3011 x3012 x3013).map (Sum.elim (fun (t : Int × (List Int)) => (t.1, t.2)) (fun (t : Int × (List Int)) => t))

def spec_l20Fill_knot : Nat → (Int → Int → Int → (List Int) → Int → (List Int) → Option (Int × (List Int)))
  | 0 => (fun _ _ _ _ _ _ => none)
  | n + 1 => (fun y0 y1 y2 y3 y4 y5 => spec_l20Fill_one (spec_l20Fill_knot n) y0 y1 y2 y3 y4 y5)

def spec_l20Fill_fuel (n : Nat) : Int → Int → Int → (List Int) → Int → (List Int) → Option (Int × (List Int)) := (spec_l20Fill_knot n)

@[irreducible] def spec_l20Fill (x3008 : Int) (x3009 : Int) (x3010 : Int) (x3011 : List Int) (x3012 : Int) (x3013 : List Int) : Option (Int × (List Int)) := spec_l20Fill_fuel RR x3008 x3009 x3010 x3011 x3012 x3013

def spec_l20Flat_n1 (x2961 : Int) (x2962 : List Int) (x2963 : Int) : Option ((Int × (List Int))) :=
  (spec_l20Rd_pick 3 x2962 x2963).bind fun (v3162 : Int × Int) => cond ((v3162.1) == 0) ((spec_l20Tree x2961 x2962 (v3162.2)).bind fun (v3166 : Int × (List Int)) => some ((v3166.1), (v3166.2))) ((spec_l20Rd_pick 7 x2962 (v3162.2)).bind fun (v3169 : Int × Int) => (mk (IntKind.wrap .i64 (1 + (v3169.1))) (IntKind.wrap .i64 (1 + (v3169.1)))).bind fun (v3173 : Nat) => (spec_l20Fill 1 (IntKind.wrap .i64 (1 + (v3169.1))) 0 x2962 (v3169.2) (List.replicate v3173 (0 : Int))).bind fun (v3175 : Int × (List Int)) => some ((v3175.1), (v3175.2)))

@[irreducible] def spec_l20Flat (x2961 : Int) (x2962 : List Int) (x2963 : Int) : Option (Int × (List Int)) :=
  spec_l20Flat_n1 x2961 x2962 x2963

def spec_l20Wild_n1 (x1882 : Int) (x1883 : List Int) (x1884 : Int) : Option ((Int × (List Int))) :=
  (spec_l20Tree x1882 x1883 x1884).bind fun (v3219 : Int × (List Int)) => (spec_l20Rd_pick 2 x1883 (v3219.1)).bind fun (v3222 : Int × Int) => cond ((v3222.1) == 0) ((spec_TreeOk (v3219.2)).bind fun (v3226 : Bool) => cond v3226 ((spec_l20Order (((List.length (v3219.2) : Nat) : Int)) x1883 (v3222.2)).bind fun (v3228 : Int × (List Int)) => (spec_PutInOrder (v3219.2) (v3228.2)).bind fun (v3231 : Bool × (List Int)) => some ((v3228.1), (v3231.2))) ((spec_l20Rd_pick 3 x1883 (v3222.2)).bind fun (v3234 : Int × Int) => cond ((v3234.1) == 0) ((spec_l20Flat x1882 x1883 (v3234.2)).bind fun (v3238 : Int × (List Int)) => some ((v3238.1), (v3238.2))) (some ((v3234.2), (v3219.2))))) ((spec_l20Rd_pick 3 x1883 (v3222.2)).bind fun (v3241 : Int × Int) => cond ((v3241.1) == 0) ((spec_l20Flat x1882 x1883 (v3241.2)).bind fun (v3245 : Int × (List Int)) => some ((v3245.1), (v3245.2))) (some ((v3241.2), (v3219.2))))

@[irreducible] def spec_l20Wild (x1882 : Int) (x1883 : List Int) (x1884 : Int) : Option (Int × (List Int)) :=
  spec_l20Wild_n1 x1882 x1883 x1884

def spec_DeskNew_n1 (x3253 : List Int) : Option ((Bool × (List Int))) :=
  (spec_TreeOk x3253).bind fun (v3273 : Bool) => cond (!v3273) (some (false, ([] : List Int))) ((room ((List.length ([] : List Int)) + List.length x3253)).bind fun (v3276 : Unit) => some (true, (([] : List Int) ++ x3253)))

@[irreducible] def spec_DeskNew (x3253 : List Int) : Option (Bool × (List Int)) :=
  spec_DeskNew_n1 x3253

def spec_l20Deed_n1 (x3332 : List Int) (x3333 : List Int) (x3334 : Int) : Option ((Int × Int × Int × Int)) :=
  (spec_l20Rd_pick 8 x3333 x3334).bind fun (v3509 : Int × Int) => (idx ([0, 0, 1, 1, 2, 3, 4, 5]) (v3509.1)).bind fun (v3512 : Int) => (spec_l20Rd_pick 60 x3333 (v3509.2)).bind fun (v3513 : Int × Int) => (quo .i64 (v3513.1) 59).bind fun (v3516 : Int) => cond ((IntKind.wrap .i64 (v3512 + (IntKind.wrap .i64 (v3516 * 6)))) == 0) ((spec_l20Rd_pick (imax (((List.length x3332 : Nat) : Int)) 1) x3333 (v3513.2)).bind fun (v3522 : Int × Int) => (spec_l20Rd_pick (IntKind.wrap .i64 ((((List.length x3332 : Nat) : Int)) + 1)) x3333 (v3522.2)).bind fun (v3528 : Int × Int) => (spec_l20Rd_odd 40 x3333 (v3528.2)).bind fun (v3531 : Bool × Int) => cond (v3531.1) ((spec_l20Rd_pick 3 x3333 (v3531.2)).bind fun (v3535 : Int × Int) => (inb (v3535.1) (List.length ([(-1), 9, 100]))).bind fun (v3538 : Nat) => (([(-1), 9, 100])[v3538]?).bind fun (v3539 : Int) => some ((v3535.2), (IntKind.wrap .i64 (v3512 + (IntKind.wrap .i64 (v3516 * 6)))), (IntKind.wrap .i64 (1 + (v3522.1))), v3539)) (some ((v3531.2), (IntKind.wrap .i64 (v3512 + (IntKind.wrap .i64 (v3516 * 6)))), (IntKind.wrap .i64 (1 + (v3522.1))), (v3528.1)))) (cond ((IntKind.wrap .i64 (v3512 + (IntKind.wrap .i64 (v3516 * 6)))) == 1) ((spec_l20Rd_pick (IntKind.wrap .i64 ((((List.length x3332 : Nat) : Int)) + 1)) x3333 (v3513.2)).bind fun (v3543 : Int × Int) => (spec_l20Rd_pick 9 x3333 (v3543.2)).bind fun (v3546 : Int × Int) => (quo .i64 (v3546.1) 8).bind fun (v3549 : Int) => (spec_l20Rd_odd 40 x3333 (v3546.2)).bind fun (v3551 : Bool × Int) => cond (v3551.1) ((spec_l20Rd_pick 3 x3333 (v3551.2)).bind fun (v3555 : Int × Int) => (inb (v3555.1) (List.length ([(-1), 9, 100]))).bind fun (v3558 : Nat) => (([(-1), 9, 100])[v3558]?).bind fun (v3559 : Int) => some ((v3555.2), (IntKind.wrap .i64 (v3512 + (IntKind.wrap .i64 (v3516 * 6)))), (IntKind.wrap .i64 ((v3543.1) + v3549)), v3559)) (some ((v3551.2), (IntKind.wrap .i64 (v3512 + (IntKind.wrap .i64 (v3516 * 6)))), (IntKind.wrap .i64 ((v3543.1) + v3549)), 0))) ((spec_l20Rd_odd 40 x3333 (v3513.2)).bind fun (v3560 : Bool × Int) => cond (v3560.1) ((spec_l20Rd_pick 3 x3333 (v3560.2)).bind fun (v3564 : Int × Int) => (inb (v3564.1) (List.length ([(-1), 9, 100]))).bind fun (v3567 : Nat) => (([(-1), 9, 100])[v3567]?).bind fun (v3568 : Int) => some ((v3564.2), (IntKind.wrap .i64 (v3512 + (IntKind.wrap .i64 (v3516 * 6)))), 0, v3568)) (some ((v3560.2), (IntKind.wrap .i64 (v3512 + (IntKind.wrap .i64 (v3516 * 6)))), 0, 0))))

@[irreducible] def spec_l20Deed (x3332 : List Int) (x3333 : List Int) (x3334 : Int) : Option (Int × Int × Int × Int) :=
  spec_l20Deed_n1 x3332 x3333 x3334

def spec_DeskOk_n1 : Option (Unit) :=
  some ()

def spec_DeskOk_n2 : Option (Unit) :=
  some ()

def spec_DeskOk_n3 (x3621 : Int) (x3607 : List (List Int)) : Option (Int ⊕ Bool ⊕ Unit) :=
  cond (decide (x3621 < (((List.length x3607 : Nat) : Int)))) ((idx x3607 x3621).bind fun (v3631 : List Int) => (spec_TreeOk v3631).bind fun (v3632 : Bool) => cond (!v3632) (some (Sum.inr (Sum.inl false))) (some (Sum.inl (IntKind.wrap .i64 (x3621 + 1))))) (some (Sum.inr (Sum.inr ())))

def spec_DeskOk_n4 (x3607 : List (List Int)) : Option (Bool ⊕ Unit) :=
  nloop (fun (s : Int) => ((spec_DeskOk_n3 s x3607).map (Sum.elim (fun (t : Int) => Sum.inl t) (Sum.elim (fun (t : Bool) => Sum.inr (Sum.inl t)) (fun (t : Unit) => Sum.inr (Sum.inr t)))) : Option ((Int) ⊕ (Bool ⊕ Unit)))) LL 0

def spec_DeskOk_n5 (x3607 : List (List Int)) : Option (Unit ⊕ Bool) :=
  (spec_DeskOk_n4 x3607).map (Sum.elim (fun (t : Bool) => (Sum.inr t)) (fun (t : Unit) => (Sum.inl ())))

def spec_DeskOk_n6 (x3607 : List (List Int)) : Option (Unit ⊕ Bool) :=
  (spec_DeskOk_n2).bind (fun (t : Unit) => spec_DeskOk_n5 x3607)

def spec_DeskOk_n7 (x3606 : List Int) (x3607 : List (List Int)) : Option (Bool) :=
  (spec_TreeOk x3606).bind fun (v3638 : Bool) => cond v3638 (some (decide ((((List.length x3607 : Nat) : Int)) ≤ 8))) (some false)

def spec_DeskOk_n8 (x3606 : List Int) (x3607 : List (List Int)) : Option (Bool) :=
  (spec_DeskOk_n6 x3607).bind (Sum.elim (fun (t : Unit) => spec_DeskOk_n7 x3606 x3607) (fun e => some ((fun (t : Bool) => t) e)))

def spec_DeskOk_n9 (x3606 : List Int) (x3607 : List (List Int)) : Option (Bool) :=
  (spec_DeskOk_n1).bind (fun (t : Unit) => spec_DeskOk_n8 x3606 x3607)

@[irreducible] def spec_DeskOk (x3606 : List Int) (x3607 : List (List Int)) : Option (Bool) :=
  spec_DeskOk_n9 x3606 x3607

def spec_l12Copy_n1 (x3671 : List Int) : Option (((List Int))) :=
  (room ((List.length ([] : List Int)) + List.length x3671)).bind fun (v3716 : Unit) => some (([] : List Int) ++ x3671)

def spec_l12Copy_n2 : Option (Unit) :=
  some ()

def spec_l12Copy_n3 (x3733 : Int) (x3672 : List (List Int)) (x3734 : List (List Int)) : Option ((Int × (List (List Int))) ⊕ ((List (List Int)))) :=
  cond (decide (x3733 < (((List.length x3672 : Nat) : Int)))) ((idx x3672 x3733).bind fun (v3745 : List Int) => (room (List.length v3745)).bind fun (v3746 : Unit) => (room (List.length x3734 + 1)).bind fun (v3747 : Unit) => some (Sum.inl ((IntKind.wrap .i64 (x3733 + 1)), ((x3734 ++ [[]]).set (List.length x3734) v3745)))) (some (Sum.inr x3734))

def spec_l12Copy_n4 (x3672 : List (List Int)) : Option (((List (List Int)))) :=
  nloop (fun (s : Int × (List (List Int))) => ((spec_l12Copy_n3 s.1 x3672 s.2).map (Sum.elim (fun (t : Int × (List (List Int))) => Sum.inl (t.1, t.2)) (fun (t : (List (List Int))) => Sum.inr t)) : Option ((Int × (List (List Int))) ⊕ (((List (List Int))))))) LL (0, ([] : List (List Int)))

def spec_l12Copy_n5 (x3672 : List (List Int)) : Option (((List (List Int)))) :=
  (spec_l12Copy_n4 x3672).map (fun (t : (List (List Int))) => t)

def spec_l12Copy_n6 (x3672 : List (List Int)) : Option (((List (List Int)))) :=
  (spec_l12Copy_n2).bind (fun (t : Unit) => spec_l12Copy_n5 x3672)

def spec_l12Copy_n7 (x3717 : List Int) (x3734 : List (List Int)) : Option (((List Int) × (List (List Int)))) :=
  some (x3717, x3734)

def spec_l12Copy_n8 (x3672 : List (List Int)) (x3717 : List Int) : Option (((List Int) × (List (List Int)))) :=
  (spec_l12Copy_n6 x3672).bind (fun (t : (List (List Int))) => spec_l12Copy_n7 x3717 t)

def spec_l12Copy_n9 (x3671 : List Int) (x3672 : List (List Int)) : Option (((List Int) × (List (List Int)))) :=
  (spec_l12Copy_n1 x3671).bind (fun (t : (List Int)) => spec_l12Copy_n8 x3672 t)

@[irreducible] def spec_l12Copy (x3671 : List Int) (x3672 : List (List Int)) : Option ((List Int) × (List (List Int))) :=
  spec_l12Copy_n9 x3671 x3672

def spec_BackOf_n1 (x3823 : List Int) : Option (Int) :=
  some (((List.length x3823 : Nat) : Int))

def spec_BackOf_n2 (x3824 : Int) : Option (Int) :=
  some (IntKind.wrap .i64 (x3824 - 1))

def spec_BackOf_n3 (x3823 : List Int) (x3824 : Int) (x3862 : Int) (x3863 : List Int) : Option ((Int × (List Int)) ⊕ ((List Int))) :=
  cond (decide (x3862 ≥ 0)) ((spec_TreeOk x3823).bind fun (v3882 : Bool) => cond v3882 ((idx x3823 x3862).bind fun (v3883 : Int) => cond (v3883 == 0) ((room ((List.length x3863) + List.length ([0]))).bind fun (v3887 : Unit) => some (Sum.inl ((IntKind.wrap .i64 (x3862 - 1)), (x3863 ++ ([0]))))) ((idx x3823 x3862).bind fun (v3891 : Int) => (room ((List.length x3863) + List.length ([(IntKind.wrap .i64 ((IntKind.wrap .i64 (x3824 + 1)) - v3891))]))).bind fun (v3895 : Unit) => some (Sum.inl ((IntKind.wrap .i64 (x3862 - 1)), (x3863 ++ ([(IntKind.wrap .i64 ((IntKind.wrap .i64 (x3824 + 1)) - v3891))])))))) (some (Sum.inr x3863))) (some (Sum.inr x3863))

def spec_BackOf_n4 (x3823 : List Int) (x3824 : Int) (x3825 : Int) : Option (((List Int))) :=
  nloop (fun (s : Int × (List Int)) => ((spec_BackOf_n3 x3823 x3824 s.1 s.2).map (Sum.elim (fun (t : Int × (List Int)) => Sum.inl (t.1, t.2)) (fun (t : (List Int)) => Sum.inr t)) : Option ((Int × (List Int)) ⊕ (((List Int)))))) LL (x3825, ([] : List Int))

def spec_BackOf_n5 (x3823 : List Int) (x3824 : Int) (x3825 : Int) : Option (((List Int))) :=
  (spec_BackOf_n4 x3823 x3824 x3825).map (fun (t : (List Int)) => t)

def spec_BackOf_n6 (x3823 : List Int) (x3824 : Int) : Option (((List Int))) :=
  (spec_BackOf_n2 x3824).bind (fun (t : Int) => spec_BackOf_n5 x3823 x3824 t)

def spec_BackOf_n7 (x3863 : List Int) : Option (((List Int))) :=
  some x3863

def spec_BackOf_n8 (x3823 : List Int) (x3824 : Int) : Option (((List Int))) :=
  (spec_BackOf_n6 x3823 x3824).bind (fun (t : (List Int)) => spec_BackOf_n7 t)

def spec_BackOf_n9 (x3823 : List Int) : Option (((List Int))) :=
  (spec_BackOf_n1 x3823).bind (fun (t : Int) => spec_BackOf_n8 x3823 t)

@[irreducible] def spec_BackOf (x3823 : List Int) : Option ((List Int)) :=
  spec_BackOf_n9 x3823

def spec_RootOf_n1 : Option (Unit) :=
  some ()

def spec_RootOf_n2 : Option (Unit) :=
  some ()

def spec_RootOf_n3 (x3910 : List Int) (x3927 : Int) : Option (Int ⊕ Int ⊕ Unit) :=
  cond (decide (x3927 < (((List.length x3910 : Nat) : Int)))) ((spec_TreeOk x3910).bind fun (v3939 : Bool) => cond v3939 ((idx x3910 x3927).bind fun (v3940 : Int) => cond (v3940 == 0) (some (Sum.inr (Sum.inl (IntKind.wrap .i64 (x3927 + 1))))) (some (Sum.inl (IntKind.wrap .i64 (x3927 + 1))))) (some (Sum.inr (Sum.inr ())))) (some (Sum.inr (Sum.inr ())))

def spec_RootOf_n4 (x3910 : List Int) : Option (Int ⊕ Unit) :=
  nloop (fun (s : Int) => ((spec_RootOf_n3 x3910 s).map (Sum.elim (fun (t : Int) => Sum.inl t) (Sum.elim (fun (t : Int) => Sum.inr (Sum.inl t)) (fun (t : Unit) => Sum.inr (Sum.inr t)))) : Option ((Int) ⊕ (Int ⊕ Unit)))) LL 0

def spec_RootOf_n5 (x3910 : List Int) : Option (Unit ⊕ Int) :=
  (spec_RootOf_n4 x3910).map (Sum.elim (fun (t : Int) => (Sum.inr t)) (fun (t : Unit) => (Sum.inl ())))

def spec_RootOf_n6 (x3910 : List Int) : Option (Unit ⊕ Int) :=
  (spec_RootOf_n2).bind (fun (t : Unit) => spec_RootOf_n5 x3910)

def spec_RootOf_n7 : Option (Int) :=
  some (-1)

def spec_RootOf_n8 (x3910 : List Int) : Option (Int) :=
  (spec_RootOf_n6 x3910).bind (Sum.elim (fun (t : Unit) => spec_RootOf_n7) (fun e => some ((fun (t : Int) => t) e)))

def spec_RootOf_n9 (x3910 : List Int) : Option (Int) :=
  (spec_RootOf_n1).bind (fun (t : Unit) => spec_RootOf_n8 x3910)

@[irreducible] def spec_RootOf (x3910 : List Int) : Option (Int) :=
  spec_RootOf_n9 x3910

def spec_l8Walk_n1 (R0 : (List Int) → Int → Option ((List Int))) : Option (Unit) :=
  some ()

def spec_l8Walk_n2 (R0 : (List Int) → Int → Option ((List Int))) : Option (Unit) :=
  some ()

def spec_l8Walk_n3 (R0 : (List Int) → Int → Option ((List Int))) (x3946 : List Int) (x3947 : Int) (x4022 : Int) (x4023 : List Int) : Option ((Int × (List Int)) ⊕ ((List Int))) :=
  cond (decide (x4022 < x3947)) ((idx x3946 (IntKind.wrap .i64 (x4022 - 1))).bind fun (v4035 : Int) => cond (v4035 == x3947) ((R0 x3946 x4022).bind fun (v4037 : List Int) => (room ((List.length x4023) + List.length v4037)).bind fun (v4039 : Unit) => some (Sum.inl ((IntKind.wrap .i64 (x4022 + 1)), (x4023 ++ v4037)))) (some (Sum.inl ((IntKind.wrap .i64 (x4022 + 1)), x4023)))) (some (Sum.inr x4023))

def spec_l8Walk_n4 (R0 : (List Int) → Int → Option ((List Int))) (x3946 : List Int) (x3947 : Int) : Option (((List Int))) :=
  nloop (fun (s : Int × (List Int)) => ((spec_l8Walk_n3 R0 x3946 x3947 s.1 s.2).map (Sum.elim (fun (t : Int × (List Int)) => Sum.inl (t.1, t.2)) (fun (t : (List Int)) => Sum.inr t)) : Option ((Int × (List Int)) ⊕ (((List Int)))))) LL (1, ([] : List Int))

def spec_l8Walk_n5 (R0 : (List Int) → Int → Option ((List Int))) (x3946 : List Int) (x3947 : Int) : Option (((List Int))) :=
  (spec_l8Walk_n4 R0 x3946 x3947).map (fun (t : (List Int)) => t)

def spec_l8Walk_n6 (R0 : (List Int) → Int → Option ((List Int))) (x3946 : List Int) (x3947 : Int) : Option (((List Int))) :=
  (spec_l8Walk_n2 R0).bind (fun (t : Unit) => spec_l8Walk_n5 R0 x3946 x3947)

def spec_l8Walk_n7 (R0 : (List Int) → Int → Option ((List Int))) (x3947 : Int) (x4023 : List Int) : Option (((List Int))) :=
  (room ((List.length x4023) + List.length ([x3947]))).bind fun (v4047 : Unit) => some (x4023 ++ ([x3947]))

def spec_l8Walk_n8 (R0 : (List Int) → Int → Option ((List Int))) (x3947 : Int) : Option (Int) :=
  some (IntKind.wrap .i64 (x3947 + 1))

def spec_l8Walk_n9 (R0 : (List Int) → Int → Option ((List Int))) (x3946 : List Int) (x3947 : Int) (x4074 : Int) (x4075 : List Int) : Option ((Int × (List Int)) ⊕ ((List Int))) :=
  cond (decide (x4074 ≤ (((List.length x3946 : Nat) : Int)))) ((idx x3946 (IntKind.wrap .i64 (x4074 - 1))).bind fun (v4090 : Int) => cond (v4090 == x3947) ((R0 x3946 x4074).bind fun (v4092 : List Int) => (room ((List.length x4075) + List.length v4092)).bind fun (v4094 : Unit) => some (Sum.inl ((IntKind.wrap .i64 (x4074 + 1)), (x4075 ++ v4092)))) (some (Sum.inl ((IntKind.wrap .i64 (x4074 + 1)), x4075)))) (some (Sum.inr x4075))

def spec_l8Walk_n10 (R0 : (List Int) → Int → Option ((List Int))) (x3946 : List Int) (x3947 : Int) (x4049 : Int) (x4048 : List Int) : Option (((List Int))) :=
  nloop (fun (s : Int × (List Int)) => ((spec_l8Walk_n9 R0 x3946 x3947 s.1 s.2).map (Sum.elim (fun (t : Int × (List Int)) => Sum.inl (t.1, t.2)) (fun (t : (List Int)) => Sum.inr t)) : Option ((Int × (List Int)) ⊕ (((List Int)))))) LL (x4049, x4048)

def spec_l8Walk_n11 (R0 : (List Int) → Int → Option ((List Int))) (x3946 : List Int) (x3947 : Int) (x4049 : Int) (x4048 : List Int) : Option (((List Int))) :=
  (spec_l8Walk_n10 R0 x3946 x3947 x4049 x4048).map (fun (t : (List Int)) => t)

def spec_l8Walk_n12 (R0 : (List Int) → Int → Option ((List Int))) (x3946 : List Int) (x3947 : Int) (x4048 : List Int) : Option (((List Int))) :=
  (spec_l8Walk_n8 R0 x3947).bind (fun (t : Int) => spec_l8Walk_n11 R0 x3946 x3947 t x4048)

def spec_l8Walk_n13 (R0 : (List Int) → Int → Option ((List Int))) (x4075 : List Int) : Option (((List Int))) :=
  some x4075

def spec_l8Walk_n14 (R0 : (List Int) → Int → Option ((List Int))) (x3946 : List Int) (x3947 : Int) (x4048 : List Int) : Option (((List Int))) :=
  (spec_l8Walk_n12 R0 x3946 x3947 x4048).bind (fun (t : (List Int)) => spec_l8Walk_n13 R0 t)

def spec_l8Walk_n15 (R0 : (List Int) → Int → Option ((List Int))) (x3946 : List Int) (x3947 : Int) (x4023 : List Int) : Option (((List Int))) :=
  (spec_l8Walk_n7 R0 x3947 x4023).bind (fun (t : (List Int)) => spec_l8Walk_n14 R0 x3946 x3947 t)

def spec_l8Walk_n16 (R0 : (List Int) → Int → Option ((List Int))) (x3946 : List Int) (x3947 : Int) : Option (((List Int))) :=
  (spec_l8Walk_n6 R0 x3946 x3947).bind (fun (t : (List Int)) => spec_l8Walk_n15 R0 x3946 x3947 t)

def spec_l8Walk_n17 (R0 : (List Int) → Int → Option ((List Int))) (x3946 : List Int) (x3947 : Int) : Option (((List Int))) :=
  (spec_l8Walk_n1 R0).bind (fun (t : Unit) => spec_l8Walk_n16 R0 x3946 x3947)

def spec_l8Walk_one (R0 : (List Int) → Int → Option ((List Int))) (x3946 : List Int) (x3947 : Int) : Option ((List Int)) :=
  spec_l8Walk_n17 R0 x3946 x3947

def spec_l8Walk_knot : Nat → ((List Int) → Int → Option ((List Int)))
  | 0 => (fun _ _ => none)
  | n + 1 => (fun y0 y1 => spec_l8Walk_one (spec_l8Walk_knot n) y0 y1)

def spec_l8Walk_fuel (n : Nat) : (List Int) → Int → Option ((List Int)) := (spec_l8Walk_knot n)

@[irreducible] def spec_l8Walk (x3946 : List Int) (x3947 : Int) : Option ((List Int)) := spec_l8Walk_fuel RR x3946 x3947

def spec_FlatOrder_n1 (x3905 : List Int) : Option (((List Int))) :=
  (spec_TreeOk x3905).bind fun (v4101 : Bool) => cond (!v4101) (some ([] : List Int)) ((spec_RootOf x3905).bind fun (v4103 : Int) => (spec_l8Walk x3905 v4103).bind fun (v4104 : List Int) => some v4104)

@[irreducible] def spec_FlatOrder (x3905 : List Int) : Option ((List Int)) :=
  spec_FlatOrder_n1 x3905

def spec_MadeFlat_n1 (x3904 : List Int) : Option (((List Int))) :=
  (spec_FlatOrder x3904).bind fun (v4114 : List Int) => (spec_PutInOrder x3904 v4114).bind fun (v4115 : Bool × (List Int)) => some (v4115.2)

@[irreducible] def spec_MadeFlat (x3904 : List Int) : Option ((List Int)) :=
  spec_MadeFlat_n1 x3904

def spec_l12Made_n1 (x3789 : List Int) (x3790 : Int) (x3791 : Int) (x3792 : Int) : Option ((Nat × (List Int))) :=
  (room ((List.length ([] : List Int)) + List.length x3789)).bind fun (v4380 : Unit) => cond (x3790 == 0) ((spec_l1In x3791 1 (((List.length x3789 : Nat) : Int))).bind fun (v4384 : Bool) => cond v4384 ((inb (IntKind.wrap .i64 (x3791 - 1)) (List.length (([] : List Int) ++ x3789))).bind fun (v4386 : Nat) => some ((List.length ((([] : List Int) ++ x3789).set v4386 x3792)), ((([] : List Int) ++ x3789).set v4386 x3792))) (cond ((x3790 == 1) && ((x3791 == x3791) && ((x3792 == 0) && true))) ((room ((List.length (([] : List Int) ++ x3789)) + List.length ([x3791]))).bind fun (v4394 : Unit) => some ((List.length ((([] : List Int) ++ x3789) ++ ([x3791]))), ((([] : List Int) ++ x3789) ++ ([x3791])))) (cond ((x3790 == 2) && ((x3791 == 0) && ((x3792 == 0) && true))) ((inc (IntKind.wrap .i64 ((((List.length (([] : List Int) ++ x3789) : Nat) : Int)) - 1)) (List.length (([] : List Int) ++ x3789))).bind fun (v4403 : Nat) => some ((v4403 - 0), (([] : List Int) ++ x3789))) (cond ((x3790 == 3) && ((x3791 == 0) && ((x3792 == 0) && true))) ((spec_BackOf x3789).bind fun (v4408 : List Int) => some ((List.length v4408), v4408)) (cond ((x3790 == 4) && ((x3791 == 0) && ((x3792 == 0) && true))) ((spec_MadeFlat x3789).bind fun (v4413 : List Int) => some ((List.length v4413), v4413)) (some ((List.length ([] : List Int)), ([] : List Int)))))))) (cond ((x3790 == 1) && ((x3791 == x3791) && ((x3792 == 0) && true))) ((room ((List.length (([] : List Int) ++ x3789)) + List.length ([x3791]))).bind fun (v4421 : Unit) => some ((List.length ((([] : List Int) ++ x3789) ++ ([x3791]))), ((([] : List Int) ++ x3789) ++ ([x3791])))) (cond ((x3790 == 2) && ((x3791 == 0) && ((x3792 == 0) && true))) ((inc (IntKind.wrap .i64 ((((List.length (([] : List Int) ++ x3789) : Nat) : Int)) - 1)) (List.length (([] : List Int) ++ x3789))).bind fun (v4430 : Nat) => some ((v4430 - 0), (([] : List Int) ++ x3789))) (cond ((x3790 == 3) && ((x3791 == 0) && ((x3792 == 0) && true))) ((spec_BackOf x3789).bind fun (v4435 : List Int) => some ((List.length v4435), v4435)) (cond ((x3790 == 4) && ((x3791 == 0) && ((x3792 == 0) && true))) ((spec_MadeFlat x3789).bind fun (v4440 : List Int) => some ((List.length v4440), v4440)) (some ((List.length ([] : List Int)), ([] : List Int)))))))

@[irreducible] def spec_l12Made (x3789 : List Int) (x3790 : Int) (x3791 : Int) (x3792 : Int) : Option (Nat × (List Int)) :=
  spec_l12Made_n1 x3789 x3790 x3791 x3792

def spec_DeskDo_n1 (x5109 : List Int) (x5110 : List (List Int)) (x5111 : Int) (x5112 : Int) (x5113 : Int) : Option ((Nat × Bool × (List Int) × (List Int) × (List (List Int))) ⊕ (Bool × (List Int) × (List (List Int)))) :=
  (spec_DeskOk x5109 x5110).bind fun (v5551 : Bool) => cond (!v5551) (some (Sum.inr (false, ([] : List Int), ([] : List (List Int))))) ((spec_l12Copy x5109 x5110).bind fun (v5553 : (List Int) × (List (List Int))) => cond ((x5111 == 5) && ((x5112 == 0) && ((x5113 == 0) && true))) (cond (decide ((((List.length x5110 : Nat) : Int)) > 0)) ((inb (IntKind.wrap .i64 ((((List.length (v5553.2) : Nat) : Int)) - 1)) (List.length (v5553.2))).bind fun (v5563 : Nat) => (((v5553.2))[v5563]?).bind fun (v5564 : List Int) => (inc (IntKind.wrap .i64 ((((List.length (v5553.2) : Nat) : Int)) - 1)) (List.length (((v5553.2)).set v5563 []))).bind fun (v5567 : Nat) => (sure (Nat.blt v5563 0 || Nat.ble v5567 v5563)).bind fun (v5568 : Unit) => some (Sum.inr (true, v5564, (((((v5553.2)).set v5563 []).take v5567).drop 0)))) ((spec_l12Made x5109 x5111 x5112 x5113).bind fun (v5570 : Nat × (List Int)) => some (Sum.inl ((v5570.1), (((((v5570.1) : Nat) : Int)) == (((List.length x5109 : Nat) : Int))), (v5570.2), (v5553.1), (v5553.2))))) ((spec_l12Made x5109 x5111 x5112 x5113).bind fun (v5576 : Nat × (List Int)) => some (Sum.inl ((v5576.1), (((((v5576.1) : Nat) : Int)) == (((List.length x5109 : Nat) : Int))), (v5576.2), (v5553.1), (v5553.2)))))

def spec_DeskDo_n2 : Option (Unit) :=
  some ()

def spec_DeskDo_n3 (x5582 : Nat) (x5602 : Bool) (x5603 : Int) (x5109 : List Int) (x5584 : List Int) : Option ((Bool × Int) ⊕ Bool) :=
  cond (decide (x5603 < (((x5582 : Nat) : Int)))) (cond x5602 ((inb x5603 x5582).bind fun (v5615 : Nat) => (x5584[(0 + v5615)]?).bind fun (v5617 : Int) => (idx x5109 x5603).bind fun (v5618 : Int) => some (Sum.inl ((v5617 == v5618), (IntKind.wrap .i64 (x5603 + 1))))) (some (Sum.inr x5602))) (some (Sum.inr x5602))

def spec_DeskDo_n4 (x5582 : Nat) (x5583 : Bool) (x5109 : List Int) (x5584 : List Int) : Option (Bool) :=
  nloop (fun (s : Bool × Int) => ((spec_DeskDo_n3 x5582 s.1 s.2 x5109 x5584).map (Sum.elim (fun (t : Bool × Int) => Sum.inl (t.1, t.2)) (fun (t : Bool) => Sum.inr t)) : Option ((Bool × Int) ⊕ (Bool)))) LL (x5583, 0)

def spec_DeskDo_n5 (x5582 : Nat) (x5583 : Bool) (x5109 : List Int) (x5584 : List Int) : Option (Bool) :=
  (spec_DeskDo_n4 x5582 x5583 x5109 x5584).map (fun (t : Bool) => t)

def spec_DeskDo_n6 (x5582 : Nat) (x5583 : Bool) (x5109 : List Int) (x5584 : List Int) : Option (Bool) :=
  (spec_DeskDo_n2).bind (fun (t : Unit) => spec_DeskDo_n5 x5582 x5583 x5109 x5584)

def spec_DeskDo_n7 (x5582 : Nat) (x5602 : Bool) (x5584 : List Int) (x5554 : List Int) (x5555 : List (List Int)) : Option ((Bool × (List Int) × (List (List Int)))) :=
  cond x5602 (some (false, x5554, x5555)) ((spec_TreeOk ((x5584.drop 0).take x5582)).bind fun (v5676 : Bool) => cond (!v5676) (some (false, x5554, x5555)) ((room (List.length x5555 + 1)).bind fun (v5678 : Unit) => cond (decide ((((List.length ((x5555 ++ [[]]).set (List.length x5555) x5554) : Nat) : Int)) > 8)) ((inc 1 (List.length ((x5555 ++ [[]]).set (List.length x5555) x5554))).bind fun (v5683 : Nat) => (room ((List.length ([] : List Int)) + List.length ((x5584.drop 0).take x5582))).bind fun (v5687 : Unit) => some (true, (([] : List Int) ++ ((x5584.drop 0).take x5582)), ((((x5555 ++ [[]]).set (List.length x5555) x5554).take (List.length ((x5555 ++ [[]]).set (List.length x5555) x5554))).drop v5683))) ((room ((List.length ([] : List Int)) + List.length ((x5584.drop 0).take x5582))).bind fun (v5691 : Unit) => some (true, (([] : List Int) ++ ((x5584.drop 0).take x5582)), ((x5555 ++ [[]]).set (List.length x5555) x5554)))))

def spec_DeskDo_n8 (x5582 : Nat) (x5583 : Bool) (x5109 : List Int) (x5584 : List Int) (x5554 : List Int) (x5555 : List (List Int)) : Option ((Bool × (List Int) × (List (List Int)))) :=
  (spec_DeskDo_n6 x5582 x5583 x5109 x5584).bind (fun (t : Bool) => spec_DeskDo_n7 x5582 t x5584 x5554 x5555)

def spec_DeskDo_n9 (x5109 : List Int) (x5110 : List (List Int)) (x5111 : Int) (x5112 : Int) (x5113 : Int) : Option ((Bool × (List Int) × (List (List Int)))) :=
  (spec_DeskDo_n1 x5109 x5110 x5111 x5112 x5113).bind (Sum.elim (fun (t : Nat × Bool × (List Int) × (List Int) × (List (List Int))) => spec_DeskDo_n8 t.1 t.2.1 x5109 t.2.2.1 t.2.2.2.1 t.2.2.2.2) (fun e => some ((fun (t : Bool × (List Int) × (List (List Int))) => t) e)))

@[irreducible] def spec_DeskDo (x5109 : List Int) (x5110 : List (List Int)) (x5111 : Int) (x5112 : Int) (x5113 : Int) : Option (Bool × (List Int) × (List (List Int))) :=
  spec_DeskDo_n9 x5109 x5110 x5111 x5112 x5113

def spec_l20Desk_n1 (x1880 : List Int) (x1881 : Int) : Option ((Int × (List Int))) :=
  (spec_l20Wild 0 x1880 x1881).bind fun (v5974 : Int × (List Int)) => (spec_DeskNew (v5974.2)).bind fun (v5977 : Bool × (List Int)) => some ((v5974.1), (v5977.2))

def spec_l20Desk_n2 (x1880 : List Int) (x5975 : Int) : Option ((Int × Int)) :=
  (spec_l20Rd_pick 6 x1880 x5975).bind fun (v5980 : Int × Int) => some ((v5980.1), (v5980.2))

def spec_l20Desk_n3 (x6009 : Int) (x1880 : List Int) (x6010 : Int) (x6011 : List Int) (x6012 : List (List Int)) : Option ((Int × Int × (List Int) × (List (List Int))) ⊕ (Int × (List Int) × (List (List Int)))) :=
  cond (decide (x6009 > 0)) ((spec_l20Deed x6011 x1880 x6010).bind fun (v6025 : Int × Int × Int × Int) => (spec_DeskDo x6011 x6012 (v6025.2.1) (v6025.2.2.1) (v6025.2.2.2)).bind fun (v6030 : Bool × (List Int) × (List (List Int))) => cond (v6030.1) (some (Sum.inl ((IntKind.wrap .i64 (x6009 - 1)), (v6025.1), (v6030.2.1), (v6030.2.2)))) (some (Sum.inl ((IntKind.wrap .i64 (x6009 - 1)), (v6025.1), x6011, x6012)))) (some (Sum.inr (x6010, x6011, x6012)))

def spec_l20Desk_n4 (x5981 : Int) (x1880 : List Int) (x5982 : Int) (x5979 : List Int) : Option ((Int × (List Int) × (List (List Int)))) :=
  nloop (fun (s : Int × Int × (List Int) × (List (List Int))) => ((spec_l20Desk_n3 s.1 x1880 s.2.1 s.2.2.1 s.2.2.2).map (Sum.elim (fun (t : Int × Int × (List Int) × (List (List Int))) => Sum.inl (t.1, t.2.1, t.2.2.1, t.2.2.2)) (fun (t : Int × (List Int) × (List (List Int))) => Sum.inr t)) : Option ((Int × Int × (List Int) × (List (List Int))) ⊕ ((Int × (List Int) × (List (List Int))))))) LL (x5981, x5982, x5979, ([] : List (List Int)))

def spec_l20Desk_n5 (x5981 : Int) (x1880 : List Int) (x5982 : Int) (x5979 : List Int) : Option ((Int × (List Int) × (List (List Int)))) :=
  (spec_l20Desk_n4 x5981 x1880 x5982 x5979).map (fun (t : Int × (List Int) × (List (List Int))) => (t.1, t.2.1, t.2.2))

def spec_l20Desk_n6 (x1880 : List Int) (x5975 : Int) (x5979 : List Int) : Option ((Int × (List Int) × (List (List Int)))) :=
  (spec_l20Desk_n2 x1880 x5975).bind (fun (t : Int × Int) => spec_l20Desk_n5 t.1 x1880 t.2 x5979)

def spec_l20Desk_n7 (x1879 : Int) (x1880 : List Int) (x6010 : Int) (x6011 : List Int) (x6012 : List (List Int)) : Option ((Int × (List Int) × (List (List Int)))) :=
  (spec_l20Rd_odd x1879 x1880 x6010).bind fun (v6061 : Bool × Int) => cond (v6061.1) ((spec_l20Rd_pick 3 x1880 (v6061.2)).bind fun (v6064 : Int × Int) => cond ((v6064.1) == 0) (some ((v6064.2), ([1]), x6012)) (cond ((v6064.1) == 1) ((room (List.length x6012 + 1)).bind fun (v6070 : Unit) => some ((v6064.2), x6011, ((x6012 ++ [[]]).set (List.length x6012) ([] : List Int)))) (some ((v6064.2), ([] : List Int), ([] : List (List Int)))))) (some ((v6061.2), x6011, x6012))

def spec_l20Desk_n8 (x1879 : Int) (x1880 : List Int) (x5975 : Int) (x5979 : List Int) : Option ((Int × (List Int) × (List (List Int)))) :=
  (spec_l20Desk_n6 x1880 x5975 x5979).bind (fun (t : Int × (List Int) × (List (List Int))) => spec_l20Desk_n7 x1879 x1880 t.1 t.2.1 t.2.2)

def spec_l20Desk_n9 (x1879 : Int) (x1880 : List Int) (x1881 : Int) : Option ((Int × (List Int) × (List (List Int)))) :=
  (spec_l20Desk_n1 x1880 x1881).bind (fun (t : Int × (List Int)) => spec_l20Desk_n8 x1879 x1880 t.1 t.2)

@[irreducible] def spec_l20Desk (x1879 : Int) (x1880 : List Int) (x1881 : Int) : Option (Int × (List Int) × (List (List Int))) :=
  spec_l20Desk_n9 x1879 x1880 x1881

def spec_DrawDeskOk_n1 (x1860 : List Int) : Option (((List Int) × (List (List Int)))) :=
  (spec_l20Open x1860).bind fun (v6079 : List Int) => (spec_l20Desk 2 v6079 0).bind fun (v6080 : Int × (List Int) × (List (List Int))) => some ((v6080.2.1), (v6080.2.2))

@[irreducible] def spec_DrawDeskOk (x1860 : List Int) : Option ((List Int) × (List (List Int))) :=
  spec_DrawDeskOk_n1 x1860

def impl_oneRoot_n1 : Option (Unit) :=
  some ()

def impl_oneRoot_n2 (x6099 : List Int) : Option (Int) :=
  some (((List.length x6099 : Nat) : Int))

def impl_oneRoot_n3 (x6099 : List Int) (x6121 : Int) (x6100 : Int) (x6122 : Int) : Option ((Int × Int) ⊕ Bool ⊕ Int) :=
  cond (decide (x6122 < x6100)) ((idx x6099 x6122).bind fun (v6133 : Int) => cond (decide (v6133 < 0)) (some (Sum.inr (Sum.inl false))) (cond (decide (v6133 > (((List.length x6099 : Nat) : Int)))) (some (Sum.inr (Sum.inl false))) (cond (v6133 == 0) (some (Sum.inl ((IntKind.wrap .i64 (x6121 + 1)), (IntKind.wrap .i64 (x6122 + 1))))) (some (Sum.inl (x6121, (IntKind.wrap .i64 (x6122 + 1)))))))) (some (Sum.inr (Sum.inr x6121)))

def impl_oneRoot_n4 (x6099 : List Int) (x6100 : Int) : Option (Bool ⊕ Int) :=
  nloop (fun (s : Int × Int) => ((impl_oneRoot_n3 x6099 s.1 x6100 s.2).map (Sum.elim (fun (t : Int × Int) => Sum.inl (t.1, t.2)) (Sum.elim (fun (t : Bool) => Sum.inr (Sum.inl t)) (fun (t : Int) => Sum.inr (Sum.inr t)))) : Option ((Int × Int) ⊕ (Bool ⊕ Int)))) LL (0, 0)

def impl_oneRoot_n5 (x6099 : List Int) (x6100 : Int) : Option (Int ⊕ Bool) :=
  (impl_oneRoot_n4 x6099 x6100).map (Sum.elim (fun (t : Bool) => (Sum.inr t)) (fun (t : Int) => (Sum.inl t)))

def impl_oneRoot_n6 (x6099 : List Int) : Option (Int ⊕ Bool) :=
  (impl_oneRoot_n2 x6099).bind (fun (t : Int) => impl_oneRoot_n5 x6099 t)

def impl_oneRoot_n7 (x6121 : Int) : Option (Bool) :=
  some (x6121 == 1)

def impl_oneRoot_n8 (x6099 : List Int) : Option (Bool) :=
  (impl_oneRoot_n6 x6099).bind (Sum.elim (fun (t : Int) => impl_oneRoot_n7 t) (fun e => some ((fun (t : Bool) => t) e)))

def impl_oneRoot_n9 (x6099 : List Int) : Option (Bool) :=
  (impl_oneRoot_n1).bind (fun (t : Unit) => impl_oneRoot_n8 x6099)

@[irreducible] def impl_oneRoot (x6099 : List Int) : Option (Bool) :=
  impl_oneRoot_n9 x6099

def impl_walker_up_n1 (x6155 : List Int) (x6156 : Int) (x6157 : Int) : Option ((Bool × Int × Int)) :=
  (idx x6155 (IntKind.wrap .i64 (x6156 - 1))).bind fun (v6175 : Int) => cond (v6175 == 0) (some (false, x6156, x6157)) (some (true, v6175, (IntKind.wrap .i64 (x6157 + 1))))

@[irreducible] def impl_walker_up (x6155 : List Int) (x6156 : Int) (x6157 : Int) : Option (Bool × Int × Int) :=
  impl_walker_up_n1 x6155 x6156 x6157

def impl_stepsToRoot_n1 : Option (Unit) :=
  some ()

def impl_stepsToRoot_n2 (x6153 : List Int) (x6191 : Int) (x6192 : Int) : Option ((Int × Int) ⊕ (Int × Bool) ⊕ (Int × Int)) :=
  (impl_walker_up x6153 x6191 x6192).bind fun (v6197 : Bool × Int × Int) => cond (v6197.1) (cond (decide ((v6197.2.2) ≥ (((List.length x6153 : Nat) : Int)))) (some (Sum.inr (Sum.inl (0, false)))) (some (Sum.inl ((v6197.2.1), (v6197.2.2))))) (some (Sum.inr (Sum.inr ((v6197.2.1), (v6197.2.2)))))

def impl_stepsToRoot_n3 (x6153 : List Int) (x6154 : Int) : Option ((Int × Bool) ⊕ (Int × Int)) :=
  nloop (fun (s : Int × Int) => ((impl_stepsToRoot_n2 x6153 s.1 s.2).map (Sum.elim (fun (t : Int × Int) => Sum.inl (t.1, t.2)) (Sum.elim (fun (t : Int × Bool) => Sum.inr (Sum.inl t)) (fun (t : Int × Int) => Sum.inr (Sum.inr t)))) : Option ((Int × Int) ⊕ ((Int × Bool) ⊕ (Int × Int))))) LL (x6154, 0)

def impl_stepsToRoot_n4 (x6153 : List Int) (x6154 : Int) : Option ((Int × Int) ⊕ (Int × Bool)) :=
  (impl_stepsToRoot_n3 x6153 x6154).map (Sum.elim (fun (t : Int × Bool) => (Sum.inr t)) (fun (t : Int × Int) => (Sum.inl (t.1, t.2))))

def impl_stepsToRoot_n5 (x6200 : Int) : Option ((Int × Bool)) :=
  some (x6200, true)

def impl_stepsToRoot_n6 (x6153 : List Int) (x6154 : Int) : Option ((Int × Bool)) :=
  (impl_stepsToRoot_n4 x6153 x6154).bind (Sum.elim (fun (t : Int × Int) => impl_stepsToRoot_n5 t.2) (fun e => some ((fun (t : Int × Bool) => t) e)))

def impl_stepsToRoot_n7 (x6153 : List Int) (x6154 : Int) : Option ((Int × Bool)) :=
  (impl_stepsToRoot_n1).bind (fun (t : Unit) => impl_stepsToRoot_n6 x6153 x6154)

@[irreducible] def impl_stepsToRoot (x6153 : List Int) (x6154 : Int) : Option (Int × Bool) :=
  impl_stepsToRoot_n7 x6153 x6154

def impl_TreeOk_n1 (x6094 : List Int) : Option (Unit ⊕ Bool) :=
  cond (decide ((((List.length x6094 : Nat) : Int)) < 1)) (some (Sum.inr false)) (cond (decide ((((List.length x6094 : Nat) : Int)) > 8)) (some (Sum.inr false)) ((impl_oneRoot x6094).bind fun (v6146 : Bool) => cond (!v6146) (some (Sum.inr false)) (some (Sum.inl ()))))

def impl_TreeOk_n2 (x6094 : List Int) : Option (Int) :=
  some (((List.length x6094 : Nat) : Int))

def impl_TreeOk_n3 (x6094 : List Int) (x6148 : Int) (x6216 : Int) : Option (Int ⊕ Bool ⊕ Unit) :=
  cond (decide (x6216 < x6148)) ((impl_stepsToRoot x6094 (IntKind.wrap .i64 (x6216 + 1))).bind fun (v6227 : Int × Bool) => cond (!(v6227.2)) (some (Sum.inr (Sum.inl false))) (some (Sum.inl (IntKind.wrap .i64 (x6216 + 1))))) (some (Sum.inr (Sum.inr ())))

def impl_TreeOk_n4 (x6094 : List Int) (x6148 : Int) : Option (Bool ⊕ Unit) :=
  nloop (fun (s : Int) => ((impl_TreeOk_n3 x6094 x6148 s).map (Sum.elim (fun (t : Int) => Sum.inl t) (Sum.elim (fun (t : Bool) => Sum.inr (Sum.inl t)) (fun (t : Unit) => Sum.inr (Sum.inr t)))) : Option ((Int) ⊕ (Bool ⊕ Unit)))) LL 0

def impl_TreeOk_n5 (x6094 : List Int) (x6148 : Int) : Option (Unit ⊕ Bool) :=
  (impl_TreeOk_n4 x6094 x6148).map (Sum.elim (fun (t : Bool) => (Sum.inr t)) (fun (t : Unit) => (Sum.inl ())))

def impl_TreeOk_n6 (x6094 : List Int) : Option (Unit ⊕ Bool) :=
  (impl_TreeOk_n2 x6094).bind (fun (t : Int) => impl_TreeOk_n5 x6094 t)

def impl_TreeOk_n7 : Option (Bool) :=
  some true

def impl_TreeOk_n8 (x6094 : List Int) : Option (Bool) :=
  (impl_TreeOk_n6 x6094).bind (Sum.elim (fun (t : Unit) => impl_TreeOk_n7) (fun e => some ((fun (t : Bool) => t) e)))

def impl_TreeOk_n9 (x6094 : List Int) : Option (Bool) :=
  (impl_TreeOk_n1 x6094).bind (Sum.elim (fun (t : Unit) => impl_TreeOk_n8 x6094) (fun e => some ((fun (t : Bool) => t) e)))

@[irreducible] def impl_TreeOk (x6094 : List Int) : Option (Bool) :=
  impl_TreeOk_n9 x6094

def impl_DeskOk_n1 (x6092 : List Int) (x6093 : List (List Int)) : Option (Unit ⊕ Bool) :=
  (impl_TreeOk x6092).bind fun (v6233 : Bool) => cond (!v6233) (some (Sum.inr false)) (cond (decide ((((List.length x6093 : Nat) : Int)) > 8)) (some (Sum.inr false)) (some (Sum.inl ())))

def impl_DeskOk_n2 (x6093 : List (List Int)) : Option (Int) :=
  some (((List.length x6093 : Nat) : Int))

def impl_DeskOk_n3 (x6093 : List (List Int)) (x6237 : Int) (x6249 : Int) : Option (Int ⊕ Bool ⊕ Unit) :=
  cond (decide (x6249 < x6237)) ((idx x6093 x6249).bind fun (v6257 : List Int) => (impl_TreeOk v6257).bind fun (v6258 : Bool) => cond (!v6258) (some (Sum.inr (Sum.inl false))) (some (Sum.inl (IntKind.wrap .i64 (x6249 + 1))))) (some (Sum.inr (Sum.inr ())))

def impl_DeskOk_n4 (x6093 : List (List Int)) (x6237 : Int) : Option (Bool ⊕ Unit) :=
  nloop (fun (s : Int) => ((impl_DeskOk_n3 x6093 x6237 s).map (Sum.elim (fun (t : Int) => Sum.inl t) (Sum.elim (fun (t : Bool) => Sum.inr (Sum.inl t)) (fun (t : Unit) => Sum.inr (Sum.inr t)))) : Option ((Int) ⊕ (Bool ⊕ Unit)))) LL 0

def impl_DeskOk_n5 (x6093 : List (List Int)) (x6237 : Int) : Option (Unit ⊕ Bool) :=
  (impl_DeskOk_n4 x6093 x6237).map (Sum.elim (fun (t : Bool) => (Sum.inr t)) (fun (t : Unit) => (Sum.inl ())))

def impl_DeskOk_n6 (x6093 : List (List Int)) : Option (Unit ⊕ Bool) :=
  (impl_DeskOk_n2 x6093).bind (fun (t : Int) => impl_DeskOk_n5 x6093 t)

def impl_DeskOk_n7 : Option (Bool) :=
  some true

def impl_DeskOk_n8 (x6093 : List (List Int)) : Option (Bool) :=
  (impl_DeskOk_n6 x6093).bind (Sum.elim (fun (t : Unit) => impl_DeskOk_n7) (fun e => some ((fun (t : Bool) => t) e)))

def impl_DeskOk_n9 (x6092 : List Int) (x6093 : List (List Int)) : Option (Bool) :=
  (impl_DeskOk_n1 x6092 x6093).bind (Sum.elim (fun (t : Unit) => impl_DeskOk_n8 x6093) (fun e => some ((fun (t : Bool) => t) e)))

@[irreducible] def impl_DeskOk (x6092 : List Int) (x6093 : List (List Int)) : Option (Bool) :=
  impl_DeskOk_n9 x6092 x6093

def laws_alive_n1 : Option (Bool) :=
  (impl_TreeOk ([0])).bind fun (v6361 : Bool) => cond v6361 ((impl_TreeOk ([1])).bind fun (v6363 : Bool) => some (!v6363)) (some false)

@[irreducible] def laws_alive : Option (Bool) :=
  laws_alive_n1

def laws_FnDeskOk_n1 (x1855 : List Int) : Option (Bool) :=
  cond (decide ((((List.length x1855 : Nat) : Int)) > 1048576)) (some true) ((spec_DrawDeskOk x1855).bind fun (v6413 : (List Int) × (List (List Int))) => (impl_DeskOk (v6413.1) (v6413.2)).bind fun (v6416 : Bool) => (spec_DeskOk (v6413.1) (v6413.2)).bind fun (v6417 : Bool) => cond (v6416 != v6417) (some false) (cond (!v6416) ((impl_DeskOk ([] : List Int) ([] : List (List Int))).bind fun (v6420 : Bool) => cond (!v6420) ((laws_alive).bind fun (v6422 : Bool) => some v6422) (some false)) ((impl_DeskOk (v6413.1) ([] : List (List Int))).bind fun (v6423 : Bool) => cond v6423 ((impl_DeskOk ([] : List Int) ([] : List (List Int))).bind fun (v6424 : Bool) => cond (!v6424) ((laws_alive).bind fun (v6426 : Bool) => some v6426) (some false)) (some false))))

@[irreducible] def laws_FnDeskOk (x1855 : List Int) : Option (Bool) :=
  laws_FnDeskOk_n1 x1855

end Go.Rv
