/-
  Plain functions, written by program for functions of the checked code. Conditions: none.
-/
import Derived.Test.YtihgceegapfngadFB
set_option linter.unusedVariables false
namespace Go.Rv
def spec_l20Open_n1 (x1587 : List Int) : Option (((List Int))) :=
  cond (decide ((((List.length x1587 : Nat) : Int)) > 2000)) ((inc 2000 (List.length x1587)).bind fun (v1601 : Nat) => some ((x1587.take v1601).drop 0)) (some x1587)

@[irreducible] def spec_l20Open (x1587 : List Int) : Option ((List Int)) :=
  spec_l20Open_n1 x1587

def spec_l20Rd_pick_n1 (x1611 : Int) (x1612 : List Int) (x1613 : Int) : Option ((Int × Int)) :=
  cond (decide (x1611 < 1)) (some (0, (IntKind.wrap .i64 (x1613 + 1)))) (cond ((((List.length x1612 : Nat) : Int)) == 0) (some (0, (IntKind.wrap .i64 (x1613 + 1)))) (cond (decide ((IntKind.wrap .i64 ((IntKind.wrap .i64 (x1613 + 1)) - 1)) < (((List.length x1612 : Nat) : Int)))) ((idx x1612 (IntKind.wrap .i64 ((IntKind.wrap .i64 (x1613 + 1)) - 1))).bind fun (v1733 : Int) => (rem (IntKind.wrap .i64 v1733) x1611).bind fun (v1735 : Int) => some (v1735, (IntKind.wrap .i64 (x1613 + 1)))) ((rem (IntKind.wrap .i64 ((IntKind.wrap .i64 (x1613 + 1)) - 1)) (((List.length x1612 : Nat) : Int))).bind fun (v1737 : Int) => (idx x1612 v1737).bind fun (v1738 : Int) => (rem (IntKind.wrap .i64 ((IntKind.wrap .i64 ((IntKind.wrap .i64 ((IntKind.wrap .i64 (x1613 + 1)) - 1)) * 7)) + 3)) (((List.length x1612 : Nat) : Int))).bind fun (v1744 : Int) => (idx x1612 v1744).bind fun (v1745 : Int) => (quo .i64 (IntKind.wrap .i64 ((IntKind.wrap .i64 (x1613 + 1)) - 1)) (((List.length x1612 : Nat) : Int))).bind fun (v1752 : Int) => (quo .i64 (IntKind.wrap .i64 ((IntKind.wrap .i64 ((IntKind.wrap .i64 ((IntKind.wrap .i64 ((IntKind.wrap .i64 v1738) * 131)) + (IntKind.wrap .i64 ((IntKind.wrap .i64 v1745) * 1117)))) + (IntKind.wrap .i64 ((IntKind.wrap .i64 ((IntKind.wrap .i64 (x1613 + 1)) - 1)) * 29)))) + (IntKind.wrap .i64 (v1752 * 53)))) 64).bind fun (v1755 : Int) => (rem (ixor .i64 (IntKind.wrap .i64 ((IntKind.wrap .i64 ((IntKind.wrap .i64 ((IntKind.wrap .i64 ((IntKind.wrap .i64 v1738) * 131)) + (IntKind.wrap .i64 ((IntKind.wrap .i64 v1745) * 1117)))) + (IntKind.wrap .i64 ((IntKind.wrap .i64 ((IntKind.wrap .i64 (x1613 + 1)) - 1)) * 29)))) + (IntKind.wrap .i64 (v1752 * 53)))) v1755) x1611).bind fun (v1757 : Int) => some (v1757, (IntKind.wrap .i64 (x1613 + 1))))))

@[irreducible] def spec_l20Rd_pick (x1611 : Int) (x1612 : List Int) (x1613 : Int) : Option (Int × Int) :=
  spec_l20Rd_pick_n1 x1611 x1612 x1613

def spec_l20Order_n1 (x1768 : List Int) (x1769 : Int) : Option ((Int × Int)) :=
  (spec_l20Rd_pick 2 x1768 x1769).bind fun (v1770 : Int × Int) => some ((v1770.1), (v1770.2))

def spec_l20Order_n2 : Option (Unit) :=
  some ()

def spec_l20Order_n3 (x1767 : Int) (x1771 : Int) (x1914 : Int) (x1768 : List Int) (x1915 : Int) (x1916 : List Int) : Option ((Int × Int × (List Int)) ⊕ (Int × (List Int))) :=
  cond (decide (x1914 ≤ x1767)) (cond (x1771 == 0) ((spec_l20Rd_pick x1914 x1768 x1915).bind fun (v1988 : Int × Int) => (inc (v1988.1) (List.length x1916)).bind fun (v1992 : Nat) => (room ((List.length ([] : List Int)) + List.length ((x1916.drop 0).take (v1992 - 0)))).bind fun (v1996 : Unit) => (room ((List.length (([] : List Int) ++ ((x1916.drop 0).take (v1992 - 0)))) + List.length ([x1914]))).bind fun (v2000 : Unit) => (inc (v1988.1) (List.length x1916)).bind fun (v2003 : Nat) => (room ((List.length ((([] : List Int) ++ ((x1916.drop 0).take (v1992 - 0))) ++ ([x1914]))) + List.length ((x1916.drop v2003).take ((List.length x1916) - v2003)))).bind fun (v2007 : Unit) => some (Sum.inl ((IntKind.wrap .i64 (x1914 + 1)), (v1988.2), (((([] : List Int) ++ ((x1916.drop 0).take (v1992 - 0))) ++ ([x1914])) ++ ((x1916.drop v2003).take ((List.length x1916) - v2003)))))) ((spec_l20Rd_pick 3 x1768 x1915).bind fun (v2010 : Int × Int) => cond ((v2010.1) == 0) ((spec_l20Rd_pick x1914 x1768 (v2010.2)).bind fun (v2014 : Int × Int) => (inc (v2014.1) (List.length x1916)).bind fun (v2018 : Nat) => (room ((List.length ([] : List Int)) + List.length ((x1916.drop 0).take (v2018 - 0)))).bind fun (v2022 : Unit) => (room ((List.length (([] : List Int) ++ ((x1916.drop 0).take (v2018 - 0)))) + List.length ([x1914]))).bind fun (v2026 : Unit) => (inc (v2014.1) (List.length x1916)).bind fun (v2029 : Nat) => (room ((List.length ((([] : List Int) ++ ((x1916.drop 0).take (v2018 - 0))) ++ ([x1914]))) + List.length ((x1916.drop v2029).take ((List.length x1916) - v2029)))).bind fun (v2033 : Unit) => some (Sum.inl ((IntKind.wrap .i64 (x1914 + 1)), (v2014.2), (((([] : List Int) ++ ((x1916.drop 0).take (v2018 - 0))) ++ ([x1914])) ++ ((x1916.drop v2029).take ((List.length x1916) - v2029)))))) ((inc (((List.length x1916 : Nat) : Int)) (List.length x1916)).bind fun (v2037 : Nat) => (room ((List.length ([] : List Int)) + List.length ((x1916.drop 0).take (v2037 - 0)))).bind fun (v2041 : Unit) => (room ((List.length (([] : List Int) ++ ((x1916.drop 0).take (v2037 - 0)))) + List.length ([x1914]))).bind fun (v2045 : Unit) => (inc (((List.length x1916 : Nat) : Int)) (List.length x1916)).bind fun (v2048 : Nat) => (room ((List.length ((([] : List Int) ++ ((x1916.drop 0).take (v2037 - 0))) ++ ([x1914]))) + List.length ((x1916.drop v2048).take ((List.length x1916) - v2048)))).bind fun (v2052 : Unit) => some (Sum.inl ((IntKind.wrap .i64 (x1914 + 1)), (v2010.2), (((([] : List Int) ++ ((x1916.drop 0).take (v2037 - 0))) ++ ([x1914])) ++ ((x1916.drop v2048).take ((List.length x1916) - v2048)))))))) (some (Sum.inr (x1915, x1916)))

def spec_l20Order_n4 (x1767 : Int) (x1771 : Int) (x1768 : List Int) (x1772 : Int) : Option ((Int × (List Int))) :=
  nloop (fun (s : Int × Int × (List Int)) => ((spec_l20Order_n3 x1767 x1771 s.1 x1768 s.2.1 s.2.2).map (Sum.elim (fun (t : Int × Int × (List Int)) => Sum.inl (t.1, t.2.1, t.2.2)) (fun (t : Int × (List Int)) => Sum.inr t)) : Option ((Int × Int × (List Int)) ⊕ ((Int × (List Int)))))) LL (1, x1772, ([] : List Int))

def spec_l20Order_n5 (x1767 : Int) (x1771 : Int) (x1768 : List Int) (x1772 : Int) : Option ((Int × (List Int))) :=
  (spec_l20Order_n4 x1767 x1771 x1768 x1772).map (fun (t : Int × (List Int)) => (t.1, t.2))

def spec_l20Order_n6 (x1767 : Int) (x1771 : Int) (x1768 : List Int) (x1772 : Int) : Option ((Int × (List Int))) :=
  (spec_l20Order_n2).bind (fun (t : Unit) => spec_l20Order_n5 x1767 x1771 x1768 x1772)

def spec_l20Order_n7 (x1915 : Int) (x1916 : List Int) : Option ((Int × (List Int))) :=
  some (x1915, x1916)

def spec_l20Order_n8 (x1767 : Int) (x1771 : Int) (x1768 : List Int) (x1772 : Int) : Option ((Int × (List Int))) :=
  (spec_l20Order_n6 x1767 x1771 x1768 x1772).bind (fun (t : Int × (List Int)) => spec_l20Order_n7 t.1 t.2)

def spec_l20Order_n9 (x1767 : Int) (x1768 : List Int) (x1769 : Int) : Option ((Int × (List Int))) :=
  (spec_l20Order_n1 x1768 x1769).bind (fun (t : Int × Int) => spec_l20Order_n8 x1767 t.1 x1768 t.2)

@[irreducible] def spec_l20Order (x1767 : Int) (x1768 : List Int) (x1769 : Int) : Option (Int × (List Int)) :=
  spec_l20Order_n9 x1767 x1768 x1769

def spec_l20Rd_odd_n1 (x2223 : Int) (x2224 : List Int) (x2225 : Int) : Option ((Bool × Int)) :=
  cond (decide (x2223 > 0)) ((spec_l20Rd_pick x2223 x2224 x2225).bind fun (v2233 : Int × Int) => some (((v2233.1) == (IntKind.wrap .i64 (x2223 - 1))), (v2233.2))) (some (false, x2225))

@[irreducible] def spec_l20Rd_odd (x2223 : Int) (x2224 : List Int) (x2225 : Int) : Option (Bool × Int) :=
  spec_l20Rd_odd_n1 x2223 x2224 x2225

def spec_l20Tree_n1 (x1609 : List Int) (x1610 : Int) : Option ((Int × Int × Int × (List Int) × (List Int))) :=
  (spec_l20Rd_pick 7 x1609 x1610).bind fun (v2070 : Int × Int) => (spec_l20Order (IntKind.wrap .i64 (1 + (v2070.1))) x1609 (v2070.2)).bind fun (v2074 : Int × (List Int)) => (mk (IntKind.wrap .i64 (1 + (v2070.1))) (IntKind.wrap .i64 (1 + (v2070.1)))).bind fun (v2077 : Nat) => (spec_l20Rd_pick 2 x1609 (v2074.1)).bind fun (v2079 : Int × Int) => some ((IntKind.wrap .i64 (1 + (v2070.1))), (v2079.1), (v2079.2), (v2074.2), (List.replicate v2077 (0 : Int)))

def spec_l20Tree_n2 : Option (Unit) :=
  some ()

def spec_l20Tree_n3 (x2073 : Int) (x2080 : Int) (x2151 : Int) (x1609 : List Int) (x2152 : Int) (x2076 : List Int) (x2153 : List Int) : Option ((Int × Int × (List Int)) ⊕ (Int × (List Int))) :=
  cond (decide (x2151 < x2073)) ((spec_l20Rd_pick x2151 x1609 x2152).bind fun (v2187 : Int × Int) => cond (x2080 == 1) ((spec_l20Rd_pick 2 x1609 (v2187.2)).bind fun (v2191 : Int × Int) => cond ((v2191.1) == 0) ((inb x2151 (List.length x2076)).bind fun (v2196 : Nat) => (x2076[v2196]?).bind fun (v2197 : Int) => (inb (IntKind.wrap .i64 (x2151 - 1)) (List.length x2076)).bind fun (v2199 : Nat) => (x2076[v2199]?).bind fun (v2200 : Int) => (inb (IntKind.wrap .i64 (v2197 - 1)) (List.length x2153)).bind fun (v2201 : Nat) => some (Sum.inl ((IntKind.wrap .i64 (x2151 + 1)), (v2191.2), (x2153.set v2201 v2200)))) ((inb x2151 (List.length x2076)).bind fun (v2204 : Nat) => (x2076[v2204]?).bind fun (v2205 : Int) => (inb (v2187.1) (List.length x2076)).bind fun (v2207 : Nat) => (x2076[v2207]?).bind fun (v2208 : Int) => (inb (IntKind.wrap .i64 (v2205 - 1)) (List.length x2153)).bind fun (v2209 : Nat) => some (Sum.inl ((IntKind.wrap .i64 (x2151 + 1)), (v2191.2), (x2153.set v2209 v2208))))) ((inb x2151 (List.length x2076)).bind fun (v2212 : Nat) => (x2076[v2212]?).bind fun (v2213 : Int) => (inb (v2187.1) (List.length x2076)).bind fun (v2215 : Nat) => (x2076[v2215]?).bind fun (v2216 : Int) => (inb (IntKind.wrap .i64 (v2213 - 1)) (List.length x2153)).bind fun (v2217 : Nat) => some (Sum.inl ((IntKind.wrap .i64 (x2151 + 1)), (v2187.2), (x2153.set v2217 v2216))))) (some (Sum.inr (x2152, x2153)))

def spec_l20Tree_n4 (x2073 : Int) (x2080 : Int) (x1609 : List Int) (x2081 : Int) (x2076 : List Int) (x2078 : List Int) : Option ((Int × (List Int))) :=
  nloop (fun (s : Int × Int × (List Int)) => ((spec_l20Tree_n3 x2073 x2080 s.1 x1609 s.2.1 x2076 s.2.2).map (Sum.elim (fun (t : Int × Int × (List Int)) => Sum.inl (t.1, t.2.1, t.2.2)) (fun (t : Int × (List Int)) => Sum.inr t)) : Option ((Int × Int × (List Int)) ⊕ ((Int × (List Int)))))) LL (1, x2081, x2078)

def spec_l20Tree_n5 (x2073 : Int) (x2080 : Int) (x1609 : List Int) (x2081 : Int) (x2076 : List Int) (x2078 : List Int) : Option ((Int × (List Int))) :=
  (spec_l20Tree_n4 x2073 x2080 x1609 x2081 x2076 x2078).map (fun (t : Int × (List Int)) => (t.1, t.2))

def spec_l20Tree_n6 (x2073 : Int) (x2080 : Int) (x1609 : List Int) (x2081 : Int) (x2076 : List Int) (x2078 : List Int) : Option ((Int × (List Int))) :=
  (spec_l20Tree_n2).bind (fun (t : Unit) => spec_l20Tree_n5 x2073 x2080 x1609 x2081 x2076 x2078)

def spec_l20Tree_n7 (x1608 : Int) (x2073 : Int) (x1609 : List Int) (x2152 : Int) (x2153 : List Int) : Option ((Int × (List Int))) :=
  (spec_l20Rd_odd x1608 x1609 x2152).bind fun (v2296 : Bool × Int) => cond (v2296.1) ((spec_l20Rd_pick 4 x1609 (v2296.2)).bind fun (v2299 : Int × Int) => cond ((v2299.1) == 0) (some ((v2299.2), ([] : List Int))) (cond ((v2299.1) == 1) (some ((v2299.2), ([2, 1, 0]))) (cond ((v2299.1) == 2) ((spec_l20Rd_pick x2073 x1609 (v2299.2)).bind fun (v2306 : Int × Int) => (inb (v2306.1) (List.length x2153)).bind fun (v2309 : Nat) => (room ((List.length (x2153.set v2309 0)) + List.length ([0]))).bind fun (v2313 : Unit) => some ((v2306.2), ((x2153.set v2309 0) ++ ([0])))) ((spec_l20Rd_pick 3 x1609 (v2299.2)).bind fun (v2317 : Int × Int) => (inb (v2317.1) (List.length ([1, (IntKind.wrap .i64 (x2073 + 1)), (-1)]))).bind fun (v2320 : Nat) => (([1, (IntKind.wrap .i64 (x2073 + 1)), (-1)])[v2320]?).bind fun (v2321 : Int) => (inb 0 (List.length x2153)).bind fun (v2322 : Nat) => some ((v2317.2), (x2153.set v2322 v2321)))))) (some ((v2296.2), x2153))

def spec_l20Tree_n8 (x1608 : Int) (x2073 : Int) (x2080 : Int) (x1609 : List Int) (x2081 : Int) (x2076 : List Int) (x2078 : List Int) : Option ((Int × (List Int))) :=
  (spec_l20Tree_n6 x2073 x2080 x1609 x2081 x2076 x2078).bind (fun (t : Int × (List Int)) => spec_l20Tree_n7 x1608 x2073 x1609 t.1 t.2)

def spec_l20Tree_n9 (x1608 : Int) (x1609 : List Int) (x1610 : Int) : Option ((Int × (List Int))) :=
  (spec_l20Tree_n1 x1609 x1610).bind (fun (t : Int × Int × Int × (List Int) × (List Int)) => spec_l20Tree_n8 x1608 t.1 t.2.1 x1609 t.2.2.1 t.2.2.2.1 t.2.2.2.2)

@[irreducible] def spec_l20Tree (x1608 : Int) (x1609 : List Int) (x1610 : Int) : Option (Int × (List Int)) :=
  spec_l20Tree_n9 x1608 x1609 x1610

def spec_l1In_n1 (x2339 : Int) (x2340 : Int) (x2341 : Int) : Option (Bool) :=
  cond (decide (x2339 ≥ x2340)) (some (decide (x2339 ≤ x2341))) (some false)

@[irreducible] def spec_l1In (x2339 : Int) (x2340 : Int) (x2341 : Int) : Option (Bool) :=
  spec_l1In_n1 x2339 x2340 x2341

def spec_TreeOk_n1 (x2336 : List Int) : Option (Int ⊕ Bool) :=
  (spec_l1In (((List.length x2336 : Nat) : Int)) 1 8).bind fun (v2350 : Bool) => cond (!v2350) (some (Sum.inr false)) (some (Sum.inl (((List.length x2336 : Nat) : Int))))

def spec_TreeOk_n2 : Option (Unit) :=
  some ()

def spec_TreeOk_n3 (x2349 : Int) (x2416 : Int) (x2417 : Int) : Option (Unit ⊕ Int) :=
  cond (decide (x2417 < x2349)) (some (Sum.inl ())) (some (Sum.inr x2416))

def spec_TreeOk_n4 (x2336 : List Int) (x2349 : Int) (x2416 : Int) (x2417 : Int) : Option ((Int × Int) ⊕ Bool) :=
  (idx x2336 x2417).bind fun (v2434 : Int) => (spec_l1In v2434 0 x2349).bind fun (v2435 : Bool) => cond (!v2435) (some (Sum.inr false)) ((idx x2336 x2417).bind fun (v2437 : Int) => cond (v2437 == (IntKind.wrap .i64 (x2417 + 1))) (some (Sum.inr false)) ((idx x2336 x2417).bind fun (v2440 : Int) => cond (v2440 == 0) (some (Sum.inl ((IntKind.wrap .i64 (x2416 + 1)), (IntKind.wrap .i64 (x2417 + 1))))) (some (Sum.inl (x2416, (IntKind.wrap .i64 (x2417 + 1)))))))

def spec_TreeOk_n5 : Option (Unit) :=
  some ()

def spec_TreeOk_n6 (x2336 : List Int) (x2349 : Int) (x2462 : Int) (x2463 : Int) : Option ((Int × Int) ⊕ Bool ⊕ Int) :=
  cond (decide (x2462 > 0)) (cond (decide (x2463 < x2349)) ((idx x2336 (IntKind.wrap .i64 (x2462 - 1))).bind fun (v2475 : Int) => (spec_l1In v2475 0 x2349).bind fun (v2476 : Bool) => cond (!v2476) (some (Sum.inr (Sum.inl false))) (some (Sum.inl (v2475, (IntKind.wrap .i64 (x2463 + 1)))))) (some (Sum.inr (Sum.inr x2462)))) (some (Sum.inr (Sum.inr x2462)))

def spec_TreeOk_n7 (x2336 : List Int) (x2349 : Int) (x2446 : Int) : Option (Bool ⊕ Int) :=
  nloop (fun (s : Int × Int) => ((spec_TreeOk_n6 x2336 x2349 s.1 s.2).map (Sum.elim (fun (t : Int × Int) => Sum.inl (t.1, t.2)) (Sum.elim (fun (t : Bool) => Sum.inr (Sum.inl t)) (fun (t : Int) => Sum.inr (Sum.inr t)))) : Option ((Int × Int) ⊕ (Bool ⊕ Int)))) LL (x2446, 0)

def spec_TreeOk_n8 (x2336 : List Int) (x2349 : Int) (x2446 : Int) : Option (Int ⊕ Bool) :=
  (spec_TreeOk_n7 x2336 x2349 x2446).map (Sum.elim (fun (t : Bool) => (Sum.inr t)) (fun (t : Int) => (Sum.inl t)))

def spec_TreeOk_n9 (x2336 : List Int) (x2349 : Int) (x2446 : Int) : Option (Int ⊕ Bool) :=
  (spec_TreeOk_n5).bind (fun (t : Unit) => spec_TreeOk_n8 x2336 x2349 x2446)

def spec_TreeOk_n10 (x2462 : Int) : Option (Unit ⊕ Bool) :=
  cond (decide (x2462 > 0)) (some (Sum.inr false)) (some (Sum.inl ()))

def spec_TreeOk_n11 (x2336 : List Int) (x2349 : Int) (x2446 : Int) : Option (Unit ⊕ Bool) :=
  (spec_TreeOk_n9 x2336 x2349 x2446).bind (Sum.elim (fun (t : Int) => spec_TreeOk_n10 t) (fun e => some ((fun (t : Bool) => (Sum.inr t)) e)))

def spec_TreeOk_n12 (x2336 : List Int) (x2349 : Int) (x2416 : Int) (x2417 : Int) : Option (Int ⊕ Bool) :=
  (spec_TreeOk_n4 x2336 x2349 x2416 x2417).bind (Sum.elim (fun (t : Int × Int) => (spec_TreeOk_n11 x2336 x2349 t.2).map (Sum.elim (fun (u : Unit) => (Sum.inl t.1)) (fun (u : Bool) => (Sum.inr u)))) (fun e => some ((fun (t : Bool) => (Sum.inr t)) e)))

def spec_TreeOk_n13 (x2336 : List Int) (x2349 : Int) (x2416 : Int) (x2417 : Int) : Option (Int ⊕ Bool) :=
  (spec_TreeOk_n12 x2336 x2349 x2416 x2417).map (Sum.elim (fun (t : Int) => (Sum.inl t)) (fun (t : Bool) => (Sum.inr t)))

def spec_TreeOk_n14 (x2417 : Int) : Option (Int) :=
  some (IntKind.wrap .i64 (x2417 + 1))

def spec_TreeOk_n15 (x2336 : List Int) (x2349 : Int) (x2416 : Int) (x2417 : Int) : Option ((Int × Int) ⊕ Bool) :=
  (spec_TreeOk_n13 x2336 x2349 x2416 x2417).bind (Sum.elim (fun (t : Int) => (spec_TreeOk_n14 x2417).map (fun (u : Int) => (Sum.inl (t, u)))) (fun e => some ((fun (t : Bool) => (Sum.inr t)) e)))

def spec_TreeOk_n16 (x2336 : List Int) (x2349 : Int) (x2416 : Int) (x2417 : Int) : Option ((Int × Int) ⊕ Bool ⊕ Int) :=
  (spec_TreeOk_n3 x2349 x2416 x2417).bind (Sum.elim (fun (t : Unit) => (spec_TreeOk_n15 x2336 x2349 x2416 x2417).map (Sum.elim (fun (t : Int × Int) => (Sum.inl (t.1, t.2))) (fun (t : Bool) => (Sum.inr (Sum.inl t))))) (fun e => some ((fun (t : Int) => (Sum.inr (Sum.inr t))) e)))

def spec_TreeOk_n17 (x2336 : List Int) (x2349 : Int) : Option (Bool ⊕ Int) :=
  nloop (fun (s : Int × Int) => ((spec_TreeOk_n16 x2336 x2349 s.1 s.2).map (Sum.elim (fun (t : Int × Int) => Sum.inl (t.1, t.2)) (Sum.elim (fun (t : Bool) => Sum.inr (Sum.inl t)) (fun (t : Int) => Sum.inr (Sum.inr t)))) : Option ((Int × Int) ⊕ (Bool ⊕ Int)))) LL (0, 0)

def spec_TreeOk_n18 (x2336 : List Int) (x2349 : Int) : Option (Int ⊕ Bool) :=
  (spec_TreeOk_n17 x2336 x2349).map (Sum.elim (fun (t : Bool) => (Sum.inr t)) (fun (t : Int) => (Sum.inl t)))

def spec_TreeOk_n19 (x2336 : List Int) (x2349 : Int) : Option (Int ⊕ Bool) :=
  (spec_TreeOk_n2).bind (fun (t : Unit) => spec_TreeOk_n18 x2336 x2349)

def spec_TreeOk_n20 (x2416 : Int) : Option (Bool) :=
  some (x2416 == 1)

def spec_TreeOk_n21 (x2336 : List Int) (x2349 : Int) : Option (Bool) :=
  (spec_TreeOk_n19 x2336 x2349).bind (Sum.elim (fun (t : Int) => spec_TreeOk_n20 t) (fun e => some ((fun (t : Bool) => t) e)))

def spec_TreeOk_n22 (x2336 : List Int) : Option (Bool) :=
  (spec_TreeOk_n1 x2336).bind (Sum.elim (fun (t : Int) => spec_TreeOk_n21 x2336 t) (fun e => some ((fun (t : Bool) => t) e)))

@[irreducible] def spec_TreeOk (x2336 : List Int) : Option (Bool) :=
  spec_TreeOk_n22 x2336

def spec_OrderOk_n1 : Option (Unit) :=
  some ()

def spec_OrderOk_n2 : Option (Unit) :=
  some ()

def spec_OrderOk_n3 (x2495 : List Int) (x2527 : Int) : Option (Unit ⊕ Unit) :=
  cond (decide (x2527 < (((List.length x2495 : Nat) : Int)))) (some (Sum.inl ())) (some (Sum.inr ()))

def spec_OrderOk_n4 (x2495 : List Int) (x2496 : Int) (x2527 : Int) : Option (Unit ⊕ Bool) :=
  (idx x2495 x2527).bind fun (v2533 : Int) => (spec_l1In v2533 1 x2496).bind fun (v2534 : Bool) => cond (!v2534) (some (Sum.inr false)) (some (Sum.inl ()))

def spec_OrderOk_n5 (x2495 : List Int) (x2527 : Int) (x2546 : Int) : Option (Int ⊕ Bool ⊕ Unit) :=
  cond (decide (x2546 < x2527)) ((idx x2495 x2546).bind fun (v2553 : Int) => (idx x2495 x2527).bind fun (v2554 : Int) => cond (v2553 == v2554) (some (Sum.inr (Sum.inl false))) (some (Sum.inl (IntKind.wrap .i64 (x2546 + 1))))) (some (Sum.inr (Sum.inr ())))

def spec_OrderOk_n6 (x2495 : List Int) (x2527 : Int) : Option (Bool ⊕ Unit) :=
  nloop (fun (s : Int) => ((spec_OrderOk_n5 x2495 x2527 s).map (Sum.elim (fun (t : Int) => Sum.inl t) (Sum.elim (fun (t : Bool) => Sum.inr (Sum.inl t)) (fun (t : Unit) => Sum.inr (Sum.inr t)))) : Option ((Int) ⊕ (Bool ⊕ Unit)))) LL 0

def spec_OrderOk_n7 (x2495 : List Int) (x2527 : Int) : Option (Unit ⊕ Bool) :=
  (spec_OrderOk_n6 x2495 x2527).map (Sum.elim (fun (t : Bool) => (Sum.inr t)) (fun (t : Unit) => (Sum.inl ())))

def spec_OrderOk_n8 (x2495 : List Int) (x2496 : Int) (x2527 : Int) : Option (Unit ⊕ Bool) :=
  (spec_OrderOk_n4 x2495 x2496 x2527).bind (Sum.elim (fun (t : Unit) => spec_OrderOk_n7 x2495 x2527) (fun e => some ((fun (t : Bool) => (Sum.inr t)) e)))

def spec_OrderOk_n9 (x2495 : List Int) (x2496 : Int) (x2527 : Int) : Option (Unit ⊕ Bool) :=
  (spec_OrderOk_n8 x2495 x2496 x2527).map (Sum.elim (fun (t : Unit) => (Sum.inl ())) (fun (t : Bool) => (Sum.inr t)))

def spec_OrderOk_n10 (x2527 : Int) : Option (Int) :=
  some (IntKind.wrap .i64 (x2527 + 1))

def spec_OrderOk_n11 (x2495 : List Int) (x2496 : Int) (x2527 : Int) : Option (Int ⊕ Bool) :=
  (spec_OrderOk_n9 x2495 x2496 x2527).bind (Sum.elim (fun (t : Unit) => (spec_OrderOk_n10 x2527).map (fun (t : Int) => (Sum.inl t))) (fun e => some ((fun (t : Bool) => (Sum.inr t)) e)))

def spec_OrderOk_n12 (x2495 : List Int) (x2496 : Int) (x2527 : Int) : Option (Int ⊕ Bool ⊕ Unit) :=
  (spec_OrderOk_n3 x2495 x2527).bind (Sum.elim (fun (t : Unit) => (spec_OrderOk_n11 x2495 x2496 x2527).map (Sum.elim (fun (t : Int) => (Sum.inl t)) (fun (t : Bool) => (Sum.inr (Sum.inl t))))) (fun e => some ((fun (t : Unit) => (Sum.inr (Sum.inr t))) e)))

def spec_OrderOk_n13 (x2495 : List Int) (x2496 : Int) : Option (Bool ⊕ Unit) :=
  nloop (fun (s : Int) => ((spec_OrderOk_n12 x2495 x2496 s).map (Sum.elim (fun (t : Int) => Sum.inl t) (Sum.elim (fun (t : Bool) => Sum.inr (Sum.inl t)) (fun (t : Unit) => Sum.inr (Sum.inr t)))) : Option ((Int) ⊕ (Bool ⊕ Unit)))) LL 0

def spec_OrderOk_n14 (x2495 : List Int) (x2496 : Int) : Option (Unit ⊕ Bool) :=
  (spec_OrderOk_n13 x2495 x2496).map (Sum.elim (fun (t : Bool) => (Sum.inr t)) (fun (t : Unit) => (Sum.inl ())))

def spec_OrderOk_n15 (x2495 : List Int) (x2496 : Int) : Option (Unit ⊕ Bool) :=
  (spec_OrderOk_n2).bind (fun (t : Unit) => spec_OrderOk_n14 x2495 x2496)

def spec_OrderOk_n16 (x2495 : List Int) (x2496 : Int) : Option (Bool) :=
  (spec_l1In x2496 1 8).bind fun (v2561 : Bool) => cond v2561 (some ((((List.length x2495 : Nat) : Int)) == x2496)) (some false)

def spec_OrderOk_n17 (x2495 : List Int) (x2496 : Int) : Option (Bool) :=
  (spec_OrderOk_n15 x2495 x2496).bind (Sum.elim (fun (t : Unit) => spec_OrderOk_n16 x2495 x2496) (fun e => some ((fun (t : Bool) => t) e)))

def spec_OrderOk_n18 (x2495 : List Int) (x2496 : Int) : Option (Bool) :=
  (spec_OrderOk_n1).bind (fun (t : Unit) => spec_OrderOk_n17 x2495 x2496)

@[irreducible] def spec_OrderOk (x2495 : List Int) (x2496 : Int) : Option (Bool) :=
  spec_OrderOk_n18 x2495 x2496

def spec_PutInOrder_n1 (x2490 : List Int) (x2491 : List Int) : Option (((List Int)) ⊕ (Bool × (List Int))) :=
  (spec_TreeOk x2490).bind fun (v2567 : Bool) => cond (!v2567) (some (Sum.inr (false, ([] : List Int)))) ((spec_OrderOk x2491 (((List.length x2490 : Nat) : Int))).bind fun (v2570 : Bool) => cond (!v2570) (some (Sum.inr (false, ([] : List Int)))) ((mk (IntKind.wrap .i64 ((((List.length x2490 : Nat) : Int)) + 1)) (IntKind.wrap .i64 ((((List.length x2490 : Nat) : Int)) + 1))).bind fun (v2574 : Nat) => some (Sum.inl (List.replicate v2574 (0 : Int)))))

def spec_PutInOrder_n2 : Option (Unit) :=
  some ()

def spec_PutInOrder_n3 (x2491 : List Int) (x2591 : Int) (x2592 : List Int) : Option ((Int × (List Int)) ⊕ ((List Int))) :=
  cond (decide (x2591 < (((List.length x2491 : Nat) : Int)))) ((idx x2491 x2591).bind fun (v2603 : Int) => (inb v2603 (List.length x2592)).bind fun (v2605 : Nat) => some (Sum.inl ((IntKind.wrap .i64 (x2591 + 1)), (x2592.set v2605 (IntKind.wrap .i64 (x2591 + 1)))))) (some (Sum.inr x2592))

def spec_PutInOrder_n4 (x2491 : List Int) (x2575 : List Int) : Option (((List Int))) :=
  nloop (fun (s : Int × (List Int)) => ((spec_PutInOrder_n3 x2491 s.1 s.2).map (Sum.elim (fun (t : Int × (List Int)) => Sum.inl (t.1, t.2)) (fun (t : (List Int)) => Sum.inr t)) : Option ((Int × (List Int)) ⊕ (((List Int)))))) LL (0, x2575)

def spec_PutInOrder_n5 (x2491 : List Int) (x2575 : List Int) : Option (((List Int))) :=
  (spec_PutInOrder_n4 x2491 x2575).map (fun (t : (List Int)) => t)

def spec_PutInOrder_n6 (x2491 : List Int) (x2575 : List Int) : Option (((List Int))) :=
  (spec_PutInOrder_n2).bind (fun (t : Unit) => spec_PutInOrder_n5 x2491 x2575)

def spec_PutInOrder_n7 : Option (Unit) :=
  some ()

def spec_PutInOrder_n8 : Option (Unit) :=
  some ()

def spec_PutInOrder_n9 (x2490 : List Int) (x2491 : List Int) (x2633 : Int) (x2592 : List Int) (x2634 : List Int) : Option ((Int × (List Int)) ⊕ ((List Int))) :=
  cond (decide (x2633 < (((List.length x2491 : Nat) : Int)))) ((idx x2491 x2633).bind fun (v2650 : Int) => (idx x2490 (IntKind.wrap .i64 (v2650 - 1))).bind fun (v2652 : Int) => (inb v2652 (List.length x2592)).bind fun (v2653 : Nat) => (x2592[v2653]?).bind fun (v2654 : Int) => (room ((List.length x2634) + List.length ([v2654]))).bind fun (v2657 : Unit) => some (Sum.inl ((IntKind.wrap .i64 (x2633 + 1)), (x2634 ++ ([v2654]))))) (some (Sum.inr x2634))

def spec_PutInOrder_n10 (x2490 : List Int) (x2491 : List Int) (x2592 : List Int) : Option (((List Int))) :=
  nloop (fun (s : Int × (List Int)) => ((spec_PutInOrder_n9 x2490 x2491 s.1 x2592 s.2).map (Sum.elim (fun (t : Int × (List Int)) => Sum.inl (t.1, t.2)) (fun (t : (List Int)) => Sum.inr t)) : Option ((Int × (List Int)) ⊕ (((List Int)))))) LL (0, ([] : List Int))

def spec_PutInOrder_n11 (x2490 : List Int) (x2491 : List Int) (x2592 : List Int) : Option (((List Int))) :=
  (spec_PutInOrder_n10 x2490 x2491 x2592).map (fun (t : (List Int)) => t)

def spec_PutInOrder_n12 (x2490 : List Int) (x2491 : List Int) (x2592 : List Int) : Option (((List Int))) :=
  (spec_PutInOrder_n8).bind (fun (t : Unit) => spec_PutInOrder_n11 x2490 x2491 x2592)

def spec_PutInOrder_n13 (x2634 : List Int) : Option ((Bool × (List Int))) :=
  some (true, x2634)

def spec_PutInOrder_n14 (x2490 : List Int) (x2491 : List Int) (x2592 : List Int) : Option ((Bool × (List Int))) :=
  (spec_PutInOrder_n12 x2490 x2491 x2592).bind (fun (t : (List Int)) => spec_PutInOrder_n13 t)

def spec_PutInOrder_n15 (x2490 : List Int) (x2491 : List Int) (x2592 : List Int) : Option ((Bool × (List Int))) :=
  (spec_PutInOrder_n7).bind (fun (t : Unit) => spec_PutInOrder_n14 x2490 x2491 x2592)

def spec_PutInOrder_n16 (x2490 : List Int) (x2491 : List Int) (x2575 : List Int) : Option ((Bool × (List Int))) :=
  (spec_PutInOrder_n6 x2491 x2575).bind (fun (t : (List Int)) => spec_PutInOrder_n15 x2490 x2491 t)

def spec_PutInOrder_n17 (x2490 : List Int) (x2491 : List Int) : Option ((Bool × (List Int))) :=
  (spec_PutInOrder_n1 x2490 x2491).bind (Sum.elim (fun (t : (List Int)) => spec_PutInOrder_n16 x2490 x2491 t) (fun e => some ((fun (t : Bool × (List Int)) => t) e)))

@[irreducible] def spec_PutInOrder (x2490 : List Int) (x2491 : List Int) : Option (Bool × (List Int)) :=
  spec_PutInOrder_n17 x2490 x2491

def spec_l20Fill_n1 (R0 : Int → Int → Int → (List Int) → Int → (List Int) → Option (Int × (List Int))) (x2731 : Int) (x2732 : Int) (x2733 : Int) (x2734 : List Int) (x2735 : Int) (x2736 : List Int) : Option ((Int × Int × (List Int)) ⊕ (Int × (List Int))) :=
  cond (decide (x2731 > x2732)) (some (Sum.inr (x2735, x2736))) ((spec_l20Rd_pick (IntKind.wrap .i64 ((IntKind.wrap .i64 (x2732 - x2731)) + 1)) x2734 x2735).bind fun (v2804 : Int × Int) => (inb (IntKind.wrap .i64 ((IntKind.wrap .i64 (x2731 + (v2804.1))) - 1)) (List.length x2736)).bind fun (v2809 : Nat) => some (Sum.inl ((IntKind.wrap .i64 (x2731 + (v2804.1))), (v2804.2), (x2736.set v2809 x2733))))

def spec_l20Fill_n2 (R0 : Int → Int → Int → (List Int) → Int → (List Int) → Option (Int × (List Int))) (x2807 : Int) (x2822 : Int) (x2734 : List Int) (x2823 : Int) (x2824 : List Int) : Option ((Int × Int × (List Int)) ⊕ (Int × (List Int))) :=
  cond (decide (x2822 < x2807)) ((spec_l20Rd_pick (IntKind.wrap .i64 (x2807 - x2822)) x2734 x2823).bind fun (v2828 : Int × Int) => (R0 x2822 (IntKind.wrap .i64 (x2822 + (v2828.1))) x2807 x2734 (v2828.2) x2824).bind fun (v2832 : Int × (List Int)) => some (Sum.inl ((IntKind.wrap .i64 ((IntKind.wrap .i64 (x2822 + (v2828.1))) + 1)), (v2832.1), (v2832.2)))) (some (Sum.inr (x2823, x2824)))

def spec_l20Fill_n3 (R0 : Int → Int → Int → (List Int) → Int → (List Int) → Option (Int × (List Int))) (x2807 : Int) (x2731 : Int) (x2734 : List Int) (x2806 : Int) (x2810 : List Int) : Option ((Int × (List Int))) :=
  nloop (fun (s : Int × Int × (List Int)) => ((spec_l20Fill_n2 R0 x2807 s.1 x2734 s.2.1 s.2.2).map (Sum.elim (fun (t : Int × Int × (List Int)) => Sum.inl (t.1, t.2.1, t.2.2)) (fun (t : Int × (List Int)) => Sum.inr t)) : Option ((Int × Int × (List Int)) ⊕ ((Int × (List Int)))))) LL (x2731, x2806, x2810)

def spec_l20Fill_n4 (R0 : Int → Int → Int → (List Int) → Int → (List Int) → Option (Int × (List Int))) (x2807 : Int) (x2731 : Int) (x2734 : List Int) (x2806 : Int) (x2810 : List Int) : Option ((Int × (List Int))) :=
  (spec_l20Fill_n3 R0 x2807 x2731 x2734 x2806 x2810).map (fun (t : Int × (List Int)) => (t.1, t.2))

def spec_l20Fill_n5 (R0 : Int → Int → Int → (List Int) → Int → (List Int) → Option (Int × (List Int))) (x2807 : Int) : Option (Int) :=
  some (IntKind.wrap .i64 (x2807 + 1))

def spec_l20Fill_n6 (R0 : Int → Int → Int → (List Int) → Int → (List Int) → Option (Int × (List Int))) (x2732 : Int) (x2807 : Int) (x2849 : Int) (x2734 : List Int) (x2850 : Int) (x2851 : List Int) : Option ((Int × Int × (List Int)) ⊕ (Int × (List Int))) :=
  cond (decide (x2849 ≤ x2732)) ((spec_l20Rd_pick (IntKind.wrap .i64 ((IntKind.wrap .i64 (x2732 - x2849)) + 1)) x2734 x2850).bind fun (v2856 : Int × Int) => (R0 x2849 (IntKind.wrap .i64 (x2849 + (v2856.1))) x2807 x2734 (v2856.2) x2851).bind fun (v2860 : Int × (List Int)) => some (Sum.inl ((IntKind.wrap .i64 ((IntKind.wrap .i64 (x2849 + (v2856.1))) + 1)), (v2860.1), (v2860.2)))) (some (Sum.inr (x2850, x2851)))

def spec_l20Fill_n7 (R0 : Int → Int → Int → (List Int) → Int → (List Int) → Option (Int × (List Int))) (x2732 : Int) (x2807 : Int) (x2836 : Int) (x2734 : List Int) (x2823 : Int) (x2824 : List Int) : Option ((Int × (List Int))) :=
  nloop (fun (s : Int × Int × (List Int)) => ((spec_l20Fill_n6 R0 x2732 x2807 s.1 x2734 s.2.1 s.2.2).map (Sum.elim (fun (t : Int × Int × (List Int)) => Sum.inl (t.1, t.2.1, t.2.2)) (fun (t : Int × (List Int)) => Sum.inr t)) : Option ((Int × Int × (List Int)) ⊕ ((Int × (List Int)))))) LL (x2836, x2823, x2824)

def spec_l20Fill_n8 (R0 : Int → Int → Int → (List Int) → Int → (List Int) → Option (Int × (List Int))) (x2732 : Int) (x2807 : Int) (x2836 : Int) (x2734 : List Int) (x2823 : Int) (x2824 : List Int) : Option ((Int × (List Int))) :=
  (spec_l20Fill_n7 R0 x2732 x2807 x2836 x2734 x2823 x2824).map (fun (t : Int × (List Int)) => (t.1, t.2))

def spec_l20Fill_n9 (R0 : Int → Int → Int → (List Int) → Int → (List Int) → Option (Int × (List Int))) (x2732 : Int) (x2807 : Int) (x2734 : List Int) (x2823 : Int) (x2824 : List Int) : Option ((Int × (List Int))) :=
  (spec_l20Fill_n5 R0 x2807).bind (fun (t : Int) => spec_l20Fill_n8 R0 x2732 x2807 t x2734 x2823 x2824)

def spec_l20Fill_n10 (R0 : Int → Int → Int → (List Int) → Int → (List Int) → Option (Int × (List Int))) (x2732 : Int) (x2807 : Int) (x2731 : Int) (x2734 : List Int) (x2806 : Int) (x2810 : List Int) : Option ((Int × (List Int))) :=
  (spec_l20Fill_n4 R0 x2807 x2731 x2734 x2806 x2810).bind (fun (t : Int × (List Int)) => spec_l20Fill_n9 R0 x2732 x2807 x2734 t.1 t.2)

def spec_l20Fill_n11 (R0 : Int → Int → Int → (List Int) → Int → (List Int) → Option (Int × (List Int))) (x2731 : Int) (x2732 : Int) (x2733 : Int) (x2734 : List Int) (x2735 : Int) (x2736 : List Int) : Option ((Int × (List Int)) ⊕ (Int × (List Int))) :=
  (spec_l20Fill_n1 R0 x2731 x2732 x2733 x2734 x2735 x2736).bind (Sum.elim (fun (t : Int × Int × (List Int)) => (spec_l20Fill_n10 R0 x2732 t.1 x2731 x2734 t.2.1 t.2.2).map (fun (u : Int × (List Int)) => (Sum.inl (u.1, u.2)))) (fun e => some ((fun (t : Int × (List Int)) => (Sum.inr t)) e)))

def spec_l20Fill_one (R0 : Int → Int → Int → (List Int) → Int → (List Int) → Option (Int × (List Int))) (x2731 : Int) (x2732 : Int) (x2733 : Int) (x2734 : List Int) (x2735 : Int) (x2736 : List Int) : Option (Int × (List Int)) :=
  (spec_l20Fill_n11 R0 x2731 x2732 x2733 x2734 x2735 x2736).map (Sum.elim (fun (t : Int × (List Int)) => (t.1, t.2)) (fun (t : Int × (List Int)) => t))

def spec_l20Fill_knot : Nat → (Int → Int → Int → (List Int) → Int → (List Int) → Option (Int × (List Int)))
  | 0 => (fun _ _ _ _ _ _ => none)
  | n + 1 => (fun y0 y1 y2 y3 y4 y5 => spec_l20Fill_one (spec_l20Fill_knot n) y0 y1 y2 y3 y4 y5)

def spec_l20Fill_fuel (n : Nat) : Int → Int → Int → (List Int) → Int → (List Int) → Option (Int × (List Int)) := (spec_l20Fill_knot n)

@[irreducible] def spec_l20Fill (x2731 : Int) (x2732 : Int) (x2733 : Int) (x2734 : List Int) (x2735 : Int) (x2736 : List Int) : Option (Int × (List Int)) := spec_l20Fill_fuel RR x2731 x2732 x2733 x2734 x2735 x2736

def spec_l20Flat_n1 (x2684 : Int) (x2685 : List Int) (x2686 : Int) : Option ((Int × (List Int))) :=
  (spec_l20Rd_pick 3 x2685 x2686).bind fun (v2885 : Int × Int) => cond ((v2885.1) == 0) ((spec_l20Tree x2684 x2685 (v2885.2)).bind fun (v2889 : Int × (List Int)) => some ((v2889.1), (v2889.2))) ((spec_l20Rd_pick 7 x2685 (v2885.2)).bind fun (v2892 : Int × Int) => (mk (IntKind.wrap .i64 (1 + (v2892.1))) (IntKind.wrap .i64 (1 + (v2892.1)))).bind fun (v2896 : Nat) => (spec_l20Fill 1 (IntKind.wrap .i64 (1 + (v2892.1))) 0 x2685 (v2892.2) (List.replicate v2896 (0 : Int))).bind fun (v2898 : Int × (List Int)) => some ((v2898.1), (v2898.2)))

@[irreducible] def spec_l20Flat (x2684 : Int) (x2685 : List Int) (x2686 : Int) : Option (Int × (List Int)) :=
  spec_l20Flat_n1 x2684 x2685 x2686

def spec_l20Wild_n1 (x1605 : Int) (x1606 : List Int) (x1607 : Int) : Option ((Int × (List Int))) :=
  (spec_l20Tree x1605 x1606 x1607).bind fun (v2942 : Int × (List Int)) => (spec_l20Rd_pick 2 x1606 (v2942.1)).bind fun (v2945 : Int × Int) => cond ((v2945.1) == 0) ((spec_TreeOk (v2942.2)).bind fun (v2949 : Bool) => cond v2949 ((spec_l20Order (((List.length (v2942.2) : Nat) : Int)) x1606 (v2945.2)).bind fun (v2951 : Int × (List Int)) => (spec_PutInOrder (v2942.2) (v2951.2)).bind fun (v2954 : Bool × (List Int)) => some ((v2951.1), (v2954.2))) ((spec_l20Rd_pick 3 x1606 (v2945.2)).bind fun (v2957 : Int × Int) => cond ((v2957.1) == 0) ((spec_l20Flat x1605 x1606 (v2957.2)).bind fun (v2961 : Int × (List Int)) => some ((v2961.1), (v2961.2))) (some ((v2957.2), (v2942.2))))) ((spec_l20Rd_pick 3 x1606 (v2945.2)).bind fun (v2964 : Int × Int) => cond ((v2964.1) == 0) ((spec_l20Flat x1605 x1606 (v2964.2)).bind fun (v2968 : Int × (List Int)) => some ((v2968.1), (v2968.2))) (some ((v2964.2), (v2942.2))))

@[irreducible] def spec_l20Wild (x1605 : Int) (x1606 : List Int) (x1607 : Int) : Option (Int × (List Int)) :=
  spec_l20Wild_n1 x1605 x1606 x1607

def spec_DrawDeskNew_n1 (x1586 : List Int) : Option (((List Int))) :=
  (spec_l20Open x1586).bind fun (v2976 : List Int) => (spec_l20Wild 3 v2976 0).bind fun (v2977 : Int × (List Int)) => some (v2977.2)

@[irreducible] def spec_DrawDeskNew (x1586 : List Int) : Option ((List Int)) :=
  spec_DrawDeskNew_n1 x1586

def impl_oneRoot_n1 : Option (Unit) :=
  some ()

def impl_oneRoot_n2 (x2990 : List Int) : Option (Int) :=
  some (((List.length x2990 : Nat) : Int))

def impl_oneRoot_n3 (x2990 : List Int) (x3012 : Int) (x2991 : Int) (x3013 : Int) : Option ((Int × Int) ⊕ Bool ⊕ Int) :=
  cond (decide (x3013 < x2991)) ((idx x2990 x3013).bind fun (v3024 : Int) => cond (decide (v3024 < 0)) (some (Sum.inr (Sum.inl false))) (cond (decide (v3024 > (((List.length x2990 : Nat) : Int)))) (some (Sum.inr (Sum.inl false))) (cond (v3024 == 0) (some (Sum.inl ((IntKind.wrap .i64 (x3012 + 1)), (IntKind.wrap .i64 (x3013 + 1))))) (some (Sum.inl (x3012, (IntKind.wrap .i64 (x3013 + 1)))))))) (some (Sum.inr (Sum.inr x3012)))

def impl_oneRoot_n4 (x2990 : List Int) (x2991 : Int) : Option (Bool ⊕ Int) :=
  nloop (fun (s : Int × Int) => ((impl_oneRoot_n3 x2990 s.1 x2991 s.2).map (Sum.elim (fun (t : Int × Int) => Sum.inl (t.1, t.2)) (Sum.elim (fun (t : Bool) => Sum.inr (Sum.inl t)) (fun (t : Int) => Sum.inr (Sum.inr t)))) : Option ((Int × Int) ⊕ (Bool ⊕ Int)))) LL (0, 0)

def impl_oneRoot_n5 (x2990 : List Int) (x2991 : Int) : Option (Int ⊕ Bool) :=
  (impl_oneRoot_n4 x2990 x2991).map (Sum.elim (fun (t : Bool) => (Sum.inr t)) (fun (t : Int) => (Sum.inl t)))

def impl_oneRoot_n6 (x2990 : List Int) : Option (Int ⊕ Bool) :=
  (impl_oneRoot_n2 x2990).bind (fun (t : Int) => impl_oneRoot_n5 x2990 t)

def impl_oneRoot_n7 (x3012 : Int) : Option (Bool) :=
  some (x3012 == 1)

def impl_oneRoot_n8 (x2990 : List Int) : Option (Bool) :=
  (impl_oneRoot_n6 x2990).bind (Sum.elim (fun (t : Int) => impl_oneRoot_n7 t) (fun e => some ((fun (t : Bool) => t) e)))

def impl_oneRoot_n9 (x2990 : List Int) : Option (Bool) :=
  (impl_oneRoot_n1).bind (fun (t : Unit) => impl_oneRoot_n8 x2990)

@[irreducible] def impl_oneRoot (x2990 : List Int) : Option (Bool) :=
  impl_oneRoot_n9 x2990

def impl_walker_up_n1 (x3046 : List Int) (x3047 : Int) (x3048 : Int) : Option ((Bool × Int × Int)) :=
  (idx x3046 (IntKind.wrap .i64 (x3047 - 1))).bind fun (v3066 : Int) => cond (v3066 == 0) (some (false, x3047, x3048)) (some (true, v3066, (IntKind.wrap .i64 (x3048 + 1))))

@[irreducible] def impl_walker_up (x3046 : List Int) (x3047 : Int) (x3048 : Int) : Option (Bool × Int × Int) :=
  impl_walker_up_n1 x3046 x3047 x3048

def impl_stepsToRoot_n1 : Option (Unit) :=
  some ()

def impl_stepsToRoot_n2 (x3044 : List Int) (x3082 : Int) (x3083 : Int) : Option ((Int × Int) ⊕ (Int × Bool) ⊕ (Int × Int)) :=
  (impl_walker_up x3044 x3082 x3083).bind fun (v3088 : Bool × Int × Int) => cond (v3088.1) (cond (decide ((v3088.2.2) ≥ (((List.length x3044 : Nat) : Int)))) (some (Sum.inr (Sum.inl (0, false)))) (some (Sum.inl ((v3088.2.1), (v3088.2.2))))) (some (Sum.inr (Sum.inr ((v3088.2.1), (v3088.2.2)))))

def impl_stepsToRoot_n3 (x3044 : List Int) (x3045 : Int) : Option ((Int × Bool) ⊕ (Int × Int)) :=
  nloop (fun (s : Int × Int) => ((impl_stepsToRoot_n2 x3044 s.1 s.2).map (Sum.elim (fun (t : Int × Int) => Sum.inl (t.1, t.2)) (Sum.elim (fun (t : Int × Bool) => Sum.inr (Sum.inl t)) (fun (t : Int × Int) => Sum.inr (Sum.inr t)))) : Option ((Int × Int) ⊕ ((Int × Bool) ⊕ (Int × Int))))) LL (x3045, 0)

def impl_stepsToRoot_n4 (x3044 : List Int) (x3045 : Int) : Option ((Int × Int) ⊕ (Int × Bool)) :=
  (impl_stepsToRoot_n3 x3044 x3045).map (Sum.elim (fun (t : Int × Bool) => (Sum.inr t)) (fun (t : Int × Int) => (Sum.inl (t.1, t.2))))

def impl_stepsToRoot_n5 (x3091 : Int) : Option ((Int × Bool)) :=
  some (x3091, true)

def impl_stepsToRoot_n6 (x3044 : List Int) (x3045 : Int) : Option ((Int × Bool)) :=
  (impl_stepsToRoot_n4 x3044 x3045).bind (Sum.elim (fun (t : Int × Int) => impl_stepsToRoot_n5 t.2) (fun e => some ((fun (t : Int × Bool) => t) e)))

def impl_stepsToRoot_n7 (x3044 : List Int) (x3045 : Int) : Option ((Int × Bool)) :=
  (impl_stepsToRoot_n1).bind (fun (t : Unit) => impl_stepsToRoot_n6 x3044 x3045)

@[irreducible] def impl_stepsToRoot (x3044 : List Int) (x3045 : Int) : Option (Int × Bool) :=
  impl_stepsToRoot_n7 x3044 x3045

def impl_TreeOk_n1 (x2985 : List Int) : Option (Unit ⊕ Bool) :=
  cond (decide ((((List.length x2985 : Nat) : Int)) < 1)) (some (Sum.inr false)) (cond (decide ((((List.length x2985 : Nat) : Int)) > 8)) (some (Sum.inr false)) ((impl_oneRoot x2985).bind fun (v3037 : Bool) => cond (!v3037) (some (Sum.inr false)) (some (Sum.inl ()))))

def impl_TreeOk_n2 (x2985 : List Int) : Option (Int) :=
  some (((List.length x2985 : Nat) : Int))

def impl_TreeOk_n3 (x2985 : List Int) (x3039 : Int) (x3107 : Int) : Option (Int ⊕ Bool ⊕ Unit) :=
  cond (decide (x3107 < x3039)) ((impl_stepsToRoot x2985 (IntKind.wrap .i64 (x3107 + 1))).bind fun (v3118 : Int × Bool) => cond (!(v3118.2)) (some (Sum.inr (Sum.inl false))) (some (Sum.inl (IntKind.wrap .i64 (x3107 + 1))))) (some (Sum.inr (Sum.inr ())))

def impl_TreeOk_n4 (x2985 : List Int) (x3039 : Int) : Option (Bool ⊕ Unit) :=
  nloop (fun (s : Int) => ((impl_TreeOk_n3 x2985 x3039 s).map (Sum.elim (fun (t : Int) => Sum.inl t) (Sum.elim (fun (t : Bool) => Sum.inr (Sum.inl t)) (fun (t : Unit) => Sum.inr (Sum.inr t)))) : Option ((Int) ⊕ (Bool ⊕ Unit)))) LL 0

def impl_TreeOk_n5 (x2985 : List Int) (x3039 : Int) : Option (Unit ⊕ Bool) :=
  (impl_TreeOk_n4 x2985 x3039).map (Sum.elim (fun (t : Bool) => (Sum.inr t)) (fun (t : Unit) => (Sum.inl ())))

def impl_TreeOk_n6 (x2985 : List Int) : Option (Unit ⊕ Bool) :=
  (impl_TreeOk_n2 x2985).bind (fun (t : Int) => impl_TreeOk_n5 x2985 t)

def impl_TreeOk_n7 : Option (Bool) :=
  some true

def impl_TreeOk_n8 (x2985 : List Int) : Option (Bool) :=
  (impl_TreeOk_n6 x2985).bind (Sum.elim (fun (t : Unit) => impl_TreeOk_n7) (fun e => some ((fun (t : Bool) => t) e)))

def impl_TreeOk_n9 (x2985 : List Int) : Option (Bool) :=
  (impl_TreeOk_n1 x2985).bind (Sum.elim (fun (t : Unit) => impl_TreeOk_n8 x2985) (fun e => some ((fun (t : Bool) => t) e)))

@[irreducible] def impl_TreeOk (x2985 : List Int) : Option (Bool) :=
  impl_TreeOk_n9 x2985

def slices_Clone_int_int (x1 : List Int) : Option (List Int) := cloneD x1

def impl_newDesk_n1 (x3128 : List Int) : Option (((List Int))) :=
  (slices_Clone_int_int x3128).bind fun (v3153 : List Int) => some v3153

def impl_newDesk_n2 (x3129 : List (List Int)) : Option (Int) :=
  some (((List.length x3129 : Nat) : Int))

def impl_newDesk_n3 (x3129 : List (List Int)) (x3154 : Int) (x3168 : Int) (x3169 : List (List Int)) : Option ((Int × (List (List Int))) ⊕ ((List (List Int)))) :=
  cond (decide (x3168 < x3154)) ((idx x3129 x3168).bind fun (v3178 : List Int) => (slices_Clone_int_int v3178).bind fun (v3179 : List Int) => (room (List.length x3169 + 1)).bind fun (v3180 : Unit) => some (Sum.inl ((IntKind.wrap .i64 (x3168 + 1)), ((x3169 ++ [[]]).set (List.length x3169) v3179)))) (some (Sum.inr x3169))

def impl_newDesk_n4 (x3129 : List (List Int)) (x3154 : Int) : Option (((List (List Int)))) :=
  nloop (fun (s : Int × (List (List Int))) => ((impl_newDesk_n3 x3129 x3154 s.1 s.2).map (Sum.elim (fun (t : Int × (List (List Int))) => Sum.inl (t.1, t.2)) (fun (t : (List (List Int))) => Sum.inr t)) : Option ((Int × (List (List Int))) ⊕ (((List (List Int))))))) LL (0, ([] : List (List Int)))

def impl_newDesk_n5 (x3129 : List (List Int)) (x3154 : Int) : Option (((List (List Int)))) :=
  (impl_newDesk_n4 x3129 x3154).map (fun (t : (List (List Int))) => t)

def impl_newDesk_n6 (x3129 : List (List Int)) : Option (((List (List Int)))) :=
  (impl_newDesk_n2 x3129).bind (fun (t : Int) => impl_newDesk_n5 x3129 t)

def impl_newDesk_n7 (x3153 : List Int) (x3169 : List (List Int)) : Option (((List Int) × (List (List Int)))) :=
  some (x3153, x3169)

def impl_newDesk_n8 (x3129 : List (List Int)) (x3153 : List Int) : Option (((List Int) × (List (List Int)))) :=
  (impl_newDesk_n6 x3129).bind (fun (t : (List (List Int))) => impl_newDesk_n7 x3153 t)

def impl_newDesk_n9 (x3128 : List Int) (x3129 : List (List Int)) : Option (((List Int) × (List (List Int)))) :=
  (impl_newDesk_n1 x3128).bind (fun (t : (List Int)) => impl_newDesk_n8 x3129 t)

@[irreducible] def impl_newDesk (x3128 : List Int) (x3129 : List (List Int)) : Option ((List Int) × (List (List Int))) :=
  impl_newDesk_n9 x3128 x3129

def impl_DeskNew_n1 (x2984 : List Int) : Option ((Bool × (List Int) × (List (List Int)))) :=
  (impl_TreeOk x2984).bind fun (v3210 : Bool) => cond (!v3210) (some (false, ([] : List Int), ([] : List (List Int)))) ((impl_newDesk x2984 ([] : List (List Int))).bind fun (v3212 : (List Int) × (List (List Int))) => some (true, (v3212.1), (v3212.2)))

@[irreducible] def impl_DeskNew (x2984 : List Int) : Option (Bool × (List Int) × (List (List Int))) :=
  impl_DeskNew_n1 x2984

def spec_DeskNew_n1 (x3229 : List Int) : Option ((Bool × (List Int))) :=
  (spec_TreeOk x3229).bind fun (v3249 : Bool) => cond (!v3249) (some (false, ([] : List Int))) ((room ((List.length ([] : List Int)) + List.length x3229)).bind fun (v3252 : Unit) => some (true, (([] : List Int) ++ x3229)))

@[irreducible] def spec_DeskNew (x3229 : List Int) : Option (Bool × (List Int)) :=
  spec_DeskNew_n1 x3229

def laws_sameInts_n1 (x3272 : List Int) (x3273 : List Int) : Option (Unit ⊕ Bool) :=
  cond ((((List.length x3272 : Nat) : Int)) != (((List.length x3273 : Nat) : Int))) (some (Sum.inr false)) (some (Sum.inl ()))

def laws_sameInts_n2 : Option (Unit) :=
  some ()

def laws_sameInts_n3 (x3272 : List Int) (x3273 : List Int) (x3290 : Int) : Option (Int ⊕ Bool ⊕ Unit) :=
  cond (decide (x3290 < (((List.length x3272 : Nat) : Int)))) ((idx x3272 x3290).bind fun (v3300 : Int) => (idx x3273 x3290).bind fun (v3301 : Int) => cond (v3300 != v3301) (some (Sum.inr (Sum.inl false))) (some (Sum.inl (IntKind.wrap .i64 (x3290 + 1))))) (some (Sum.inr (Sum.inr ())))

def laws_sameInts_n4 (x3272 : List Int) (x3273 : List Int) : Option (Bool ⊕ Unit) :=
  nloop (fun (s : Int) => ((laws_sameInts_n3 x3272 x3273 s).map (Sum.elim (fun (t : Int) => Sum.inl t) (Sum.elim (fun (t : Bool) => Sum.inr (Sum.inl t)) (fun (t : Unit) => Sum.inr (Sum.inr t)))) : Option ((Int) ⊕ (Bool ⊕ Unit)))) LL 0

def laws_sameInts_n5 (x3272 : List Int) (x3273 : List Int) : Option (Unit ⊕ Bool) :=
  (laws_sameInts_n4 x3272 x3273).map (Sum.elim (fun (t : Bool) => (Sum.inr t)) (fun (t : Unit) => (Sum.inl ())))

def laws_sameInts_n6 (x3272 : List Int) (x3273 : List Int) : Option (Unit ⊕ Bool) :=
  (laws_sameInts_n2).bind (fun (t : Unit) => laws_sameInts_n5 x3272 x3273)

def laws_sameInts_n7 : Option (Bool) :=
  some true

def laws_sameInts_n8 (x3272 : List Int) (x3273 : List Int) : Option (Bool) :=
  (laws_sameInts_n6 x3272 x3273).bind (Sum.elim (fun (t : Unit) => laws_sameInts_n7) (fun e => some ((fun (t : Bool) => t) e)))

def laws_sameInts_n9 (x3272 : List Int) (x3273 : List Int) : Option (Bool) :=
  (laws_sameInts_n1 x3272 x3273).bind (Sum.elim (fun (t : Unit) => laws_sameInts_n8 x3272 x3273) (fun e => some ((fun (t : Bool) => t) e)))

@[irreducible] def laws_sameInts (x3272 : List Int) (x3273 : List Int) : Option (Bool) :=
  laws_sameInts_n9 x3272 x3273

def laws_sameRows_n1 (x3306 : List (List Int)) (x3307 : List (List Int)) : Option (Unit ⊕ Bool) :=
  cond ((((List.length x3306 : Nat) : Int)) != (((List.length x3307 : Nat) : Int))) (some (Sum.inr false)) (some (Sum.inl ()))

def laws_sameRows_n2 : Option (Unit) :=
  some ()

def laws_sameRows_n3 (x3306 : List (List Int)) (x3307 : List (List Int)) (x3326 : Int) : Option (Int ⊕ Bool ⊕ Unit) :=
  cond (decide (x3326 < (((List.length x3306 : Nat) : Int)))) ((idx x3306 x3326).bind fun (v3337 : List Int) => (idx x3307 x3326).bind fun (v3338 : List Int) => (laws_sameInts v3337 v3338).bind fun (v3339 : Bool) => cond (!v3339) (some (Sum.inr (Sum.inl false))) (some (Sum.inl (IntKind.wrap .i64 (x3326 + 1))))) (some (Sum.inr (Sum.inr ())))

def laws_sameRows_n4 (x3306 : List (List Int)) (x3307 : List (List Int)) : Option (Bool ⊕ Unit) :=
  nloop (fun (s : Int) => ((laws_sameRows_n3 x3306 x3307 s).map (Sum.elim (fun (t : Int) => Sum.inl t) (Sum.elim (fun (t : Bool) => Sum.inr (Sum.inl t)) (fun (t : Unit) => Sum.inr (Sum.inr t)))) : Option ((Int) ⊕ (Bool ⊕ Unit)))) LL 0

def laws_sameRows_n5 (x3306 : List (List Int)) (x3307 : List (List Int)) : Option (Unit ⊕ Bool) :=
  (laws_sameRows_n4 x3306 x3307).map (Sum.elim (fun (t : Bool) => (Sum.inr t)) (fun (t : Unit) => (Sum.inl ())))

def laws_sameRows_n6 (x3306 : List (List Int)) (x3307 : List (List Int)) : Option (Unit ⊕ Bool) :=
  (laws_sameRows_n2).bind (fun (t : Unit) => laws_sameRows_n5 x3306 x3307)

def laws_sameRows_n7 : Option (Bool) :=
  some true

def laws_sameRows_n8 (x3306 : List (List Int)) (x3307 : List (List Int)) : Option (Bool) :=
  (laws_sameRows_n6 x3306 x3307).bind (Sum.elim (fun (t : Unit) => laws_sameRows_n7) (fun e => some ((fun (t : Bool) => t) e)))

def laws_sameRows_n9 (x3306 : List (List Int)) (x3307 : List (List Int)) : Option (Bool) :=
  (laws_sameRows_n1 x3306 x3307).bind (Sum.elim (fun (t : Unit) => laws_sameRows_n8 x3306 x3307) (fun e => some ((fun (t : Bool) => t) e)))

@[irreducible] def laws_sameRows (x3306 : List (List Int)) (x3307 : List (List Int)) : Option (Bool) :=
  laws_sameRows_n9 x3306 x3307

def laws_sameDesk_n1 (x3269 : List Int) (x3270 : List (List Int)) (x3271 : List Int) : Option (Bool) :=
  (laws_sameInts x3269 x3271).bind fun (v3344 : Bool) => cond v3344 ((laws_sameRows x3270 ([] : List (List Int))).bind fun (v3345 : Bool) => some v3345) (some false)

@[irreducible] def laws_sameDesk (x3269 : List Int) (x3270 : List (List Int)) (x3271 : List Int) : Option (Bool) :=
  laws_sameDesk_n1 x3269 x3270 x3271

def laws_sameDesk_v2_n1 (x3366 : List Int) (x3367 : List (List Int)) : Option (Bool) :=
  (laws_sameInts x3366 ([] : List Int)).bind fun (v3370 : Bool) => cond v3370 ((laws_sameRows x3367 ([] : List (List Int))).bind fun (v3371 : Bool) => some v3371) (some false)

@[irreducible] def laws_sameDesk_v2 (x3366 : List Int) (x3367 : List (List Int)) : Option (Bool) :=
  laws_sameDesk_v2_n1 x3366 x3367

def laws_noDesk_n1 (x3364 : List Int) (x3365 : List (List Int)) : Option (Bool) :=
  (laws_sameDesk_v2 x3364 x3365).bind fun (v3374 : Bool) => some v3374

@[irreducible] def laws_noDesk (x3364 : List Int) (x3365 : List (List Int)) : Option (Bool) :=
  laws_noDesk_n1 x3364 x3365

def laws_alive_n1 : Option (Bool) :=
  (impl_TreeOk ([0])).bind fun (v3384 : Bool) => cond v3384 ((impl_TreeOk ([1])).bind fun (v3386 : Bool) => some (!v3386)) (some false)

@[irreducible] def laws_alive : Option (Bool) :=
  laws_alive_n1

def impl_DeskOk_n1 (x3408 : List Int) (x3409 : List (List Int)) : Option (Unit ⊕ Bool) :=
  (impl_TreeOk x3408).bind fun (v3410 : Bool) => cond (!v3410) (some (Sum.inr false)) (cond (decide ((((List.length x3409 : Nat) : Int)) > 8)) (some (Sum.inr false)) (some (Sum.inl ())))

def impl_DeskOk_n2 (x3409 : List (List Int)) : Option (Int) :=
  some (((List.length x3409 : Nat) : Int))

def impl_DeskOk_n3 (x3409 : List (List Int)) (x3414 : Int) (x3426 : Int) : Option (Int ⊕ Bool ⊕ Unit) :=
  cond (decide (x3426 < x3414)) ((idx x3409 x3426).bind fun (v3434 : List Int) => (impl_TreeOk v3434).bind fun (v3435 : Bool) => cond (!v3435) (some (Sum.inr (Sum.inl false))) (some (Sum.inl (IntKind.wrap .i64 (x3426 + 1))))) (some (Sum.inr (Sum.inr ())))

def impl_DeskOk_n4 (x3409 : List (List Int)) (x3414 : Int) : Option (Bool ⊕ Unit) :=
  nloop (fun (s : Int) => ((impl_DeskOk_n3 x3409 x3414 s).map (Sum.elim (fun (t : Int) => Sum.inl t) (Sum.elim (fun (t : Bool) => Sum.inr (Sum.inl t)) (fun (t : Unit) => Sum.inr (Sum.inr t)))) : Option ((Int) ⊕ (Bool ⊕ Unit)))) LL 0

def impl_DeskOk_n5 (x3409 : List (List Int)) (x3414 : Int) : Option (Unit ⊕ Bool) :=
  (impl_DeskOk_n4 x3409 x3414).map (Sum.elim (fun (t : Bool) => (Sum.inr t)) (fun (t : Unit) => (Sum.inl ())))

def impl_DeskOk_n6 (x3409 : List (List Int)) : Option (Unit ⊕ Bool) :=
  (impl_DeskOk_n2 x3409).bind (fun (t : Int) => impl_DeskOk_n5 x3409 t)

def impl_DeskOk_n7 : Option (Bool) :=
  some true

def impl_DeskOk_n8 (x3409 : List (List Int)) : Option (Bool) :=
  (impl_DeskOk_n6 x3409).bind (Sum.elim (fun (t : Unit) => impl_DeskOk_n7) (fun e => some ((fun (t : Bool) => t) e)))

def impl_DeskOk_n9 (x3408 : List Int) (x3409 : List (List Int)) : Option (Bool) :=
  (impl_DeskOk_n1 x3408 x3409).bind (Sum.elim (fun (t : Unit) => impl_DeskOk_n8 x3409) (fun e => some ((fun (t : Bool) => t) e)))

@[irreducible] def impl_DeskOk (x3408 : List Int) (x3409 : List (List Int)) : Option (Bool) :=
  impl_DeskOk_n9 x3408 x3409

def laws_FnDeskNew_n1 (x1581 : List Int) : Option (Bool) :=
  cond (decide ((((List.length x1581 : Nat) : Int)) > 1048576)) (some true) ((spec_DrawDeskNew x1581).bind fun (v3445 : List Int) => (impl_DeskNew v3445).bind fun (v3446 : Bool × (List Int) × (List (List Int))) => (spec_DeskNew v3445).bind fun (v3450 : Bool × (List Int)) => (laws_sameDesk (v3446.2.1) (v3446.2.2) (v3450.2)).bind fun (v3453 : Bool) => cond (!v3453) (some false) (cond ((v3446.1) != (v3450.1)) (some false) (cond (!(v3446.1)) ((laws_noDesk (v3446.2.1) (v3446.2.2)).bind fun (v3457 : Bool) => cond v3457 ((impl_TreeOk v3445).bind fun (v3458 : Bool) => cond (!v3458) ((laws_alive).bind fun (v3460 : Bool) => some v3460) (some false)) (some false)) ((impl_DeskOk (v3446.2.1) (v3446.2.2)).bind fun (v3461 : Bool) => cond v3461 ((laws_sameInts (v3446.2.1) v3445).bind fun (v3462 : Bool) => cond v3462 (some ((((List.length (v3446.2.2) : Nat) : Int)) == 0)) (some false)) (some false)))))

@[irreducible] def laws_FnDeskNew (x1581 : List Int) : Option (Bool) :=
  laws_FnDeskNew_n1 x1581

end Go.Rv
