/-
  Plain functions, written by program for functions of the checked code. Conditions: none.
-/
import Derived.Test.YtdnefgbdhomgcaaDoorFB
set_option linter.unusedVariables false
namespace Go.Rv
/-! loop.example/headtrees/laws.toIntS -/

def laws_toIntS_n1 (x1305 : List Int) : Option (((List Int))) :=
  (mk (((List.length x1305 : Nat) : Int)) (((List.length x1305 : Nat) : Int))).bind fun (v1307 : Nat) => some (List.replicate v1307 (0 : Int))

def laws_toIntS_n2 : Option (Unit) :=
  some ()

def laws_toIntS_n3 (x1305 : List Int) (x1322 : Int) (x1323 : List Int) : Option ((Int × (List Int)) ⊕ ((List Int))) :=
  cond (decide (x1322 < (((List.length x1305 : Nat) : Int)))) ((idx x1305 x1322).bind fun (v1333 : Int) => (inb x1322 (List.length x1323)).bind fun (v1334 : Nat) => some (Sum.inl ((IntKind.wrap .i64 (x1322 + 1)), (x1323.set v1334 v1333)))) (some (Sum.inr x1323))

def laws_toIntS_n4 (x1305 : List Int) (x1308 : List Int) : Option (((List Int))) :=
  nloop (fun (s : Int × (List Int)) => ((laws_toIntS_n3 x1305 s.1 s.2).map (Sum.elim (fun (t : Int × (List Int)) => Sum.inl (t.1, t.2)) (fun (t : (List Int)) => Sum.inr t)) : Option ((Int × (List Int)) ⊕ (((List Int)))))) LL (0, x1308)

def laws_toIntS_n5 (x1305 : List Int) (x1308 : List Int) : Option (((List Int))) :=
  (laws_toIntS_n4 x1305 x1308).map (fun (t : (List Int)) => t)

def laws_toIntS_n6 (x1305 : List Int) (x1308 : List Int) : Option (((List Int))) :=
  (laws_toIntS_n2).bind (fun (t : Unit) => laws_toIntS_n5 x1305 x1308)

def laws_toIntS_n7 (x1323 : List Int) : Option (((List Int))) :=
  some x1323

def laws_toIntS_n8 (x1305 : List Int) (x1308 : List Int) : Option (((List Int))) :=
  (laws_toIntS_n6 x1305 x1308).bind (fun (t : (List Int)) => laws_toIntS_n7 t)

def laws_toIntS_n9 (x1305 : List Int) : Option (((List Int))) :=
  (laws_toIntS_n1 x1305).bind (fun (t : (List Int)) => laws_toIntS_n8 x1305 t)

@[irreducible] def laws_toIntS (x1305 : List Int) : Option ((List Int)) :=
  laws_toIntS_n9 x1305

/-! loop.example/headtrees/spec.l1In -/

def spec_l1In_n1 (x1345 : Int) (x1346 : Int) (x1347 : Int) : Option (Bool) :=
  cond (decide (x1345 ≥ x1346)) (some (decide (x1345 ≤ x1347))) (some false)

@[irreducible] def spec_l1In (x1345 : Int) (x1346 : Int) (x1347 : Int) : Option (Bool) :=
  spec_l1In_n1 x1345 x1346 x1347

/-! loop.example/headtrees/spec.TreeOk -/

def spec_TreeOk_n1 (x1342 : List Int) : Option (Int ⊕ Bool) :=
  (spec_l1In (((List.length x1342 : Nat) : Int)) 1 8).bind fun (v1356 : Bool) => cond (!v1356) (some (Sum.inr false)) (some (Sum.inl (((List.length x1342 : Nat) : Int))))

def spec_TreeOk_n2 : Option (Unit) :=
  some ()

def spec_TreeOk_n3 (x1355 : Int) (x1422 : Int) (x1423 : Int) : Option (Unit ⊕ Int) :=
  cond (decide (x1423 < x1355)) (some (Sum.inl ())) (some (Sum.inr x1422))

def spec_TreeOk_n4 (x1342 : List Int) (x1355 : Int) (x1422 : Int) (x1423 : Int) : Option ((Int × Int) ⊕ Bool) :=
  (idx x1342 x1423).bind fun (v1440 : Int) => (spec_l1In v1440 0 x1355).bind fun (v1441 : Bool) => cond (!v1441) (some (Sum.inr false)) ((idx x1342 x1423).bind fun (v1443 : Int) => cond (v1443 == (IntKind.wrap .i64 (x1423 + 1))) (some (Sum.inr false)) ((idx x1342 x1423).bind fun (v1446 : Int) => cond (v1446 == 0) (some (Sum.inl ((IntKind.wrap .i64 (x1422 + 1)), (IntKind.wrap .i64 (x1423 + 1))))) (some (Sum.inl (x1422, (IntKind.wrap .i64 (x1423 + 1)))))))

def spec_TreeOk_n5 : Option (Unit) :=
  some ()

def spec_TreeOk_n6 (x1342 : List Int) (x1355 : Int) (x1468 : Int) (x1469 : Int) : Option ((Int × Int) ⊕ Bool ⊕ Int) :=
  cond (decide (x1468 > 0)) (cond (decide (x1469 < x1355)) ((idx x1342 (IntKind.wrap .i64 (x1468 - 1))).bind fun (v1481 : Int) => (spec_l1In v1481 0 x1355).bind fun (v1482 : Bool) => cond (!v1482) (some (Sum.inr (Sum.inl false))) (some (Sum.inl (v1481, (IntKind.wrap .i64 (x1469 + 1)))))) (some (Sum.inr (Sum.inr x1468)))) (some (Sum.inr (Sum.inr x1468)))

def spec_TreeOk_n7 (x1342 : List Int) (x1355 : Int) (x1452 : Int) : Option (Bool ⊕ Int) :=
  nloop (fun (s : Int × Int) => ((spec_TreeOk_n6 x1342 x1355 s.1 s.2).map (Sum.elim (fun (t : Int × Int) => Sum.inl (t.1, t.2)) (Sum.elim (fun (t : Bool) => Sum.inr (Sum.inl t)) (fun (t : Int) => Sum.inr (Sum.inr t)))) : Option ((Int × Int) ⊕ (Bool ⊕ Int)))) LL (x1452, 0)

def spec_TreeOk_n8 (x1342 : List Int) (x1355 : Int) (x1452 : Int) : Option (Int ⊕ Bool) :=
  (spec_TreeOk_n7 x1342 x1355 x1452).map (Sum.elim (fun (t : Bool) => (Sum.inr t)) (fun (t : Int) => (Sum.inl t)))

def spec_TreeOk_n9 (x1342 : List Int) (x1355 : Int) (x1452 : Int) : Option (Int ⊕ Bool) :=
  (spec_TreeOk_n5).bind (fun (t : Unit) => spec_TreeOk_n8 x1342 x1355 x1452)

def spec_TreeOk_n10 (x1468 : Int) : Option (Unit ⊕ Bool) :=
  cond (decide (x1468 > 0)) (some (Sum.inr false)) (some (Sum.inl ()))

def spec_TreeOk_n11 (x1342 : List Int) (x1355 : Int) (x1452 : Int) : Option (Unit ⊕ Bool) :=
  (spec_TreeOk_n9 x1342 x1355 x1452).bind (Sum.elim (fun (t : Int) => spec_TreeOk_n10 t) (fun e => some ((fun (t : Bool) => (Sum.inr t)) e)))

def spec_TreeOk_n12 (x1342 : List Int) (x1355 : Int) (x1422 : Int) (x1423 : Int) : Option (Int ⊕ Bool) :=
  (spec_TreeOk_n4 x1342 x1355 x1422 x1423).bind (Sum.elim (fun (t : Int × Int) => (spec_TreeOk_n11 x1342 x1355 t.2).map (Sum.elim (fun (u : Unit) => (Sum.inl t.1)) (fun (u : Bool) => (Sum.inr u)))) (fun e => some ((fun (t : Bool) => (Sum.inr t)) e)))

def spec_TreeOk_n13 (x1342 : List Int) (x1355 : Int) (x1422 : Int) (x1423 : Int) : Option (Int ⊕ Bool) :=
  (spec_TreeOk_n12 x1342 x1355 x1422 x1423).map (Sum.elim (fun (t : Int) => (Sum.inl t)) (fun (t : Bool) => (Sum.inr t)))

def spec_TreeOk_n14 (x1423 : Int) : Option (Int) :=
  some (IntKind.wrap .i64 (x1423 + 1))

def spec_TreeOk_n15 (x1342 : List Int) (x1355 : Int) (x1422 : Int) (x1423 : Int) : Option ((Int × Int) ⊕ Bool) :=
  (spec_TreeOk_n13 x1342 x1355 x1422 x1423).bind (Sum.elim (fun (t : Int) => (spec_TreeOk_n14 x1423).map (fun (u : Int) => (Sum.inl (t, u)))) (fun e => some ((fun (t : Bool) => (Sum.inr t)) e)))

def spec_TreeOk_n16 (x1342 : List Int) (x1355 : Int) (x1422 : Int) (x1423 : Int) : Option ((Int × Int) ⊕ Bool ⊕ Int) :=
  (spec_TreeOk_n3 x1355 x1422 x1423).bind (Sum.elim (fun (t : Unit) => (spec_TreeOk_n15 x1342 x1355 x1422 x1423).map (Sum.elim (fun (t : Int × Int) => (Sum.inl (t.1, t.2))) (fun (t : Bool) => (Sum.inr (Sum.inl t))))) (fun e => some ((fun (t : Int) => (Sum.inr (Sum.inr t))) e)))

def spec_TreeOk_n17 (x1342 : List Int) (x1355 : Int) : Option (Bool ⊕ Int) :=
  nloop (fun (s : Int × Int) => ((spec_TreeOk_n16 x1342 x1355 s.1 s.2).map (Sum.elim (fun (t : Int × Int) => Sum.inl (t.1, t.2)) (Sum.elim (fun (t : Bool) => Sum.inr (Sum.inl t)) (fun (t : Int) => Sum.inr (Sum.inr t)))) : Option ((Int × Int) ⊕ (Bool ⊕ Int)))) LL (0, 0)

def spec_TreeOk_n18 (x1342 : List Int) (x1355 : Int) : Option (Int ⊕ Bool) :=
  (spec_TreeOk_n17 x1342 x1355).map (Sum.elim (fun (t : Bool) => (Sum.inr t)) (fun (t : Int) => (Sum.inl t)))

def spec_TreeOk_n19 (x1342 : List Int) (x1355 : Int) : Option (Int ⊕ Bool) :=
  (spec_TreeOk_n2).bind (fun (t : Unit) => spec_TreeOk_n18 x1342 x1355)

def spec_TreeOk_n20 (x1422 : Int) : Option (Bool) :=
  some (x1422 == 1)

def spec_TreeOk_n21 (x1342 : List Int) (x1355 : Int) : Option (Bool) :=
  (spec_TreeOk_n19 x1342 x1355).bind (Sum.elim (fun (t : Int) => spec_TreeOk_n20 t) (fun e => some ((fun (t : Bool) => t) e)))

def spec_TreeOk_n22 (x1342 : List Int) : Option (Bool) :=
  (spec_TreeOk_n1 x1342).bind (Sum.elim (fun (t : Int) => spec_TreeOk_n21 x1342 t) (fun e => some ((fun (t : Bool) => t) e)))

@[irreducible] def spec_TreeOk (x1342 : List Int) : Option (Bool) :=
  spec_TreeOk_n22 x1342

/-! loop.example/headtrees/spec.l2Yield -/

def spec_l2Yield_n1 (R0 : (List Int) → Int → Option Int) (x1502 : Int) : Option (Int) :=
  (shl .i64 1 (IntKind.wrap .i64 (x1502 - 1))).bind fun (v1533 : Int) => some v1533

def spec_l2Yield_n2 (R0 : (List Int) → Int → Option Int) : Option (Unit) :=
  some ()

def spec_l2Yield_n3 (R0 : (List Int) → Int → Option Int) (x1501 : List Int) (x1502 : Int) (x1554 : Int) (x1555 : Int) : Option ((Int × Int) ⊕ Int) :=
  cond (decide (x1555 < (((List.length x1501 : Nat) : Int)))) ((idx x1501 x1555).bind fun (v1567 : Int) => cond (v1567 == x1502) ((R0 x1501 (IntKind.wrap .i64 (x1555 + 1))).bind fun (v1570 : Int) => some (Sum.inl ((ior .i64 x1554 v1570), (IntKind.wrap .i64 (x1555 + 1))))) (some (Sum.inl (x1554, (IntKind.wrap .i64 (x1555 + 1)))))) (some (Sum.inr x1554))

def spec_l2Yield_n4 (R0 : (List Int) → Int → Option Int) (x1501 : List Int) (x1502 : Int) (x1533 : Int) : Option (Int) :=
  nloop (fun (s : Int × Int) => ((spec_l2Yield_n3 R0 x1501 x1502 s.1 s.2).map (Sum.elim (fun (t : Int × Int) => Sum.inl (t.1, t.2)) (fun (t : Int) => Sum.inr t)) : Option ((Int × Int) ⊕ (Int)))) LL (x1533, 0)

def spec_l2Yield_n5 (R0 : (List Int) → Int → Option Int) (x1501 : List Int) (x1502 : Int) (x1533 : Int) : Option (Int) :=
  (spec_l2Yield_n4 R0 x1501 x1502 x1533).map (fun (t : Int) => t)

def spec_l2Yield_n6 (R0 : (List Int) → Int → Option Int) (x1501 : List Int) (x1502 : Int) (x1533 : Int) : Option (Int) :=
  (spec_l2Yield_n2 R0).bind (fun (t : Unit) => spec_l2Yield_n5 R0 x1501 x1502 x1533)

def spec_l2Yield_n7 (R0 : (List Int) → Int → Option Int) (x1554 : Int) : Option (Int) :=
  some x1554

def spec_l2Yield_n8 (R0 : (List Int) → Int → Option Int) (x1501 : List Int) (x1502 : Int) (x1533 : Int) : Option (Int) :=
  (spec_l2Yield_n6 R0 x1501 x1502 x1533).bind (fun (t : Int) => spec_l2Yield_n7 R0 t)

def spec_l2Yield_n9 (R0 : (List Int) → Int → Option Int) (x1501 : List Int) (x1502 : Int) : Option (Int) :=
  (spec_l2Yield_n1 R0 x1502).bind (fun (t : Int) => spec_l2Yield_n8 R0 x1501 x1502 t)

def spec_l2Yield_one (R0 : (List Int) → Int → Option Int) (x1501 : List Int) (x1502 : Int) : Option (Int) :=
  spec_l2Yield_n9 R0 x1501 x1502

def spec_l2Yield_knot : Nat → ((List Int) → Int → Option Int)
  | 0 => (fun _ _ => none)
  | n + 1 => (fun y0 y1 => spec_l2Yield_one (spec_l2Yield_knot n) y0 y1)

def spec_l2Yield_fuel (n : Nat) : (List Int) → Int → Option Int := (spec_l2Yield_knot n)

@[irreducible] def spec_l2Yield (x1501 : List Int) (x1502 : Int) : Option (Int) := spec_l2Yield_fuel RR x1501 x1502

/-! loop.example/headtrees/spec.l2Words -/

def spec_l2Words_n1 : Option (Unit) :=
  some ()

def spec_l2Words_n2 : Option (Unit) :=
  some ()

def spec_l2Words_n3 (x1577 : Int) (x1604 : Int) (x1605 : List Int) : Option ((Int × (List Int)) ⊕ ((List Int))) :=
  (shr .i64 x1577 x1604).bind fun (v1618 : Int) => cond (decide (v1618 > 0)) ((shr .i64 x1577 x1604).bind fun (v1620 : Int) => (rem v1620 2).bind fun (v1621 : Int) => cond (v1621 == 1) ((room ((List.length x1605) + List.length ([(IntKind.wrap .i64 (x1604 + 1))]))).bind fun (v1626 : Unit) => some (Sum.inl ((IntKind.wrap .i64 (x1604 + 1)), (x1605 ++ ([(IntKind.wrap .i64 (x1604 + 1))]))))) (some (Sum.inl ((IntKind.wrap .i64 (x1604 + 1)), x1605)))) (some (Sum.inr x1605))

def spec_l2Words_n4 (x1577 : Int) : Option (((List Int))) :=
  nloop (fun (s : Int × (List Int)) => ((spec_l2Words_n3 x1577 s.1 s.2).map (Sum.elim (fun (t : Int × (List Int)) => Sum.inl (t.1, t.2)) (fun (t : (List Int)) => Sum.inr t)) : Option ((Int × (List Int)) ⊕ (((List Int)))))) LL (0, ([] : List Int))

def spec_l2Words_n5 (x1577 : Int) : Option (((List Int))) :=
  (spec_l2Words_n4 x1577).map (fun (t : (List Int)) => t)

def spec_l2Words_n6 (x1577 : Int) : Option (((List Int))) :=
  (spec_l2Words_n2).bind (fun (t : Unit) => spec_l2Words_n5 x1577)

def spec_l2Words_n7 (x1605 : List Int) : Option (((List Int))) :=
  some x1605

def spec_l2Words_n8 (x1577 : Int) : Option (((List Int))) :=
  (spec_l2Words_n6 x1577).bind (fun (t : (List Int)) => spec_l2Words_n7 t)

def spec_l2Words_n9 (x1577 : Int) : Option (((List Int))) :=
  (spec_l2Words_n1).bind (fun (t : Unit) => spec_l2Words_n8 x1577)

@[irreducible] def spec_l2Words (x1577 : Int) : Option ((List Int)) :=
  spec_l2Words_n9 x1577

/-! loop.example/headtrees/spec.YieldOf -/

def spec_YieldOf_n1 (x1340 : List Int) (x1341 : Int) : Option (((List Int))) :=
  (spec_TreeOk x1340).bind fun (v1633 : Bool) => cond (!v1633) (some ([] : List Int)) ((spec_l1In x1341 1 (((List.length x1340 : Nat) : Int))).bind fun (v1636 : Bool) => cond (!v1636) (some ([] : List Int)) ((spec_l2Yield x1340 x1341).bind fun (v1638 : Int) => (spec_l2Words v1638).bind fun (v1639 : List Int) => some v1639))

@[irreducible] def spec_YieldOf (x1340 : List Int) (x1341 : Int) : Option ((List Int)) :=
  spec_YieldOf_n1 x1340 x1341

/-! loop.example/headtrees/spec.RowsOf -/

def spec_RowsOf_n1 (x1338 : List Int) (x1339 : Int) : Option (((List Int))) :=
  (spec_YieldOf x1338 x1339).bind fun (v1721 : List Int) => some v1721

def spec_RowsOf_n2 : Option (Unit) :=
  some ()

def spec_RowsOf_n3 (x1809 : Int) (x1810 : List (List Int)) (x1721 : List Int) : Option ((Int × (List (List Int))) ⊕ ((List (List Int)))) :=
  cond (decide (x1809 < (((List.length x1721 : Nat) : Int)))) (cond (decide (x1809 > 0)) ((inb x1809 (List.length x1721)).bind fun (v1856 : Nat) => (x1721[v1856]?).bind fun (v1857 : Int) => (inb (IntKind.wrap .i64 (x1809 - 1)) (List.length x1721)).bind fun (v1859 : Nat) => (x1721[v1859]?).bind fun (v1860 : Int) => cond (v1857 == (IntKind.wrap .i64 (v1860 + 1))) ((inb (IntKind.wrap .i64 ((((List.length x1810 : Nat) : Int)) - 1)) (List.length x1810)).bind fun (v1867 : Nat) => (x1810[v1867]?).bind fun (v1868 : List Int) => (idx v1868 0).bind fun (v1869 : Int) => (inb x1809 (List.length x1721)).bind fun (v1870 : Nat) => (x1721[v1870]?).bind fun (v1871 : Int) => (inb (IntKind.wrap .i64 ((((List.length x1810 : Nat) : Int)) - 1)) (List.length x1810)).bind fun (v1873 : Nat) => some (Sum.inl ((IntKind.wrap .i64 (x1809 + 1)), (x1810.set v1873 ([v1869, v1871]))))) ((inb x1809 (List.length x1721)).bind fun (v1876 : Nat) => (x1721[v1876]?).bind fun (v1877 : Int) => (inb x1809 (List.length x1721)).bind fun (v1878 : Nat) => (x1721[v1878]?).bind fun (v1879 : Int) => (room ((List.length x1810) + List.length ([([v1877, v1879])]))).bind fun (v1883 : Unit) => some (Sum.inl ((IntKind.wrap .i64 (x1809 + 1)), (x1810 ++ ([([v1877, v1879])])))))) ((inb x1809 (List.length x1721)).bind fun (v1886 : Nat) => (x1721[v1886]?).bind fun (v1887 : Int) => (inb x1809 (List.length x1721)).bind fun (v1888 : Nat) => (x1721[v1888]?).bind fun (v1889 : Int) => (room ((List.length x1810) + List.length ([([v1887, v1889])]))).bind fun (v1893 : Unit) => some (Sum.inl ((IntKind.wrap .i64 (x1809 + 1)), (x1810 ++ ([([v1887, v1889])])))))) (some (Sum.inr x1810))

def spec_RowsOf_n4 (x1721 : List Int) : Option (((List (List Int)))) :=
  nloop (fun (s : Int × (List (List Int))) => ((spec_RowsOf_n3 s.1 s.2 x1721).map (Sum.elim (fun (t : Int × (List (List Int))) => Sum.inl (t.1, t.2)) (fun (t : (List (List Int))) => Sum.inr t)) : Option ((Int × (List (List Int))) ⊕ (((List (List Int))))))) LL (0, ([] : List (List Int)))

def spec_RowsOf_n5 (x1721 : List Int) : Option (((List (List Int)))) :=
  (spec_RowsOf_n4 x1721).map (fun (t : (List (List Int))) => t)

def spec_RowsOf_n6 (x1721 : List Int) : Option (((List (List Int)))) :=
  (spec_RowsOf_n2).bind (fun (t : Unit) => spec_RowsOf_n5 x1721)

def spec_RowsOf_n7 (x1810 : List (List Int)) : Option (((List (List Int)))) :=
  some x1810

def spec_RowsOf_n8 (x1721 : List Int) : Option (((List (List Int)))) :=
  (spec_RowsOf_n6 x1721).bind (fun (t : (List (List Int))) => spec_RowsOf_n7 t)

def spec_RowsOf_n9 (x1338 : List Int) (x1339 : Int) : Option (((List (List Int)))) :=
  (spec_RowsOf_n1 x1338 x1339).bind (fun (t : (List Int)) => spec_RowsOf_n8 t)

@[irreducible] def spec_RowsOf (x1338 : List Int) (x1339 : Int) : Option ((List (List Int))) :=
  spec_RowsOf_n9 x1338 x1339

/-! loop.example/headtrees/impl.oneRoot -/

def impl_oneRoot_n1 : Option (Unit) :=
  some ()

def impl_oneRoot_n2 (x1923 : List Int) : Option (Int) :=
  some (((List.length x1923 : Nat) : Int))

def impl_oneRoot_n3 (x1923 : List Int) (x1945 : Int) (x1924 : Int) (x1946 : Int) : Option ((Int × Int) ⊕ Bool ⊕ Int) :=
  cond (decide (x1946 < x1924)) ((idx x1923 x1946).bind fun (v1957 : Int) => cond (decide (v1957 < 0)) (some (Sum.inr (Sum.inl false))) (cond (decide (v1957 > (((List.length x1923 : Nat) : Int)))) (some (Sum.inr (Sum.inl false))) (cond (v1957 == 0) (some (Sum.inl ((IntKind.wrap .i64 (x1945 + 1)), (IntKind.wrap .i64 (x1946 + 1))))) (some (Sum.inl (x1945, (IntKind.wrap .i64 (x1946 + 1)))))))) (some (Sum.inr (Sum.inr x1945)))

def impl_oneRoot_n4 (x1923 : List Int) (x1924 : Int) : Option (Bool ⊕ Int) :=
  nloop (fun (s : Int × Int) => ((impl_oneRoot_n3 x1923 s.1 x1924 s.2).map (Sum.elim (fun (t : Int × Int) => Sum.inl (t.1, t.2)) (Sum.elim (fun (t : Bool) => Sum.inr (Sum.inl t)) (fun (t : Int) => Sum.inr (Sum.inr t)))) : Option ((Int × Int) ⊕ (Bool ⊕ Int)))) LL (0, 0)

def impl_oneRoot_n5 (x1923 : List Int) (x1924 : Int) : Option (Int ⊕ Bool) :=
  (impl_oneRoot_n4 x1923 x1924).map (Sum.elim (fun (t : Bool) => (Sum.inr t)) (fun (t : Int) => (Sum.inl t)))

def impl_oneRoot_n6 (x1923 : List Int) : Option (Int ⊕ Bool) :=
  (impl_oneRoot_n2 x1923).bind (fun (t : Int) => impl_oneRoot_n5 x1923 t)

def impl_oneRoot_n7 (x1945 : Int) : Option (Bool) :=
  some (x1945 == 1)

def impl_oneRoot_n8 (x1923 : List Int) : Option (Bool) :=
  (impl_oneRoot_n6 x1923).bind (Sum.elim (fun (t : Int) => impl_oneRoot_n7 t) (fun e => some ((fun (t : Bool) => t) e)))

def impl_oneRoot_n9 (x1923 : List Int) : Option (Bool) :=
  (impl_oneRoot_n1).bind (fun (t : Unit) => impl_oneRoot_n8 x1923)

@[irreducible] def impl_oneRoot (x1923 : List Int) : Option (Bool) :=
  impl_oneRoot_n9 x1923

/-! (*loop.example/headtrees/impl.walker).up -/

def impl_walker_up_n1 (x1979 : List Int) (x1980 : Int) (x1981 : Int) : Option ((Bool × Int × Int)) :=
  (idx x1979 (IntKind.wrap .i64 (x1980 - 1))).bind fun (v1999 : Int) => cond (v1999 == 0) (some (false, x1980, x1981)) (some (true, v1999, (IntKind.wrap .i64 (x1981 + 1))))

@[irreducible] def impl_walker_up (x1979 : List Int) (x1980 : Int) (x1981 : Int) : Option (Bool × Int × Int) :=
  impl_walker_up_n1 x1979 x1980 x1981

/-! loop.example/headtrees/impl.stepsToRoot -/

def impl_stepsToRoot_n1 : Option (Unit) :=
  some ()

def impl_stepsToRoot_n2 (x1977 : List Int) (x2015 : Int) (x2016 : Int) : Option ((Int × Int) ⊕ (Int × Bool) ⊕ (Int × Int)) :=
  (impl_walker_up x1977 x2015 x2016).bind fun (v2021 : Bool × Int × Int) => cond (v2021.1) (cond (decide ((v2021.2.2) ≥ (((List.length x1977 : Nat) : Int)))) (some (Sum.inr (Sum.inl (0, false)))) (some (Sum.inl ((v2021.2.1), (v2021.2.2))))) (some (Sum.inr (Sum.inr ((v2021.2.1), (v2021.2.2)))))

def impl_stepsToRoot_n3 (x1977 : List Int) (x1978 : Int) : Option ((Int × Bool) ⊕ (Int × Int)) :=
  nloop (fun (s : Int × Int) => ((impl_stepsToRoot_n2 x1977 s.1 s.2).map (Sum.elim (fun (t : Int × Int) => Sum.inl (t.1, t.2)) (Sum.elim (fun (t : Int × Bool) => Sum.inr (Sum.inl t)) (fun (t : Int × Int) => Sum.inr (Sum.inr t)))) : Option ((Int × Int) ⊕ ((Int × Bool) ⊕ (Int × Int))))) LL (x1978, 0)

def impl_stepsToRoot_n4 (x1977 : List Int) (x1978 : Int) : Option ((Int × Int) ⊕ (Int × Bool)) :=
  (impl_stepsToRoot_n3 x1977 x1978).map (Sum.elim (fun (t : Int × Bool) => (Sum.inr t)) (fun (t : Int × Int) => (Sum.inl (t.1, t.2))))

def impl_stepsToRoot_n5 (x2024 : Int) : Option ((Int × Bool)) :=
  some (x2024, true)

def impl_stepsToRoot_n6 (x1977 : List Int) (x1978 : Int) : Option ((Int × Bool)) :=
  (impl_stepsToRoot_n4 x1977 x1978).bind (Sum.elim (fun (t : Int × Int) => impl_stepsToRoot_n5 t.2) (fun e => some ((fun (t : Int × Bool) => t) e)))

def impl_stepsToRoot_n7 (x1977 : List Int) (x1978 : Int) : Option ((Int × Bool)) :=
  (impl_stepsToRoot_n1).bind (fun (t : Unit) => impl_stepsToRoot_n6 x1977 x1978)

@[irreducible] def impl_stepsToRoot (x1977 : List Int) (x1978 : Int) : Option (Int × Bool) :=
  impl_stepsToRoot_n7 x1977 x1978

/-! loop.example/headtrees/impl.TreeOk -/

def impl_TreeOk_n1 (x1918 : List Int) : Option (Unit ⊕ Bool) :=
  cond (decide ((((List.length x1918 : Nat) : Int)) < 1)) (some (Sum.inr false)) (cond (decide ((((List.length x1918 : Nat) : Int)) > 8)) (some (Sum.inr false)) ((impl_oneRoot x1918).bind fun (v1970 : Bool) => cond (!v1970) (some (Sum.inr false)) (some (Sum.inl ()))))

def impl_TreeOk_n2 (x1918 : List Int) : Option (Int) :=
  some (((List.length x1918 : Nat) : Int))

def impl_TreeOk_n3 (x1918 : List Int) (x1972 : Int) (x2040 : Int) : Option (Int ⊕ Bool ⊕ Unit) :=
  cond (decide (x2040 < x1972)) ((impl_stepsToRoot x1918 (IntKind.wrap .i64 (x2040 + 1))).bind fun (v2051 : Int × Bool) => cond (!(v2051.2)) (some (Sum.inr (Sum.inl false))) (some (Sum.inl (IntKind.wrap .i64 (x2040 + 1))))) (some (Sum.inr (Sum.inr ())))

def impl_TreeOk_n4 (x1918 : List Int) (x1972 : Int) : Option (Bool ⊕ Unit) :=
  nloop (fun (s : Int) => ((impl_TreeOk_n3 x1918 x1972 s).map (Sum.elim (fun (t : Int) => Sum.inl t) (Sum.elim (fun (t : Bool) => Sum.inr (Sum.inl t)) (fun (t : Unit) => Sum.inr (Sum.inr t)))) : Option ((Int) ⊕ (Bool ⊕ Unit)))) LL 0

def impl_TreeOk_n5 (x1918 : List Int) (x1972 : Int) : Option (Unit ⊕ Bool) :=
  (impl_TreeOk_n4 x1918 x1972).map (Sum.elim (fun (t : Bool) => (Sum.inr t)) (fun (t : Unit) => (Sum.inl ())))

def impl_TreeOk_n6 (x1918 : List Int) : Option (Unit ⊕ Bool) :=
  (impl_TreeOk_n2 x1918).bind (fun (t : Int) => impl_TreeOk_n5 x1918 t)

def impl_TreeOk_n7 : Option (Bool) :=
  some true

def impl_TreeOk_n8 (x1918 : List Int) : Option (Bool) :=
  (impl_TreeOk_n6 x1918).bind (Sum.elim (fun (t : Unit) => impl_TreeOk_n7) (fun e => some ((fun (t : Bool) => t) e)))

def impl_TreeOk_n9 (x1918 : List Int) : Option (Bool) :=
  (impl_TreeOk_n1 x1918).bind (Sum.elim (fun (t : Unit) => impl_TreeOk_n8 x1918) (fun e => some ((fun (t : Bool) => t) e)))

@[irreducible] def impl_TreeOk (x1918 : List Int) : Option (Bool) :=
  impl_TreeOk_n9 x1918

/-! loop.example/headtrees/impl.wordOk -/

def impl_wordOk_n1 (x1916 : List Int) (x1917 : Int) : Option (Bool) :=
  (impl_TreeOk x1916).bind fun (v2061 : Bool) => cond v2061 (cond (decide (x1917 ≥ 1)) (some (decide (x1917 ≤ (((List.length x1916 : Nat) : Int))))) (some false)) (some false)

@[irreducible] def impl_wordOk (x1916 : List Int) (x1917 : Int) : Option (Bool) :=
  impl_wordOk_n1 x1916 x1917

/-! loop.example/headtrees/impl.RootOf -/

def impl_RootOf_n1 (x2077 : List Int) : Option (Unit ⊕ Int) :=
  (impl_TreeOk x2077).bind fun (v2080 : Bool) => cond (!v2080) (some (Sum.inr (-1))) (some (Sum.inl ()))

def impl_RootOf_n2 (x2077 : List Int) (x2090 : Int) (x2091 : Int) : Option ((Int × Int) ⊕ (Int × Int)) :=
  (impl_walker_up x2077 x2090 x2091).bind fun (v2096 : Bool × Int × Int) => cond (v2096.1) (some (Sum.inl ((v2096.2.1), (v2096.2.2)))) (some (Sum.inr ((v2096.2.1), (v2096.2.2))))

def impl_RootOf_n3 (x2077 : List Int) : Option ((Int × Int)) :=
  nloop (fun (s : Int × Int) => ((impl_RootOf_n2 x2077 s.1 s.2).map (Sum.elim (fun (t : Int × Int) => Sum.inl (t.1, t.2)) (fun (t : Int × Int) => Sum.inr t)) : Option ((Int × Int) ⊕ ((Int × Int))))) LL (1, 0)

def impl_RootOf_n4 (x2077 : List Int) : Option ((Int × Int)) :=
  (impl_RootOf_n3 x2077).map (fun (t : Int × Int) => (t.1, t.2))

def impl_RootOf_n5 (x2098 : Int) : Option (Int) :=
  some x2098

def impl_RootOf_n6 (x2077 : List Int) : Option (Int) :=
  (impl_RootOf_n4 x2077).bind (fun (t : Int × Int) => impl_RootOf_n5 t.1)

def impl_RootOf_n7 (x2077 : List Int) : Option (Int) :=
  (impl_RootOf_n1 x2077).bind (Sum.elim (fun (t : Unit) => impl_RootOf_n6 x2077) (fun e => some ((fun (t : Int) => t) e)))

@[irreducible] def impl_RootOf (x2077 : List Int) : Option (Int) :=
  impl_RootOf_n7 x2077

/-! loop.example/headtrees/impl.only -/

def impl_only_n1 (x2105 : Int) : Option (Int) :=
  (shl .u64 1 (IntKind.wrap .i64 (x2105 - 1))).bind fun (v2109 : Int) => some v2109

@[irreducible] def impl_only (x2105 : Int) : Option (Int) :=
  impl_only_n1 x2105

/-! loop.example/headtrees/impl.dependents -/

def impl_dependents_n1 : Option (Unit) :=
  some ()

def impl_dependents_n2 (x2111 : List Int) : Option (Int) :=
  some (((List.length x2111 : Nat) : Int))

def impl_dependents_n3 (x2111 : List Int) (x2112 : Int) (x2132 : Int) (x2113 : Int) (x2133 : Int) : Option ((Int × Int) ⊕ Int) :=
  cond (decide (x2133 < x2113)) ((idx x2111 x2133).bind fun (v2143 : Int) => cond (v2143 == x2112) ((impl_only (IntKind.wrap .i64 (x2133 + 1))).bind fun (v2146 : Int) => some (Sum.inl ((ior .u64 x2132 v2146), (IntKind.wrap .i64 (x2133 + 1))))) (some (Sum.inl (x2132, (IntKind.wrap .i64 (x2133 + 1)))))) (some (Sum.inr x2132))

def impl_dependents_n4 (x2111 : List Int) (x2112 : Int) (x2113 : Int) : Option (Int) :=
  nloop (fun (s : Int × Int) => ((impl_dependents_n3 x2111 x2112 s.1 x2113 s.2).map (Sum.elim (fun (t : Int × Int) => Sum.inl (t.1, t.2)) (fun (t : Int) => Sum.inr t)) : Option ((Int × Int) ⊕ (Int)))) LL (0, 0)

def impl_dependents_n5 (x2111 : List Int) (x2112 : Int) (x2113 : Int) : Option (Int) :=
  (impl_dependents_n4 x2111 x2112 x2113).map (fun (t : Int) => t)

def impl_dependents_n6 (x2111 : List Int) (x2112 : Int) : Option (Int) :=
  (impl_dependents_n2 x2111).bind (fun (t : Int) => impl_dependents_n5 x2111 x2112 t)

def impl_dependents_n7 (x2132 : Int) : Option (Int) :=
  some x2132

def impl_dependents_n8 (x2111 : List Int) (x2112 : Int) : Option (Int) :=
  (impl_dependents_n6 x2111 x2112).bind (fun (t : Int) => impl_dependents_n7 t)

def impl_dependents_n9 (x2111 : List Int) (x2112 : Int) : Option (Int) :=
  (impl_dependents_n1).bind (fun (t : Unit) => impl_dependents_n8 x2111 x2112)

@[irreducible] def impl_dependents (x2111 : List Int) (x2112 : Int) : Option (Int) :=
  impl_dependents_n9 x2111 x2112

/-! math/bits.OnesCount64 -/

def math_bits_OnesCount64_n1 (x2156 : Int) : Option (Int) :=
  (shr .u64 x2156 1).bind fun (v2157 : Int) => some (IntKind.wrap .u64 ((iand .u64 v2157 6148914691236517205) + (iand .u64 x2156 6148914691236517205)))

def math_bits_OnesCount64_n2 (x2160 : Int) : Option (Int) :=
  (shr .u64 x2160 2).bind fun (v2173 : Int) => some (IntKind.wrap .u64 ((iand .u64 v2173 3689348814741910323) + (iand .u64 x2160 3689348814741910323)))

def math_bits_OnesCount64_n3 (x2176 : Int) : Option (Int) :=
  (shr .u64 x2176 4).bind fun (v2180 : Int) => some (iand .u64 (IntKind.wrap .u64 (v2180 + x2176)) 1085102592571150095)

def math_bits_OnesCount64_n4 (x2182 : Int) : Option (Int) :=
  (shr .u64 x2182 8).bind fun (v2185 : Int) => some (IntKind.wrap .u64 (x2182 + v2185))

def math_bits_OnesCount64_n5 (x2186 : Int) : Option (Int) :=
  (shr .u64 x2186 16).bind fun (v2189 : Int) => some (IntKind.wrap .u64 (x2186 + v2189))

def math_bits_OnesCount64_n6 (x2190 : Int) : Option (Int) :=
  (shr .u64 x2190 32).bind fun (v2193 : Int) => some (IntKind.wrap .u64 (x2190 + v2193))

def math_bits_OnesCount64_n7 (x2194 : Int) : Option (Int) :=
  some (iand .i64 (IntKind.wrap .i64 x2194) 127)

def math_bits_OnesCount64_n8 (x2198 : Int) : Option (Int) :=
  some x2198

def math_bits_OnesCount64_n9 (x2194 : Int) : Option (Int) :=
  (math_bits_OnesCount64_n7 x2194).bind (fun (t : Int) => math_bits_OnesCount64_n8 t)

def math_bits_OnesCount64_n10 (x2190 : Int) : Option (Int) :=
  (math_bits_OnesCount64_n6 x2190).bind (fun (t : Int) => math_bits_OnesCount64_n9 t)

def math_bits_OnesCount64_n11 (x2186 : Int) : Option (Int) :=
  (math_bits_OnesCount64_n5 x2186).bind (fun (t : Int) => math_bits_OnesCount64_n10 t)

def math_bits_OnesCount64_n12 (x2182 : Int) : Option (Int) :=
  (math_bits_OnesCount64_n4 x2182).bind (fun (t : Int) => math_bits_OnesCount64_n11 t)

def math_bits_OnesCount64_n13 (x2176 : Int) : Option (Int) :=
  (math_bits_OnesCount64_n3 x2176).bind (fun (t : Int) => math_bits_OnesCount64_n12 t)

def math_bits_OnesCount64_n14 (x2160 : Int) : Option (Int) :=
  (math_bits_OnesCount64_n2 x2160).bind (fun (t : Int) => math_bits_OnesCount64_n13 t)

def math_bits_OnesCount64_n15 (x2156 : Int) : Option (Int) :=
  (math_bits_OnesCount64_n1 x2156).bind (fun (t : Int) => math_bits_OnesCount64_n14 t)

@[irreducible] def math_bits_OnesCount64 (x2156 : Int) : Option (Int) :=
  math_bits_OnesCount64_n15 x2156

/-! math/bits.OnesCount -/

def math_bits_OnesCount_n1 (x2155 : Int) : Option (Int) :=
  (math_bits_OnesCount64 x2155).bind fun (v2200 : Int) => some v2200

@[irreducible] def math_bits_OnesCount (x2155 : Int) : Option (Int) :=
  math_bits_OnesCount_n1 x2155

/-! (loop.example/headtrees/impl.wordSet).count -/

def impl_wordSet_count_n1 (x2154 : Int) : Option (Int) :=
  (math_bits_OnesCount x2154).bind fun (v2202 : Int) => some v2202

@[irreducible] def impl_wordSet_count (x2154 : Int) : Option (Int) :=
  impl_wordSet_count_n1 x2154

/-! math/bits.TrailingZeros64 -/

def math_bits_TrailingZeros64_n1 (x2209 : Int) : Option (Int) :=
  cond (x2209 == 0) (some 64) ((shr .u64 (IntKind.wrap .u64 ((iand .u64 x2209 (IntKind.wrap .u64 (0 - x2209))) * 285870213051353865)) 58).bind fun (v2223 : Int) => (same (List.length tab1) 64).bind fun (v2224 : Unit) => (idx tab1 v2223).bind fun (v2225 : Int) => some (IntKind.wrap .i64 v2225))

@[irreducible] def math_bits_TrailingZeros64 (x2209 : Int) : Option (Int) :=
  math_bits_TrailingZeros64_n1 x2209

/-! math/bits.TrailingZeros -/

def math_bits_TrailingZeros_n1 (x2208 : Int) : Option (Int) :=
  (math_bits_TrailingZeros64 x2208).bind fun (v2229 : Int) => some v2229

@[irreducible] def math_bits_TrailingZeros (x2208 : Int) : Option (Int) :=
  math_bits_TrailingZeros_n1 x2208

/-! (loop.example/headtrees/impl.wordSet).list -/

def impl_wordSet_list_n1 (x2153 : Int) : Option (((List Int))) :=
  (impl_wordSet_count x2153).bind fun (v2203 : Int) => (mk 0 v2203).bind fun (v2204 : Nat) => some (List.replicate v2204 (0 : Int))

def impl_wordSet_list_n2 : Option (Unit) :=
  some ()

def impl_wordSet_list_n3 (x2245 : Int) (x2246 : List Int) : Option ((Int × (List Int)) ⊕ ((List Int))) :=
  cond (x2245 != 0) ((math_bits_TrailingZeros x2245).bind fun (v2256 : Int) => (room ((List.length x2246) + List.length ([(IntKind.wrap .i64 (v2256 + 1))]))).bind fun (v2260 : Unit) => some (Sum.inl ((iand .u64 x2245 (IntKind.wrap .u64 (x2245 - 1))), (x2246 ++ ([(IntKind.wrap .i64 (v2256 + 1))]))))) (some (Sum.inr x2246))

def impl_wordSet_list_n4 (x2153 : Int) (x2205 : List Int) : Option (((List Int))) :=
  nloop (fun (s : Int × (List Int)) => ((impl_wordSet_list_n3 s.1 s.2).map (Sum.elim (fun (t : Int × (List Int)) => Sum.inl (t.1, t.2)) (fun (t : (List Int)) => Sum.inr t)) : Option ((Int × (List Int)) ⊕ (((List Int)))))) LL (x2153, x2205)

def impl_wordSet_list_n5 (x2153 : Int) (x2205 : List Int) : Option (((List Int))) :=
  (impl_wordSet_list_n4 x2153 x2205).map (fun (t : (List Int)) => t)

def impl_wordSet_list_n6 (x2153 : Int) (x2205 : List Int) : Option (((List Int))) :=
  (impl_wordSet_list_n2).bind (fun (t : Unit) => impl_wordSet_list_n5 x2153 x2205)

def impl_wordSet_list_n7 (x2246 : List Int) : Option (((List Int))) :=
  some x2246

def impl_wordSet_list_n8 (x2153 : Int) (x2205 : List Int) : Option (((List Int))) :=
  (impl_wordSet_list_n6 x2153 x2205).bind (fun (t : (List Int)) => impl_wordSet_list_n7 t)

def impl_wordSet_list_n9 (x2153 : Int) : Option (((List Int))) :=
  (impl_wordSet_list_n1 x2153).bind (fun (t : (List Int)) => impl_wordSet_list_n8 x2153 t)

@[irreducible] def impl_wordSet_list (x2153 : Int) : Option ((List Int)) :=
  impl_wordSet_list_n9 x2153

/-! loop.example/headtrees/impl.fillYields -/

def impl_fillYields_n1 (R0 : (List Int) → Int → (List Int) → Option (Int × (List Int))) (x2103 : Int) : Option (Int) :=
  (impl_only x2103).bind fun (v2280 : Int) => some v2280

def impl_fillYields_n2 (R0 : (List Int) → Int → (List Int) → Option (Int × (List Int))) (x2102 : List Int) (x2103 : Int) : Option ((Int × (List Int))) :=
  (impl_dependents x2102 x2103).bind fun (v2281 : Int) => (impl_wordSet_list v2281).bind fun (v2282 : List Int) => some ((((List.length v2282 : Nat) : Int)), v2282)

def impl_fillYields_n3 (R0 : (List Int) → Int → (List Int) → Option (Int × (List Int))) (x2102 : List Int) (x2301 : Int) (x2283 : Int) (x2302 : Int) (x2303 : List Int) (x2282 : List Int) : Option ((Int × Int × (List Int)) ⊕ (Int × (List Int))) :=
  cond (decide (x2302 < x2283)) ((inb x2302 (List.length x2282)).bind fun (v2314 : Nat) => (x2282[v2314]?).bind fun (v2315 : Int) => (R0 x2102 v2315 x2303).bind fun (v2316 : Int × (List Int)) => some (Sum.inl ((ior .u64 x2301 (v2316.1)), (IntKind.wrap .i64 (x2302 + 1)), (v2316.2)))) (some (Sum.inr (x2301, x2303)))

def impl_fillYields_n4 (R0 : (List Int) → Int → (List Int) → Option (Int × (List Int))) (x2102 : List Int) (x2280 : Int) (x2283 : Int) (x2104 : List Int) (x2282 : List Int) : Option ((Int × (List Int))) :=
  nloop (fun (s : Int × Int × (List Int)) => ((impl_fillYields_n3 R0 x2102 s.1 x2283 s.2.1 s.2.2 x2282).map (Sum.elim (fun (t : Int × Int × (List Int)) => Sum.inl (t.1, t.2.1, t.2.2)) (fun (t : Int × (List Int)) => Sum.inr t)) : Option ((Int × Int × (List Int)) ⊕ ((Int × (List Int)))))) LL (x2280, 0, x2104)

def impl_fillYields_n5 (R0 : (List Int) → Int → (List Int) → Option (Int × (List Int))) (x2102 : List Int) (x2280 : Int) (x2283 : Int) (x2104 : List Int) (x2282 : List Int) : Option ((Int × (List Int))) :=
  (impl_fillYields_n4 R0 x2102 x2280 x2283 x2104 x2282).map (fun (t : Int × (List Int)) => (t.1, t.2))

def impl_fillYields_n6 (R0 : (List Int) → Int → (List Int) → Option (Int × (List Int))) (x2102 : List Int) (x2103 : Int) (x2280 : Int) (x2104 : List Int) : Option ((Int × (List Int))) :=
  (impl_fillYields_n2 R0 x2102 x2103).bind (fun (t : Int × (List Int)) => impl_fillYields_n5 R0 x2102 x2280 t.1 x2104 t.2)

def impl_fillYields_n7 (R0 : (List Int) → Int → (List Int) → Option (Int × (List Int))) (x2103 : Int) (x2301 : Int) (x2303 : List Int) : Option ((Int × (List Int))) :=
  (inb (IntKind.wrap .i64 (x2103 - 1)) (List.length x2303)).bind fun (v2328 : Nat) => some (x2301, (x2303.set v2328 x2301))

def impl_fillYields_n8 (R0 : (List Int) → Int → (List Int) → Option (Int × (List Int))) (x2102 : List Int) (x2103 : Int) (x2280 : Int) (x2104 : List Int) : Option ((Int × (List Int))) :=
  (impl_fillYields_n6 R0 x2102 x2103 x2280 x2104).bind (fun (t : Int × (List Int)) => impl_fillYields_n7 R0 x2103 t.1 t.2)

def impl_fillYields_n9 (R0 : (List Int) → Int → (List Int) → Option (Int × (List Int))) (x2102 : List Int) (x2103 : Int) (x2104 : List Int) : Option ((Int × (List Int))) :=
  (impl_fillYields_n1 R0 x2103).bind (fun (t : Int) => impl_fillYields_n8 R0 x2102 x2103 t x2104)

def impl_fillYields_one (R0 : (List Int) → Int → (List Int) → Option (Int × (List Int))) (x2102 : List Int) (x2103 : Int) (x2104 : List Int) : Option (Int × (List Int)) :=
  impl_fillYields_n9 R0 x2102 x2103 x2104

def impl_fillYields_knot : Nat → ((List Int) → Int → (List Int) → Option (Int × (List Int)))
  | 0 => (fun _ _ _ => none)
  | n + 1 => (fun y0 y1 y2 => impl_fillYields_one (impl_fillYields_knot n) y0 y1 y2)

def impl_fillYields_fuel (n : Nat) : (List Int) → Int → (List Int) → Option (Int × (List Int)) := (impl_fillYields_knot n)

@[irreducible] def impl_fillYields (x2102 : List Int) (x2103 : Int) (x2104 : List Int) : Option (Int × (List Int)) := impl_fillYields_fuel RR x2102 x2103 x2104

/-! loop.example/headtrees/impl.yieldsOf -/

def impl_yieldsOf_n1 (x2070 : List Int) : Option (((List Int))) :=
  (mk (((List.length x2070 : Nat) : Int)) (((List.length x2070 : Nat) : Int))).bind fun (v2341 : Nat) => (impl_RootOf x2070).bind fun (v2343 : Int) => (impl_fillYields x2070 v2343 (List.replicate v2341 (0 : Int))).bind fun (v2344 : Int × (List Int)) => some (v2344.2)

@[irreducible] def impl_yieldsOf (x2070 : List Int) : Option ((List Int)) :=
  impl_yieldsOf_n1 x2070

/-! (loop.example/headtrees/impl.wordSet).ends -/

def impl_wordSet_ends_n1 (x2357 : Int) : Option (Int) :=
  (shr .u64 x2357 1).bind fun (v2360 : Int) => some (iandn .u64 x2357 v2360)

@[irreducible] def impl_wordSet_ends (x2357 : Int) : Option (Int) :=
  impl_wordSet_ends_n1 x2357

/-! (loop.example/headtrees/impl.wordSet).begins -/

def impl_wordSet_begins_n1 (x2375 : Int) : Option (Int) :=
  (shl .u64 x2375 1).bind fun (v2378 : Int) => some (iandn .u64 x2375 v2378)

@[irreducible] def impl_wordSet_begins (x2375 : Int) : Option (Int) :=
  impl_wordSet_begins_n1 x2375

/-! loop.example/headtrees/impl.RowsOf -/

def impl_RowsOf_n1 (x1914 : List Int) (x1915 : Int) : Option ((Int × (List Int) × (List (List Int))) ⊕ ((List (List Int)))) :=
  (impl_wordOk x1914 x1915).bind fun (v2364 : Bool) => cond (!v2364) (some (Sum.inr ([] : List (List Int)))) ((impl_yieldsOf x1914).bind fun (v2366 : List Int) => (inb (IntKind.wrap .i64 (x1915 - 1)) (List.length v2366)).bind fun (v2368 : Nat) => (v2366[v2368]?).bind fun (v2369 : Int) => (impl_wordSet_ends v2369).bind fun (v2370 : Int) => (impl_wordSet_list v2370).bind fun (v2371 : List Int) => (mk (((List.length v2371 : Nat) : Int)) (((List.length v2371 : Nat) : Int))).bind fun (v2373 : Nat) => some (Sum.inl (v2369, v2371, (List.replicate v2373 []))))

def impl_RowsOf_n2 (x2369 : Int) : Option ((Int × (List Int))) :=
  (impl_wordSet_begins x2369).bind fun (v2380 : Int) => (impl_wordSet_list v2380).bind fun (v2381 : List Int) => some ((((List.length v2381 : Nat) : Int)), v2381)

def impl_RowsOf_n3 (x2382 : Int) (x2404 : Int) (x2371 : List Int) (x2405 : List (List Int)) (x2381 : List Int) : Option ((Int × (List (List Int))) ⊕ ((List (List Int)))) :=
  cond (decide (x2404 < x2382)) ((inb x2404 (List.length x2381)).bind fun (v2418 : Nat) => (x2381[v2418]?).bind fun (v2419 : Int) => (inb x2404 (List.length x2371)).bind fun (v2420 : Nat) => (x2371[v2420]?).bind fun (v2421 : Int) => (inb x2404 (List.length x2405)).bind fun (v2423 : Nat) => (within v2423 (List.length x2405)).bind fun (v2424 : Unit) => some (Sum.inl ((IntKind.wrap .i64 (x2404 + 1)), ((x2405).set v2423 ([v2419, v2421]))))) (some (Sum.inr x2405))

def impl_RowsOf_n4 (x2382 : Int) (x2371 : List Int) (x2374 : List (List Int)) (x2381 : List Int) : Option (((List (List Int)))) :=
  nloop (fun (s : Int × (List (List Int))) => ((impl_RowsOf_n3 x2382 s.1 x2371 s.2 x2381).map (Sum.elim (fun (t : Int × (List (List Int))) => Sum.inl (t.1, t.2)) (fun (t : (List (List Int))) => Sum.inr t)) : Option ((Int × (List (List Int))) ⊕ (((List (List Int))))))) LL (0, x2374)

def impl_RowsOf_n5 (x2382 : Int) (x2371 : List Int) (x2374 : List (List Int)) (x2381 : List Int) : Option (((List (List Int)))) :=
  (impl_RowsOf_n4 x2382 x2371 x2374 x2381).map (fun (t : (List (List Int))) => t)

def impl_RowsOf_n6 (x2369 : Int) (x2371 : List Int) (x2374 : List (List Int)) : Option (((List (List Int)))) :=
  (impl_RowsOf_n2 x2369).bind (fun (t : Int × (List Int)) => impl_RowsOf_n5 t.1 x2371 x2374 t.2)

def impl_RowsOf_n7 (x2405 : List (List Int)) : Option (((List (List Int)))) :=
  some x2405

def impl_RowsOf_n8 (x2369 : Int) (x2371 : List Int) (x2374 : List (List Int)) : Option (((List (List Int)))) :=
  (impl_RowsOf_n6 x2369 x2371 x2374).bind (fun (t : (List (List Int))) => impl_RowsOf_n7 t)

def impl_RowsOf_n9 (x1914 : List Int) (x1915 : Int) : Option (((List (List Int)))) :=
  (impl_RowsOf_n1 x1914 x1915).bind (Sum.elim (fun (t : Int × (List Int) × (List (List Int))) => impl_RowsOf_n8 t.1 t.2.1 t.2.2) (fun e => some ((fun (t : (List (List Int))) => t) e)))

@[irreducible] def impl_RowsOf (x1914 : List Int) (x1915 : Int) : Option ((List (List Int))) :=
  impl_RowsOf_n9 x1914 x1915

/-! loop.example/headtrees/laws.eqIntS -/

def laws_eqIntS_n1 (x2446 : List Int) (x2447 : List Int) : Option (Unit ⊕ Bool) :=
  cond ((((List.length x2446 : Nat) : Int)) != (((List.length x2447 : Nat) : Int))) (some (Sum.inr false)) (some (Sum.inl ()))

def laws_eqIntS_n2 : Option (Unit) :=
  some ()

def laws_eqIntS_n3 (x2446 : List Int) (x2447 : List Int) (x2464 : Int) : Option (Int ⊕ Bool ⊕ Unit) :=
  cond (decide (x2464 < (((List.length x2446 : Nat) : Int)))) ((idx x2446 x2464).bind fun (v2474 : Int) => (idx x2447 x2464).bind fun (v2475 : Int) => cond (v2474 != v2475) (some (Sum.inr (Sum.inl false))) (some (Sum.inl (IntKind.wrap .i64 (x2464 + 1))))) (some (Sum.inr (Sum.inr ())))

def laws_eqIntS_n4 (x2446 : List Int) (x2447 : List Int) : Option (Bool ⊕ Unit) :=
  nloop (fun (s : Int) => ((laws_eqIntS_n3 x2446 x2447 s).map (Sum.elim (fun (t : Int) => Sum.inl t) (Sum.elim (fun (t : Bool) => Sum.inr (Sum.inl t)) (fun (t : Unit) => Sum.inr (Sum.inr t)))) : Option ((Int) ⊕ (Bool ⊕ Unit)))) LL 0

def laws_eqIntS_n5 (x2446 : List Int) (x2447 : List Int) : Option (Unit ⊕ Bool) :=
  (laws_eqIntS_n4 x2446 x2447).map (Sum.elim (fun (t : Bool) => (Sum.inr t)) (fun (t : Unit) => (Sum.inl ())))

def laws_eqIntS_n6 (x2446 : List Int) (x2447 : List Int) : Option (Unit ⊕ Bool) :=
  (laws_eqIntS_n2).bind (fun (t : Unit) => laws_eqIntS_n5 x2446 x2447)

def laws_eqIntS_n7 : Option (Bool) :=
  some true

def laws_eqIntS_n8 (x2446 : List Int) (x2447 : List Int) : Option (Bool) :=
  (laws_eqIntS_n6 x2446 x2447).bind (Sum.elim (fun (t : Unit) => laws_eqIntS_n7) (fun e => some ((fun (t : Bool) => t) e)))

def laws_eqIntS_n9 (x2446 : List Int) (x2447 : List Int) : Option (Bool) :=
  (laws_eqIntS_n1 x2446 x2447).bind (Sum.elim (fun (t : Unit) => laws_eqIntS_n8 x2446 x2447) (fun e => some ((fun (t : Bool) => t) e)))

@[irreducible] def laws_eqIntS (x2446 : List Int) (x2447 : List Int) : Option (Bool) :=
  laws_eqIntS_n9 x2446 x2447

/-! loop.example/headtrees/laws.eqIntSS -/

def laws_eqIntSS_n1 (x2435 : List (List Int)) (x2436 : List (List Int)) : Option (Unit ⊕ Bool) :=
  cond ((((List.length x2435 : Nat) : Int)) != (((List.length x2436 : Nat) : Int))) (some (Sum.inr false)) (some (Sum.inl ()))

def laws_eqIntSS_n2 : Option (Unit) :=
  some ()

def laws_eqIntSS_n3 (x2435 : List (List Int)) (x2436 : List (List Int)) (x2488 : Int) : Option (Int ⊕ Bool ⊕ Unit) :=
  cond (decide (x2488 < (((List.length x2435 : Nat) : Int)))) ((idx x2435 x2488).bind fun (v2499 : List Int) => (idx x2436 x2488).bind fun (v2500 : List Int) => (laws_eqIntS v2499 v2500).bind fun (v2501 : Bool) => cond (!v2501) (some (Sum.inr (Sum.inl false))) (some (Sum.inl (IntKind.wrap .i64 (x2488 + 1))))) (some (Sum.inr (Sum.inr ())))

def laws_eqIntSS_n4 (x2435 : List (List Int)) (x2436 : List (List Int)) : Option (Bool ⊕ Unit) :=
  nloop (fun (s : Int) => ((laws_eqIntSS_n3 x2435 x2436 s).map (Sum.elim (fun (t : Int) => Sum.inl t) (Sum.elim (fun (t : Bool) => Sum.inr (Sum.inl t)) (fun (t : Unit) => Sum.inr (Sum.inr t)))) : Option ((Int) ⊕ (Bool ⊕ Unit)))) LL 0

def laws_eqIntSS_n5 (x2435 : List (List Int)) (x2436 : List (List Int)) : Option (Unit ⊕ Bool) :=
  (laws_eqIntSS_n4 x2435 x2436).map (Sum.elim (fun (t : Bool) => (Sum.inr t)) (fun (t : Unit) => (Sum.inl ())))

def laws_eqIntSS_n6 (x2435 : List (List Int)) (x2436 : List (List Int)) : Option (Unit ⊕ Bool) :=
  (laws_eqIntSS_n2).bind (fun (t : Unit) => laws_eqIntSS_n5 x2435 x2436)

def laws_eqIntSS_n7 : Option (Bool) :=
  some true

def laws_eqIntSS_n8 (x2435 : List (List Int)) (x2436 : List (List Int)) : Option (Bool) :=
  (laws_eqIntSS_n6 x2435 x2436).bind (Sum.elim (fun (t : Unit) => laws_eqIntSS_n7) (fun e => some ((fun (t : Bool) => t) e)))

def laws_eqIntSS_n9 (x2435 : List (List Int)) (x2436 : List (List Int)) : Option (Bool) :=
  (laws_eqIntSS_n1 x2435 x2436).bind (Sum.elim (fun (t : Unit) => laws_eqIntSS_n8 x2435 x2436) (fun e => some ((fun (t : Bool) => t) e)))

@[irreducible] def laws_eqIntSS (x2435 : List (List Int)) (x2436 : List (List Int)) : Option (Bool) :=
  laws_eqIntSS_n9 x2435 x2436

/-! loop.example/headtrees/laws.markIntS -/

def laws_markIntS_n1 : Option (Unit) :=
  some ()

def laws_markIntS_n2 : Option (Unit) :=
  some ()

def laws_markIntS_n3 (x2555 : Int) (x2556 : Int) (x2557 : List Int) : Option ((Int × Int × (List Int)) ⊕ (Int × (List Int))) :=
  cond (decide (x2556 < (((List.length x2557 : Nat) : Int)))) ((inb x2556 (List.length x2557)).bind fun (v2567 : Nat) => some (Sum.inl ((IntKind.wrap .i64 (x2555 + 1)), (IntKind.wrap .i64 (x2556 + 1)), (x2557.set v2567 x2555)))) (some (Sum.inr (x2555, x2557)))

def laws_markIntS_n4 (x2540 : Int) (x2541 : List Int) : Option ((Int × (List Int))) :=
  nloop (fun (s : Int × Int × (List Int)) => ((laws_markIntS_n3 s.1 s.2.1 s.2.2).map (Sum.elim (fun (t : Int × Int × (List Int)) => Sum.inl (t.1, t.2.1, t.2.2)) (fun (t : Int × (List Int)) => Sum.inr t)) : Option ((Int × Int × (List Int)) ⊕ ((Int × (List Int)))))) LL (x2540, 0, x2541)

def laws_markIntS_n5 (x2540 : Int) (x2541 : List Int) : Option ((Int × (List Int))) :=
  (laws_markIntS_n4 x2540 x2541).map (fun (t : Int × (List Int)) => (t.1, t.2))

def laws_markIntS_n6 (x2540 : Int) (x2541 : List Int) : Option ((Int × (List Int))) :=
  (laws_markIntS_n2).bind (fun (t : Unit) => laws_markIntS_n5 x2540 x2541)

def laws_markIntS_n7 (x2555 : Int) (x2557 : List Int) : Option ((Int × (List Int))) :=
  some (x2555, x2557)

def laws_markIntS_n8 (x2540 : Int) (x2541 : List Int) : Option ((Int × (List Int))) :=
  (laws_markIntS_n6 x2540 x2541).bind (fun (t : Int × (List Int)) => laws_markIntS_n7 t.1 t.2)

def laws_markIntS_n9 (x2540 : Int) (x2541 : List Int) : Option ((Int × (List Int))) :=
  (laws_markIntS_n1).bind (fun (t : Unit) => laws_markIntS_n8 x2540 x2541)

@[irreducible] def laws_markIntS (x2540 : Int) (x2541 : List Int) : Option (Int × (List Int)) :=
  laws_markIntS_n9 x2540 x2541

/-! loop.example/headtrees/laws.markIntSS -/

def laws_markIntSS_n1 : Option (Unit) :=
  some ()

def laws_markIntSS_n2 : Option (Unit) :=
  some ()

def laws_markIntSS_n3 (x2658 : Int) (x2659 : Int) (x2660 : List (List Int)) : Option ((Int × Int × (List (List Int))) ⊕ (Int × (List (List Int)))) :=
  cond (decide (x2659 < (((List.length x2660 : Nat) : Int)))) ((inb x2659 (List.length x2660)).bind fun (v2674 : Nat) => ((x2660)[v2674]?).bind fun (v2675 : List Int) => (laws_markIntS x2658 v2675).bind fun (v2677 : Int × (List Int)) => some (Sum.inl ((v2677.1), (IntKind.wrap .i64 (x2659 + 1)), ((((x2660).set v2674 [])).set v2674 (v2677.2))))) (some (Sum.inr (x2658, x2660)))

def laws_markIntSS_n4 (x2625 : Int) (x2626 : List (List Int)) : Option ((Int × (List (List Int)))) :=
  nloop (fun (s : Int × Int × (List (List Int))) => ((laws_markIntSS_n3 s.1 s.2.1 s.2.2).map (Sum.elim (fun (t : Int × Int × (List (List Int))) => Sum.inl (t.1, t.2.1, t.2.2)) (fun (t : Int × (List (List Int))) => Sum.inr t)) : Option ((Int × Int × (List (List Int))) ⊕ ((Int × (List (List Int))))))) LL (x2625, 0, x2626)

def laws_markIntSS_n5 (x2625 : Int) (x2626 : List (List Int)) : Option ((Int × (List (List Int)))) :=
  (laws_markIntSS_n4 x2625 x2626).map (fun (t : Int × (List (List Int))) => (t.1, t.2))

def laws_markIntSS_n6 (x2625 : Int) (x2626 : List (List Int)) : Option ((Int × (List (List Int)))) :=
  (laws_markIntSS_n2).bind (fun (t : Unit) => laws_markIntSS_n5 x2625 x2626)

def laws_markIntSS_n7 (x2658 : Int) (x2660 : List (List Int)) : Option ((Int × (List (List Int)))) :=
  some (x2658, x2660)

def laws_markIntSS_n8 (x2625 : Int) (x2626 : List (List Int)) : Option ((Int × (List (List Int)))) :=
  (laws_markIntSS_n6 x2625 x2626).bind (fun (t : Int × (List (List Int))) => laws_markIntSS_n7 t.1 t.2)

def laws_markIntSS_n9 (x2625 : Int) (x2626 : List (List Int)) : Option ((Int × (List (List Int)))) :=
  (laws_markIntSS_n1).bind (fun (t : Unit) => laws_markIntSS_n8 x2625 x2626)

@[irreducible] def laws_markIntSS (x2625 : Int) (x2626 : List (List Int)) : Option (Int × (List (List Int))) :=
  laws_markIntSS_n9 x2625 x2626

/-! loop.example/headtrees/laws.heldIntS -/

def laws_heldIntS_n1 : Option (Unit) :=
  some ()

def laws_heldIntS_n2 : Option (Unit) :=
  some ()

def laws_heldIntS_n3 (x2732 : List Int) (x2747 : Int) (x2748 : Int) : Option ((Int × Int) ⊕ Int ⊕ Int) :=
  cond (decide (x2748 < (((List.length x2732 : Nat) : Int)))) ((idx x2732 x2748).bind fun (v2758 : Int) => cond (v2758 != x2747) (some (Sum.inr (Sum.inl (-1)))) (some (Sum.inl ((IntKind.wrap .i64 (x2747 + 1)), (IntKind.wrap .i64 (x2748 + 1)))))) (some (Sum.inr (Sum.inr x2747)))

def laws_heldIntS_n4 (x2732 : List Int) (x2733 : Int) : Option (Int ⊕ Int) :=
  nloop (fun (s : Int × Int) => ((laws_heldIntS_n3 x2732 s.1 s.2).map (Sum.elim (fun (t : Int × Int) => Sum.inl (t.1, t.2)) (Sum.elim (fun (t : Int) => Sum.inr (Sum.inl t)) (fun (t : Int) => Sum.inr (Sum.inr t)))) : Option ((Int × Int) ⊕ (Int ⊕ Int)))) LL (x2733, 0)

def laws_heldIntS_n5 (x2732 : List Int) (x2733 : Int) : Option (Int ⊕ Int) :=
  (laws_heldIntS_n4 x2732 x2733).map (Sum.elim (fun (t : Int) => (Sum.inr t)) (fun (t : Int) => (Sum.inl t)))

def laws_heldIntS_n6 (x2732 : List Int) (x2733 : Int) : Option (Int ⊕ Int) :=
  (laws_heldIntS_n2).bind (fun (t : Unit) => laws_heldIntS_n5 x2732 x2733)

def laws_heldIntS_n7 (x2747 : Int) : Option (Int) :=
  some x2747

def laws_heldIntS_n8 (x2732 : List Int) (x2733 : Int) : Option (Int) :=
  (laws_heldIntS_n6 x2732 x2733).bind (Sum.elim (fun (t : Int) => laws_heldIntS_n7 t) (fun e => some ((fun (t : Int) => t) e)))

def laws_heldIntS_n9 (x2732 : List Int) (x2733 : Int) : Option (Int) :=
  (laws_heldIntS_n1).bind (fun (t : Unit) => laws_heldIntS_n8 x2732 x2733)

@[irreducible] def laws_heldIntS (x2732 : List Int) (x2733 : Int) : Option (Int) :=
  laws_heldIntS_n9 x2732 x2733

/-! loop.example/headtrees/laws.heldIntSS -/

def laws_heldIntSS_n1 : Option (Unit) :=
  some ()

def laws_heldIntSS_n2 : Option (Unit) :=
  some ()

def laws_heldIntSS_n3 (x2725 : List (List Int)) (x2771 : Int) (x2772 : Int) : Option ((Int × Int) ⊕ Int ⊕ Int) :=
  cond (decide (x2772 < (((List.length x2725 : Nat) : Int)))) ((idx x2725 x2772).bind fun (v2782 : List Int) => (laws_heldIntS v2782 x2771).bind fun (v2783 : Int) => cond (decide (v2783 < 0)) (some (Sum.inr (Sum.inl (-1)))) (some (Sum.inl (v2783, (IntKind.wrap .i64 (x2772 + 1)))))) (some (Sum.inr (Sum.inr x2771)))

def laws_heldIntSS_n4 (x2725 : List (List Int)) (x2726 : Int) : Option (Int ⊕ Int) :=
  nloop (fun (s : Int × Int) => ((laws_heldIntSS_n3 x2725 s.1 s.2).map (Sum.elim (fun (t : Int × Int) => Sum.inl (t.1, t.2)) (Sum.elim (fun (t : Int) => Sum.inr (Sum.inl t)) (fun (t : Int) => Sum.inr (Sum.inr t)))) : Option ((Int × Int) ⊕ (Int ⊕ Int)))) LL (x2726, 0)

def laws_heldIntSS_n5 (x2725 : List (List Int)) (x2726 : Int) : Option (Int ⊕ Int) :=
  (laws_heldIntSS_n4 x2725 x2726).map (Sum.elim (fun (t : Int) => (Sum.inr t)) (fun (t : Int) => (Sum.inl t)))

def laws_heldIntSS_n6 (x2725 : List (List Int)) (x2726 : Int) : Option (Int ⊕ Int) :=
  (laws_heldIntSS_n2).bind (fun (t : Unit) => laws_heldIntSS_n5 x2725 x2726)

def laws_heldIntSS_n7 (x2771 : Int) : Option (Int) :=
  some x2771

def laws_heldIntSS_n8 (x2725 : List (List Int)) (x2726 : Int) : Option (Int) :=
  (laws_heldIntSS_n6 x2725 x2726).bind (Sum.elim (fun (t : Int) => laws_heldIntSS_n7 t) (fun e => some ((fun (t : Int) => t) e)))

def laws_heldIntSS_n9 (x2725 : List (List Int)) (x2726 : Int) : Option (Int) :=
  (laws_heldIntSS_n1).bind (fun (t : Unit) => laws_heldIntSS_n8 x2725 x2726)

@[irreducible] def laws_heldIntSS (x2725 : List (List Int)) (x2726 : Int) : Option (Int) :=
  laws_heldIntSS_n9 x2725 x2726

/-! loop.example/headtrees/laws.FnExactRowsOf -/

def laws_FnExactRowsOf_n1 (x1299 : List Int) (x1300 : Int) : Option (Bool) :=
  cond (decide ((((List.length x1299 : Nat) : Int)) > 1048576)) (some true) ((laws_toIntS x1299).bind fun (v3031 : List Int) => (spec_RowsOf v3031 x1300).bind fun (v3032 : List (List Int)) => (laws_toIntS x1299).bind fun (v3033 : List Int) => (impl_RowsOf v3033 x1300).bind fun (v3034 : List (List Int)) => (laws_eqIntSS v3034 v3032).bind fun (v3035 : Bool) => cond (!v3035) (some false) ((laws_toIntS x1299).bind fun (v3037 : List Int) => (laws_eqIntS v3033 v3037).bind fun (v3038 : Bool) => cond (!v3038) (some false) ((laws_markIntS 1 v3033).bind fun (v3040 : Int × (List Int)) => cond (decide ((v3040.1) < 0)) (some false) ((laws_eqIntSS v3034 v3032).bind fun (v3044 : Bool) => cond (!v3044) (some false) ((laws_markIntSS 1 v3034).bind fun (v3046 : Int × (List (List Int))) => (laws_heldIntSS (v3046.2) 1).bind fun (v3049 : Int) => cond (decide (v3049 < 0)) (some false) (cond (v3049 != (v3046.1)) (some false) ((laws_toIntS x1299).bind fun (v3052 : List Int) => (impl_RowsOf v3052 x1300).bind fun (v3053 : List (List Int)) => (laws_eqIntSS v3053 v3032).bind fun (v3054 : Bool) => cond (!v3054) (some false) ((laws_heldIntSS (v3046.2) 1).bind fun (v3056 : Int) => cond (decide (v3056 < 0)) (some false) (cond (v3056 != (v3046.1)) (some false) (some true))))))))))

@[irreducible] def laws_FnExactRowsOf (x1299 : List Int) (x1300 : Int) : Option (Bool) :=
  laws_FnExactRowsOf_n1 x1299 x1300

end Go.Rv
