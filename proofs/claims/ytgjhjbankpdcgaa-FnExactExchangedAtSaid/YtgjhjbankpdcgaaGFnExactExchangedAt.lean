/-
  Plain functions, written by program for functions of the checked code. Conditions: none.
-/
import Derived.Test.YtgjhjbankpdcgaaFB
set_option linter.unusedVariables false
namespace Go.Rv
def impl_OrderOk_n1 (x554 : List Int) (x555 : Int) : Option (Unit ⊕ Bool) :=
  cond (decide (x555 < 1)) (some (Sum.inr false)) (cond (decide (x555 > 8)) (some (Sum.inr false)) (cond ((((List.length x554 : Nat) : Int)) != x555) (some (Sum.inr false)) (some (Sum.inl ()))))

def impl_OrderOk_n2 (x554 : List Int) : Option (Int) :=
  some (((List.length x554 : Nat) : Int))

def impl_OrderOk_n3 (x555 : Int) (x554 : List Int) (x565 : Int) (x589 : Int) (x590 : List Bool) : Option ((Int × (List Bool)) ⊕ Bool ⊕ Unit) :=
  cond (decide (x589 < x565)) ((idx x554 x589).bind fun (v604 : Int) => cond (decide (v604 < 1)) (some (Sum.inr (Sum.inl false))) (cond (decide (v604 > x555)) (some (Sum.inr (Sum.inl false))) ((same (List.length x590) 9).bind fun (v607 : Unit) => (inb v604 9).bind fun (v608 : Nat) => (x590[v608]?).bind fun (v609 : Bool) => cond v609 (some (Sum.inr (Sum.inl false))) ((same (List.length x590) 9).bind fun (v610 : Unit) => (inb v604 9).bind fun (v611 : Nat) => some (Sum.inl ((IntKind.wrap .i64 (x589 + 1)), (x590.set v611 true))))))) (some (Sum.inr (Sum.inr ())))

def impl_OrderOk_n4 (x555 : Int) (x554 : List Int) (x565 : Int) : Option (Bool ⊕ Unit) :=
  nloop (fun (s : Int × (List Bool)) => ((impl_OrderOk_n3 x555 x554 x565 s.1 s.2).map (Sum.elim (fun (t : Int × (List Bool)) => Sum.inl (t.1, t.2)) (Sum.elim (fun (t : Bool) => Sum.inr (Sum.inl t)) (fun (t : Unit) => Sum.inr (Sum.inr t)))) : Option ((Int × (List Bool)) ⊕ (Bool ⊕ Unit)))) LL (0, (List.replicate 9 false))

def impl_OrderOk_n5 (x555 : Int) (x554 : List Int) (x565 : Int) : Option (Unit ⊕ Bool) :=
  (impl_OrderOk_n4 x555 x554 x565).map (Sum.elim (fun (t : Bool) => (Sum.inr t)) (fun (t : Unit) => (Sum.inl ())))

def impl_OrderOk_n6 (x554 : List Int) (x555 : Int) : Option (Unit ⊕ Bool) :=
  (impl_OrderOk_n2 x554).bind (fun (t : Int) => impl_OrderOk_n5 x555 x554 t)

def impl_OrderOk_n7 : Option (Bool) :=
  some true

def impl_OrderOk_n8 (x554 : List Int) (x555 : Int) : Option (Bool) :=
  (impl_OrderOk_n6 x554 x555).bind (Sum.elim (fun (t : Unit) => impl_OrderOk_n7) (fun e => some ((fun (t : Bool) => t) e)))

def impl_OrderOk_n9 (x554 : List Int) (x555 : Int) : Option (Bool) :=
  (impl_OrderOk_n1 x554 x555).bind (Sum.elim (fun (t : Unit) => impl_OrderOk_n8 x554 x555) (fun e => some ((fun (t : Bool) => t) e)))

@[irreducible] def impl_OrderOk (x554 : List Int) (x555 : Int) : Option (Bool) :=
  impl_OrderOk_n9 x554 x555

def spec_l1In_n1 (x1281 : Int) (x1282 : Int) (x1283 : Int) : Option (Bool) :=
  cond (decide (x1281 ≥ x1282)) (some (decide (x1281 ≤ x1283))) (some false)

@[irreducible] def spec_l1In (x1281 : Int) (x1282 : Int) (x1283 : Int) : Option (Bool) :=
  spec_l1In_n1 x1281 x1282 x1283

def spec_OrderOk_n1 : Option (Unit) :=
  some ()

def spec_OrderOk_n2 : Option (Unit) :=
  some ()

def spec_OrderOk_n3 (x1276 : List Int) (x1316 : Int) : Option (Unit ⊕ Unit) :=
  cond (decide (x1316 < (((List.length x1276 : Nat) : Int)))) (some (Sum.inl ())) (some (Sum.inr ()))

def spec_OrderOk_n4 (x1276 : List Int) (x1277 : Int) (x1316 : Int) : Option (Unit ⊕ Bool) :=
  (idx x1276 x1316).bind fun (v1322 : Int) => (spec_l1In v1322 1 x1277).bind fun (v1323 : Bool) => cond (!v1323) (some (Sum.inr false)) (some (Sum.inl ()))

def spec_OrderOk_n5 (x1276 : List Int) (x1316 : Int) (x1335 : Int) : Option (Int ⊕ Bool ⊕ Unit) :=
  cond (decide (x1335 < x1316)) ((idx x1276 x1335).bind fun (v1342 : Int) => (idx x1276 x1316).bind fun (v1343 : Int) => cond (v1342 == v1343) (some (Sum.inr (Sum.inl false))) (some (Sum.inl (IntKind.wrap .i64 (x1335 + 1))))) (some (Sum.inr (Sum.inr ())))

def spec_OrderOk_n6 (x1276 : List Int) (x1316 : Int) : Option (Bool ⊕ Unit) :=
  nloop (fun (s : Int) => ((spec_OrderOk_n5 x1276 x1316 s).map (Sum.elim (fun (t : Int) => Sum.inl t) (Sum.elim (fun (t : Bool) => Sum.inr (Sum.inl t)) (fun (t : Unit) => Sum.inr (Sum.inr t)))) : Option ((Int) ⊕ (Bool ⊕ Unit)))) LL 0

def spec_OrderOk_n7 (x1276 : List Int) (x1316 : Int) : Option (Unit ⊕ Bool) :=
  (spec_OrderOk_n6 x1276 x1316).map (Sum.elim (fun (t : Bool) => (Sum.inr t)) (fun (t : Unit) => (Sum.inl ())))

def spec_OrderOk_n8 (x1276 : List Int) (x1277 : Int) (x1316 : Int) : Option (Unit ⊕ Bool) :=
  (spec_OrderOk_n4 x1276 x1277 x1316).bind (Sum.elim (fun (t : Unit) => spec_OrderOk_n7 x1276 x1316) (fun e => some ((fun (t : Bool) => (Sum.inr t)) e)))

def spec_OrderOk_n9 (x1276 : List Int) (x1277 : Int) (x1316 : Int) : Option (Unit ⊕ Bool) :=
  (spec_OrderOk_n8 x1276 x1277 x1316).map (Sum.elim (fun (t : Unit) => (Sum.inl ())) (fun (t : Bool) => (Sum.inr t)))

def spec_OrderOk_n10 (x1316 : Int) : Option (Int) :=
  some (IntKind.wrap .i64 (x1316 + 1))

def spec_OrderOk_n11 (x1276 : List Int) (x1277 : Int) (x1316 : Int) : Option (Int ⊕ Bool) :=
  (spec_OrderOk_n9 x1276 x1277 x1316).bind (Sum.elim (fun (t : Unit) => (spec_OrderOk_n10 x1316).map (fun (t : Int) => (Sum.inl t))) (fun e => some ((fun (t : Bool) => (Sum.inr t)) e)))

def spec_OrderOk_n12 (x1276 : List Int) (x1277 : Int) (x1316 : Int) : Option (Int ⊕ Bool ⊕ Unit) :=
  (spec_OrderOk_n3 x1276 x1316).bind (Sum.elim (fun (t : Unit) => (spec_OrderOk_n11 x1276 x1277 x1316).map (Sum.elim (fun (t : Int) => (Sum.inl t)) (fun (t : Bool) => (Sum.inr (Sum.inl t))))) (fun e => some ((fun (t : Unit) => (Sum.inr (Sum.inr t))) e)))

def spec_OrderOk_n13 (x1276 : List Int) (x1277 : Int) : Option (Bool ⊕ Unit) :=
  nloop (fun (s : Int) => ((spec_OrderOk_n12 x1276 x1277 s).map (Sum.elim (fun (t : Int) => Sum.inl t) (Sum.elim (fun (t : Bool) => Sum.inr (Sum.inl t)) (fun (t : Unit) => Sum.inr (Sum.inr t)))) : Option ((Int) ⊕ (Bool ⊕ Unit)))) LL 0

def spec_OrderOk_n14 (x1276 : List Int) (x1277 : Int) : Option (Unit ⊕ Bool) :=
  (spec_OrderOk_n13 x1276 x1277).map (Sum.elim (fun (t : Bool) => (Sum.inr t)) (fun (t : Unit) => (Sum.inl ())))

def spec_OrderOk_n15 (x1276 : List Int) (x1277 : Int) : Option (Unit ⊕ Bool) :=
  (spec_OrderOk_n2).bind (fun (t : Unit) => spec_OrderOk_n14 x1276 x1277)

def spec_OrderOk_n16 (x1276 : List Int) (x1277 : Int) : Option (Bool) :=
  (spec_l1In x1277 1 8).bind fun (v1350 : Bool) => cond v1350 (some ((((List.length x1276 : Nat) : Int)) == x1277)) (some false)

def spec_OrderOk_n17 (x1276 : List Int) (x1277 : Int) : Option (Bool) :=
  (spec_OrderOk_n15 x1276 x1277).bind (Sum.elim (fun (t : Unit) => spec_OrderOk_n16 x1276 x1277) (fun e => some ((fun (t : Bool) => t) e)))

def spec_OrderOk_n18 (x1276 : List Int) (x1277 : Int) : Option (Bool) :=
  (spec_OrderOk_n1).bind (fun (t : Unit) => spec_OrderOk_n17 x1276 x1277)

@[irreducible] def spec_OrderOk (x1276 : List Int) (x1277 : Int) : Option (Bool) :=
  spec_OrderOk_n18 x1276 x1277

def slices_Clone_int_int_n1 (x1819 : List Int) : Option (((List Int))) :=
  (sure (!(List.isEmpty x1819))).bind fun (v1825 : Unit) => (room ((List.length ([] : List Int)) + List.length x1819)).bind fun (v1827 : Unit) => some (([] : List Int) ++ x1819)

@[irreducible] def slices_Clone_int_int (x1819 : List Int) : Option ((List Int)) :=
  slices_Clone_int_int_n1 x1819

def impl_ExchangedAt_n1 (x1803 : List Int) (x1804 : Int) : Option ((Bool × (List Int))) :=
  (impl_OrderOk x1803 (((List.length x1803 : Nat) : Int))).bind fun (v1863 : Bool) => cond (!v1863) (some (false, ([] : List Int))) (cond (decide (x1804 < 0)) (some (false, ([] : List Int))) (cond (decide (x1804 ≥ (IntKind.wrap .i64 ((((List.length x1803 : Nat) : Int)) - 1)))) (some (false, ([] : List Int))) ((slices_Clone_int_int x1803).bind fun (v1869 : List Int) => (idx x1803 (IntKind.wrap .i64 (x1804 + 1))).bind fun (v1872 : Int) => (idx x1803 x1804).bind fun (v1873 : Int) => (inb x1804 (List.length v1869)).bind fun (v1874 : Nat) => (inb (IntKind.wrap .i64 (x1804 + 1)) (List.length (v1869.set v1874 v1872))).bind fun (v1876 : Nat) => some (true, ((v1869.set v1874 v1872).set v1876 v1873)))))

@[irreducible] def impl_ExchangedAt (x1803 : List Int) (x1804 : Int) : Option (Bool × (List Int)) :=
  impl_ExchangedAt_n1 x1803 x1804

def spec_ExchangedAt_n1 (x1891 : List Int) (x1892 : Int) : Option ((Bool × (List Int))) :=
  (spec_OrderOk x1891 (((List.length x1891 : Nat) : Int))).bind fun (v1980 : Bool) => cond (!v1980) (some (false, ([] : List Int))) ((spec_l1In x1892 0 (IntKind.wrap .i64 ((((List.length x1891 : Nat) : Int)) - 2))).bind fun (v1984 : Bool) => cond (!v1984) (some (false, ([] : List Int))) ((room ((List.length ([] : List Int)) + List.length x1891)).bind fun (v1987 : Unit) => (inb x1892 (List.length (([] : List Int) ++ x1891))).bind fun (v1989 : Nat) => ((([] : List Int) ++ x1891)[v1989]?).bind fun (v1990 : Int) => (inb (IntKind.wrap .i64 (x1892 + 1)) (List.length (([] : List Int) ++ x1891))).bind fun (v1992 : Nat) => ((([] : List Int) ++ x1891)[v1992]?).bind fun (v1993 : Int) => (inb x1892 (List.length (([] : List Int) ++ x1891))).bind fun (v1994 : Nat) => (inb (IntKind.wrap .i64 (x1892 + 1)) (List.length ((([] : List Int) ++ x1891).set v1994 v1993))).bind fun (v1997 : Nat) => some (true, (((([] : List Int) ++ x1891).set v1994 v1993).set v1997 v1990))))

@[irreducible] def spec_ExchangedAt (x1891 : List Int) (x1892 : Int) : Option (Bool × (List Int)) :=
  spec_ExchangedAt_n1 x1891 x1892

def laws_toIntS_n1 (x2238 : List Int) : Option (((List Int))) :=
  (mk (((List.length x2238 : Nat) : Int)) (((List.length x2238 : Nat) : Int))).bind fun (v2240 : Nat) => some (List.replicate v2240 (0 : Int))

def laws_toIntS_n2 : Option (Unit) :=
  some ()

def laws_toIntS_n3 (x2238 : List Int) (x2255 : Int) (x2256 : List Int) : Option ((Int × (List Int)) ⊕ ((List Int))) :=
  cond (decide (x2255 < (((List.length x2238 : Nat) : Int)))) ((idx x2238 x2255).bind fun (v2266 : Int) => (inb x2255 (List.length x2256)).bind fun (v2267 : Nat) => some (Sum.inl ((IntKind.wrap .i64 (x2255 + 1)), (x2256.set v2267 v2266)))) (some (Sum.inr x2256))

def laws_toIntS_n4 (x2238 : List Int) (x2241 : List Int) : Option (((List Int))) :=
  nloop (fun (s : Int × (List Int)) => ((laws_toIntS_n3 x2238 s.1 s.2).map (Sum.elim (fun (t : Int × (List Int)) => Sum.inl (t.1, t.2)) (fun (t : (List Int)) => Sum.inr t)) : Option ((Int × (List Int)) ⊕ (((List Int)))))) LL (0, x2241)

def laws_toIntS_n5 (x2238 : List Int) (x2241 : List Int) : Option (((List Int))) :=
  (laws_toIntS_n4 x2238 x2241).map (fun (t : (List Int)) => t)

def laws_toIntS_n6 (x2238 : List Int) (x2241 : List Int) : Option (((List Int))) :=
  (laws_toIntS_n2).bind (fun (t : Unit) => laws_toIntS_n5 x2238 x2241)

def laws_toIntS_n7 (x2256 : List Int) : Option (((List Int))) :=
  some x2256

def laws_toIntS_n8 (x2238 : List Int) (x2241 : List Int) : Option (((List Int))) :=
  (laws_toIntS_n6 x2238 x2241).bind (fun (t : (List Int)) => laws_toIntS_n7 t)

def laws_toIntS_n9 (x2238 : List Int) : Option (((List Int))) :=
  (laws_toIntS_n1 x2238).bind (fun (t : (List Int)) => laws_toIntS_n8 x2238 t)

@[irreducible] def laws_toIntS (x2238 : List Int) : Option ((List Int)) :=
  laws_toIntS_n9 x2238

def laws_eqIntS_n1 (x2763 : List Int) (x2764 : List Int) : Option (Unit ⊕ Bool) :=
  cond ((((List.length x2763 : Nat) : Int)) != (((List.length x2764 : Nat) : Int))) (some (Sum.inr false)) (some (Sum.inl ()))

def laws_eqIntS_n2 : Option (Unit) :=
  some ()

def laws_eqIntS_n3 (x2763 : List Int) (x2764 : List Int) (x2781 : Int) : Option (Int ⊕ Bool ⊕ Unit) :=
  cond (decide (x2781 < (((List.length x2763 : Nat) : Int)))) ((idx x2763 x2781).bind fun (v2791 : Int) => (idx x2764 x2781).bind fun (v2792 : Int) => cond (v2791 != v2792) (some (Sum.inr (Sum.inl false))) (some (Sum.inl (IntKind.wrap .i64 (x2781 + 1))))) (some (Sum.inr (Sum.inr ())))

def laws_eqIntS_n4 (x2763 : List Int) (x2764 : List Int) : Option (Bool ⊕ Unit) :=
  nloop (fun (s : Int) => ((laws_eqIntS_n3 x2763 x2764 s).map (Sum.elim (fun (t : Int) => Sum.inl t) (Sum.elim (fun (t : Bool) => Sum.inr (Sum.inl t)) (fun (t : Unit) => Sum.inr (Sum.inr t)))) : Option ((Int) ⊕ (Bool ⊕ Unit)))) LL 0

def laws_eqIntS_n5 (x2763 : List Int) (x2764 : List Int) : Option (Unit ⊕ Bool) :=
  (laws_eqIntS_n4 x2763 x2764).map (Sum.elim (fun (t : Bool) => (Sum.inr t)) (fun (t : Unit) => (Sum.inl ())))

def laws_eqIntS_n6 (x2763 : List Int) (x2764 : List Int) : Option (Unit ⊕ Bool) :=
  (laws_eqIntS_n2).bind (fun (t : Unit) => laws_eqIntS_n5 x2763 x2764)

def laws_eqIntS_n7 : Option (Bool) :=
  some true

def laws_eqIntS_n8 (x2763 : List Int) (x2764 : List Int) : Option (Bool) :=
  (laws_eqIntS_n6 x2763 x2764).bind (Sum.elim (fun (t : Unit) => laws_eqIntS_n7) (fun e => some ((fun (t : Bool) => t) e)))

def laws_eqIntS_n9 (x2763 : List Int) (x2764 : List Int) : Option (Bool) :=
  (laws_eqIntS_n1 x2763 x2764).bind (Sum.elim (fun (t : Unit) => laws_eqIntS_n8 x2763 x2764) (fun e => some ((fun (t : Bool) => t) e)))

@[irreducible] def laws_eqIntS (x2763 : List Int) (x2764 : List Int) : Option (Bool) :=
  laws_eqIntS_n9 x2763 x2764

def laws_markIntS_n1 : Option (Unit) :=
  some ()

def laws_markIntS_n2 : Option (Unit) :=
  some ()

def laws_markIntS_n3 (x2997 : Int) (x2998 : Int) (x2999 : List Int) : Option ((Int × Int × (List Int)) ⊕ (Int × (List Int))) :=
  cond (decide (x2998 < (((List.length x2999 : Nat) : Int)))) ((inb x2998 (List.length x2999)).bind fun (v3009 : Nat) => some (Sum.inl ((IntKind.wrap .i64 (x2997 + 1)), (IntKind.wrap .i64 (x2998 + 1)), (x2999.set v3009 x2997)))) (some (Sum.inr (x2997, x2999)))

def laws_markIntS_n4 (x2982 : Int) (x2983 : List Int) : Option ((Int × (List Int))) :=
  nloop (fun (s : Int × Int × (List Int)) => ((laws_markIntS_n3 s.1 s.2.1 s.2.2).map (Sum.elim (fun (t : Int × Int × (List Int)) => Sum.inl (t.1, t.2.1, t.2.2)) (fun (t : Int × (List Int)) => Sum.inr t)) : Option ((Int × Int × (List Int)) ⊕ ((Int × (List Int)))))) LL (x2982, 0, x2983)

def laws_markIntS_n5 (x2982 : Int) (x2983 : List Int) : Option ((Int × (List Int))) :=
  (laws_markIntS_n4 x2982 x2983).map (fun (t : Int × (List Int)) => (t.1, t.2))

def laws_markIntS_n6 (x2982 : Int) (x2983 : List Int) : Option ((Int × (List Int))) :=
  (laws_markIntS_n2).bind (fun (t : Unit) => laws_markIntS_n5 x2982 x2983)

def laws_markIntS_n7 (x2997 : Int) (x2999 : List Int) : Option ((Int × (List Int))) :=
  some (x2997, x2999)

def laws_markIntS_n8 (x2982 : Int) (x2983 : List Int) : Option ((Int × (List Int))) :=
  (laws_markIntS_n6 x2982 x2983).bind (fun (t : Int × (List Int)) => laws_markIntS_n7 t.1 t.2)

def laws_markIntS_n9 (x2982 : Int) (x2983 : List Int) : Option ((Int × (List Int))) :=
  (laws_markIntS_n1).bind (fun (t : Unit) => laws_markIntS_n8 x2982 x2983)

@[irreducible] def laws_markIntS (x2982 : Int) (x2983 : List Int) : Option (Int × (List Int)) :=
  laws_markIntS_n9 x2982 x2983

def laws_heldIntS_n1 : Option (Unit) :=
  some ()

def laws_heldIntS_n2 : Option (Unit) :=
  some ()

def laws_heldIntS_n3 (x3140 : List Int) (x3155 : Int) (x3156 : Int) : Option ((Int × Int) ⊕ Int ⊕ Int) :=
  cond (decide (x3156 < (((List.length x3140 : Nat) : Int)))) ((idx x3140 x3156).bind fun (v3166 : Int) => cond (v3166 != x3155) (some (Sum.inr (Sum.inl (-1)))) (some (Sum.inl ((IntKind.wrap .i64 (x3155 + 1)), (IntKind.wrap .i64 (x3156 + 1)))))) (some (Sum.inr (Sum.inr x3155)))

def laws_heldIntS_n4 (x3140 : List Int) (x3141 : Int) : Option (Int ⊕ Int) :=
  nloop (fun (s : Int × Int) => ((laws_heldIntS_n3 x3140 s.1 s.2).map (Sum.elim (fun (t : Int × Int) => Sum.inl (t.1, t.2)) (Sum.elim (fun (t : Int) => Sum.inr (Sum.inl t)) (fun (t : Int) => Sum.inr (Sum.inr t)))) : Option ((Int × Int) ⊕ (Int ⊕ Int)))) LL (x3141, 0)

def laws_heldIntS_n5 (x3140 : List Int) (x3141 : Int) : Option (Int ⊕ Int) :=
  (laws_heldIntS_n4 x3140 x3141).map (Sum.elim (fun (t : Int) => (Sum.inr t)) (fun (t : Int) => (Sum.inl t)))

def laws_heldIntS_n6 (x3140 : List Int) (x3141 : Int) : Option (Int ⊕ Int) :=
  (laws_heldIntS_n2).bind (fun (t : Unit) => laws_heldIntS_n5 x3140 x3141)

def laws_heldIntS_n7 (x3155 : Int) : Option (Int) :=
  some x3155

def laws_heldIntS_n8 (x3140 : List Int) (x3141 : Int) : Option (Int) :=
  (laws_heldIntS_n6 x3140 x3141).bind (Sum.elim (fun (t : Int) => laws_heldIntS_n7 t) (fun e => some ((fun (t : Int) => t) e)))

def laws_heldIntS_n9 (x3140 : List Int) (x3141 : Int) : Option (Int) :=
  (laws_heldIntS_n1).bind (fun (t : Unit) => laws_heldIntS_n8 x3140 x3141)

@[irreducible] def laws_heldIntS (x3140 : List Int) (x3141 : Int) : Option (Int) :=
  laws_heldIntS_n9 x3140 x3141

def laws_FnExactExchangedAt_n1 (x2894 : List Int) (x2895 : Int) : Option (Bool) :=
  cond (decide ((((List.length x2894 : Nat) : Int)) > 1048576)) (some true) ((laws_toIntS x2894).bind fun (v3489 : List Int) => (spec_ExchangedAt v3489 x2895).bind fun (v3490 : Bool × (List Int)) => (laws_toIntS x2894).bind fun (v3493 : List Int) => (impl_ExchangedAt v3493 x2895).bind fun (v3494 : Bool × (List Int)) => (laws_eqIntS (v3494.2) (v3490.2)).bind fun (v3497 : Bool) => cond (!v3497) (some false) (cond ((v3494.1) != (v3490.1)) (some false) ((laws_toIntS x2894).bind fun (v3500 : List Int) => (laws_eqIntS v3493 v3500).bind fun (v3501 : Bool) => cond (!v3501) (some false) ((laws_markIntS 1 v3493).bind fun (v3503 : Int × (List Int)) => cond (decide ((v3503.1) < 0)) (some false) ((laws_eqIntS (v3494.2) (v3490.2)).bind fun (v3507 : Bool) => cond (!v3507) (some false) (cond ((v3494.1) != (v3490.1)) (some false) ((laws_markIntS 1 (v3494.2)).bind fun (v3510 : Int × (List Int)) => (laws_heldIntS (v3510.2) 1).bind fun (v3513 : Int) => cond (decide (v3513 < 0)) (some false) (cond (v3513 != (v3510.1)) (some false) ((laws_toIntS x2894).bind fun (v3516 : List Int) => (impl_ExchangedAt v3516 x2895).bind fun (v3517 : Bool × (List Int)) => (laws_eqIntS (v3517.2) (v3490.2)).bind fun (v3520 : Bool) => cond (!v3520) (some false) (cond ((v3517.1) != (v3490.1)) (some false) ((laws_heldIntS (v3510.2) 1).bind fun (v3523 : Int) => cond (decide (v3523 < 0)) (some false) (cond (v3523 != (v3510.1)) (some false) (some true)))))))))))))

@[irreducible] def laws_FnExactExchangedAt (x2894 : List Int) (x2895 : Int) : Option (Bool) :=
  laws_FnExactExchangedAt_n1 x2894 x2895

end Go.Rv
