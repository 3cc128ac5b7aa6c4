/-
  Plain functions, written by program for functions of the checked code. Conditions: none.
-/
import Derived.Test.YteafjhhkdekagaaFB
set_option linter.unusedVariables false
namespace Go.Rv
def spec_l1In_n1 (x780 : Int) (x781 : Int) (x782 : Int) : Option (Bool) :=
  cond (decide (x780 ≥ x781)) (some (decide (x780 ≤ x782))) (some false)

@[irreducible] def spec_l1In (x780 : Int) (x781 : Int) (x782 : Int) : Option (Bool) :=
  spec_l1In_n1 x780 x781 x782

def impl_countOrders_n1 : Option (Unit) :=
  some ()

def impl_countOrders_n2 : Option (Unit) :=
  some ()

def impl_countOrders_n3 (x2341 : Int) (x2348 : Int) (x2349 : Int) : Option ((Int × Int) ⊕ Int) :=
  cond (decide (x2349 ≤ x2341)) (some (Sum.inl ((IntKind.wrap .i64 (x2348 * x2349)), (IntKind.wrap .i64 (x2349 + 1))))) (some (Sum.inr x2348))

def impl_countOrders_n4 (x2341 : Int) : Option (Int) :=
  nloop (fun (s : Int × Int) => ((impl_countOrders_n3 x2341 s.1 s.2).map (Sum.elim (fun (t : Int × Int) => Sum.inl (t.1, t.2)) (fun (t : Int) => Sum.inr t)) : Option ((Int × Int) ⊕ (Int)))) LL (1, 2)

def impl_countOrders_n5 (x2341 : Int) : Option (Int) :=
  (impl_countOrders_n4 x2341).map (fun (t : Int) => t)

def impl_countOrders_n6 (x2341 : Int) : Option (Int) :=
  (impl_countOrders_n2).bind (fun (t : Unit) => impl_countOrders_n5 x2341)

def impl_countOrders_n7 (x2348 : Int) : Option (Int) :=
  some x2348

def impl_countOrders_n8 (x2341 : Int) : Option (Int) :=
  (impl_countOrders_n6 x2341).bind (fun (t : Int) => impl_countOrders_n7 t)

def impl_countOrders_n9 (x2341 : Int) : Option (Int) :=
  (impl_countOrders_n1).bind (fun (t : Unit) => impl_countOrders_n8 x2341)

@[irreducible] def impl_countOrders (x2341 : Int) : Option (Int) :=
  impl_countOrders_n9 x2341

def impl_LengthsSum_n1 (x2336 : Int) : Option (Int) :=
  cond (decide (x2336 < 1)) (some (-1)) (cond (decide (x2336 > 8)) (some (-1)) ((impl_countOrders x2336).bind fun (v2364 : Int) => (quo .i64 (IntKind.wrap .i64 ((IntKind.wrap .i64 (v2364 * (IntKind.wrap .i64 (x2336 - 1)))) * (IntKind.wrap .i64 (x2336 + 1)))) 3).bind fun (v2369 : Int) => some v2369))

@[irreducible] def impl_LengthsSum (x2336 : Int) : Option (Int) :=
  impl_LengthsSum_n1 x2336

def spec_LengthsSum_n1 (x2376 : Int) : Option (Unit ⊕ Int) :=
  (spec_l1In x2376 1 8).bind fun (v2379 : Bool) => cond (!v2379) (some (Sum.inr (-1))) (some (Sum.inl ()))

def spec_LengthsSum_n2 : Option (Unit) :=
  some ()

def spec_LengthsSum_n3 (x2376 : Int) (x2387 : Int) (x2388 : Int) : Option ((Int × Int) ⊕ Int) :=
  cond (decide (x2388 ≤ x2376)) (some (Sum.inl ((IntKind.wrap .i64 (x2387 * x2388)), (IntKind.wrap .i64 (x2388 + 1))))) (some (Sum.inr x2387))

def spec_LengthsSum_n4 (x2376 : Int) : Option (Int) :=
  nloop (fun (s : Int × Int) => ((spec_LengthsSum_n3 x2376 s.1 s.2).map (Sum.elim (fun (t : Int × Int) => Sum.inl (t.1, t.2)) (fun (t : Int) => Sum.inr t)) : Option ((Int × Int) ⊕ (Int)))) LL (1, 2)

def spec_LengthsSum_n5 (x2376 : Int) : Option (Int) :=
  (spec_LengthsSum_n4 x2376).map (fun (t : Int) => t)

def spec_LengthsSum_n6 (x2376 : Int) : Option (Int) :=
  (spec_LengthsSum_n2).bind (fun (t : Unit) => spec_LengthsSum_n5 x2376)

def spec_LengthsSum_n7 (x2376 : Int) (x2387 : Int) : Option (Int) :=
  (quo .i64 (IntKind.wrap .i64 ((IntKind.wrap .i64 (x2387 * (IntKind.wrap .i64 (x2376 - 1)))) * (IntKind.wrap .i64 (x2376 + 1)))) 3).bind fun (v2404 : Int) => some v2404

def spec_LengthsSum_n8 (x2376 : Int) : Option (Int) :=
  (spec_LengthsSum_n6 x2376).bind (fun (t : Int) => spec_LengthsSum_n7 x2376 t)

def spec_LengthsSum_n9 (x2376 : Int) : Option (Int) :=
  (spec_LengthsSum_n1 x2376).bind (Sum.elim (fun (t : Unit) => spec_LengthsSum_n8 x2376) (fun e => some ((fun (t : Int) => t) e)))

@[irreducible] def spec_LengthsSum (x2376 : Int) : Option (Int) :=
  spec_LengthsSum_n9 x2376

def laws_FnExactLengthsSum_n1 (x2786 : Int) : Option (Bool) :=
  (spec_LengthsSum x2786).bind fun (v2796 : Int) => (impl_LengthsSum x2786).bind fun (v2797 : Int) => cond (v2797 != v2796) (some false) (some true)

@[irreducible] def laws_FnExactLengthsSum (x2786 : Int) : Option (Bool) :=
  laws_FnExactLengthsSum_n1 x2786

end Go.Rv
