/-
  Plain functions, written by program for functions of the checked code. Conditions: none.
-/
import Derived.Test.YtlpcfakfhfjclaaRs
set_option linter.unusedVariables false
namespace Go.Rv
/-! loop.example/headtrees/spec.l1In -/

def spec_l1In_0 : Option (Unit) :=
  some ()

def spec_l1In_10 (x8 : Int) (x9 : Int) (x10 : Int) : Option (Bool) :=
  cond (decide (x8 ≥ x9)) (some (decide (x8 ≤ x10))) (some false)

def spec_l1In_11 (x14 : Bool) : Option (Bool) :=
  some x14

def spec_l1In_1 (x8 : Int) (x9 : Int) (x10 : Int) : Option (Bool) :=
  (spec_l1In_10 x8 x9 x10).bind (fun (t : Bool) => spec_l1In_11 t)

def spec_l1In_r (x8 : Int) (x9 : Int) (x10 : Int) : Option (Bool) :=
  (spec_l1In_0).bind (fun (t : Unit) => spec_l1In_1 x8 x9 x10)

@[irreducible] def spec_l1In (x8 : Int) (x9 : Int) (x10 : Int) : Option (Bool) :=
  spec_l1In_r x8 x9 x10

/-! loop.example/headtrees/spec.l1Power -/

def spec_l1Power_0 : Option (Unit) :=
  some ()

def spec_l1Power_10 : Option (Unit) :=
  some ()

def spec_l1Power_1100 : Option (Unit) :=
  some ()

def spec_l1Power_11010000 (x20 : Int) (x25 : Int) : Option (Bool) :=
  some (decide (x25 < x20))

def spec_l1Power_110100010 : Option (Unit) :=
  some ()

def spec_l1Power_110100011 (x24 : Int) : Option (Int) :=
  some x24

def spec_l1Power_11010001 (x24 : Int) (x26 : Bool) : Option (Unit ⊕ Int) :=
  cond x26 ((spec_l1Power_110100010).map (fun (t : Unit) => (Sum.inl ()))) ((spec_l1Power_110100011 x24).map (fun (t : Int) => (Sum.inr t)))

def spec_l1Power_1101000 (x20 : Int) (x24 : Int) (x25 : Int) : Option (Unit ⊕ Int) :=
  (spec_l1Power_11010000 x20 x25).bind (fun (t : Bool) => spec_l1Power_11010001 x24 t)

def spec_l1Power_110100100 (x19 : Int) (x24 : Int) : Option (Int) :=
  some (IntKind.wrap .i64 (x24 * x19))

def spec_l1Power_11010010 (x19 : Int) (x24 : Int) : Option (Int) :=
  (spec_l1Power_110100100 x19 x24).map (fun (t : Int) => t)

def spec_l1Power_11010011 (x25 : Int) : Option (Int) :=
  some (IntKind.wrap .i64 (x25 + 1))

def spec_l1Power_1101001 (x19 : Int) (x24 : Int) (x25 : Int) : Option ((Int × Int)) :=
  (spec_l1Power_11010010 x19 x24).bind (fun (t : Int) => (spec_l1Power_11010011 x25).map (fun (u : Int) => (t, u)))

def spec_l1Power_110100 (x19 : Int) (x20 : Int) (x24 : Int) (x25 : Int) : Option ((Int × Int) ⊕ Int) :=
  (spec_l1Power_1101000 x20 x24 x25).bind (Sum.elim (fun (t : Unit) => (spec_l1Power_1101001 x19 x24 x25).map (fun (t : Int × Int) => (Sum.inl (t.1, t.2)))) (fun e => some ((fun (t : Int) => (Sum.inr t)) e)))

def spec_l1Power_11010 (x19 : Int) (x20 : Int) : Option (Int) :=
  nloop (fun (s : Int × Int) => ((spec_l1Power_110100 x19 x20 s.1 s.2).map (Sum.elim (fun (t : Int × Int) => Sum.inl (t.1, t.2)) (fun (t : Int) => Sum.inr t)) : Option ((Int × Int) ⊕ (Int)))) LL (1, 0)

def spec_l1Power_1101 (x19 : Int) (x20 : Int) : Option (Int) :=
  (spec_l1Power_11010 x19 x20).map (fun (t : Int) => t)

def spec_l1Power_110 (x19 : Int) (x20 : Int) : Option (Int) :=
  (spec_l1Power_1100).bind (fun (t : Unit) => spec_l1Power_1101 x19 x20)

def spec_l1Power_1110 : Option (Unit) :=
  some ()

def spec_l1Power_1111 (x24 : Int) : Option (Int) :=
  some x24

def spec_l1Power_111 (x24 : Int) : Option (Int) :=
  (spec_l1Power_1110).bind (fun (t : Unit) => spec_l1Power_1111 x24)

def spec_l1Power_11 (x19 : Int) (x20 : Int) : Option (Int) :=
  (spec_l1Power_110 x19 x20).bind (fun (t : Int) => spec_l1Power_111 t)

def spec_l1Power_1 (x19 : Int) (x20 : Int) : Option (Int) :=
  (spec_l1Power_10).bind (fun (t : Unit) => spec_l1Power_11 x19 x20)

def spec_l1Power_r (x19 : Int) (x20 : Int) : Option (Int) :=
  (spec_l1Power_0).bind (fun (t : Unit) => spec_l1Power_1 x19 x20)

@[irreducible] def spec_l1Power (x19 : Int) (x20 : Int) : Option (Int) :=
  spec_l1Power_r x19 x20

/-! loop.example/headtrees/spec.CountTrees -/

def spec_CountTrees_0 : Option (Unit) :=
  some ()

def spec_CountTrees_100 (x4 : Int) : Option (Bool) :=
  (spec_l1In x4 1 8).bind fun (v15 : Bool) => some (!v15)

def spec_CountTrees_10100 : Option (Unit) :=
  some ()

def spec_CountTrees_10101 : Option (Int) :=
  some (-1)

def spec_CountTrees_1010 : Option (Int) :=
  (spec_CountTrees_10100).bind (fun (t : Unit) => spec_CountTrees_10101)

def spec_CountTrees_1011 : Option (Unit) :=
  some ()

def spec_CountTrees_101 (x16 : Bool) : Option (Unit ⊕ Int) :=
  cond x16 ((spec_CountTrees_1010).map (fun (t : Int) => (Sum.inr t))) ((spec_CountTrees_1011).map (fun (t : Unit) => (Sum.inl ())))

def spec_CountTrees_10 (x4 : Int) : Option (Unit ⊕ Int) :=
  (spec_CountTrees_100 x4).bind (fun (t : Bool) => spec_CountTrees_101 t)

def spec_CountTrees_110 (x4 : Int) : Option (Int) :=
  (spec_l1Power x4 (IntKind.wrap .i64 (x4 - 1))).bind fun (v29 : Int) => some v29

def spec_CountTrees_111 (x29 : Int) : Option (Int) :=
  some x29

def spec_CountTrees_11 (x4 : Int) : Option (Int) :=
  (spec_CountTrees_110 x4).bind (fun (t : Int) => spec_CountTrees_111 t)

def spec_CountTrees_1 (x4 : Int) : Option (Int) :=
  (spec_CountTrees_10 x4).bind (Sum.elim (fun (t : Unit) => spec_CountTrees_11 x4) (fun e => some ((fun (t : Int) => t) e)))

def spec_CountTrees_r (x4 : Int) : Option (Int) :=
  (spec_CountTrees_0).bind (fun (t : Unit) => spec_CountTrees_1 x4)

@[irreducible] def spec_CountTrees (x4 : Int) : Option (Int) :=
  spec_CountTrees_r x4

/-! loop.example/headtrees/impl.CountTrees -/

def impl_CountTrees_0 : Option (Unit) :=
  some ()

def impl_CountTrees_100 (x32 : Int) : Option (Bool) :=
  cond (decide (x32 < 1)) (some true) (some (decide (x32 > 8)))

def impl_CountTrees_10100 : Option (Unit) :=
  some ()

def impl_CountTrees_10101 : Option (Int) :=
  some (-1)

def impl_CountTrees_1010 : Option (Int) :=
  (impl_CountTrees_10100).bind (fun (t : Unit) => impl_CountTrees_10101)

def impl_CountTrees_1011 : Option (Unit) :=
  some ()

def impl_CountTrees_101 (x35 : Bool) : Option (Unit ⊕ Int) :=
  cond x35 ((impl_CountTrees_1010).map (fun (t : Int) => (Sum.inr t))) ((impl_CountTrees_1011).map (fun (t : Unit) => (Sum.inl ())))

def impl_CountTrees_10 (x32 : Int) : Option (Unit ⊕ Int) :=
  (impl_CountTrees_100 x32).bind (fun (t : Bool) => impl_CountTrees_101 t)

def impl_CountTrees_110 : Option (Unit) :=
  some ()

def impl_CountTrees_11100 (x32 : Int) : Option (Int) :=
  some (IntKind.wrap .i64 (x32 - 1))

def impl_CountTrees_11101000 (x36 : Int) (x41 : Int) : Option (Bool) :=
  some (decide (x41 < x36))

def impl_CountTrees_1110100100 : Option (Unit) :=
  some ()

def impl_CountTrees_1110100101 (x40 : Int) : Option (Int) :=
  some x40

def impl_CountTrees_111010010 (x40 : Int) (x42 : Bool) : Option (Unit ⊕ Int) :=
  cond x42 ((impl_CountTrees_1110100100).map (fun (t : Unit) => (Sum.inl ()))) ((impl_CountTrees_1110100101 x40).map (fun (t : Int) => (Sum.inr t)))

def impl_CountTrees_11101001100 (x32 : Int) (x40 : Int) : Option (Int) :=
  some (IntKind.wrap .i64 (x40 * x32))

def impl_CountTrees_1110100110 (x32 : Int) (x40 : Int) : Option (Int) :=
  (impl_CountTrees_11101001100 x32 x40).map (fun (t : Int) => t)

def impl_CountTrees_1110100111 (x41 : Int) : Option (Int) :=
  some (IntKind.wrap .i64 (x41 + 1))

def impl_CountTrees_111010011 (x32 : Int) (x40 : Int) (x41 : Int) : Option ((Int × Int)) :=
  (impl_CountTrees_1110100110 x32 x40).bind (fun (t : Int) => (impl_CountTrees_1110100111 x41).map (fun (u : Int) => (t, u)))

def impl_CountTrees_11101001 (x32 : Int) (x40 : Int) (x41 : Int) (x42 : Bool) : Option ((Int × Int) ⊕ Int) :=
  (impl_CountTrees_111010010 x40 x42).bind (Sum.elim (fun (t : Unit) => (impl_CountTrees_111010011 x32 x40 x41).map (fun (t : Int × Int) => (Sum.inl (t.1, t.2)))) (fun e => some ((fun (t : Int) => (Sum.inr t)) e)))

def impl_CountTrees_1110100 (x32 : Int) (x40 : Int) (x36 : Int) (x41 : Int) : Option ((Int × Int) ⊕ Int) :=
  (impl_CountTrees_11101000 x36 x41).bind (fun (t : Bool) => impl_CountTrees_11101001 x32 x40 x41 t)

def impl_CountTrees_111010 (x32 : Int) (x36 : Int) : Option (Int) :=
  nloop (fun (s : Int × Int) => ((impl_CountTrees_1110100 x32 s.1 x36 s.2).map (Sum.elim (fun (t : Int × Int) => Sum.inl (t.1, t.2)) (fun (t : Int) => Sum.inr t)) : Option ((Int × Int) ⊕ (Int)))) LL (1, 0)

def impl_CountTrees_11101 (x32 : Int) (x36 : Int) : Option (Int) :=
  (impl_CountTrees_111010 x32 x36).map (fun (t : Int) => t)

def impl_CountTrees_1110 (x32 : Int) : Option (Int) :=
  (impl_CountTrees_11100 x32).bind (fun (t : Int) => impl_CountTrees_11101 x32 t)

def impl_CountTrees_11110 : Option (Unit) :=
  some ()

def impl_CountTrees_11111 (x40 : Int) : Option (Int) :=
  some x40

def impl_CountTrees_1111 (x40 : Int) : Option (Int) :=
  (impl_CountTrees_11110).bind (fun (t : Unit) => impl_CountTrees_11111 x40)

def impl_CountTrees_111 (x32 : Int) : Option (Int) :=
  (impl_CountTrees_1110 x32).bind (fun (t : Int) => impl_CountTrees_1111 t)

def impl_CountTrees_11 (x32 : Int) : Option (Int) :=
  (impl_CountTrees_110).bind (fun (t : Unit) => impl_CountTrees_111 x32)

def impl_CountTrees_1 (x32 : Int) : Option (Int) :=
  (impl_CountTrees_10 x32).bind (Sum.elim (fun (t : Unit) => impl_CountTrees_11 x32) (fun e => some ((fun (t : Int) => t) e)))

def impl_CountTrees_r (x32 : Int) : Option (Int) :=
  (impl_CountTrees_0).bind (fun (t : Unit) => impl_CountTrees_1 x32)

@[irreducible] def impl_CountTrees (x32 : Int) : Option (Int) :=
  impl_CountTrees_r x32

/-! loop.example/headtrees/laws.FnExactCountTrees -/

def laws_FnExactCountTrees_0 : Option (Unit) :=
  some ()

def laws_FnExactCountTrees_10 (x2 : Int) : Option (Int) :=
  (spec_CountTrees x2).bind fun (v31 : Int) => some v31

def laws_FnExactCountTrees_110 (x2 : Int) : Option (Int) :=
  (impl_CountTrees x2).bind fun (v46 : Int) => some v46

def laws_FnExactCountTrees_11100 (x31 : Int) (x46 : Int) : Option (Bool) :=
  some (x46 != x31)

def laws_FnExactCountTrees_1110100 : Option (Unit) :=
  some ()

def laws_FnExactCountTrees_1110101 : Option (Bool) :=
  some false

def laws_FnExactCountTrees_111010 : Option (Bool) :=
  (laws_FnExactCountTrees_1110100).bind (fun (t : Unit) => laws_FnExactCountTrees_1110101)

def laws_FnExactCountTrees_111011 : Option (Unit) :=
  some ()

def laws_FnExactCountTrees_11101 (x47 : Bool) : Option (Unit ⊕ Bool) :=
  cond x47 ((laws_FnExactCountTrees_111010).map (fun (t : Bool) => (Sum.inr t))) ((laws_FnExactCountTrees_111011).map (fun (t : Unit) => (Sum.inl ())))

def laws_FnExactCountTrees_1110 (x31 : Int) (x46 : Int) : Option (Unit ⊕ Bool) :=
  (laws_FnExactCountTrees_11100 x31 x46).bind (fun (t : Bool) => laws_FnExactCountTrees_11101 t)

def laws_FnExactCountTrees_11110 : Option (Unit) :=
  some ()

def laws_FnExactCountTrees_11111 : Option (Bool) :=
  some true

def laws_FnExactCountTrees_1111 : Option (Bool) :=
  (laws_FnExactCountTrees_11110).bind (fun (t : Unit) => laws_FnExactCountTrees_11111)

def laws_FnExactCountTrees_111 (x31 : Int) (x46 : Int) : Option (Bool) :=
  (laws_FnExactCountTrees_1110 x31 x46).bind (Sum.elim (fun (t : Unit) => laws_FnExactCountTrees_1111) (fun e => some ((fun (t : Bool) => t) e)))

def laws_FnExactCountTrees_11 (x2 : Int) (x31 : Int) : Option (Bool) :=
  (laws_FnExactCountTrees_110 x2).bind (fun (t : Int) => laws_FnExactCountTrees_111 x31 t)

def laws_FnExactCountTrees_1 (x2 : Int) : Option (Bool) :=
  (laws_FnExactCountTrees_10 x2).bind (fun (t : Int) => laws_FnExactCountTrees_11 x2 t)

def laws_FnExactCountTrees_r (x2 : Int) : Option (Bool) :=
  (laws_FnExactCountTrees_0).bind (fun (t : Unit) => laws_FnExactCountTrees_1 x2)

@[irreducible] def laws_FnExactCountTrees (x2 : Int) : Option (Bool) :=
  laws_FnExactCountTrees_r x2

end Go.Rv
