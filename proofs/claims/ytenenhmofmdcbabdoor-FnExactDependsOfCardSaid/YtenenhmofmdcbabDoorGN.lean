/-
  Plain functions, written by program for functions of the checked code. Conditions: none.
-/
import Derived.Test.YtenenhmofmdcbabDoorRs
set_option linter.unusedVariables false
namespace Go.Rv
/-! loop.example/headtrees/laws.toIntS -/

def laws_toIntS_n1 (x12 : List Int) : Option (((List Int))) :=
  (mk (((List.length x12 : Nat) : Int)) (((List.length x12 : Nat) : Int))).bind fun (v15 : Nat) => some (List.replicate v15 (0 : Int))

def laws_toIntS_n2 : Option (Unit) :=
  some ()

def laws_toIntS_n3 (x12 : List Int) (x32 : Int) (x33 : List Int) : Option ((Int × (List Int)) ⊕ ((List Int))) :=
  cond (decide (x32 < (((List.length x12 : Nat) : Int)))) ((idx x12 x32).bind fun (v43 : Int) => (inb x32 (List.length x33)).bind fun (v44 : Nat) => some (Sum.inl ((IntKind.wrap .i64 (x32 + 1)), (x33.set v44 v43)))) (some (Sum.inr x33))

def laws_toIntS_n4 (x12 : List Int) (x16 : List Int) : Option (((List Int))) :=
  nloop (fun (s : Int × (List Int)) => ((laws_toIntS_n3 x12 s.1 s.2).map (Sum.elim (fun (t : Int × (List Int)) => Sum.inl (t.1, t.2)) (fun (t : (List Int)) => Sum.inr t)) : Option ((Int × (List Int)) ⊕ (((List Int)))))) LL (0, x16)

def laws_toIntS_n5 (x12 : List Int) (x16 : List Int) : Option (((List Int))) :=
  (laws_toIntS_n4 x12 x16).map (fun (t : (List Int)) => t)

def laws_toIntS_n6 (x12 : List Int) (x16 : List Int) : Option (((List Int))) :=
  (laws_toIntS_n2).bind (fun (t : Unit) => laws_toIntS_n5 x12 x16)

def laws_toIntS_n7 (x33 : List Int) : Option (((List Int))) :=
  some x33

def laws_toIntS_n8 (x12 : List Int) (x16 : List Int) : Option (((List Int))) :=
  (laws_toIntS_n6 x12 x16).bind (fun (t : (List Int)) => laws_toIntS_n7 t)

def laws_toIntS_n9 (x12 : List Int) : Option (((List Int))) :=
  (laws_toIntS_n1 x12).bind (fun (t : (List Int)) => laws_toIntS_n8 x12 t)

@[irreducible] def laws_toIntS (x12 : List Int) : Option ((List Int)) :=
  laws_toIntS_n9 x12

/-! loop.example/headtrees/spec.l1In -/

def spec_l1In_n1 (x54 : Int) (x55 : Int) (x56 : Int) : Option (Bool) :=
  cond (decide (x54 ≥ x55)) (some (decide (x54 ≤ x56))) (some false)

@[irreducible] def spec_l1In (x54 : Int) (x55 : Int) (x56 : Int) : Option (Bool) :=
  spec_l1In_n1 x54 x55 x56

/-! loop.example/headtrees/spec.TreeOk -/

def spec_TreeOk_n1 (x50 : List Int) : Option (Int ⊕ Bool) :=
  (spec_l1In (((List.length x50 : Nat) : Int)) 1 8).bind fun (v65 : Bool) => cond (!v65) (some (Sum.inr false)) (some (Sum.inl (((List.length x50 : Nat) : Int))))

def spec_TreeOk_n2 : Option (Unit) :=
  some ()

def spec_TreeOk_n3 (x64 : Int) (x131 : Int) (x132 : Int) : Option (Unit ⊕ Int) :=
  cond (decide (x132 < x64)) (some (Sum.inl ())) (some (Sum.inr x131))

def spec_TreeOk_n4 (x50 : List Int) (x64 : Int) (x131 : Int) (x132 : Int) : Option ((Int × Int) ⊕ Bool) :=
  (idx x50 x132).bind fun (v149 : Int) => (spec_l1In v149 0 x64).bind fun (v150 : Bool) => cond (!v150) (some (Sum.inr false)) ((idx x50 x132).bind fun (v152 : Int) => cond (v152 == (IntKind.wrap .i64 (x132 + 1))) (some (Sum.inr false)) ((idx x50 x132).bind fun (v155 : Int) => cond (v155 == 0) (some (Sum.inl ((IntKind.wrap .i64 (x131 + 1)), (IntKind.wrap .i64 (x132 + 1))))) (some (Sum.inl (x131, (IntKind.wrap .i64 (x132 + 1)))))))

def spec_TreeOk_n5 : Option (Unit) :=
  some ()

def spec_TreeOk_n6 (x50 : List Int) (x64 : Int) (x177 : Int) (x178 : Int) : Option ((Int × Int) ⊕ Bool ⊕ Int) :=
  cond (decide (x177 > 0)) (cond (decide (x178 < x64)) ((idx x50 (IntKind.wrap .i64 (x177 - 1))).bind fun (v190 : Int) => (spec_l1In v190 0 x64).bind fun (v191 : Bool) => cond (!v191) (some (Sum.inr (Sum.inl false))) (some (Sum.inl (v190, (IntKind.wrap .i64 (x178 + 1)))))) (some (Sum.inr (Sum.inr x177)))) (some (Sum.inr (Sum.inr x177)))

def spec_TreeOk_n7 (x50 : List Int) (x64 : Int) (x161 : Int) : Option (Bool ⊕ Int) :=
  nloop (fun (s : Int × Int) => ((spec_TreeOk_n6 x50 x64 s.1 s.2).map (Sum.elim (fun (t : Int × Int) => Sum.inl (t.1, t.2)) (Sum.elim (fun (t : Bool) => Sum.inr (Sum.inl t)) (fun (t : Int) => Sum.inr (Sum.inr t)))) : Option ((Int × Int) ⊕ (Bool ⊕ Int)))) LL (x161, 0)

def spec_TreeOk_n8 (x50 : List Int) (x64 : Int) (x161 : Int) : Option (Int ⊕ Bool) :=
  (spec_TreeOk_n7 x50 x64 x161).map (Sum.elim (fun (t : Bool) => (Sum.inr t)) (fun (t : Int) => (Sum.inl t)))

def spec_TreeOk_n9 (x50 : List Int) (x64 : Int) (x161 : Int) : Option (Int ⊕ Bool) :=
  (spec_TreeOk_n5).bind (fun (t : Unit) => spec_TreeOk_n8 x50 x64 x161)

def spec_TreeOk_n10 (x177 : Int) : Option (Unit ⊕ Bool) :=
  cond (decide (x177 > 0)) (some (Sum.inr false)) (some (Sum.inl ()))

def spec_TreeOk_n11 (x50 : List Int) (x64 : Int) (x161 : Int) : Option (Unit ⊕ Bool) :=
  (spec_TreeOk_n9 x50 x64 x161).bind (Sum.elim (fun (t : Int) => spec_TreeOk_n10 t) (fun e => some ((fun (t : Bool) => (Sum.inr t)) e)))

def spec_TreeOk_n12 (x50 : List Int) (x64 : Int) (x131 : Int) (x132 : Int) : Option (Int ⊕ Bool) :=
  (spec_TreeOk_n4 x50 x64 x131 x132).bind (Sum.elim (fun (t : Int × Int) => (spec_TreeOk_n11 x50 x64 t.2).map (Sum.elim (fun (u : Unit) => (Sum.inl t.1)) (fun (u : Bool) => (Sum.inr u)))) (fun e => some ((fun (t : Bool) => (Sum.inr t)) e)))

def spec_TreeOk_n13 (x50 : List Int) (x64 : Int) (x131 : Int) (x132 : Int) : Option (Int ⊕ Bool) :=
  (spec_TreeOk_n12 x50 x64 x131 x132).map (Sum.elim (fun (t : Int) => (Sum.inl t)) (fun (t : Bool) => (Sum.inr t)))

def spec_TreeOk_n14 (x132 : Int) : Option (Int) :=
  some (IntKind.wrap .i64 (x132 + 1))

def spec_TreeOk_n15 (x50 : List Int) (x64 : Int) (x131 : Int) (x132 : Int) : Option ((Int × Int) ⊕ Bool) :=
  (spec_TreeOk_n13 x50 x64 x131 x132).bind (Sum.elim (fun (t : Int) => (spec_TreeOk_n14 x132).map (fun (u : Int) => (Sum.inl (t, u)))) (fun e => some ((fun (t : Bool) => (Sum.inr t)) e)))

def spec_TreeOk_n16 (x50 : List Int) (x64 : Int) (x131 : Int) (x132 : Int) : Option ((Int × Int) ⊕ Bool ⊕ Int) :=
  (spec_TreeOk_n3 x64 x131 x132).bind (Sum.elim (fun (t : Unit) => (spec_TreeOk_n15 x50 x64 x131 x132).map (Sum.elim (fun (t : Int × Int) => (Sum.inl (t.1, t.2))) (fun (t : Bool) => (Sum.inr (Sum.inl t))))) (fun e => some ((fun (t : Int) => (Sum.inr (Sum.inr t))) e)))

def spec_TreeOk_n17 (x50 : List Int) (x64 : Int) : Option (Bool ⊕ Int) :=
  nloop (fun (s : Int × Int) => ((spec_TreeOk_n16 x50 x64 s.1 s.2).map (Sum.elim (fun (t : Int × Int) => Sum.inl (t.1, t.2)) (Sum.elim (fun (t : Bool) => Sum.inr (Sum.inl t)) (fun (t : Int) => Sum.inr (Sum.inr t)))) : Option ((Int × Int) ⊕ (Bool ⊕ Int)))) LL (0, 0)

def spec_TreeOk_n18 (x50 : List Int) (x64 : Int) : Option (Int ⊕ Bool) :=
  (spec_TreeOk_n17 x50 x64).map (Sum.elim (fun (t : Bool) => (Sum.inr t)) (fun (t : Int) => (Sum.inl t)))

def spec_TreeOk_n19 (x50 : List Int) (x64 : Int) : Option (Int ⊕ Bool) :=
  (spec_TreeOk_n2).bind (fun (t : Unit) => spec_TreeOk_n18 x50 x64)

def spec_TreeOk_n20 (x131 : Int) : Option (Bool) :=
  some (x131 == 1)

def spec_TreeOk_n21 (x50 : List Int) (x64 : Int) : Option (Bool) :=
  (spec_TreeOk_n19 x50 x64).bind (Sum.elim (fun (t : Int) => spec_TreeOk_n20 t) (fun e => some ((fun (t : Bool) => t) e)))

def spec_TreeOk_n22 (x50 : List Int) : Option (Bool) :=
  (spec_TreeOk_n1 x50).bind (Sum.elim (fun (t : Int) => spec_TreeOk_n21 x50 t) (fun e => some ((fun (t : Bool) => t) e)))

@[irreducible] def spec_TreeOk (x50 : List Int) : Option (Bool) :=
  spec_TreeOk_n22 x50

/-! loop.example/headtrees/spec.l2Yield -/

def spec_l2Yield_n1 (R0 : (List Int) → Int → Option Int) (x211 : Int) : Option (Int) :=
  (shl .i64 1 (IntKind.wrap .i64 (x211 - 1))).bind fun (v242 : Int) => some v242

def spec_l2Yield_n2 (R0 : (List Int) → Int → Option Int) : Option (Unit) :=
  some ()

def spec_l2Yield_n3 (R0 : (List Int) → Int → Option Int) (x210 : List Int) (x211 : Int) (x263 : Int) (x264 : Int) : Option ((Int × Int) ⊕ Int) :=
  cond (decide (x264 < (((List.length x210 : Nat) : Int)))) ((idx x210 x264).bind fun (v276 : Int) => cond (v276 == x211) ((R0 x210 (IntKind.wrap .i64 (x264 + 1))).bind fun (v279 : Int) => some (Sum.inl ((ior .i64 x263 v279), (IntKind.wrap .i64 (x264 + 1))))) (some (Sum.inl (x263, (IntKind.wrap .i64 (x264 + 1)))))) (some (Sum.inr x263))

def spec_l2Yield_n4 (R0 : (List Int) → Int → Option Int) (x210 : List Int) (x211 : Int) (x242 : Int) : Option (Int) :=
  nloop (fun (s : Int × Int) => ((spec_l2Yield_n3 R0 x210 x211 s.1 s.2).map (Sum.elim (fun (t : Int × Int) => Sum.inl (t.1, t.2)) (fun (t : Int) => Sum.inr t)) : Option ((Int × Int) ⊕ (Int)))) LL (x242, 0)

def spec_l2Yield_n5 (R0 : (List Int) → Int → Option Int) (x210 : List Int) (x211 : Int) (x242 : Int) : Option (Int) :=
  (spec_l2Yield_n4 R0 x210 x211 x242).map (fun (t : Int) => t)

def spec_l2Yield_n6 (R0 : (List Int) → Int → Option Int) (x210 : List Int) (x211 : Int) (x242 : Int) : Option (Int) :=
  (spec_l2Yield_n2 R0).bind (fun (t : Unit) => spec_l2Yield_n5 R0 x210 x211 x242)

def spec_l2Yield_n7 (R0 : (List Int) → Int → Option Int) (x263 : Int) : Option (Int) :=
  some x263

def spec_l2Yield_n8 (R0 : (List Int) → Int → Option Int) (x210 : List Int) (x211 : Int) (x242 : Int) : Option (Int) :=
  (spec_l2Yield_n6 R0 x210 x211 x242).bind (fun (t : Int) => spec_l2Yield_n7 R0 t)

def spec_l2Yield_n9 (R0 : (List Int) → Int → Option Int) (x210 : List Int) (x211 : Int) : Option (Int) :=
  (spec_l2Yield_n1 R0 x211).bind (fun (t : Int) => spec_l2Yield_n8 R0 x210 x211 t)

def spec_l2Yield_one (R0 : (List Int) → Int → Option Int) (x210 : List Int) (x211 : Int) : Option (Int) :=
  spec_l2Yield_n9 R0 x210 x211

def spec_l2Yield_knot : Nat → ((List Int) → Int → Option Int)
  | 0 => (fun _ _ => none)
  | n + 1 => (fun y0 y1 => spec_l2Yield_one (spec_l2Yield_knot n) y0 y1)

def spec_l2Yield_fuel (n : Nat) : (List Int) → Int → Option Int := (spec_l2Yield_knot n)

@[irreducible] def spec_l2Yield (x210 : List Int) (x211 : Int) : Option (Int) := spec_l2Yield_fuel RR x210 x211

/-! loop.example/headtrees/spec.l2Words -/

def spec_l2Words_n1 : Option (Unit) :=
  some ()

def spec_l2Words_n2 : Option (Unit) :=
  some ()

def spec_l2Words_n3 (x286 : Int) (x314 : Int) (x315 : List Int) : Option ((Int × (List Int)) ⊕ ((List Int))) :=
  (shr .i64 x286 x314).bind fun (v328 : Int) => cond (decide (v328 > 0)) ((shr .i64 x286 x314).bind fun (v330 : Int) => (rem v330 2).bind fun (v331 : Int) => cond (v331 == 1) ((room ((List.length x315) + List.length ([(IntKind.wrap .i64 (x314 + 1))]))).bind fun (v336 : Unit) => some (Sum.inl ((IntKind.wrap .i64 (x314 + 1)), (x315 ++ ([(IntKind.wrap .i64 (x314 + 1))]))))) (some (Sum.inl ((IntKind.wrap .i64 (x314 + 1)), x315)))) (some (Sum.inr x315))

def spec_l2Words_n4 (x286 : Int) : Option (((List Int))) :=
  nloop (fun (s : Int × (List Int)) => ((spec_l2Words_n3 x286 s.1 s.2).map (Sum.elim (fun (t : Int × (List Int)) => Sum.inl (t.1, t.2)) (fun (t : (List Int)) => Sum.inr t)) : Option ((Int × (List Int)) ⊕ (((List Int)))))) LL (0, ([] : List Int))

def spec_l2Words_n5 (x286 : Int) : Option (((List Int))) :=
  (spec_l2Words_n4 x286).map (fun (t : (List Int)) => t)

def spec_l2Words_n6 (x286 : Int) : Option (((List Int))) :=
  (spec_l2Words_n2).bind (fun (t : Unit) => spec_l2Words_n5 x286)

def spec_l2Words_n7 (x315 : List Int) : Option (((List Int))) :=
  some x315

def spec_l2Words_n8 (x286 : Int) : Option (((List Int))) :=
  (spec_l2Words_n6 x286).bind (fun (t : (List Int)) => spec_l2Words_n7 t)

def spec_l2Words_n9 (x286 : Int) : Option (((List Int))) :=
  (spec_l2Words_n1).bind (fun (t : Unit) => spec_l2Words_n8 x286)

@[irreducible] def spec_l2Words (x286 : Int) : Option ((List Int)) :=
  spec_l2Words_n9 x286

/-! loop.example/headtrees/spec.YieldOf -/

def spec_YieldOf_n1 (x48 : List Int) (x49 : Int) : Option (((List Int))) :=
  (spec_TreeOk x48).bind fun (v343 : Bool) => cond (!v343) (some ([] : List Int)) ((spec_l1In x49 1 (((List.length x48 : Nat) : Int))).bind fun (v346 : Bool) => cond (!v346) (some ([] : List Int)) ((spec_l2Yield x48 x49).bind fun (v348 : Int) => (spec_l2Words v348).bind fun (v349 : List Int) => some v349))

@[irreducible] def spec_YieldOf (x48 : List Int) (x49 : Int) : Option ((List Int)) :=
  spec_YieldOf_n1 x48 x49

/-! loop.example/headtrees/impl.oneRoot -/

def impl_oneRoot_n1 : Option (Unit) :=
  some ()

def impl_oneRoot_n2 (x371 : List Int) : Option (Int) :=
  some (((List.length x371 : Nat) : Int))

def impl_oneRoot_n3 (x371 : List Int) (x393 : Int) (x372 : Int) (x394 : Int) : Option ((Int × Int) ⊕ Bool ⊕ Int) :=
  cond (decide (x394 < x372)) ((idx x371 x394).bind fun (v405 : Int) => cond (decide (v405 < 0)) (some (Sum.inr (Sum.inl false))) (cond (decide (v405 > (((List.length x371 : Nat) : Int)))) (some (Sum.inr (Sum.inl false))) (cond (v405 == 0) (some (Sum.inl ((IntKind.wrap .i64 (x393 + 1)), (IntKind.wrap .i64 (x394 + 1))))) (some (Sum.inl (x393, (IntKind.wrap .i64 (x394 + 1)))))))) (some (Sum.inr (Sum.inr x393)))

def impl_oneRoot_n4 (x371 : List Int) (x372 : Int) : Option (Bool ⊕ Int) :=
  nloop (fun (s : Int × Int) => ((impl_oneRoot_n3 x371 s.1 x372 s.2).map (Sum.elim (fun (t : Int × Int) => Sum.inl (t.1, t.2)) (Sum.elim (fun (t : Bool) => Sum.inr (Sum.inl t)) (fun (t : Int) => Sum.inr (Sum.inr t)))) : Option ((Int × Int) ⊕ (Bool ⊕ Int)))) LL (0, 0)

def impl_oneRoot_n5 (x371 : List Int) (x372 : Int) : Option (Int ⊕ Bool) :=
  (impl_oneRoot_n4 x371 x372).map (Sum.elim (fun (t : Bool) => (Sum.inr t)) (fun (t : Int) => (Sum.inl t)))

def impl_oneRoot_n6 (x371 : List Int) : Option (Int ⊕ Bool) :=
  (impl_oneRoot_n2 x371).bind (fun (t : Int) => impl_oneRoot_n5 x371 t)

def impl_oneRoot_n7 (x393 : Int) : Option (Bool) :=
  some (x393 == 1)

def impl_oneRoot_n8 (x371 : List Int) : Option (Bool) :=
  (impl_oneRoot_n6 x371).bind (Sum.elim (fun (t : Int) => impl_oneRoot_n7 t) (fun e => some ((fun (t : Bool) => t) e)))

def impl_oneRoot_n9 (x371 : List Int) : Option (Bool) :=
  (impl_oneRoot_n1).bind (fun (t : Unit) => impl_oneRoot_n8 x371)

@[irreducible] def impl_oneRoot (x371 : List Int) : Option (Bool) :=
  impl_oneRoot_n9 x371

/-! (*loop.example/headtrees/impl.walker).up -/

def impl_walker_up_n1 (x427 : List Int) (x428 : Int) (x429 : Int) : Option ((Bool × Int × Int)) :=
  (idx x427 (IntKind.wrap .i64 (x428 - 1))).bind fun (v447 : Int) => cond (v447 == 0) (some (false, x428, x429)) (some (true, v447, (IntKind.wrap .i64 (x429 + 1))))

@[irreducible] def impl_walker_up (x427 : List Int) (x428 : Int) (x429 : Int) : Option (Bool × Int × Int) :=
  impl_walker_up_n1 x427 x428 x429

/-! loop.example/headtrees/impl.stepsToRoot -/

def impl_stepsToRoot_n1 : Option (Unit) :=
  some ()

def impl_stepsToRoot_n2 (x425 : List Int) (x463 : Int) (x464 : Int) : Option ((Int × Int) ⊕ (Int × Bool) ⊕ (Int × Int)) :=
  (impl_walker_up x425 x463 x464).bind fun (v469 : Bool × Int × Int) => cond (v469.1) (cond (decide ((v469.2.2) ≥ (((List.length x425 : Nat) : Int)))) (some (Sum.inr (Sum.inl (0, false)))) (some (Sum.inl ((v469.2.1), (v469.2.2))))) (some (Sum.inr (Sum.inr ((v469.2.1), (v469.2.2)))))

def impl_stepsToRoot_n3 (x425 : List Int) (x426 : Int) : Option ((Int × Bool) ⊕ (Int × Int)) :=
  nloop (fun (s : Int × Int) => ((impl_stepsToRoot_n2 x425 s.1 s.2).map (Sum.elim (fun (t : Int × Int) => Sum.inl (t.1, t.2)) (Sum.elim (fun (t : Int × Bool) => Sum.inr (Sum.inl t)) (fun (t : Int × Int) => Sum.inr (Sum.inr t)))) : Option ((Int × Int) ⊕ ((Int × Bool) ⊕ (Int × Int))))) LL (x426, 0)

def impl_stepsToRoot_n4 (x425 : List Int) (x426 : Int) : Option ((Int × Int) ⊕ (Int × Bool)) :=
  (impl_stepsToRoot_n3 x425 x426).map (Sum.elim (fun (t : Int × Bool) => (Sum.inr t)) (fun (t : Int × Int) => (Sum.inl (t.1, t.2))))

def impl_stepsToRoot_n5 (x472 : Int) : Option ((Int × Bool)) :=
  some (x472, true)

def impl_stepsToRoot_n6 (x425 : List Int) (x426 : Int) : Option ((Int × Bool)) :=
  (impl_stepsToRoot_n4 x425 x426).bind (Sum.elim (fun (t : Int × Int) => impl_stepsToRoot_n5 t.2) (fun e => some ((fun (t : Int × Bool) => t) e)))

def impl_stepsToRoot_n7 (x425 : List Int) (x426 : Int) : Option ((Int × Bool)) :=
  (impl_stepsToRoot_n1).bind (fun (t : Unit) => impl_stepsToRoot_n6 x425 x426)

@[irreducible] def impl_stepsToRoot (x425 : List Int) (x426 : Int) : Option (Int × Bool) :=
  impl_stepsToRoot_n7 x425 x426

/-! loop.example/headtrees/impl.TreeOk -/

def impl_TreeOk_n1 (x366 : List Int) : Option (Unit ⊕ Bool) :=
  cond (decide ((((List.length x366 : Nat) : Int)) < 1)) (some (Sum.inr false)) (cond (decide ((((List.length x366 : Nat) : Int)) > 8)) (some (Sum.inr false)) ((impl_oneRoot x366).bind fun (v418 : Bool) => cond (!v418) (some (Sum.inr false)) (some (Sum.inl ()))))

def impl_TreeOk_n2 (x366 : List Int) : Option (Int) :=
  some (((List.length x366 : Nat) : Int))

def impl_TreeOk_n3 (x366 : List Int) (x420 : Int) (x488 : Int) : Option (Int ⊕ Bool ⊕ Unit) :=
  cond (decide (x488 < x420)) ((impl_stepsToRoot x366 (IntKind.wrap .i64 (x488 + 1))).bind fun (v499 : Int × Bool) => cond (!(v499.2)) (some (Sum.inr (Sum.inl false))) (some (Sum.inl (IntKind.wrap .i64 (x488 + 1))))) (some (Sum.inr (Sum.inr ())))

def impl_TreeOk_n4 (x366 : List Int) (x420 : Int) : Option (Bool ⊕ Unit) :=
  nloop (fun (s : Int) => ((impl_TreeOk_n3 x366 x420 s).map (Sum.elim (fun (t : Int) => Sum.inl t) (Sum.elim (fun (t : Bool) => Sum.inr (Sum.inl t)) (fun (t : Unit) => Sum.inr (Sum.inr t)))) : Option ((Int) ⊕ (Bool ⊕ Unit)))) LL 0

def impl_TreeOk_n5 (x366 : List Int) (x420 : Int) : Option (Unit ⊕ Bool) :=
  (impl_TreeOk_n4 x366 x420).map (Sum.elim (fun (t : Bool) => (Sum.inr t)) (fun (t : Unit) => (Sum.inl ())))

def impl_TreeOk_n6 (x366 : List Int) : Option (Unit ⊕ Bool) :=
  (impl_TreeOk_n2 x366).bind (fun (t : Int) => impl_TreeOk_n5 x366 t)

def impl_TreeOk_n7 : Option (Bool) :=
  some true

def impl_TreeOk_n8 (x366 : List Int) : Option (Bool) :=
  (impl_TreeOk_n6 x366).bind (Sum.elim (fun (t : Unit) => impl_TreeOk_n7) (fun e => some ((fun (t : Bool) => t) e)))

def impl_TreeOk_n9 (x366 : List Int) : Option (Bool) :=
  (impl_TreeOk_n1 x366).bind (Sum.elim (fun (t : Unit) => impl_TreeOk_n8 x366) (fun e => some ((fun (t : Bool) => t) e)))

@[irreducible] def impl_TreeOk (x366 : List Int) : Option (Bool) :=
  impl_TreeOk_n9 x366

/-! loop.example/headtrees/impl.wordOk -/

def impl_wordOk_n1 (x364 : List Int) (x365 : Int) : Option (Bool) :=
  (impl_TreeOk x364).bind fun (v509 : Bool) => cond v509 (cond (decide (x365 ≥ 1)) (some (decide (x365 ≤ (((List.length x364 : Nat) : Int))))) (some false)) (some false)

@[irreducible] def impl_wordOk (x364 : List Int) (x365 : Int) : Option (Bool) :=
  impl_wordOk_n1 x364 x365

/-! loop.example/headtrees/impl.RootOf -/

def impl_RootOf_n1 (x525 : List Int) : Option (Unit ⊕ Int) :=
  (impl_TreeOk x525).bind fun (v529 : Bool) => cond (!v529) (some (Sum.inr (-1))) (some (Sum.inl ()))

def impl_RootOf_n2 (x525 : List Int) (x539 : Int) (x540 : Int) : Option ((Int × Int) ⊕ (Int × Int)) :=
  (impl_walker_up x525 x539 x540).bind fun (v545 : Bool × Int × Int) => cond (v545.1) (some (Sum.inl ((v545.2.1), (v545.2.2)))) (some (Sum.inr ((v545.2.1), (v545.2.2))))

def impl_RootOf_n3 (x525 : List Int) : Option ((Int × Int)) :=
  nloop (fun (s : Int × Int) => ((impl_RootOf_n2 x525 s.1 s.2).map (Sum.elim (fun (t : Int × Int) => Sum.inl (t.1, t.2)) (fun (t : Int × Int) => Sum.inr t)) : Option ((Int × Int) ⊕ ((Int × Int))))) LL (1, 0)

def impl_RootOf_n4 (x525 : List Int) : Option ((Int × Int)) :=
  (impl_RootOf_n3 x525).map (fun (t : Int × Int) => (t.1, t.2))

def impl_RootOf_n5 (x547 : Int) : Option (Int) :=
  some x547

def impl_RootOf_n6 (x525 : List Int) : Option (Int) :=
  (impl_RootOf_n4 x525).bind (fun (t : Int × Int) => impl_RootOf_n5 t.1)

def impl_RootOf_n7 (x525 : List Int) : Option (Int) :=
  (impl_RootOf_n1 x525).bind (Sum.elim (fun (t : Unit) => impl_RootOf_n6 x525) (fun e => some ((fun (t : Int) => t) e)))

@[irreducible] def impl_RootOf (x525 : List Int) : Option (Int) :=
  impl_RootOf_n7 x525

/-! loop.example/headtrees/impl.only -/

def impl_only_n1 (x554 : Int) : Option (Int) :=
  (shl .u64 1 (IntKind.wrap .i64 (x554 - 1))).bind fun (v558 : Int) => some v558

@[irreducible] def impl_only (x554 : Int) : Option (Int) :=
  impl_only_n1 x554

/-! loop.example/headtrees/impl.dependents -/

def impl_dependents_n1 : Option (Unit) :=
  some ()

def impl_dependents_n2 (x560 : List Int) : Option (Int) :=
  some (((List.length x560 : Nat) : Int))

def impl_dependents_n3 (x560 : List Int) (x561 : Int) (x581 : Int) (x562 : Int) (x582 : Int) : Option ((Int × Int) ⊕ Int) :=
  cond (decide (x582 < x562)) ((idx x560 x582).bind fun (v592 : Int) => cond (v592 == x561) ((impl_only (IntKind.wrap .i64 (x582 + 1))).bind fun (v595 : Int) => some (Sum.inl ((ior .u64 x581 v595), (IntKind.wrap .i64 (x582 + 1))))) (some (Sum.inl (x581, (IntKind.wrap .i64 (x582 + 1)))))) (some (Sum.inr x581))

def impl_dependents_n4 (x560 : List Int) (x561 : Int) (x562 : Int) : Option (Int) :=
  nloop (fun (s : Int × Int) => ((impl_dependents_n3 x560 x561 s.1 x562 s.2).map (Sum.elim (fun (t : Int × Int) => Sum.inl (t.1, t.2)) (fun (t : Int) => Sum.inr t)) : Option ((Int × Int) ⊕ (Int)))) LL (0, 0)

def impl_dependents_n5 (x560 : List Int) (x561 : Int) (x562 : Int) : Option (Int) :=
  (impl_dependents_n4 x560 x561 x562).map (fun (t : Int) => t)

def impl_dependents_n6 (x560 : List Int) (x561 : Int) : Option (Int) :=
  (impl_dependents_n2 x560).bind (fun (t : Int) => impl_dependents_n5 x560 x561 t)

def impl_dependents_n7 (x581 : Int) : Option (Int) :=
  some x581

def impl_dependents_n8 (x560 : List Int) (x561 : Int) : Option (Int) :=
  (impl_dependents_n6 x560 x561).bind (fun (t : Int) => impl_dependents_n7 t)

def impl_dependents_n9 (x560 : List Int) (x561 : Int) : Option (Int) :=
  (impl_dependents_n1).bind (fun (t : Unit) => impl_dependents_n8 x560 x561)

@[irreducible] def impl_dependents (x560 : List Int) (x561 : Int) : Option (Int) :=
  impl_dependents_n9 x560 x561

/-! math/bits.OnesCount64 -/

def math_bits_OnesCount64_n1 (x605 : Int) : Option (Int) :=
  (shr .u64 x605 1).bind fun (v606 : Int) => some (IntKind.wrap .u64 ((iand .u64 v606 6148914691236517205) + (iand .u64 x605 6148914691236517205)))

def math_bits_OnesCount64_n2 (x610 : Int) : Option (Int) :=
  (shr .u64 x610 2).bind fun (v624 : Int) => some (IntKind.wrap .u64 ((iand .u64 v624 3689348814741910323) + (iand .u64 x610 3689348814741910323)))

def math_bits_OnesCount64_n3 (x627 : Int) : Option (Int) :=
  (shr .u64 x627 4).bind fun (v633 : Int) => some (iand .u64 (IntKind.wrap .u64 (v633 + x627)) 1085102592571150095)

def math_bits_OnesCount64_n4 (x635 : Int) : Option (Int) :=
  (shr .u64 x635 8).bind fun (v638 : Int) => some (IntKind.wrap .u64 (x635 + v638))

def math_bits_OnesCount64_n5 (x639 : Int) : Option (Int) :=
  (shr .u64 x639 16).bind fun (v643 : Int) => some (IntKind.wrap .u64 (x639 + v643))

def math_bits_OnesCount64_n6 (x644 : Int) : Option (Int) :=
  (shr .u64 x644 32).bind fun (v648 : Int) => some (IntKind.wrap .u64 (x644 + v648))

def math_bits_OnesCount64_n7 (x649 : Int) : Option (Int) :=
  some (iand .i64 (IntKind.wrap .i64 x649) 127)

def math_bits_OnesCount64_n8 (x654 : Int) : Option (Int) :=
  some x654

def math_bits_OnesCount64_n9 (x649 : Int) : Option (Int) :=
  (math_bits_OnesCount64_n7 x649).bind (fun (t : Int) => math_bits_OnesCount64_n8 t)

def math_bits_OnesCount64_n10 (x644 : Int) : Option (Int) :=
  (math_bits_OnesCount64_n6 x644).bind (fun (t : Int) => math_bits_OnesCount64_n9 t)

def math_bits_OnesCount64_n11 (x639 : Int) : Option (Int) :=
  (math_bits_OnesCount64_n5 x639).bind (fun (t : Int) => math_bits_OnesCount64_n10 t)

def math_bits_OnesCount64_n12 (x635 : Int) : Option (Int) :=
  (math_bits_OnesCount64_n4 x635).bind (fun (t : Int) => math_bits_OnesCount64_n11 t)

def math_bits_OnesCount64_n13 (x627 : Int) : Option (Int) :=
  (math_bits_OnesCount64_n3 x627).bind (fun (t : Int) => math_bits_OnesCount64_n12 t)

def math_bits_OnesCount64_n14 (x610 : Int) : Option (Int) :=
  (math_bits_OnesCount64_n2 x610).bind (fun (t : Int) => math_bits_OnesCount64_n13 t)

def math_bits_OnesCount64_n15 (x605 : Int) : Option (Int) :=
  (math_bits_OnesCount64_n1 x605).bind (fun (t : Int) => math_bits_OnesCount64_n14 t)

@[irreducible] def math_bits_OnesCount64 (x605 : Int) : Option (Int) :=
  math_bits_OnesCount64_n15 x605

/-! math/bits.OnesCount -/

def math_bits_OnesCount_n1 (x604 : Int) : Option (Int) :=
  (math_bits_OnesCount64 x604).bind fun (v656 : Int) => some v656

@[irreducible] def math_bits_OnesCount (x604 : Int) : Option (Int) :=
  math_bits_OnesCount_n1 x604

/-! (loop.example/headtrees/impl.wordSet).count -/

def impl_wordSet_count_n1 (x603 : Int) : Option (Int) :=
  (math_bits_OnesCount x603).bind fun (v658 : Int) => some v658

@[irreducible] def impl_wordSet_count (x603 : Int) : Option (Int) :=
  impl_wordSet_count_n1 x603

/-! math/bits.TrailingZeros64 -/

def math_bits_TrailingZeros64_n1 (x665 : Int) : Option (Int) :=
  cond (x665 == 0) (some 64) ((shr .u64 (IntKind.wrap .u64 ((iand .u64 x665 (IntKind.wrap .u64 (0 - x665))) * 285870213051353865)) 58).bind fun (v683 : Int) => (same (List.length tab1) 64).bind fun (v684 : Unit) => (idx tab1 v683).bind fun (v685 : Int) => some (IntKind.wrap .i64 v685))

@[irreducible] def math_bits_TrailingZeros64 (x665 : Int) : Option (Int) :=
  math_bits_TrailingZeros64_n1 x665

/-! math/bits.TrailingZeros -/

def math_bits_TrailingZeros_n1 (x664 : Int) : Option (Int) :=
  (math_bits_TrailingZeros64 x664).bind fun (v689 : Int) => some v689

@[irreducible] def math_bits_TrailingZeros (x664 : Int) : Option (Int) :=
  math_bits_TrailingZeros_n1 x664

/-! (loop.example/headtrees/impl.wordSet).list -/

def impl_wordSet_list_n1 (x602 : Int) : Option (((List Int))) :=
  (impl_wordSet_count x602).bind fun (v659 : Int) => (mk 0 v659).bind fun (v660 : Nat) => some (List.replicate v660 (0 : Int))

def impl_wordSet_list_n2 : Option (Unit) :=
  some ()

def impl_wordSet_list_n3 (x705 : Int) (x706 : List Int) : Option ((Int × (List Int)) ⊕ ((List Int))) :=
  cond (x705 != 0) ((math_bits_TrailingZeros x705).bind fun (v716 : Int) => (room ((List.length x706) + List.length ([(IntKind.wrap .i64 (v716 + 1))]))).bind fun (v720 : Unit) => some (Sum.inl ((iand .u64 x705 (IntKind.wrap .u64 (x705 - 1))), (x706 ++ ([(IntKind.wrap .i64 (v716 + 1))]))))) (some (Sum.inr x706))

def impl_wordSet_list_n4 (x602 : Int) (x661 : List Int) : Option (((List Int))) :=
  nloop (fun (s : Int × (List Int)) => ((impl_wordSet_list_n3 s.1 s.2).map (Sum.elim (fun (t : Int × (List Int)) => Sum.inl (t.1, t.2)) (fun (t : (List Int)) => Sum.inr t)) : Option ((Int × (List Int)) ⊕ (((List Int)))))) LL (x602, x661)

def impl_wordSet_list_n5 (x602 : Int) (x661 : List Int) : Option (((List Int))) :=
  (impl_wordSet_list_n4 x602 x661).map (fun (t : (List Int)) => t)

def impl_wordSet_list_n6 (x602 : Int) (x661 : List Int) : Option (((List Int))) :=
  (impl_wordSet_list_n2).bind (fun (t : Unit) => impl_wordSet_list_n5 x602 x661)

def impl_wordSet_list_n7 (x706 : List Int) : Option (((List Int))) :=
  some x706

def impl_wordSet_list_n8 (x602 : Int) (x661 : List Int) : Option (((List Int))) :=
  (impl_wordSet_list_n6 x602 x661).bind (fun (t : (List Int)) => impl_wordSet_list_n7 t)

def impl_wordSet_list_n9 (x602 : Int) : Option (((List Int))) :=
  (impl_wordSet_list_n1 x602).bind (fun (t : (List Int)) => impl_wordSet_list_n8 x602 t)

@[irreducible] def impl_wordSet_list (x602 : Int) : Option ((List Int)) :=
  impl_wordSet_list_n9 x602

/-! loop.example/headtrees/impl.fillYields -/

def impl_fillYields_n1 (R0 : (List Int) → Int → (List Int) → Option (Int × (List Int))) (x552 : Int) : Option (Int) :=
  (impl_only x552).bind fun (v740 : Int) => some v740

def impl_fillYields_n2 (R0 : (List Int) → Int → (List Int) → Option (Int × (List Int))) (x551 : List Int) (x552 : Int) : Option ((Int × (List Int))) :=
  (impl_dependents x551 x552).bind fun (v741 : Int) => (impl_wordSet_list v741).bind fun (v742 : List Int) => some ((((List.length v742 : Nat) : Int)), v742)

def impl_fillYields_n3 (R0 : (List Int) → Int → (List Int) → Option (Int × (List Int))) (x551 : List Int) (x761 : Int) (x743 : Int) (x762 : Int) (x763 : List Int) (x742 : List Int) : Option ((Int × Int × (List Int)) ⊕ (Int × (List Int))) :=
  cond (decide (x762 < x743)) ((inb x762 (List.length x742)).bind fun (v774 : Nat) => (x742[v774]?).bind fun (v775 : Int) => (R0 x551 v775 x763).bind fun (v776 : Int × (List Int)) => some (Sum.inl ((ior .u64 x761 (v776.1)), (IntKind.wrap .i64 (x762 + 1)), (v776.2)))) (some (Sum.inr (x761, x763)))

def impl_fillYields_n4 (R0 : (List Int) → Int → (List Int) → Option (Int × (List Int))) (x551 : List Int) (x740 : Int) (x743 : Int) (x553 : List Int) (x742 : List Int) : Option ((Int × (List Int))) :=
  nloop (fun (s : Int × Int × (List Int)) => ((impl_fillYields_n3 R0 x551 s.1 x743 s.2.1 s.2.2 x742).map (Sum.elim (fun (t : Int × Int × (List Int)) => Sum.inl (t.1, t.2.1, t.2.2)) (fun (t : Int × (List Int)) => Sum.inr t)) : Option ((Int × Int × (List Int)) ⊕ ((Int × (List Int)))))) LL (x740, 0, x553)

def impl_fillYields_n5 (R0 : (List Int) → Int → (List Int) → Option (Int × (List Int))) (x551 : List Int) (x740 : Int) (x743 : Int) (x553 : List Int) (x742 : List Int) : Option ((Int × (List Int))) :=
  (impl_fillYields_n4 R0 x551 x740 x743 x553 x742).map (fun (t : Int × (List Int)) => (t.1, t.2))

def impl_fillYields_n6 (R0 : (List Int) → Int → (List Int) → Option (Int × (List Int))) (x551 : List Int) (x552 : Int) (x740 : Int) (x553 : List Int) : Option ((Int × (List Int))) :=
  (impl_fillYields_n2 R0 x551 x552).bind (fun (t : Int × (List Int)) => impl_fillYields_n5 R0 x551 x740 t.1 x553 t.2)

def impl_fillYields_n7 (R0 : (List Int) → Int → (List Int) → Option (Int × (List Int))) (x552 : Int) (x761 : Int) (x763 : List Int) : Option ((Int × (List Int))) :=
  (inb (IntKind.wrap .i64 (x552 - 1)) (List.length x763)).bind fun (v788 : Nat) => some (x761, (x763.set v788 x761))

def impl_fillYields_n8 (R0 : (List Int) → Int → (List Int) → Option (Int × (List Int))) (x551 : List Int) (x552 : Int) (x740 : Int) (x553 : List Int) : Option ((Int × (List Int))) :=
  (impl_fillYields_n6 R0 x551 x552 x740 x553).bind (fun (t : Int × (List Int)) => impl_fillYields_n7 R0 x552 t.1 t.2)

def impl_fillYields_n9 (R0 : (List Int) → Int → (List Int) → Option (Int × (List Int))) (x551 : List Int) (x552 : Int) (x553 : List Int) : Option ((Int × (List Int))) :=
  (impl_fillYields_n1 R0 x552).bind (fun (t : Int) => impl_fillYields_n8 R0 x551 x552 t x553)

def impl_fillYields_one (R0 : (List Int) → Int → (List Int) → Option (Int × (List Int))) (x551 : List Int) (x552 : Int) (x553 : List Int) : Option (Int × (List Int)) :=
  impl_fillYields_n9 R0 x551 x552 x553

def impl_fillYields_knot : Nat → ((List Int) → Int → (List Int) → Option (Int × (List Int)))
  | 0 => (fun _ _ _ => none)
  | n + 1 => (fun y0 y1 y2 => impl_fillYields_one (impl_fillYields_knot n) y0 y1 y2)

def impl_fillYields_fuel (n : Nat) : (List Int) → Int → (List Int) → Option (Int × (List Int)) := (impl_fillYields_knot n)

@[irreducible] def impl_fillYields (x551 : List Int) (x552 : Int) (x553 : List Int) : Option (Int × (List Int)) := impl_fillYields_fuel RR x551 x552 x553

/-! loop.example/headtrees/impl.yieldsOf -/

def impl_yieldsOf_n1 (x518 : List Int) : Option (((List Int))) :=
  (mk (((List.length x518 : Nat) : Int)) (((List.length x518 : Nat) : Int))).bind fun (v801 : Nat) => (impl_RootOf x518).bind fun (v803 : Int) => (impl_fillYields x518 v803 (List.replicate v801 (0 : Int))).bind fun (v804 : Int × (List Int)) => some (v804.2)

@[irreducible] def impl_yieldsOf (x518 : List Int) : Option ((List Int)) :=
  impl_yieldsOf_n1 x518

/-! loop.example/headtrees/impl.YieldOf -/

def impl_YieldOf_n1 (x362 : List Int) (x363 : Int) : Option (((List Int))) :=
  (impl_wordOk x362 x363).bind fun (v812 : Bool) => cond (!v812) (some ([] : List Int)) ((impl_yieldsOf x362).bind fun (v814 : List Int) => (inb (IntKind.wrap .i64 (x363 - 1)) (List.length v814)).bind fun (v816 : Nat) => (v814[v816]?).bind fun (v817 : Int) => (impl_wordSet_list v817).bind fun (v818 : List Int) => some v818)

@[irreducible] def impl_YieldOf (x362 : List Int) (x363 : Int) : Option ((List Int)) :=
  impl_YieldOf_n1 x362 x363

/-! loop.example/headtrees/laws.eqIntS -/

def laws_eqIntS_n1 (x827 : List Int) (x828 : List Int) : Option (Unit ⊕ Bool) :=
  cond ((((List.length x827 : Nat) : Int)) != (((List.length x828 : Nat) : Int))) (some (Sum.inr false)) (some (Sum.inl ()))

def laws_eqIntS_n2 : Option (Unit) :=
  some ()

def laws_eqIntS_n3 (x827 : List Int) (x828 : List Int) (x845 : Int) : Option (Int ⊕ Bool ⊕ Unit) :=
  cond (decide (x845 < (((List.length x827 : Nat) : Int)))) ((idx x827 x845).bind fun (v855 : Int) => (idx x828 x845).bind fun (v856 : Int) => cond (v855 != v856) (some (Sum.inr (Sum.inl false))) (some (Sum.inl (IntKind.wrap .i64 (x845 + 1))))) (some (Sum.inr (Sum.inr ())))

def laws_eqIntS_n4 (x827 : List Int) (x828 : List Int) : Option (Bool ⊕ Unit) :=
  nloop (fun (s : Int) => ((laws_eqIntS_n3 x827 x828 s).map (Sum.elim (fun (t : Int) => Sum.inl t) (Sum.elim (fun (t : Bool) => Sum.inr (Sum.inl t)) (fun (t : Unit) => Sum.inr (Sum.inr t)))) : Option ((Int) ⊕ (Bool ⊕ Unit)))) LL 0

def laws_eqIntS_n5 (x827 : List Int) (x828 : List Int) : Option (Unit ⊕ Bool) :=
  (laws_eqIntS_n4 x827 x828).map (Sum.elim (fun (t : Bool) => (Sum.inr t)) (fun (t : Unit) => (Sum.inl ())))

def laws_eqIntS_n6 (x827 : List Int) (x828 : List Int) : Option (Unit ⊕ Bool) :=
  (laws_eqIntS_n2).bind (fun (t : Unit) => laws_eqIntS_n5 x827 x828)

def laws_eqIntS_n7 : Option (Bool) :=
  some true

def laws_eqIntS_n8 (x827 : List Int) (x828 : List Int) : Option (Bool) :=
  (laws_eqIntS_n6 x827 x828).bind (Sum.elim (fun (t : Unit) => laws_eqIntS_n7) (fun e => some ((fun (t : Bool) => t) e)))

def laws_eqIntS_n9 (x827 : List Int) (x828 : List Int) : Option (Bool) :=
  (laws_eqIntS_n1 x827 x828).bind (Sum.elim (fun (t : Unit) => laws_eqIntS_n8 x827 x828) (fun e => some ((fun (t : Bool) => t) e)))

@[irreducible] def laws_eqIntS (x827 : List Int) (x828 : List Int) : Option (Bool) :=
  laws_eqIntS_n9 x827 x828

/-! loop.example/headtrees/laws.markIntS -/

def laws_markIntS_n1 : Option (Unit) :=
  some ()

def laws_markIntS_n2 : Option (Unit) :=
  some ()

def laws_markIntS_n3 (x910 : Int) (x911 : Int) (x912 : List Int) : Option ((Int × Int × (List Int)) ⊕ (Int × (List Int))) :=
  cond (decide (x911 < (((List.length x912 : Nat) : Int)))) ((inb x911 (List.length x912)).bind fun (v922 : Nat) => some (Sum.inl ((IntKind.wrap .i64 (x910 + 1)), (IntKind.wrap .i64 (x911 + 1)), (x912.set v922 x910)))) (some (Sum.inr (x910, x912)))

def laws_markIntS_n4 (x895 : Int) (x896 : List Int) : Option ((Int × (List Int))) :=
  nloop (fun (s : Int × Int × (List Int)) => ((laws_markIntS_n3 s.1 s.2.1 s.2.2).map (Sum.elim (fun (t : Int × Int × (List Int)) => Sum.inl (t.1, t.2.1, t.2.2)) (fun (t : Int × (List Int)) => Sum.inr t)) : Option ((Int × Int × (List Int)) ⊕ ((Int × (List Int)))))) LL (x895, 0, x896)

def laws_markIntS_n5 (x895 : Int) (x896 : List Int) : Option ((Int × (List Int))) :=
  (laws_markIntS_n4 x895 x896).map (fun (t : Int × (List Int)) => (t.1, t.2))

def laws_markIntS_n6 (x895 : Int) (x896 : List Int) : Option ((Int × (List Int))) :=
  (laws_markIntS_n2).bind (fun (t : Unit) => laws_markIntS_n5 x895 x896)

def laws_markIntS_n7 (x910 : Int) (x912 : List Int) : Option ((Int × (List Int))) :=
  some (x910, x912)

def laws_markIntS_n8 (x895 : Int) (x896 : List Int) : Option ((Int × (List Int))) :=
  (laws_markIntS_n6 x895 x896).bind (fun (t : Int × (List Int)) => laws_markIntS_n7 t.1 t.2)

def laws_markIntS_n9 (x895 : Int) (x896 : List Int) : Option ((Int × (List Int))) :=
  (laws_markIntS_n1).bind (fun (t : Unit) => laws_markIntS_n8 x895 x896)

@[irreducible] def laws_markIntS (x895 : Int) (x896 : List Int) : Option (Int × (List Int)) :=
  laws_markIntS_n9 x895 x896

/-! loop.example/headtrees/laws.heldIntS -/

def laws_heldIntS_n1 : Option (Unit) :=
  some ()

def laws_heldIntS_n2 : Option (Unit) :=
  some ()

def laws_heldIntS_n3 (x1023 : List Int) (x1038 : Int) (x1039 : Int) : Option ((Int × Int) ⊕ Int ⊕ Int) :=
  cond (decide (x1039 < (((List.length x1023 : Nat) : Int)))) ((idx x1023 x1039).bind fun (v1049 : Int) => cond (v1049 != x1038) (some (Sum.inr (Sum.inl (-1)))) (some (Sum.inl ((IntKind.wrap .i64 (x1038 + 1)), (IntKind.wrap .i64 (x1039 + 1)))))) (some (Sum.inr (Sum.inr x1038)))

def laws_heldIntS_n4 (x1023 : List Int) (x1024 : Int) : Option (Int ⊕ Int) :=
  nloop (fun (s : Int × Int) => ((laws_heldIntS_n3 x1023 s.1 s.2).map (Sum.elim (fun (t : Int × Int) => Sum.inl (t.1, t.2)) (Sum.elim (fun (t : Int) => Sum.inr (Sum.inl t)) (fun (t : Int) => Sum.inr (Sum.inr t)))) : Option ((Int × Int) ⊕ (Int ⊕ Int)))) LL (x1024, 0)

def laws_heldIntS_n5 (x1023 : List Int) (x1024 : Int) : Option (Int ⊕ Int) :=
  (laws_heldIntS_n4 x1023 x1024).map (Sum.elim (fun (t : Int) => (Sum.inr t)) (fun (t : Int) => (Sum.inl t)))

def laws_heldIntS_n6 (x1023 : List Int) (x1024 : Int) : Option (Int ⊕ Int) :=
  (laws_heldIntS_n2).bind (fun (t : Unit) => laws_heldIntS_n5 x1023 x1024)

def laws_heldIntS_n7 (x1038 : Int) : Option (Int) :=
  some x1038

def laws_heldIntS_n8 (x1023 : List Int) (x1024 : Int) : Option (Int) :=
  (laws_heldIntS_n6 x1023 x1024).bind (Sum.elim (fun (t : Int) => laws_heldIntS_n7 t) (fun e => some ((fun (t : Int) => t) e)))

def laws_heldIntS_n9 (x1023 : List Int) (x1024 : Int) : Option (Int) :=
  (laws_heldIntS_n1).bind (fun (t : Unit) => laws_heldIntS_n8 x1023 x1024)

@[irreducible] def laws_heldIntS (x1023 : List Int) (x1024 : Int) : Option (Int) :=
  laws_heldIntS_n9 x1023 x1024

/-! loop.example/headtrees/laws.FnExactYieldOf -/

def laws_FnExactYieldOf_n1 (x3 : List Int) (x4 : Int) : Option (Bool) :=
  cond (decide ((((List.length x3 : Nat) : Int)) > 1048576)) (some true) ((laws_toIntS x3).bind fun (v1298 : List Int) => (spec_YieldOf v1298 x4).bind fun (v1299 : List Int) => (laws_toIntS x3).bind fun (v1300 : List Int) => (impl_YieldOf v1300 x4).bind fun (v1301 : List Int) => (laws_eqIntS v1301 v1299).bind fun (v1302 : Bool) => cond (!v1302) (some false) ((laws_toIntS x3).bind fun (v1304 : List Int) => (laws_eqIntS v1300 v1304).bind fun (v1305 : Bool) => cond (!v1305) (some false) ((laws_markIntS 1 v1300).bind fun (v1307 : Int × (List Int)) => cond (decide ((v1307.1) < 0)) (some false) ((laws_eqIntS v1301 v1299).bind fun (v1311 : Bool) => cond (!v1311) (some false) ((laws_markIntS 1 v1301).bind fun (v1313 : Int × (List Int)) => (laws_heldIntS (v1313.2) 1).bind fun (v1316 : Int) => cond (decide (v1316 < 0)) (some false) (cond (v1316 != (v1313.1)) (some false) ((laws_toIntS x3).bind fun (v1319 : List Int) => (impl_YieldOf v1319 x4).bind fun (v1320 : List Int) => (laws_eqIntS v1320 v1299).bind fun (v1321 : Bool) => cond (!v1321) (some false) ((laws_heldIntS (v1313.2) 1).bind fun (v1323 : Int) => cond (decide (v1323 < 0)) (some false) (cond (v1323 != (v1313.1)) (some false) (some true))))))))))

@[irreducible] def laws_FnExactYieldOf (x3 : List Int) (x4 : Int) : Option (Bool) :=
  laws_FnExactYieldOf_n1 x3 x4

/-! loop.example/headtrees/spec.DependsOf -/

def spec_DependsOf_n1 : Option (Unit) :=
  some ()

def spec_DependsOf_n2 : Option (Unit) :=
  some ()

def spec_DependsOf_n3 (x1336 : List Int) (x1337 : Int) (x1365 : Int) (x1366 : List Int) : Option ((Int × (List Int)) ⊕ ((List Int))) :=
  cond (decide (x1365 < (((List.length x1336 : Nat) : Int)))) ((spec_TreeOk x1336).bind fun (v1382 : Bool) => cond v1382 ((idx x1336 x1365).bind fun (v1383 : Int) => cond (v1383 == x1337) ((room ((List.length x1366) + List.length ([(IntKind.wrap .i64 (x1365 + 1))]))).bind fun (v1388 : Unit) => some (Sum.inl ((IntKind.wrap .i64 (x1365 + 1)), (x1366 ++ ([(IntKind.wrap .i64 (x1365 + 1))]))))) (some (Sum.inl ((IntKind.wrap .i64 (x1365 + 1)), x1366)))) (some (Sum.inr x1366))) (some (Sum.inr x1366))

def spec_DependsOf_n4 (x1336 : List Int) (x1337 : Int) : Option (((List Int))) :=
  nloop (fun (s : Int × (List Int)) => ((spec_DependsOf_n3 x1336 x1337 s.1 s.2).map (Sum.elim (fun (t : Int × (List Int)) => Sum.inl (t.1, t.2)) (fun (t : (List Int)) => Sum.inr t)) : Option ((Int × (List Int)) ⊕ (((List Int)))))) LL (0, ([] : List Int))

def spec_DependsOf_n5 (x1336 : List Int) (x1337 : Int) : Option (((List Int))) :=
  (spec_DependsOf_n4 x1336 x1337).map (fun (t : (List Int)) => t)

def spec_DependsOf_n6 (x1336 : List Int) (x1337 : Int) : Option (((List Int))) :=
  (spec_DependsOf_n2).bind (fun (t : Unit) => spec_DependsOf_n5 x1336 x1337)

def spec_DependsOf_n7 (x1366 : List Int) : Option (((List Int))) :=
  some x1366

def spec_DependsOf_n8 (x1336 : List Int) (x1337 : Int) : Option (((List Int))) :=
  (spec_DependsOf_n6 x1336 x1337).bind (fun (t : (List Int)) => spec_DependsOf_n7 t)

def spec_DependsOf_n9 (x1336 : List Int) (x1337 : Int) : Option (((List Int))) :=
  (spec_DependsOf_n1).bind (fun (t : Unit) => spec_DependsOf_n8 x1336 x1337)

@[irreducible] def spec_DependsOf (x1336 : List Int) (x1337 : Int) : Option ((List Int)) :=
  spec_DependsOf_n9 x1336 x1337

/-! loop.example/headtrees/impl.DependsOf -/

def impl_DependsOf_n1 (x1405 : List Int) (x1406 : Int) : Option (((List Int))) :=
  (impl_TreeOk x1405).bind fun (v1419 : Bool) => cond (!v1419) (some ([] : List Int)) (cond (decide (x1406 < 0)) (some ([] : List Int)) (cond (decide (x1406 > (((List.length x1405 : Nat) : Int)))) (some ([] : List Int)) ((impl_dependents x1405 x1406).bind fun (v1424 : Int) => (impl_wordSet_list v1424).bind fun (v1425 : List Int) => some v1425)))

@[irreducible] def impl_DependsOf (x1405 : List Int) (x1406 : Int) : Option ((List Int)) :=
  impl_DependsOf_n1 x1405 x1406

/-! loop.example/headtrees/laws.FnExactDependsOf -/

def laws_FnExactDependsOf_n1 (x1329 : List Int) (x1330 : Int) : Option (Bool) :=
  cond (decide ((((List.length x1329 : Nat) : Int)) > 1048576)) (some true) ((laws_toIntS x1329).bind fun (v1810 : List Int) => (spec_DependsOf v1810 x1330).bind fun (v1811 : List Int) => (laws_toIntS x1329).bind fun (v1812 : List Int) => (impl_DependsOf v1812 x1330).bind fun (v1813 : List Int) => (laws_eqIntS v1813 v1811).bind fun (v1814 : Bool) => cond (!v1814) (some false) ((laws_toIntS x1329).bind fun (v1816 : List Int) => (laws_eqIntS v1812 v1816).bind fun (v1817 : Bool) => cond (!v1817) (some false) ((laws_markIntS 1 v1812).bind fun (v1819 : Int × (List Int)) => cond (decide ((v1819.1) < 0)) (some false) ((laws_eqIntS v1813 v1811).bind fun (v1823 : Bool) => cond (!v1823) (some false) ((laws_markIntS 1 v1813).bind fun (v1825 : Int × (List Int)) => (laws_heldIntS (v1825.2) 1).bind fun (v1828 : Int) => cond (decide (v1828 < 0)) (some false) (cond (v1828 != (v1825.1)) (some false) ((laws_toIntS x1329).bind fun (v1831 : List Int) => (impl_DependsOf v1831 x1330).bind fun (v1832 : List Int) => (laws_eqIntS v1832 v1811).bind fun (v1833 : Bool) => cond (!v1833) (some false) ((laws_heldIntS (v1825.2) 1).bind fun (v1835 : Int) => cond (decide (v1835 < 0)) (some false) (cond (v1835 != (v1825.1)) (some false) (some true))))))))))

@[irreducible] def laws_FnExactDependsOf (x1329 : List Int) (x1330 : Int) : Option (Bool) :=
  laws_FnExactDependsOf_n1 x1329 x1330

/-! loop.example/headtrees/spec.UnderOk -/

def spec_UnderOk_n1 (x1850 : List Int) (x1851 : Int) (x1852 : Int) : Option (Bool) :=
  (spec_TreeOk x1850).bind fun (v1874 : Bool) => cond (!v1874) (some false) ((spec_l1In x1851 1 (((List.length x1850 : Nat) : Int))).bind fun (v1877 : Bool) => cond (!v1877) (some false) ((spec_l1In x1852 1 (((List.length x1850 : Nat) : Int))).bind fun (v1880 : Bool) => cond (!v1880) (some false) ((spec_l2Yield x1850 x1852).bind fun (v1882 : Int) => (shr .i64 v1882 (IntKind.wrap .i64 (x1851 - 1))).bind fun (v1884 : Int) => (rem v1884 2).bind fun (v1885 : Int) => some (v1885 == 1))))

@[irreducible] def spec_UnderOk (x1850 : List Int) (x1851 : Int) (x1852 : Int) : Option (Bool) :=
  spec_UnderOk_n1 x1850 x1851 x1852

/-! (loop.example/headtrees/impl.wordSet).hasAll -/

def impl_wordSet_hasAll_n1 (x1915 : Int) (x1916 : Int) : Option (Bool) :=
  some ((iand .u64 x1915 x1916) == x1916)

@[irreducible] def impl_wordSet_hasAll (x1915 : Int) (x1916 : Int) : Option (Bool) :=
  impl_wordSet_hasAll_n1 x1915 x1916

/-! loop.example/headtrees/impl.UnderOk -/

def impl_UnderOk_n1 (x1899 : List Int) (x1900 : Int) (x1901 : Int) : Option (Bool) :=
  (impl_wordOk x1899 x1900).bind fun (v1922 : Bool) => cond (!v1922) (some false) ((impl_wordOk x1899 x1901).bind fun (v1924 : Bool) => cond (!v1924) (some false) ((impl_yieldsOf x1899).bind fun (v1927 : List Int) => (inb (IntKind.wrap .i64 (x1901 - 1)) (List.length v1927)).bind fun (v1928 : Nat) => (v1927[v1928]?).bind fun (v1929 : Int) => (impl_only x1900).bind fun (v1930 : Int) => (impl_wordSet_hasAll v1929 v1930).bind fun (v1931 : Bool) => some v1931))

@[irreducible] def impl_UnderOk (x1899 : List Int) (x1900 : Int) (x1901 : Int) : Option (Bool) :=
  impl_UnderOk_n1 x1899 x1900 x1901

/-! loop.example/headtrees/laws.FnExactUnderOk -/

def laws_FnExactUnderOk_n1 (x1842 : List Int) (x1843 : Int) (x1844 : Int) : Option (Bool) :=
  cond (decide ((((List.length x1842 : Nat) : Int)) > 1048576)) (some true) ((laws_toIntS x1842).bind fun (v1963 : List Int) => (spec_UnderOk v1963 x1843 x1844).bind fun (v1964 : Bool) => (laws_toIntS x1842).bind fun (v1965 : List Int) => (impl_UnderOk v1965 x1843 x1844).bind fun (v1966 : Bool) => cond (v1966 != v1964) (some false) ((laws_toIntS x1842).bind fun (v1968 : List Int) => (laws_eqIntS v1965 v1968).bind fun (v1969 : Bool) => cond (!v1969) (some false) (some true)))

@[irreducible] def laws_FnExactUnderOk (x1842 : List Int) (x1843 : Int) (x1844 : Int) : Option (Bool) :=
  laws_FnExactUnderOk_n1 x1842 x1843 x1844

/-! loop.example/headtrees/spec.MeetOf -/

def spec_MeetOf_n1 (x1983 : List Int) (x1984 : Int) (x1985 : Int) : Option (Unit ⊕ Int) :=
  (spec_TreeOk x1983).bind fun (v1994 : Bool) => cond (!v1994) (some (Sum.inr (-1))) ((spec_l1In x1984 1 (((List.length x1983 : Nat) : Int))).bind fun (v1997 : Bool) => cond (!v1997) (some (Sum.inr (-1))) ((spec_l1In x1985 1 (((List.length x1983 : Nat) : Int))).bind fun (v2000 : Bool) => cond (!v2000) (some (Sum.inr (-1))) (some (Sum.inl ()))))

def spec_MeetOf_n2 (x1983 : List Int) (x1985 : Int) (x2014 : Int) : Option (Int ⊕ Int) :=
  (spec_l2Yield x1983 x2014).bind fun (v2020 : Int) => (shr .i64 v2020 (IntKind.wrap .i64 (x1985 - 1))).bind fun (v2022 : Int) => (rem v2022 2).bind fun (v2023 : Int) => cond (v2023 == 1) (some (Sum.inr x2014)) ((idx x1983 (IntKind.wrap .i64 (x2014 - 1))).bind fun (v2026 : Int) => some (Sum.inl v2026))

def spec_MeetOf_n3 (x1983 : List Int) (x1985 : Int) (x1984 : Int) : Option (Int) :=
  nloop (fun (s : Int) => ((spec_MeetOf_n2 x1983 x1985 s).map (Sum.elim (fun (t : Int) => Sum.inl t) (fun (t : Int) => Sum.inr t)) : Option ((Int) ⊕ (Int)))) LL x1984

def spec_MeetOf_n4 (x1983 : List Int) (x1985 : Int) (x1984 : Int) : Option (Int) :=
  (spec_MeetOf_n3 x1983 x1985 x1984).map (fun (t : Int) => t)

def spec_MeetOf_n5 (x1983 : List Int) (x1984 : Int) (x1985 : Int) : Option (Int) :=
  (spec_MeetOf_n1 x1983 x1984 x1985).bind (Sum.elim (fun (t : Unit) => spec_MeetOf_n4 x1983 x1985 x1984) (fun e => some ((fun (t : Int) => t) e)))

@[irreducible] def spec_MeetOf (x1983 : List Int) (x1984 : Int) (x1985 : Int) : Option (Int) :=
  spec_MeetOf_n5 x1983 x1984 x1985

/-! loop.example/headtrees/impl.DepthOf -/

def impl_DepthOf_n1 (x2056 : List Int) : Option (((List Int)) ⊕ ((List Int))) :=
  (impl_TreeOk x2056).bind fun (v2059 : Bool) => cond (!v2059) (some (Sum.inr ([] : List Int))) ((mk (((List.length x2056 : Nat) : Int)) (((List.length x2056 : Nat) : Int))).bind fun (v2062 : Nat) => some (Sum.inl (List.replicate v2062 (0 : Int))))

def impl_DepthOf_n2 (x2056 : List Int) : Option (Int) :=
  some (((List.length x2056 : Nat) : Int))

def impl_DepthOf_n3 (x2056 : List Int) (x2064 : Int) (x2082 : Int) (x2083 : List Int) : Option ((Int × (List Int)) ⊕ ((List Int))) :=
  cond (decide (x2082 < x2064)) ((impl_stepsToRoot x2056 (IntKind.wrap .i64 (x2082 + 1))).bind fun (v2095 : Int × Bool) => (inb x2082 (List.length x2083)).bind fun (v2098 : Nat) => some (Sum.inl ((IntKind.wrap .i64 (x2082 + 1)), (x2083.set v2098 (v2095.1))))) (some (Sum.inr x2083))

def impl_DepthOf_n4 (x2056 : List Int) (x2064 : Int) (x2063 : List Int) : Option (((List Int))) :=
  nloop (fun (s : Int × (List Int)) => ((impl_DepthOf_n3 x2056 x2064 s.1 s.2).map (Sum.elim (fun (t : Int × (List Int)) => Sum.inl (t.1, t.2)) (fun (t : (List Int)) => Sum.inr t)) : Option ((Int × (List Int)) ⊕ (((List Int)))))) LL (0, x2063)

def impl_DepthOf_n5 (x2056 : List Int) (x2064 : Int) (x2063 : List Int) : Option (((List Int))) :=
  (impl_DepthOf_n4 x2056 x2064 x2063).map (fun (t : (List Int)) => t)

def impl_DepthOf_n6 (x2056 : List Int) (x2063 : List Int) : Option (((List Int))) :=
  (impl_DepthOf_n2 x2056).bind (fun (t : Int) => impl_DepthOf_n5 x2056 t x2063)

def impl_DepthOf_n7 (x2083 : List Int) : Option (((List Int))) :=
  some x2083

def impl_DepthOf_n8 (x2056 : List Int) (x2063 : List Int) : Option (((List Int))) :=
  (impl_DepthOf_n6 x2056 x2063).bind (fun (t : (List Int)) => impl_DepthOf_n7 t)

def impl_DepthOf_n9 (x2056 : List Int) : Option (((List Int))) :=
  (impl_DepthOf_n1 x2056).bind (Sum.elim (fun (t : (List Int)) => impl_DepthOf_n8 x2056 t) (fun e => some ((fun (t : (List Int)) => t) e)))

@[irreducible] def impl_DepthOf (x2056 : List Int) : Option ((List Int)) :=
  impl_DepthOf_n9 x2056

/-! loop.example/headtrees/impl.MeetOf -/

def impl_MeetOf_n1 (x2039 : List Int) (x2040 : Int) (x2041 : Int) : Option ((Int × (List Int)) ⊕ Int) :=
  (impl_wordOk x2039 x2040).bind fun (v2051 : Bool) => cond (!v2051) (some (Sum.inr (-1))) ((impl_wordOk x2039 x2041).bind fun (v2053 : Bool) => cond (!v2053) (some (Sum.inr (-1))) ((impl_RootOf x2039).bind fun (v2055 : Int) => (impl_DepthOf x2039).bind fun (v2102 : List Int) => some (Sum.inl (v2055, v2102))))

def impl_MeetOf_n2 (x2039 : List Int) : Option ((Int × (List Int))) :=
  (impl_yieldsOf x2039).bind fun (v2103 : List Int) => some ((((List.length v2103 : Nat) : Int)), v2103)

def impl_MeetOf_n3 (x2040 : Int) (x2041 : Int) (x2140 : Int) (x2104 : Int) (x2141 : Int) (x2102 : List Int) (x2103 : List Int) : Option ((Int × Int) ⊕ Int) :=
  cond (decide (x2141 < x2104)) ((inb x2141 (List.length x2103)).bind fun (v2159 : Nat) => (x2103[v2159]?).bind fun (v2160 : Int) => (impl_only x2040).bind fun (v2161 : Int) => (impl_only x2041).bind fun (v2162 : Int) => (impl_wordSet_hasAll v2160 (ior .u64 v2161 v2162)).bind fun (v2164 : Bool) => cond v2164 ((inb x2141 (List.length x2102)).bind fun (v2165 : Nat) => (x2102[v2165]?).bind fun (v2166 : Int) => (inb (IntKind.wrap .i64 (x2140 - 1)) (List.length x2102)).bind fun (v2168 : Nat) => (x2102[v2168]?).bind fun (v2169 : Int) => cond (decide (v2166 > v2169)) (some (Sum.inl ((IntKind.wrap .i64 (x2141 + 1)), (IntKind.wrap .i64 (x2141 + 1))))) (some (Sum.inl (x2140, (IntKind.wrap .i64 (x2141 + 1)))))) (some (Sum.inl (x2140, (IntKind.wrap .i64 (x2141 + 1)))))) (some (Sum.inr x2140))

def impl_MeetOf_n4 (x2040 : Int) (x2041 : Int) (x2055 : Int) (x2104 : Int) (x2102 : List Int) (x2103 : List Int) : Option (Int) :=
  nloop (fun (s : Int × Int) => ((impl_MeetOf_n3 x2040 x2041 s.1 x2104 s.2 x2102 x2103).map (Sum.elim (fun (t : Int × Int) => Sum.inl (t.1, t.2)) (fun (t : Int) => Sum.inr t)) : Option ((Int × Int) ⊕ (Int)))) LL (x2055, 0)

def impl_MeetOf_n5 (x2040 : Int) (x2041 : Int) (x2055 : Int) (x2104 : Int) (x2102 : List Int) (x2103 : List Int) : Option (Int) :=
  (impl_MeetOf_n4 x2040 x2041 x2055 x2104 x2102 x2103).map (fun (t : Int) => t)

def impl_MeetOf_n6 (x2039 : List Int) (x2040 : Int) (x2041 : Int) (x2055 : Int) (x2102 : List Int) : Option (Int) :=
  (impl_MeetOf_n2 x2039).bind (fun (t : Int × (List Int)) => impl_MeetOf_n5 x2040 x2041 x2055 t.1 x2102 t.2)

def impl_MeetOf_n7 (x2140 : Int) : Option (Int) :=
  some x2140

def impl_MeetOf_n8 (x2039 : List Int) (x2040 : Int) (x2041 : Int) (x2055 : Int) (x2102 : List Int) : Option (Int) :=
  (impl_MeetOf_n6 x2039 x2040 x2041 x2055 x2102).bind (fun (t : Int) => impl_MeetOf_n7 t)

def impl_MeetOf_n9 (x2039 : List Int) (x2040 : Int) (x2041 : Int) : Option (Int) :=
  (impl_MeetOf_n1 x2039 x2040 x2041).bind (Sum.elim (fun (t : Int × (List Int)) => impl_MeetOf_n8 x2039 x2040 x2041 t.1 t.2) (fun e => some ((fun (t : Int) => t) e)))

@[irreducible] def impl_MeetOf (x2039 : List Int) (x2040 : Int) (x2041 : Int) : Option (Int) :=
  impl_MeetOf_n9 x2039 x2040 x2041

/-! loop.example/headtrees/laws.FnExactMeetOf -/

def laws_FnExactMeetOf_n1 (x1975 : List Int) (x1976 : Int) (x1977 : Int) : Option (Bool) :=
  cond (decide ((((List.length x1975 : Nat) : Int)) > 1048576)) (some true) ((laws_toIntS x1975).bind fun (v2208 : List Int) => (spec_MeetOf v2208 x1976 x1977).bind fun (v2209 : Int) => (laws_toIntS x1975).bind fun (v2210 : List Int) => (impl_MeetOf v2210 x1976 x1977).bind fun (v2211 : Int) => cond (v2211 != v2209) (some false) ((laws_toIntS x1975).bind fun (v2213 : List Int) => (laws_eqIntS v2210 v2213).bind fun (v2214 : Bool) => cond (!v2214) (some false) (some true)))

@[irreducible] def laws_FnExactMeetOf (x1975 : List Int) (x1976 : Int) (x1977 : Int) : Option (Bool) :=
  laws_FnExactMeetOf_n1 x1975 x1976 x1977

end Go.Rv
