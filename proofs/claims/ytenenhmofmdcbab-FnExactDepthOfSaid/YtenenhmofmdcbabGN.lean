/-
  Plain functions, written by program for functions of the checked code. Conditions: none.
-/
import Derived.Test.YtenenhmofmdcbabRs
set_option linter.unusedVariables false
namespace Go.Rv
/-! loop.example/headtrees/laws.toIntS -/

def laws_toIntS_n1 (x10 : List Int) : Option (((List Int))) :=
  (mk (((List.length x10 : Nat) : Int)) (((List.length x10 : Nat) : Int))).bind fun (v13 : Nat) => some (List.replicate v13 (0 : Int))

def laws_toIntS_n2 : Option (Unit) :=
  some ()

def laws_toIntS_n3 (x10 : List Int) (x30 : Int) (x31 : List Int) : Option ((Int × (List Int)) ⊕ ((List Int))) :=
  cond (decide (x30 < (((List.length x10 : Nat) : Int)))) ((idx x10 x30).bind fun (v41 : Int) => (inb x30 (List.length x31)).bind fun (v42 : Nat) => some (Sum.inl ((IntKind.wrap .i64 (x30 + 1)), (x31.set v42 v41)))) (some (Sum.inr x31))

def laws_toIntS_n4 (x10 : List Int) (x14 : List Int) : Option (((List Int))) :=
  nloop (fun (s : Int × (List Int)) => ((laws_toIntS_n3 x10 s.1 s.2).map (Sum.elim (fun (t : Int × (List Int)) => Sum.inl (t.1, t.2)) (fun (t : (List Int)) => Sum.inr t)) : Option ((Int × (List Int)) ⊕ (((List Int)))))) LL (0, x14)

def laws_toIntS_n5 (x10 : List Int) (x14 : List Int) : Option (((List Int))) :=
  (laws_toIntS_n4 x10 x14).map (fun (t : (List Int)) => t)

def laws_toIntS_n6 (x10 : List Int) (x14 : List Int) : Option (((List Int))) :=
  (laws_toIntS_n2).bind (fun (t : Unit) => laws_toIntS_n5 x10 x14)

def laws_toIntS_n7 (x31 : List Int) : Option (((List Int))) :=
  some x31

def laws_toIntS_n8 (x10 : List Int) (x14 : List Int) : Option (((List Int))) :=
  (laws_toIntS_n6 x10 x14).bind (fun (t : (List Int)) => laws_toIntS_n7 t)

def laws_toIntS_n9 (x10 : List Int) : Option (((List Int))) :=
  (laws_toIntS_n1 x10).bind (fun (t : (List Int)) => laws_toIntS_n8 x10 t)

@[irreducible] def laws_toIntS (x10 : List Int) : Option ((List Int)) :=
  laws_toIntS_n9 x10

/-! loop.example/headtrees/spec.l1In -/

def spec_l1In_n1 (x53 : Int) (x54 : Int) (x55 : Int) : Option (Bool) :=
  cond (decide (x53 ≥ x54)) (some (decide (x53 ≤ x55))) (some false)

@[irreducible] def spec_l1In (x53 : Int) (x54 : Int) (x55 : Int) : Option (Bool) :=
  spec_l1In_n1 x53 x54 x55

/-! loop.example/headtrees/spec.TreeOk -/

def spec_TreeOk_n1 (x49 : List Int) : Option (Int ⊕ Bool) :=
  (spec_l1In (((List.length x49 : Nat) : Int)) 1 8).bind fun (v64 : Bool) => cond (!v64) (some (Sum.inr false)) (some (Sum.inl (((List.length x49 : Nat) : Int))))

def spec_TreeOk_n2 : Option (Unit) :=
  some ()

def spec_TreeOk_n3 (x63 : Int) (x130 : Int) (x131 : Int) : Option (Unit ⊕ Int) :=
  cond (decide (x131 < x63)) (some (Sum.inl ())) (some (Sum.inr x130))

def spec_TreeOk_n4 (x49 : List Int) (x63 : Int) (x130 : Int) (x131 : Int) : Option ((Int × Int) ⊕ Bool) :=
  (idx x49 x131).bind fun (v148 : Int) => (spec_l1In v148 0 x63).bind fun (v149 : Bool) => cond (!v149) (some (Sum.inr false)) ((idx x49 x131).bind fun (v151 : Int) => cond (v151 == (IntKind.wrap .i64 (x131 + 1))) (some (Sum.inr false)) ((idx x49 x131).bind fun (v154 : Int) => cond (v154 == 0) (some (Sum.inl ((IntKind.wrap .i64 (x130 + 1)), (IntKind.wrap .i64 (x131 + 1))))) (some (Sum.inl (x130, (IntKind.wrap .i64 (x131 + 1)))))))

def spec_TreeOk_n5 : Option (Unit) :=
  some ()

def spec_TreeOk_n6 (x49 : List Int) (x63 : Int) (x176 : Int) (x177 : Int) : Option ((Int × Int) ⊕ Bool ⊕ Int) :=
  cond (decide (x176 > 0)) (cond (decide (x177 < x63)) ((idx x49 (IntKind.wrap .i64 (x176 - 1))).bind fun (v189 : Int) => (spec_l1In v189 0 x63).bind fun (v190 : Bool) => cond (!v190) (some (Sum.inr (Sum.inl false))) (some (Sum.inl (v189, (IntKind.wrap .i64 (x177 + 1)))))) (some (Sum.inr (Sum.inr x176)))) (some (Sum.inr (Sum.inr x176)))

def spec_TreeOk_n7 (x49 : List Int) (x63 : Int) (x160 : Int) : Option (Bool ⊕ Int) :=
  nloop (fun (s : Int × Int) => ((spec_TreeOk_n6 x49 x63 s.1 s.2).map (Sum.elim (fun (t : Int × Int) => Sum.inl (t.1, t.2)) (Sum.elim (fun (t : Bool) => Sum.inr (Sum.inl t)) (fun (t : Int) => Sum.inr (Sum.inr t)))) : Option ((Int × Int) ⊕ (Bool ⊕ Int)))) LL (x160, 0)

def spec_TreeOk_n8 (x49 : List Int) (x63 : Int) (x160 : Int) : Option (Int ⊕ Bool) :=
  (spec_TreeOk_n7 x49 x63 x160).map (Sum.elim (fun (t : Bool) => (Sum.inr t)) (fun (t : Int) => (Sum.inl t)))

def spec_TreeOk_n9 (x49 : List Int) (x63 : Int) (x160 : Int) : Option (Int ⊕ Bool) :=
  (spec_TreeOk_n5).bind (fun (t : Unit) => spec_TreeOk_n8 x49 x63 x160)

def spec_TreeOk_n10 (x176 : Int) : Option (Unit ⊕ Bool) :=
  cond (decide (x176 > 0)) (some (Sum.inr false)) (some (Sum.inl ()))

def spec_TreeOk_n11 (x49 : List Int) (x63 : Int) (x160 : Int) : Option (Unit ⊕ Bool) :=
  (spec_TreeOk_n9 x49 x63 x160).bind (Sum.elim (fun (t : Int) => spec_TreeOk_n10 t) (fun e => some ((fun (t : Bool) => (Sum.inr t)) e)))

def spec_TreeOk_n12 (x49 : List Int) (x63 : Int) (x130 : Int) (x131 : Int) : Option (Int ⊕ Bool) :=
  (spec_TreeOk_n4 x49 x63 x130 x131).bind (Sum.elim (fun (t : Int × Int) => (spec_TreeOk_n11 x49 x63 t.2).map (Sum.elim (fun (u : Unit) => (Sum.inl t.1)) (fun (u : Bool) => (Sum.inr u)))) (fun e => some ((fun (t : Bool) => (Sum.inr t)) e)))

def spec_TreeOk_n13 (x49 : List Int) (x63 : Int) (x130 : Int) (x131 : Int) : Option (Int ⊕ Bool) :=
  (spec_TreeOk_n12 x49 x63 x130 x131).map (Sum.elim (fun (t : Int) => (Sum.inl t)) (fun (t : Bool) => (Sum.inr t)))

def spec_TreeOk_n14 (x131 : Int) : Option (Int) :=
  some (IntKind.wrap .i64 (x131 + 1))

def spec_TreeOk_n15 (x49 : List Int) (x63 : Int) (x130 : Int) (x131 : Int) : Option ((Int × Int) ⊕ Bool) :=
  (spec_TreeOk_n13 x49 x63 x130 x131).bind (Sum.elim (fun (t : Int) => (spec_TreeOk_n14 x131).map (fun (u : Int) => (Sum.inl (t, u)))) (fun e => some ((fun (t : Bool) => (Sum.inr t)) e)))

def spec_TreeOk_n16 (x49 : List Int) (x63 : Int) (x130 : Int) (x131 : Int) : Option ((Int × Int) ⊕ Bool ⊕ Int) :=
  (spec_TreeOk_n3 x63 x130 x131).bind (Sum.elim (fun (t : Unit) => (spec_TreeOk_n15 x49 x63 x130 x131).map (Sum.elim (fun (t : Int × Int) => (Sum.inl (t.1, t.2))) (fun (t : Bool) => (Sum.inr (Sum.inl t))))) (fun e => some ((fun (t : Int) => (Sum.inr (Sum.inr t))) e)))

def spec_TreeOk_n17 (x49 : List Int) (x63 : Int) : Option (Bool ⊕ Int) :=
  nloop (fun (s : Int × Int) => ((spec_TreeOk_n16 x49 x63 s.1 s.2).map (Sum.elim (fun (t : Int × Int) => Sum.inl (t.1, t.2)) (Sum.elim (fun (t : Bool) => Sum.inr (Sum.inl t)) (fun (t : Int) => Sum.inr (Sum.inr t)))) : Option ((Int × Int) ⊕ (Bool ⊕ Int)))) LL (0, 0)

def spec_TreeOk_n18 (x49 : List Int) (x63 : Int) : Option (Int ⊕ Bool) :=
  (spec_TreeOk_n17 x49 x63).map (Sum.elim (fun (t : Bool) => (Sum.inr t)) (fun (t : Int) => (Sum.inl t)))

def spec_TreeOk_n19 (x49 : List Int) (x63 : Int) : Option (Int ⊕ Bool) :=
  (spec_TreeOk_n2).bind (fun (t : Unit) => spec_TreeOk_n18 x49 x63)

def spec_TreeOk_n20 (x130 : Int) : Option (Bool) :=
  some (x130 == 1)

def spec_TreeOk_n21 (x49 : List Int) (x63 : Int) : Option (Bool) :=
  (spec_TreeOk_n19 x49 x63).bind (Sum.elim (fun (t : Int) => spec_TreeOk_n20 t) (fun e => some ((fun (t : Bool) => t) e)))

def spec_TreeOk_n22 (x49 : List Int) : Option (Bool) :=
  (spec_TreeOk_n1 x49).bind (Sum.elim (fun (t : Int) => spec_TreeOk_n21 x49 t) (fun e => some ((fun (t : Bool) => t) e)))

@[irreducible] def spec_TreeOk (x49 : List Int) : Option (Bool) :=
  spec_TreeOk_n22 x49

/-! loop.example/headtrees/spec.RootOf -/

def spec_RootOf_n1 : Option (Unit) :=
  some ()

def spec_RootOf_n2 : Option (Unit) :=
  some ()

def spec_RootOf_n3 (x46 : List Int) (x213 : Int) : Option (Int ⊕ Int ⊕ Unit) :=
  cond (decide (x213 < (((List.length x46 : Nat) : Int)))) ((spec_TreeOk x46).bind fun (v225 : Bool) => cond v225 ((idx x46 x213).bind fun (v226 : Int) => cond (v226 == 0) (some (Sum.inr (Sum.inl (IntKind.wrap .i64 (x213 + 1))))) (some (Sum.inl (IntKind.wrap .i64 (x213 + 1))))) (some (Sum.inr (Sum.inr ())))) (some (Sum.inr (Sum.inr ())))

def spec_RootOf_n4 (x46 : List Int) : Option (Int ⊕ Unit) :=
  nloop (fun (s : Int) => ((spec_RootOf_n3 x46 s).map (Sum.elim (fun (t : Int) => Sum.inl t) (Sum.elim (fun (t : Int) => Sum.inr (Sum.inl t)) (fun (t : Unit) => Sum.inr (Sum.inr t)))) : Option ((Int) ⊕ (Int ⊕ Unit)))) LL 0

def spec_RootOf_n5 (x46 : List Int) : Option (Unit ⊕ Int) :=
  (spec_RootOf_n4 x46).map (Sum.elim (fun (t : Int) => (Sum.inr t)) (fun (t : Unit) => (Sum.inl ())))

def spec_RootOf_n6 (x46 : List Int) : Option (Unit ⊕ Int) :=
  (spec_RootOf_n2).bind (fun (t : Unit) => spec_RootOf_n5 x46)

def spec_RootOf_n7 : Option (Int) :=
  some (-1)

def spec_RootOf_n8 (x46 : List Int) : Option (Int) :=
  (spec_RootOf_n6 x46).bind (Sum.elim (fun (t : Unit) => spec_RootOf_n7) (fun e => some ((fun (t : Int) => t) e)))

def spec_RootOf_n9 (x46 : List Int) : Option (Int) :=
  (spec_RootOf_n1).bind (fun (t : Unit) => spec_RootOf_n8 x46)

@[irreducible] def spec_RootOf (x46 : List Int) : Option (Int) :=
  spec_RootOf_n9 x46

/-! loop.example/headtrees/impl.oneRoot -/

def impl_oneRoot_n1 : Option (Unit) :=
  some ()

def impl_oneRoot_n2 (x249 : List Int) : Option (Int) :=
  some (((List.length x249 : Nat) : Int))

def impl_oneRoot_n3 (x249 : List Int) (x271 : Int) (x250 : Int) (x272 : Int) : Option ((Int × Int) ⊕ Bool ⊕ Int) :=
  cond (decide (x272 < x250)) ((idx x249 x272).bind fun (v283 : Int) => cond (decide (v283 < 0)) (some (Sum.inr (Sum.inl false))) (cond (decide (v283 > (((List.length x249 : Nat) : Int)))) (some (Sum.inr (Sum.inl false))) (cond (v283 == 0) (some (Sum.inl ((IntKind.wrap .i64 (x271 + 1)), (IntKind.wrap .i64 (x272 + 1))))) (some (Sum.inl (x271, (IntKind.wrap .i64 (x272 + 1)))))))) (some (Sum.inr (Sum.inr x271)))

def impl_oneRoot_n4 (x249 : List Int) (x250 : Int) : Option (Bool ⊕ Int) :=
  nloop (fun (s : Int × Int) => ((impl_oneRoot_n3 x249 s.1 x250 s.2).map (Sum.elim (fun (t : Int × Int) => Sum.inl (t.1, t.2)) (Sum.elim (fun (t : Bool) => Sum.inr (Sum.inl t)) (fun (t : Int) => Sum.inr (Sum.inr t)))) : Option ((Int × Int) ⊕ (Bool ⊕ Int)))) LL (0, 0)

def impl_oneRoot_n5 (x249 : List Int) (x250 : Int) : Option (Int ⊕ Bool) :=
  (impl_oneRoot_n4 x249 x250).map (Sum.elim (fun (t : Bool) => (Sum.inr t)) (fun (t : Int) => (Sum.inl t)))

def impl_oneRoot_n6 (x249 : List Int) : Option (Int ⊕ Bool) :=
  (impl_oneRoot_n2 x249).bind (fun (t : Int) => impl_oneRoot_n5 x249 t)

def impl_oneRoot_n7 (x271 : Int) : Option (Bool) :=
  some (x271 == 1)

def impl_oneRoot_n8 (x249 : List Int) : Option (Bool) :=
  (impl_oneRoot_n6 x249).bind (Sum.elim (fun (t : Int) => impl_oneRoot_n7 t) (fun e => some ((fun (t : Bool) => t) e)))

def impl_oneRoot_n9 (x249 : List Int) : Option (Bool) :=
  (impl_oneRoot_n1).bind (fun (t : Unit) => impl_oneRoot_n8 x249)

@[irreducible] def impl_oneRoot (x249 : List Int) : Option (Bool) :=
  impl_oneRoot_n9 x249

/-! (*loop.example/headtrees/impl.walker).up -/

def impl_walker_up_n1 (x305 : List Int) (x306 : Int) (x307 : Int) : Option ((Bool × Int × Int)) :=
  (idx x305 (IntKind.wrap .i64 (x306 - 1))).bind fun (v325 : Int) => cond (v325 == 0) (some (false, x306, x307)) (some (true, v325, (IntKind.wrap .i64 (x307 + 1))))

@[irreducible] def impl_walker_up (x305 : List Int) (x306 : Int) (x307 : Int) : Option (Bool × Int × Int) :=
  impl_walker_up_n1 x305 x306 x307

/-! loop.example/headtrees/impl.stepsToRoot -/

def impl_stepsToRoot_n1 : Option (Unit) :=
  some ()

def impl_stepsToRoot_n2 (x303 : List Int) (x341 : Int) (x342 : Int) : Option ((Int × Int) ⊕ (Int × Bool) ⊕ (Int × Int)) :=
  (impl_walker_up x303 x341 x342).bind fun (v347 : Bool × Int × Int) => cond (v347.1) (cond (decide ((v347.2.2) ≥ (((List.length x303 : Nat) : Int)))) (some (Sum.inr (Sum.inl (0, false)))) (some (Sum.inl ((v347.2.1), (v347.2.2))))) (some (Sum.inr (Sum.inr ((v347.2.1), (v347.2.2)))))

def impl_stepsToRoot_n3 (x303 : List Int) (x304 : Int) : Option ((Int × Bool) ⊕ (Int × Int)) :=
  nloop (fun (s : Int × Int) => ((impl_stepsToRoot_n2 x303 s.1 s.2).map (Sum.elim (fun (t : Int × Int) => Sum.inl (t.1, t.2)) (Sum.elim (fun (t : Int × Bool) => Sum.inr (Sum.inl t)) (fun (t : Int × Int) => Sum.inr (Sum.inr t)))) : Option ((Int × Int) ⊕ ((Int × Bool) ⊕ (Int × Int))))) LL (x304, 0)

def impl_stepsToRoot_n4 (x303 : List Int) (x304 : Int) : Option ((Int × Int) ⊕ (Int × Bool)) :=
  (impl_stepsToRoot_n3 x303 x304).map (Sum.elim (fun (t : Int × Bool) => (Sum.inr t)) (fun (t : Int × Int) => (Sum.inl (t.1, t.2))))

def impl_stepsToRoot_n5 (x350 : Int) : Option ((Int × Bool)) :=
  some (x350, true)

def impl_stepsToRoot_n6 (x303 : List Int) (x304 : Int) : Option ((Int × Bool)) :=
  (impl_stepsToRoot_n4 x303 x304).bind (Sum.elim (fun (t : Int × Int) => impl_stepsToRoot_n5 t.2) (fun e => some ((fun (t : Int × Bool) => t) e)))

def impl_stepsToRoot_n7 (x303 : List Int) (x304 : Int) : Option ((Int × Bool)) :=
  (impl_stepsToRoot_n1).bind (fun (t : Unit) => impl_stepsToRoot_n6 x303 x304)

@[irreducible] def impl_stepsToRoot (x303 : List Int) (x304 : Int) : Option (Int × Bool) :=
  impl_stepsToRoot_n7 x303 x304

/-! loop.example/headtrees/impl.TreeOk -/

def impl_TreeOk_n1 (x244 : List Int) : Option (Unit ⊕ Bool) :=
  cond (decide ((((List.length x244 : Nat) : Int)) < 1)) (some (Sum.inr false)) (cond (decide ((((List.length x244 : Nat) : Int)) > 8)) (some (Sum.inr false)) ((impl_oneRoot x244).bind fun (v296 : Bool) => cond (!v296) (some (Sum.inr false)) (some (Sum.inl ()))))

def impl_TreeOk_n2 (x244 : List Int) : Option (Int) :=
  some (((List.length x244 : Nat) : Int))

def impl_TreeOk_n3 (x244 : List Int) (x298 : Int) (x366 : Int) : Option (Int ⊕ Bool ⊕ Unit) :=
  cond (decide (x366 < x298)) ((impl_stepsToRoot x244 (IntKind.wrap .i64 (x366 + 1))).bind fun (v377 : Int × Bool) => cond (!(v377.2)) (some (Sum.inr (Sum.inl false))) (some (Sum.inl (IntKind.wrap .i64 (x366 + 1))))) (some (Sum.inr (Sum.inr ())))

def impl_TreeOk_n4 (x244 : List Int) (x298 : Int) : Option (Bool ⊕ Unit) :=
  nloop (fun (s : Int) => ((impl_TreeOk_n3 x244 x298 s).map (Sum.elim (fun (t : Int) => Sum.inl t) (Sum.elim (fun (t : Bool) => Sum.inr (Sum.inl t)) (fun (t : Unit) => Sum.inr (Sum.inr t)))) : Option ((Int) ⊕ (Bool ⊕ Unit)))) LL 0

def impl_TreeOk_n5 (x244 : List Int) (x298 : Int) : Option (Unit ⊕ Bool) :=
  (impl_TreeOk_n4 x244 x298).map (Sum.elim (fun (t : Bool) => (Sum.inr t)) (fun (t : Unit) => (Sum.inl ())))

def impl_TreeOk_n6 (x244 : List Int) : Option (Unit ⊕ Bool) :=
  (impl_TreeOk_n2 x244).bind (fun (t : Int) => impl_TreeOk_n5 x244 t)

def impl_TreeOk_n7 : Option (Bool) :=
  some true

def impl_TreeOk_n8 (x244 : List Int) : Option (Bool) :=
  (impl_TreeOk_n6 x244).bind (Sum.elim (fun (t : Unit) => impl_TreeOk_n7) (fun e => some ((fun (t : Bool) => t) e)))

def impl_TreeOk_n9 (x244 : List Int) : Option (Bool) :=
  (impl_TreeOk_n1 x244).bind (Sum.elim (fun (t : Unit) => impl_TreeOk_n8 x244) (fun e => some ((fun (t : Bool) => t) e)))

@[irreducible] def impl_TreeOk (x244 : List Int) : Option (Bool) :=
  impl_TreeOk_n9 x244

/-! loop.example/headtrees/impl.RootOf -/

def impl_RootOf_n1 (x243 : List Int) : Option (Unit ⊕ Int) :=
  (impl_TreeOk x243).bind fun (v385 : Bool) => cond (!v385) (some (Sum.inr (-1))) (some (Sum.inl ()))

def impl_RootOf_n2 (x243 : List Int) (x395 : Int) (x396 : Int) : Option ((Int × Int) ⊕ (Int × Int)) :=
  (impl_walker_up x243 x395 x396).bind fun (v401 : Bool × Int × Int) => cond (v401.1) (some (Sum.inl ((v401.2.1), (v401.2.2)))) (some (Sum.inr ((v401.2.1), (v401.2.2))))

def impl_RootOf_n3 (x243 : List Int) : Option ((Int × Int)) :=
  nloop (fun (s : Int × Int) => ((impl_RootOf_n2 x243 s.1 s.2).map (Sum.elim (fun (t : Int × Int) => Sum.inl (t.1, t.2)) (fun (t : Int × Int) => Sum.inr t)) : Option ((Int × Int) ⊕ ((Int × Int))))) LL (1, 0)

def impl_RootOf_n4 (x243 : List Int) : Option ((Int × Int)) :=
  (impl_RootOf_n3 x243).map (fun (t : Int × Int) => (t.1, t.2))

def impl_RootOf_n5 (x403 : Int) : Option (Int) :=
  some x403

def impl_RootOf_n6 (x243 : List Int) : Option (Int) :=
  (impl_RootOf_n4 x243).bind (fun (t : Int × Int) => impl_RootOf_n5 t.1)

def impl_RootOf_n7 (x243 : List Int) : Option (Int) :=
  (impl_RootOf_n1 x243).bind (Sum.elim (fun (t : Unit) => impl_RootOf_n6 x243) (fun e => some ((fun (t : Int) => t) e)))

@[irreducible] def impl_RootOf (x243 : List Int) : Option (Int) :=
  impl_RootOf_n7 x243

/-! loop.example/headtrees/laws.eqIntS -/

def laws_eqIntS_n1 (x422 : List Int) (x423 : List Int) : Option (Unit ⊕ Bool) :=
  cond ((((List.length x422 : Nat) : Int)) != (((List.length x423 : Nat) : Int))) (some (Sum.inr false)) (some (Sum.inl ()))

def laws_eqIntS_n2 : Option (Unit) :=
  some ()

def laws_eqIntS_n3 (x422 : List Int) (x423 : List Int) (x440 : Int) : Option (Int ⊕ Bool ⊕ Unit) :=
  cond (decide (x440 < (((List.length x422 : Nat) : Int)))) ((idx x422 x440).bind fun (v450 : Int) => (idx x423 x440).bind fun (v451 : Int) => cond (v450 != v451) (some (Sum.inr (Sum.inl false))) (some (Sum.inl (IntKind.wrap .i64 (x440 + 1))))) (some (Sum.inr (Sum.inr ())))

def laws_eqIntS_n4 (x422 : List Int) (x423 : List Int) : Option (Bool ⊕ Unit) :=
  nloop (fun (s : Int) => ((laws_eqIntS_n3 x422 x423 s).map (Sum.elim (fun (t : Int) => Sum.inl t) (Sum.elim (fun (t : Bool) => Sum.inr (Sum.inl t)) (fun (t : Unit) => Sum.inr (Sum.inr t)))) : Option ((Int) ⊕ (Bool ⊕ Unit)))) LL 0

def laws_eqIntS_n5 (x422 : List Int) (x423 : List Int) : Option (Unit ⊕ Bool) :=
  (laws_eqIntS_n4 x422 x423).map (Sum.elim (fun (t : Bool) => (Sum.inr t)) (fun (t : Unit) => (Sum.inl ())))

def laws_eqIntS_n6 (x422 : List Int) (x423 : List Int) : Option (Unit ⊕ Bool) :=
  (laws_eqIntS_n2).bind (fun (t : Unit) => laws_eqIntS_n5 x422 x423)

def laws_eqIntS_n7 : Option (Bool) :=
  some true

def laws_eqIntS_n8 (x422 : List Int) (x423 : List Int) : Option (Bool) :=
  (laws_eqIntS_n6 x422 x423).bind (Sum.elim (fun (t : Unit) => laws_eqIntS_n7) (fun e => some ((fun (t : Bool) => t) e)))

def laws_eqIntS_n9 (x422 : List Int) (x423 : List Int) : Option (Bool) :=
  (laws_eqIntS_n1 x422 x423).bind (Sum.elim (fun (t : Unit) => laws_eqIntS_n8 x422 x423) (fun e => some ((fun (t : Bool) => t) e)))

@[irreducible] def laws_eqIntS (x422 : List Int) (x423 : List Int) : Option (Bool) :=
  laws_eqIntS_n9 x422 x423

/-! loop.example/headtrees/laws.FnExactRootOf -/

def laws_FnExactRootOf_n1 (x2 : List Int) : Option (Bool) :=
  cond (decide ((((List.length x2 : Nat) : Int)) > 1048576)) (some true) ((laws_toIntS x2).bind fun (v469 : List Int) => (spec_RootOf v469).bind fun (v470 : Int) => (laws_toIntS x2).bind fun (v471 : List Int) => (impl_RootOf v471).bind fun (v472 : Int) => cond (v472 != v470) (some false) ((laws_toIntS x2).bind fun (v474 : List Int) => (laws_eqIntS v471 v474).bind fun (v475 : Bool) => cond (!v475) (some false) (some true)))

@[irreducible] def laws_FnExactRootOf (x2 : List Int) : Option (Bool) :=
  laws_FnExactRootOf_n1 x2

/-! loop.example/headtrees/spec.DepthOf -/

def spec_DepthOf_n1 : Option (Unit) :=
  some ()

def spec_DepthOf_n2 : Option (Unit) :=
  some ()

def spec_DepthOf_n3 (x485 : List Int) (x523 : Int) (x524 : List Int) : Option (Unit ⊕ ((List Int))) :=
  cond (decide (x523 < (((List.length x485 : Nat) : Int)))) ((spec_TreeOk x485).bind fun (v527 : Bool) => cond v527 (some (Sum.inl ())) (some (Sum.inr x524))) (some (Sum.inr x524))

def spec_DepthOf_n4 : Option (Unit) :=
  some ()

def spec_DepthOf_n5 (x523 : Int) : Option (Int) :=
  some (IntKind.wrap .i64 (x523 + 1))

def spec_DepthOf_n6 (x485 : List Int) (x542 : Int) (x543 : Int) : Option ((Int × Int) ⊕ Int) :=
  (idx x485 (IntKind.wrap .i64 (x543 - 1))).bind fun (v552 : Int) => cond (decide (v552 > 0)) ((idx x485 (IntKind.wrap .i64 (x543 - 1))).bind fun (v556 : Int) => some (Sum.inl ((IntKind.wrap .i64 (x542 + 1)), v556))) (some (Sum.inr x542))

def spec_DepthOf_n7 (x485 : List Int) (x528 : Int) : Option (Int) :=
  nloop (fun (s : Int × Int) => ((spec_DepthOf_n6 x485 s.1 s.2).map (Sum.elim (fun (t : Int × Int) => Sum.inl (t.1, t.2)) (fun (t : Int) => Sum.inr t)) : Option ((Int × Int) ⊕ (Int)))) LL (0, x528)

def spec_DepthOf_n8 (x485 : List Int) (x528 : Int) : Option (Int) :=
  (spec_DepthOf_n7 x485 x528).map (fun (t : Int) => t)

def spec_DepthOf_n9 (x485 : List Int) (x523 : Int) : Option (Int) :=
  (spec_DepthOf_n5 x523).bind (fun (t : Int) => spec_DepthOf_n8 x485 t)

def spec_DepthOf_n10 (x542 : Int) (x524 : List Int) : Option (((List Int))) :=
  (room ((List.length x524) + List.length ([x542]))).bind fun (v559 : Unit) => some (x524 ++ ([x542]))

def spec_DepthOf_n11 (x485 : List Int) (x523 : Int) (x524 : List Int) : Option (((List Int))) :=
  (spec_DepthOf_n9 x485 x523).bind (fun (t : Int) => spec_DepthOf_n10 t x524)

def spec_DepthOf_n12 (x485 : List Int) (x523 : Int) (x524 : List Int) : Option (((List Int))) :=
  (spec_DepthOf_n4).bind (fun (t : Unit) => spec_DepthOf_n11 x485 x523 x524)

def spec_DepthOf_n13 (x485 : List Int) (x523 : Int) (x524 : List Int) : Option (((List Int))) :=
  (spec_DepthOf_n12 x485 x523 x524).map (fun (t : (List Int)) => t)

def spec_DepthOf_n14 (x523 : Int) : Option (Int) :=
  some (IntKind.wrap .i64 (x523 + 1))

def spec_DepthOf_n15 (x485 : List Int) (x523 : Int) (x524 : List Int) : Option ((Int × (List Int))) :=
  (spec_DepthOf_n13 x485 x523 x524).bind (fun (t : (List Int)) => (spec_DepthOf_n14 x523).map (fun (u : Int) => (u, t)))

def spec_DepthOf_n16 (x485 : List Int) (x523 : Int) (x524 : List Int) : Option ((Int × (List Int)) ⊕ ((List Int))) :=
  (spec_DepthOf_n3 x485 x523 x524).bind (Sum.elim (fun (t : Unit) => (spec_DepthOf_n15 x485 x523 x524).map (fun (t : Int × (List Int)) => (Sum.inl (t.1, t.2)))) (fun e => some ((fun (t : (List Int)) => (Sum.inr t)) e)))

def spec_DepthOf_n17 (x485 : List Int) : Option (((List Int))) :=
  nloop (fun (s : Int × (List Int)) => ((spec_DepthOf_n16 x485 s.1 s.2).map (Sum.elim (fun (t : Int × (List Int)) => Sum.inl (t.1, t.2)) (fun (t : (List Int)) => Sum.inr t)) : Option ((Int × (List Int)) ⊕ (((List Int)))))) LL (0, ([] : List Int))

def spec_DepthOf_n18 (x485 : List Int) : Option (((List Int))) :=
  (spec_DepthOf_n17 x485).map (fun (t : (List Int)) => t)

def spec_DepthOf_n19 (x485 : List Int) : Option (((List Int))) :=
  (spec_DepthOf_n2).bind (fun (t : Unit) => spec_DepthOf_n18 x485)

def spec_DepthOf_n20 (x524 : List Int) : Option (((List Int))) :=
  some x524

def spec_DepthOf_n21 (x485 : List Int) : Option (((List Int))) :=
  (spec_DepthOf_n19 x485).bind (fun (t : (List Int)) => spec_DepthOf_n20 t)

def spec_DepthOf_n22 (x485 : List Int) : Option (((List Int))) :=
  (spec_DepthOf_n1).bind (fun (t : Unit) => spec_DepthOf_n21 x485)

@[irreducible] def spec_DepthOf (x485 : List Int) : Option ((List Int)) :=
  spec_DepthOf_n22 x485

/-! loop.example/headtrees/impl.DepthOf -/

def impl_DepthOf_n1 (x573 : List Int) : Option (((List Int)) ⊕ ((List Int))) :=
  (impl_TreeOk x573).bind fun (v576 : Bool) => cond (!v576) (some (Sum.inr ([] : List Int))) ((mk (((List.length x573 : Nat) : Int)) (((List.length x573 : Nat) : Int))).bind fun (v579 : Nat) => some (Sum.inl (List.replicate v579 (0 : Int))))

def impl_DepthOf_n2 (x573 : List Int) : Option (Int) :=
  some (((List.length x573 : Nat) : Int))

def impl_DepthOf_n3 (x573 : List Int) (x581 : Int) (x599 : Int) (x600 : List Int) : Option ((Int × (List Int)) ⊕ ((List Int))) :=
  cond (decide (x599 < x581)) ((impl_stepsToRoot x573 (IntKind.wrap .i64 (x599 + 1))).bind fun (v612 : Int × Bool) => (inb x599 (List.length x600)).bind fun (v615 : Nat) => some (Sum.inl ((IntKind.wrap .i64 (x599 + 1)), (x600.set v615 (v612.1))))) (some (Sum.inr x600))

def impl_DepthOf_n4 (x573 : List Int) (x581 : Int) (x580 : List Int) : Option (((List Int))) :=
  nloop (fun (s : Int × (List Int)) => ((impl_DepthOf_n3 x573 x581 s.1 s.2).map (Sum.elim (fun (t : Int × (List Int)) => Sum.inl (t.1, t.2)) (fun (t : (List Int)) => Sum.inr t)) : Option ((Int × (List Int)) ⊕ (((List Int)))))) LL (0, x580)

def impl_DepthOf_n5 (x573 : List Int) (x581 : Int) (x580 : List Int) : Option (((List Int))) :=
  (impl_DepthOf_n4 x573 x581 x580).map (fun (t : (List Int)) => t)

def impl_DepthOf_n6 (x573 : List Int) (x580 : List Int) : Option (((List Int))) :=
  (impl_DepthOf_n2 x573).bind (fun (t : Int) => impl_DepthOf_n5 x573 t x580)

def impl_DepthOf_n7 (x600 : List Int) : Option (((List Int))) :=
  some x600

def impl_DepthOf_n8 (x573 : List Int) (x580 : List Int) : Option (((List Int))) :=
  (impl_DepthOf_n6 x573 x580).bind (fun (t : (List Int)) => impl_DepthOf_n7 t)

def impl_DepthOf_n9 (x573 : List Int) : Option (((List Int))) :=
  (impl_DepthOf_n1 x573).bind (Sum.elim (fun (t : (List Int)) => impl_DepthOf_n8 x573 t) (fun e => some ((fun (t : (List Int)) => t) e)))

@[irreducible] def impl_DepthOf (x573 : List Int) : Option ((List Int)) :=
  impl_DepthOf_n9 x573

/-! loop.example/headtrees/laws.markIntS -/

def laws_markIntS_n1 : Option (Unit) :=
  some ()

def laws_markIntS_n2 : Option (Unit) :=
  some ()

def laws_markIntS_n3 (x676 : Int) (x677 : Int) (x678 : List Int) : Option ((Int × Int × (List Int)) ⊕ (Int × (List Int))) :=
  cond (decide (x677 < (((List.length x678 : Nat) : Int)))) ((inb x677 (List.length x678)).bind fun (v688 : Nat) => some (Sum.inl ((IntKind.wrap .i64 (x676 + 1)), (IntKind.wrap .i64 (x677 + 1)), (x678.set v688 x676)))) (some (Sum.inr (x676, x678)))

def laws_markIntS_n4 (x661 : Int) (x662 : List Int) : Option ((Int × (List Int))) :=
  nloop (fun (s : Int × Int × (List Int)) => ((laws_markIntS_n3 s.1 s.2.1 s.2.2).map (Sum.elim (fun (t : Int × Int × (List Int)) => Sum.inl (t.1, t.2.1, t.2.2)) (fun (t : Int × (List Int)) => Sum.inr t)) : Option ((Int × Int × (List Int)) ⊕ ((Int × (List Int)))))) LL (x661, 0, x662)

def laws_markIntS_n5 (x661 : Int) (x662 : List Int) : Option ((Int × (List Int))) :=
  (laws_markIntS_n4 x661 x662).map (fun (t : Int × (List Int)) => (t.1, t.2))

def laws_markIntS_n6 (x661 : Int) (x662 : List Int) : Option ((Int × (List Int))) :=
  (laws_markIntS_n2).bind (fun (t : Unit) => laws_markIntS_n5 x661 x662)

def laws_markIntS_n7 (x676 : Int) (x678 : List Int) : Option ((Int × (List Int))) :=
  some (x676, x678)

def laws_markIntS_n8 (x661 : Int) (x662 : List Int) : Option ((Int × (List Int))) :=
  (laws_markIntS_n6 x661 x662).bind (fun (t : Int × (List Int)) => laws_markIntS_n7 t.1 t.2)

def laws_markIntS_n9 (x661 : Int) (x662 : List Int) : Option ((Int × (List Int))) :=
  (laws_markIntS_n1).bind (fun (t : Unit) => laws_markIntS_n8 x661 x662)

@[irreducible] def laws_markIntS (x661 : Int) (x662 : List Int) : Option (Int × (List Int)) :=
  laws_markIntS_n9 x661 x662

/-! loop.example/headtrees/laws.heldIntS -/

def laws_heldIntS_n1 : Option (Unit) :=
  some ()

def laws_heldIntS_n2 : Option (Unit) :=
  some ()

def laws_heldIntS_n3 (x789 : List Int) (x804 : Int) (x805 : Int) : Option ((Int × Int) ⊕ Int ⊕ Int) :=
  cond (decide (x805 < (((List.length x789 : Nat) : Int)))) ((idx x789 x805).bind fun (v815 : Int) => cond (v815 != x804) (some (Sum.inr (Sum.inl (-1)))) (some (Sum.inl ((IntKind.wrap .i64 (x804 + 1)), (IntKind.wrap .i64 (x805 + 1)))))) (some (Sum.inr (Sum.inr x804)))

def laws_heldIntS_n4 (x789 : List Int) (x790 : Int) : Option (Int ⊕ Int) :=
  nloop (fun (s : Int × Int) => ((laws_heldIntS_n3 x789 s.1 s.2).map (Sum.elim (fun (t : Int × Int) => Sum.inl (t.1, t.2)) (Sum.elim (fun (t : Int) => Sum.inr (Sum.inl t)) (fun (t : Int) => Sum.inr (Sum.inr t)))) : Option ((Int × Int) ⊕ (Int ⊕ Int)))) LL (x790, 0)

def laws_heldIntS_n5 (x789 : List Int) (x790 : Int) : Option (Int ⊕ Int) :=
  (laws_heldIntS_n4 x789 x790).map (Sum.elim (fun (t : Int) => (Sum.inr t)) (fun (t : Int) => (Sum.inl t)))

def laws_heldIntS_n6 (x789 : List Int) (x790 : Int) : Option (Int ⊕ Int) :=
  (laws_heldIntS_n2).bind (fun (t : Unit) => laws_heldIntS_n5 x789 x790)

def laws_heldIntS_n7 (x804 : Int) : Option (Int) :=
  some x804

def laws_heldIntS_n8 (x789 : List Int) (x790 : Int) : Option (Int) :=
  (laws_heldIntS_n6 x789 x790).bind (Sum.elim (fun (t : Int) => laws_heldIntS_n7 t) (fun e => some ((fun (t : Int) => t) e)))

def laws_heldIntS_n9 (x789 : List Int) (x790 : Int) : Option (Int) :=
  (laws_heldIntS_n1).bind (fun (t : Unit) => laws_heldIntS_n8 x789 x790)

@[irreducible] def laws_heldIntS (x789 : List Int) (x790 : Int) : Option (Int) :=
  laws_heldIntS_n9 x789 x790

/-! loop.example/headtrees/laws.FnExactDepthOf -/

def laws_FnExactDepthOf_n1 (x479 : List Int) : Option (Bool) :=
  cond (decide ((((List.length x479 : Nat) : Int)) > 1048576)) (some true) ((laws_toIntS x479).bind fun (v1064 : List Int) => (spec_DepthOf v1064).bind fun (v1065 : List Int) => (laws_toIntS x479).bind fun (v1066 : List Int) => (impl_DepthOf v1066).bind fun (v1067 : List Int) => (laws_eqIntS v1067 v1065).bind fun (v1068 : Bool) => cond (!v1068) (some false) ((laws_toIntS x479).bind fun (v1070 : List Int) => (laws_eqIntS v1066 v1070).bind fun (v1071 : Bool) => cond (!v1071) (some false) ((laws_markIntS 1 v1066).bind fun (v1073 : Int × (List Int)) => cond (decide ((v1073.1) < 0)) (some false) ((laws_eqIntS v1067 v1065).bind fun (v1077 : Bool) => cond (!v1077) (some false) ((laws_markIntS 1 v1067).bind fun (v1079 : Int × (List Int)) => (laws_heldIntS (v1079.2) 1).bind fun (v1082 : Int) => cond (decide (v1082 < 0)) (some false) (cond (v1082 != (v1079.1)) (some false) ((laws_toIntS x479).bind fun (v1085 : List Int) => (impl_DepthOf v1085).bind fun (v1086 : List Int) => (laws_eqIntS v1086 v1065).bind fun (v1087 : Bool) => cond (!v1087) (some false) ((laws_heldIntS (v1079.2) 1).bind fun (v1089 : Int) => cond (decide (v1089 < 0)) (some false) (cond (v1089 != (v1079.1)) (some false) (some true))))))))))

@[irreducible] def laws_FnExactDepthOf (x479 : List Int) : Option (Bool) :=
  laws_FnExactDepthOf_n1 x479

/-! loop.example/headtrees/spec.l1Power -/

def spec_l1Power_n1 : Option (Unit) :=
  some ()

def spec_l1Power_n2 : Option (Unit) :=
  some ()

def spec_l1Power_n3 (x1101 : Int) (x1102 : Int) (x1109 : Int) (x1110 : Int) : Option ((Int × Int) ⊕ Int) :=
  cond (decide (x1110 < x1102)) (some (Sum.inl ((IntKind.wrap .i64 (x1109 * x1101)), (IntKind.wrap .i64 (x1110 + 1))))) (some (Sum.inr x1109))

def spec_l1Power_n4 (x1101 : Int) (x1102 : Int) : Option (Int) :=
  nloop (fun (s : Int × Int) => ((spec_l1Power_n3 x1101 x1102 s.1 s.2).map (Sum.elim (fun (t : Int × Int) => Sum.inl (t.1, t.2)) (fun (t : Int) => Sum.inr t)) : Option ((Int × Int) ⊕ (Int)))) LL (1, 0)

def spec_l1Power_n5 (x1101 : Int) (x1102 : Int) : Option (Int) :=
  (spec_l1Power_n4 x1101 x1102).map (fun (t : Int) => t)

def spec_l1Power_n6 (x1101 : Int) (x1102 : Int) : Option (Int) :=
  (spec_l1Power_n2).bind (fun (t : Unit) => spec_l1Power_n5 x1101 x1102)

def spec_l1Power_n7 (x1109 : Int) : Option (Int) :=
  some x1109

def spec_l1Power_n8 (x1101 : Int) (x1102 : Int) : Option (Int) :=
  (spec_l1Power_n6 x1101 x1102).bind (fun (t : Int) => spec_l1Power_n7 t)

def spec_l1Power_n9 (x1101 : Int) (x1102 : Int) : Option (Int) :=
  (spec_l1Power_n1).bind (fun (t : Unit) => spec_l1Power_n8 x1101 x1102)

@[irreducible] def spec_l1Power (x1101 : Int) (x1102 : Int) : Option (Int) :=
  spec_l1Power_n9 x1101 x1102

/-! loop.example/headtrees/spec.CountTrees -/

def spec_CountTrees_n1 (x1095 : Int) : Option (Int) :=
  (spec_l1In x1095 1 8).bind fun (v1118 : Bool) => cond (!v1118) (some (-1)) ((spec_l1Power x1095 (IntKind.wrap .i64 (x1095 - 1))).bind fun (v1121 : Int) => some v1121)

@[irreducible] def spec_CountTrees (x1095 : Int) : Option (Int) :=
  spec_CountTrees_n1 x1095

/-! loop.example/headtrees/impl.CountTrees -/

def impl_CountTrees_n1 (x1125 : Int) : Option (Unit ⊕ Int) :=
  cond (decide (x1125 < 1)) (some (Sum.inr (-1))) (cond (decide (x1125 > 8)) (some (Sum.inr (-1))) (some (Sum.inl ())))

def impl_CountTrees_n2 (x1125 : Int) : Option (Int) :=
  some (IntKind.wrap .i64 (x1125 - 1))

def impl_CountTrees_n3 (x1125 : Int) (x1138 : Int) (x1130 : Int) (x1139 : Int) : Option ((Int × Int) ⊕ Int) :=
  cond (decide (x1139 < x1130)) (some (Sum.inl ((IntKind.wrap .i64 (x1138 * x1125)), (IntKind.wrap .i64 (x1139 + 1))))) (some (Sum.inr x1138))

def impl_CountTrees_n4 (x1125 : Int) (x1130 : Int) : Option (Int) :=
  nloop (fun (s : Int × Int) => ((impl_CountTrees_n3 x1125 s.1 x1130 s.2).map (Sum.elim (fun (t : Int × Int) => Sum.inl (t.1, t.2)) (fun (t : Int) => Sum.inr t)) : Option ((Int × Int) ⊕ (Int)))) LL (1, 0)

def impl_CountTrees_n5 (x1125 : Int) (x1130 : Int) : Option (Int) :=
  (impl_CountTrees_n4 x1125 x1130).map (fun (t : Int) => t)

def impl_CountTrees_n6 (x1125 : Int) : Option (Int) :=
  (impl_CountTrees_n2 x1125).bind (fun (t : Int) => impl_CountTrees_n5 x1125 t)

def impl_CountTrees_n7 (x1138 : Int) : Option (Int) :=
  some x1138

def impl_CountTrees_n8 (x1125 : Int) : Option (Int) :=
  (impl_CountTrees_n6 x1125).bind (fun (t : Int) => impl_CountTrees_n7 t)

def impl_CountTrees_n9 (x1125 : Int) : Option (Int) :=
  (impl_CountTrees_n1 x1125).bind (Sum.elim (fun (t : Unit) => impl_CountTrees_n8 x1125) (fun e => some ((fun (t : Int) => t) e)))

@[irreducible] def impl_CountTrees (x1125 : Int) : Option (Int) :=
  impl_CountTrees_n9 x1125

/-! loop.example/headtrees/laws.FnExactCountTrees -/

def laws_FnExactCountTrees_n1 (x1094 : Int) : Option (Bool) :=
  (spec_CountTrees x1094).bind fun (v1155 : Int) => (impl_CountTrees x1094).bind fun (v1156 : Int) => cond (v1156 != v1155) (some false) (some true)

@[irreducible] def laws_FnExactCountTrees (x1094 : Int) : Option (Bool) :=
  laws_FnExactCountTrees_n1 x1094

/-! loop.example/headtrees/spec.OrderOk -/

def spec_OrderOk_n1 : Option (Unit) :=
  some ()

def spec_OrderOk_n2 : Option (Unit) :=
  some ()

def spec_OrderOk_n3 (x1168 : List Int) (x1200 : Int) : Option (Unit ⊕ Unit) :=
  cond (decide (x1200 < (((List.length x1168 : Nat) : Int)))) (some (Sum.inl ())) (some (Sum.inr ()))

def spec_OrderOk_n4 (x1168 : List Int) (x1169 : Int) (x1200 : Int) : Option (Unit ⊕ Bool) :=
  (idx x1168 x1200).bind fun (v1206 : Int) => (spec_l1In v1206 1 x1169).bind fun (v1207 : Bool) => cond (!v1207) (some (Sum.inr false)) (some (Sum.inl ()))

def spec_OrderOk_n5 (x1168 : List Int) (x1200 : Int) (x1219 : Int) : Option (Int ⊕ Bool ⊕ Unit) :=
  cond (decide (x1219 < x1200)) ((idx x1168 x1219).bind fun (v1226 : Int) => (idx x1168 x1200).bind fun (v1227 : Int) => cond (v1226 == v1227) (some (Sum.inr (Sum.inl false))) (some (Sum.inl (IntKind.wrap .i64 (x1219 + 1))))) (some (Sum.inr (Sum.inr ())))

def spec_OrderOk_n6 (x1168 : List Int) (x1200 : Int) : Option (Bool ⊕ Unit) :=
  nloop (fun (s : Int) => ((spec_OrderOk_n5 x1168 x1200 s).map (Sum.elim (fun (t : Int) => Sum.inl t) (Sum.elim (fun (t : Bool) => Sum.inr (Sum.inl t)) (fun (t : Unit) => Sum.inr (Sum.inr t)))) : Option ((Int) ⊕ (Bool ⊕ Unit)))) LL 0

def spec_OrderOk_n7 (x1168 : List Int) (x1200 : Int) : Option (Unit ⊕ Bool) :=
  (spec_OrderOk_n6 x1168 x1200).map (Sum.elim (fun (t : Bool) => (Sum.inr t)) (fun (t : Unit) => (Sum.inl ())))

def spec_OrderOk_n8 (x1168 : List Int) (x1169 : Int) (x1200 : Int) : Option (Unit ⊕ Bool) :=
  (spec_OrderOk_n4 x1168 x1169 x1200).bind (Sum.elim (fun (t : Unit) => spec_OrderOk_n7 x1168 x1200) (fun e => some ((fun (t : Bool) => (Sum.inr t)) e)))

def spec_OrderOk_n9 (x1168 : List Int) (x1169 : Int) (x1200 : Int) : Option (Unit ⊕ Bool) :=
  (spec_OrderOk_n8 x1168 x1169 x1200).map (Sum.elim (fun (t : Unit) => (Sum.inl ())) (fun (t : Bool) => (Sum.inr t)))

def spec_OrderOk_n10 (x1200 : Int) : Option (Int) :=
  some (IntKind.wrap .i64 (x1200 + 1))

def spec_OrderOk_n11 (x1168 : List Int) (x1169 : Int) (x1200 : Int) : Option (Int ⊕ Bool) :=
  (spec_OrderOk_n9 x1168 x1169 x1200).bind (Sum.elim (fun (t : Unit) => (spec_OrderOk_n10 x1200).map (fun (t : Int) => (Sum.inl t))) (fun e => some ((fun (t : Bool) => (Sum.inr t)) e)))

def spec_OrderOk_n12 (x1168 : List Int) (x1169 : Int) (x1200 : Int) : Option (Int ⊕ Bool ⊕ Unit) :=
  (spec_OrderOk_n3 x1168 x1200).bind (Sum.elim (fun (t : Unit) => (spec_OrderOk_n11 x1168 x1169 x1200).map (Sum.elim (fun (t : Int) => (Sum.inl t)) (fun (t : Bool) => (Sum.inr (Sum.inl t))))) (fun e => some ((fun (t : Unit) => (Sum.inr (Sum.inr t))) e)))

def spec_OrderOk_n13 (x1168 : List Int) (x1169 : Int) : Option (Bool ⊕ Unit) :=
  nloop (fun (s : Int) => ((spec_OrderOk_n12 x1168 x1169 s).map (Sum.elim (fun (t : Int) => Sum.inl t) (Sum.elim (fun (t : Bool) => Sum.inr (Sum.inl t)) (fun (t : Unit) => Sum.inr (Sum.inr t)))) : Option ((Int) ⊕ (Bool ⊕ Unit)))) LL 0

def spec_OrderOk_n14 (x1168 : List Int) (x1169 : Int) : Option (Unit ⊕ Bool) :=
  (spec_OrderOk_n13 x1168 x1169).map (Sum.elim (fun (t : Bool) => (Sum.inr t)) (fun (t : Unit) => (Sum.inl ())))

def spec_OrderOk_n15 (x1168 : List Int) (x1169 : Int) : Option (Unit ⊕ Bool) :=
  (spec_OrderOk_n2).bind (fun (t : Unit) => spec_OrderOk_n14 x1168 x1169)

def spec_OrderOk_n16 (x1168 : List Int) (x1169 : Int) : Option (Bool) :=
  (spec_l1In x1169 1 8).bind fun (v1234 : Bool) => cond v1234 (some ((((List.length x1168 : Nat) : Int)) == x1169)) (some false)

def spec_OrderOk_n17 (x1168 : List Int) (x1169 : Int) : Option (Bool) :=
  (spec_OrderOk_n15 x1168 x1169).bind (Sum.elim (fun (t : Unit) => spec_OrderOk_n16 x1168 x1169) (fun e => some ((fun (t : Bool) => t) e)))

def spec_OrderOk_n18 (x1168 : List Int) (x1169 : Int) : Option (Bool) :=
  (spec_OrderOk_n1).bind (fun (t : Unit) => spec_OrderOk_n17 x1168 x1169)

@[irreducible] def spec_OrderOk (x1168 : List Int) (x1169 : Int) : Option (Bool) :=
  spec_OrderOk_n18 x1168 x1169

/-! loop.example/headtrees/impl.OrderOk -/

def impl_OrderOk_n1 (x1249 : List Int) (x1250 : Int) : Option (Unit ⊕ Bool) :=
  cond (decide (x1250 < 1)) (some (Sum.inr false)) (cond (decide (x1250 > 8)) (some (Sum.inr false)) (cond ((((List.length x1249 : Nat) : Int)) != x1250) (some (Sum.inr false)) (some (Sum.inl ()))))

def impl_OrderOk_n2 (x1249 : List Int) : Option (Int) :=
  some (((List.length x1249 : Nat) : Int))

def impl_OrderOk_n3 (x1250 : Int) (x1249 : List Int) (x1260 : Int) (x1284 : Int) (x1285 : List Bool) : Option ((Int × (List Bool)) ⊕ Bool ⊕ Unit) :=
  cond (decide (x1284 < x1260)) ((idx x1249 x1284).bind fun (v1299 : Int) => cond (decide (v1299 < 1)) (some (Sum.inr (Sum.inl false))) (cond (decide (v1299 > x1250)) (some (Sum.inr (Sum.inl false))) ((same (List.length x1285) 9).bind fun (v1302 : Unit) => (inb v1299 9).bind fun (v1303 : Nat) => (x1285[v1303]?).bind fun (v1304 : Bool) => cond v1304 (some (Sum.inr (Sum.inl false))) ((same (List.length x1285) 9).bind fun (v1305 : Unit) => (inb v1299 9).bind fun (v1306 : Nat) => some (Sum.inl ((IntKind.wrap .i64 (x1284 + 1)), (x1285.set v1306 true))))))) (some (Sum.inr (Sum.inr ())))

def impl_OrderOk_n4 (x1250 : Int) (x1249 : List Int) (x1260 : Int) : Option (Bool ⊕ Unit) :=
  nloop (fun (s : Int × (List Bool)) => ((impl_OrderOk_n3 x1250 x1249 x1260 s.1 s.2).map (Sum.elim (fun (t : Int × (List Bool)) => Sum.inl (t.1, t.2)) (Sum.elim (fun (t : Bool) => Sum.inr (Sum.inl t)) (fun (t : Unit) => Sum.inr (Sum.inr t)))) : Option ((Int × (List Bool)) ⊕ (Bool ⊕ Unit)))) LL (0, (List.replicate 9 false))

def impl_OrderOk_n5 (x1250 : Int) (x1249 : List Int) (x1260 : Int) : Option (Unit ⊕ Bool) :=
  (impl_OrderOk_n4 x1250 x1249 x1260).map (Sum.elim (fun (t : Bool) => (Sum.inr t)) (fun (t : Unit) => (Sum.inl ())))

def impl_OrderOk_n6 (x1249 : List Int) (x1250 : Int) : Option (Unit ⊕ Bool) :=
  (impl_OrderOk_n2 x1249).bind (fun (t : Int) => impl_OrderOk_n5 x1250 x1249 t)

def impl_OrderOk_n7 : Option (Bool) :=
  some true

def impl_OrderOk_n8 (x1249 : List Int) (x1250 : Int) : Option (Bool) :=
  (impl_OrderOk_n6 x1249 x1250).bind (Sum.elim (fun (t : Unit) => impl_OrderOk_n7) (fun e => some ((fun (t : Bool) => t) e)))

def impl_OrderOk_n9 (x1249 : List Int) (x1250 : Int) : Option (Bool) :=
  (impl_OrderOk_n1 x1249 x1250).bind (Sum.elim (fun (t : Unit) => impl_OrderOk_n8 x1249 x1250) (fun e => some ((fun (t : Bool) => t) e)))

@[irreducible] def impl_OrderOk (x1249 : List Int) (x1250 : Int) : Option (Bool) :=
  impl_OrderOk_n9 x1249 x1250

/-! loop.example/headtrees/laws.FnExactOrderOk -/

def laws_FnExactOrderOk_n1 (x1161 : List Int) (x1162 : Int) : Option (Bool) :=
  cond (decide ((((List.length x1161 : Nat) : Int)) > 1048576)) (some true) ((laws_toIntS x1161).bind fun (v1340 : List Int) => (spec_OrderOk v1340 x1162).bind fun (v1341 : Bool) => (laws_toIntS x1161).bind fun (v1342 : List Int) => (impl_OrderOk v1342 x1162).bind fun (v1343 : Bool) => cond (v1343 != v1341) (some false) ((laws_toIntS x1161).bind fun (v1345 : List Int) => (laws_eqIntS v1342 v1345).bind fun (v1346 : Bool) => cond (!v1346) (some false) (some true)))

@[irreducible] def laws_FnExactOrderOk (x1161 : List Int) (x1162 : Int) : Option (Bool) :=
  laws_FnExactOrderOk_n1 x1161 x1162

/-! loop.example/headtrees/spec.PutInOrder -/

def spec_PutInOrder_n1 (x1365 : List Int) (x1366 : List Int) : Option (((List Int)) ⊕ (Bool × (List Int))) :=
  (spec_TreeOk x1365).bind fun (v1372 : Bool) => cond (!v1372) (some (Sum.inr (false, ([] : List Int)))) ((spec_OrderOk x1366 (((List.length x1365 : Nat) : Int))).bind fun (v1375 : Bool) => cond (!v1375) (some (Sum.inr (false, ([] : List Int)))) ((mk (IntKind.wrap .i64 ((((List.length x1365 : Nat) : Int)) + 1)) (IntKind.wrap .i64 ((((List.length x1365 : Nat) : Int)) + 1))).bind fun (v1379 : Nat) => some (Sum.inl (List.replicate v1379 (0 : Int)))))

def spec_PutInOrder_n2 : Option (Unit) :=
  some ()

def spec_PutInOrder_n3 (x1366 : List Int) (x1396 : Int) (x1397 : List Int) : Option ((Int × (List Int)) ⊕ ((List Int))) :=
  cond (decide (x1396 < (((List.length x1366 : Nat) : Int)))) ((idx x1366 x1396).bind fun (v1408 : Int) => (inb v1408 (List.length x1397)).bind fun (v1410 : Nat) => some (Sum.inl ((IntKind.wrap .i64 (x1396 + 1)), (x1397.set v1410 (IntKind.wrap .i64 (x1396 + 1)))))) (some (Sum.inr x1397))

def spec_PutInOrder_n4 (x1366 : List Int) (x1380 : List Int) : Option (((List Int))) :=
  nloop (fun (s : Int × (List Int)) => ((spec_PutInOrder_n3 x1366 s.1 s.2).map (Sum.elim (fun (t : Int × (List Int)) => Sum.inl (t.1, t.2)) (fun (t : (List Int)) => Sum.inr t)) : Option ((Int × (List Int)) ⊕ (((List Int)))))) LL (0, x1380)

def spec_PutInOrder_n5 (x1366 : List Int) (x1380 : List Int) : Option (((List Int))) :=
  (spec_PutInOrder_n4 x1366 x1380).map (fun (t : (List Int)) => t)

def spec_PutInOrder_n6 (x1366 : List Int) (x1380 : List Int) : Option (((List Int))) :=
  (spec_PutInOrder_n2).bind (fun (t : Unit) => spec_PutInOrder_n5 x1366 x1380)

def spec_PutInOrder_n7 : Option (Unit) :=
  some ()

def spec_PutInOrder_n8 : Option (Unit) :=
  some ()

def spec_PutInOrder_n9 (x1365 : List Int) (x1366 : List Int) (x1438 : Int) (x1397 : List Int) (x1439 : List Int) : Option ((Int × (List Int)) ⊕ ((List Int))) :=
  cond (decide (x1438 < (((List.length x1366 : Nat) : Int)))) ((idx x1366 x1438).bind fun (v1455 : Int) => (idx x1365 (IntKind.wrap .i64 (v1455 - 1))).bind fun (v1457 : Int) => (inb v1457 (List.length x1397)).bind fun (v1458 : Nat) => (x1397[v1458]?).bind fun (v1459 : Int) => (room ((List.length x1439) + List.length ([v1459]))).bind fun (v1462 : Unit) => some (Sum.inl ((IntKind.wrap .i64 (x1438 + 1)), (x1439 ++ ([v1459]))))) (some (Sum.inr x1439))

def spec_PutInOrder_n10 (x1365 : List Int) (x1366 : List Int) (x1397 : List Int) : Option (((List Int))) :=
  nloop (fun (s : Int × (List Int)) => ((spec_PutInOrder_n9 x1365 x1366 s.1 x1397 s.2).map (Sum.elim (fun (t : Int × (List Int)) => Sum.inl (t.1, t.2)) (fun (t : (List Int)) => Sum.inr t)) : Option ((Int × (List Int)) ⊕ (((List Int)))))) LL (0, ([] : List Int))

def spec_PutInOrder_n11 (x1365 : List Int) (x1366 : List Int) (x1397 : List Int) : Option (((List Int))) :=
  (spec_PutInOrder_n10 x1365 x1366 x1397).map (fun (t : (List Int)) => t)

def spec_PutInOrder_n12 (x1365 : List Int) (x1366 : List Int) (x1397 : List Int) : Option (((List Int))) :=
  (spec_PutInOrder_n8).bind (fun (t : Unit) => spec_PutInOrder_n11 x1365 x1366 x1397)

def spec_PutInOrder_n13 (x1439 : List Int) : Option ((Bool × (List Int))) :=
  some (true, x1439)

def spec_PutInOrder_n14 (x1365 : List Int) (x1366 : List Int) (x1397 : List Int) : Option ((Bool × (List Int))) :=
  (spec_PutInOrder_n12 x1365 x1366 x1397).bind (fun (t : (List Int)) => spec_PutInOrder_n13 t)

def spec_PutInOrder_n15 (x1365 : List Int) (x1366 : List Int) (x1397 : List Int) : Option ((Bool × (List Int))) :=
  (spec_PutInOrder_n7).bind (fun (t : Unit) => spec_PutInOrder_n14 x1365 x1366 x1397)

def spec_PutInOrder_n16 (x1365 : List Int) (x1366 : List Int) (x1380 : List Int) : Option ((Bool × (List Int))) :=
  (spec_PutInOrder_n6 x1366 x1380).bind (fun (t : (List Int)) => spec_PutInOrder_n15 x1365 x1366 t)

def spec_PutInOrder_n17 (x1365 : List Int) (x1366 : List Int) : Option ((Bool × (List Int))) :=
  (spec_PutInOrder_n1 x1365 x1366).bind (Sum.elim (fun (t : (List Int)) => spec_PutInOrder_n16 x1365 x1366 t) (fun e => some ((fun (t : Bool × (List Int)) => t) e)))

@[irreducible] def spec_PutInOrder (x1365 : List Int) (x1366 : List Int) : Option (Bool × (List Int)) :=
  spec_PutInOrder_n17 x1365 x1366

/-! loop.example/headtrees/impl.placesIn -/

def impl_placesIn_n1 (x1514 : List Int) : Option (((List Int))) :=
  (mk (IntKind.wrap .i64 ((((List.length x1514 : Nat) : Int)) + 1)) (IntKind.wrap .i64 ((((List.length x1514 : Nat) : Int)) + 1))).bind fun (v1517 : Nat) => some (List.replicate v1517 (0 : Int))

def impl_placesIn_n2 (x1514 : List Int) : Option (Int) :=
  some (((List.length x1514 : Nat) : Int))

def impl_placesIn_n3 (x1514 : List Int) (x1519 : Int) (x1533 : Int) (x1534 : List Int) : Option ((Int × (List Int)) ⊕ ((List Int))) :=
  cond (decide (x1533 < x1519)) ((idx x1514 x1533).bind fun (v1543 : Int) => (inb v1543 (List.length x1534)).bind fun (v1545 : Nat) => some (Sum.inl ((IntKind.wrap .i64 (x1533 + 1)), (x1534.set v1545 (IntKind.wrap .i64 (x1533 + 1)))))) (some (Sum.inr x1534))

def impl_placesIn_n4 (x1514 : List Int) (x1519 : Int) (x1518 : List Int) : Option (((List Int))) :=
  nloop (fun (s : Int × (List Int)) => ((impl_placesIn_n3 x1514 x1519 s.1 s.2).map (Sum.elim (fun (t : Int × (List Int)) => Sum.inl (t.1, t.2)) (fun (t : (List Int)) => Sum.inr t)) : Option ((Int × (List Int)) ⊕ (((List Int)))))) LL (0, x1518)

def impl_placesIn_n5 (x1514 : List Int) (x1519 : Int) (x1518 : List Int) : Option (((List Int))) :=
  (impl_placesIn_n4 x1514 x1519 x1518).map (fun (t : (List Int)) => t)

def impl_placesIn_n6 (x1514 : List Int) (x1518 : List Int) : Option (((List Int))) :=
  (impl_placesIn_n2 x1514).bind (fun (t : Int) => impl_placesIn_n5 x1514 t x1518)

def impl_placesIn_n7 (x1534 : List Int) : Option (((List Int))) :=
  some x1534

def impl_placesIn_n8 (x1514 : List Int) (x1518 : List Int) : Option (((List Int))) :=
  (impl_placesIn_n6 x1514 x1518).bind (fun (t : (List Int)) => impl_placesIn_n7 t)

def impl_placesIn_n9 (x1514 : List Int) : Option (((List Int))) :=
  (impl_placesIn_n1 x1514).bind (fun (t : (List Int)) => impl_placesIn_n8 x1514 t)

@[irreducible] def impl_placesIn (x1514 : List Int) : Option ((List Int)) :=
  impl_placesIn_n9 x1514

/-! loop.example/headtrees/impl.PutInOrder$1 -/

def impl_PutInOrder_1_n1 (x1568 : Int) (x1569 : List Int) : Option (Int) :=
  (inb x1568 (List.length x1569)).bind fun (v1572 : Nat) => (x1569[v1572]?).bind fun (v1573 : Int) => some v1573

@[irreducible] def impl_PutInOrder_1 (x1568 : Int) (x1569 : List Int) : Option (Int) :=
  impl_PutInOrder_1_n1 x1568 x1569

/-! loop.example/headtrees/impl.renamed[int] -/

def impl_renamed_int_n1 (x1556 : List Int) : Option (((List Int))) :=
  (mk (((List.length x1556 : Nat) : Int)) (((List.length x1556 : Nat) : Int))).bind fun (v1559 : Nat) => some (List.replicate v1559 (0 : Int))

def impl_renamed_int_n2 (x1556 : List Int) : Option (Int) :=
  some (((List.length x1556 : Nat) : Int))

def impl_renamed_int_n3 (x1555 : List Int) (x1556 : List Int) (x1561 : Int) (x1585 : Int) (x1557 : List Int) (x1586 : List Int) : Option ((Int × (List Int)) ⊕ ((List Int))) :=
  cond (decide (x1585 < x1561)) ((idx x1556 x1585).bind fun (v1597 : Int) => (idx x1555 (IntKind.wrap .i64 (v1597 - 1))).bind fun (v1599 : Int) => (impl_PutInOrder_1 v1599 x1557).bind fun (v1600 : Int) => (inb x1585 (List.length x1586)).bind fun (v1601 : Nat) => some (Sum.inl ((IntKind.wrap .i64 (x1585 + 1)), (x1586.set v1601 v1600)))) (some (Sum.inr x1586))

def impl_renamed_int_n4 (x1555 : List Int) (x1556 : List Int) (x1561 : Int) (x1557 : List Int) (x1560 : List Int) : Option (((List Int))) :=
  nloop (fun (s : Int × (List Int)) => ((impl_renamed_int_n3 x1555 x1556 x1561 s.1 x1557 s.2).map (Sum.elim (fun (t : Int × (List Int)) => Sum.inl (t.1, t.2)) (fun (t : (List Int)) => Sum.inr t)) : Option ((Int × (List Int)) ⊕ (((List Int)))))) LL (0, x1560)

def impl_renamed_int_n5 (x1555 : List Int) (x1556 : List Int) (x1561 : Int) (x1557 : List Int) (x1560 : List Int) : Option (((List Int))) :=
  (impl_renamed_int_n4 x1555 x1556 x1561 x1557 x1560).map (fun (t : (List Int)) => t)

def impl_renamed_int_n6 (x1555 : List Int) (x1556 : List Int) (x1557 : List Int) (x1560 : List Int) : Option (((List Int))) :=
  (impl_renamed_int_n2 x1556).bind (fun (t : Int) => impl_renamed_int_n5 x1555 x1556 t x1557 x1560)

def impl_renamed_int_n7 (x1586 : List Int) : Option (((List Int))) :=
  some x1586

def impl_renamed_int_n8 (x1555 : List Int) (x1556 : List Int) (x1557 : List Int) (x1560 : List Int) : Option (((List Int))) :=
  (impl_renamed_int_n6 x1555 x1556 x1557 x1560).bind (fun (t : (List Int)) => impl_renamed_int_n7 t)

def impl_renamed_int_n9 (x1555 : List Int) (x1556 : List Int) (x1557 : List Int) : Option (((List Int))) :=
  (impl_renamed_int_n1 x1556).bind (fun (t : (List Int)) => impl_renamed_int_n8 x1555 x1556 x1557 t)

@[irreducible] def impl_renamed_int (x1555 : List Int) (x1556 : List Int) (x1557 : List Int) : Option ((List Int)) :=
  impl_renamed_int_n9 x1555 x1556 x1557

/-! loop.example/headtrees/impl.PutInOrder -/

def impl_PutInOrder_n1 (x1502 : List Int) (x1503 : List Int) : Option ((Bool × (List Int))) :=
  (impl_TreeOk x1502).bind fun (v1605 : Bool) => cond (!v1605) (some (false, ([] : List Int))) ((impl_OrderOk x1503 (((List.length x1502 : Nat) : Int))).bind fun (v1608 : Bool) => cond (!v1608) (some (false, ([] : List Int))) ((impl_placesIn x1503).bind fun (v1610 : List Int) => (impl_renamed_int x1502 x1503 v1610).bind fun (v1611 : List Int) => some (true, v1611)))

@[irreducible] def impl_PutInOrder (x1502 : List Int) (x1503 : List Int) : Option (Bool × (List Int)) :=
  impl_PutInOrder_n1 x1502 x1503

/-! loop.example/headtrees/laws.FnExactPutInOrder -/

def laws_FnExactPutInOrder_n1 (x1351 : List Int) (x1352 : List Int) : Option ((Int × Int) ⊕ Bool) :=
  cond (decide ((((List.length x1351 : Nat) : Int)) > 1048576)) (some (Sum.inr true)) (cond (decide ((((List.length x1352 : Nat) : Int)) > 1048576)) (some (Sum.inr true)) ((laws_toIntS x1351).bind fun (v2149 : List Int) => (laws_toIntS x1352).bind fun (v2150 : List Int) => (spec_PutInOrder v2149 v2150).bind fun (v2151 : Bool × (List Int)) => (laws_toIntS x1351).bind fun (v2154 : List Int) => (laws_toIntS x1352).bind fun (v2155 : List Int) => (impl_PutInOrder v2154 v2155).bind fun (v2156 : Bool × (List Int)) => (laws_eqIntS (v2156.2) (v2151.2)).bind fun (v2159 : Bool) => cond (!v2159) (some (Sum.inr false)) (cond ((v2156.1) != (v2151.1)) (some (Sum.inr false)) ((laws_toIntS x1351).bind fun (v2162 : List Int) => (laws_eqIntS v2154 v2162).bind fun (v2163 : Bool) => cond (!v2163) (some (Sum.inr false)) ((laws_toIntS x1352).bind fun (v2165 : List Int) => (laws_eqIntS v2155 v2165).bind fun (v2166 : Bool) => cond (!v2166) (some (Sum.inr false)) ((laws_markIntS 1 v2154).bind fun (v2168 : Int × (List Int)) => (laws_markIntS (v2168.1) v2155).bind fun (v2171 : Int × (List Int)) => cond (decide ((v2171.1) < 0)) (some (Sum.inr false)) ((laws_eqIntS (v2156.2) (v2151.2)).bind fun (v2175 : Bool) => cond (!v2175) (some (Sum.inr false)) (cond ((v2156.1) != (v2151.1)) (some (Sum.inr false)) ((laws_markIntS 1 (v2156.2)).bind fun (v2178 : Int × (List Int)) => (laws_heldIntS (v2178.2) 1).bind fun (v2181 : Int) => cond (decide (v2181 < 0)) (some (Sum.inr false)) (cond (v2181 != (v2178.1)) (some (Sum.inr false)) ((laws_toIntS x1351).bind fun (v2184 : List Int) => (laws_toIntS x1352).bind fun (v2185 : List Int) => (impl_PutInOrder v2184 v2185).bind fun (v2186 : Bool × (List Int)) => (laws_eqIntS (v2186.2) (v2151.2)).bind fun (v2189 : Bool) => cond (!v2189) (some (Sum.inr false)) (cond ((v2186.1) != (v2151.1)) (some (Sum.inr false)) ((laws_heldIntS (v2178.2) 1).bind fun (v2192 : Int) => some (Sum.inl ((v2178.1), v2192)))))))))))))))

def laws_FnExactPutInOrder_n2 (x2179 : Int) (x2192 : Int) : Option (Bool) :=
  cond (decide (x2192 < 0)) (some false) (cond (x2192 != x2179) (some false) (some true))

def laws_FnExactPutInOrder_n3 (x1351 : List Int) (x1352 : List Int) : Option (Bool) :=
  (laws_FnExactPutInOrder_n1 x1351 x1352).bind (Sum.elim (fun (t : Int × Int) => laws_FnExactPutInOrder_n2 t.1 t.2) (fun e => some ((fun (t : Bool) => t) e)))

@[irreducible] def laws_FnExactPutInOrder (x1351 : List Int) (x1352 : List Int) : Option (Bool) :=
  laws_FnExactPutInOrder_n3 x1351 x1352

/-! loop.example/headtrees/spec.SidesOf -/

def spec_SidesOf_n1 (x2259 : List Int) (x2260 : Int) : Option (Unit ⊕ (Int × Int × Bool)) :=
  (spec_TreeOk x2259).bind fun (v2271 : Bool) => cond (!v2271) (some (Sum.inr ((-1), (-1), false))) ((spec_l1In x2260 1 (((List.length x2259 : Nat) : Int))).bind fun (v2274 : Bool) => cond (!v2274) (some (Sum.inr ((-1), (-1), false))) (some (Sum.inl ())))

def spec_SidesOf_n2 : Option (Unit) :=
  some ()

def spec_SidesOf_n3 (x2259 : List Int) (x2260 : Int) (x2334 : Int) (x2335 : Int) (x2336 : Int) : Option ((Int × Int × Int) ⊕ (Int × Int)) :=
  cond (decide (x2336 < (((List.length x2259 : Nat) : Int)))) ((idx x2259 x2336).bind fun (v2363 : Int) => cond (v2363 == x2260) (cond (decide ((IntKind.wrap .i64 (x2336 + 1)) < x2260)) ((idx x2259 x2336).bind fun (v2368 : Int) => cond (v2368 == x2260) (cond (decide ((IntKind.wrap .i64 (x2336 + 1)) > x2260)) (some (Sum.inl ((IntKind.wrap .i64 (x2334 + 1)), (IntKind.wrap .i64 (x2335 + 1)), (IntKind.wrap .i64 (x2336 + 1))))) (some (Sum.inl ((IntKind.wrap .i64 (x2334 + 1)), x2335, (IntKind.wrap .i64 (x2336 + 1)))))) (some (Sum.inl ((IntKind.wrap .i64 (x2334 + 1)), x2335, (IntKind.wrap .i64 (x2336 + 1)))))) ((idx x2259 x2336).bind fun (v2376 : Int) => cond (v2376 == x2260) (cond (decide ((IntKind.wrap .i64 (x2336 + 1)) > x2260)) (some (Sum.inl (x2334, (IntKind.wrap .i64 (x2335 + 1)), (IntKind.wrap .i64 (x2336 + 1))))) (some (Sum.inl (x2334, x2335, (IntKind.wrap .i64 (x2336 + 1)))))) (some (Sum.inl (x2334, x2335, (IntKind.wrap .i64 (x2336 + 1))))))) ((idx x2259 x2336).bind fun (v2384 : Int) => cond (v2384 == x2260) (cond (decide ((IntKind.wrap .i64 (x2336 + 1)) > x2260)) (some (Sum.inl (x2334, (IntKind.wrap .i64 (x2335 + 1)), (IntKind.wrap .i64 (x2336 + 1))))) (some (Sum.inl (x2334, x2335, (IntKind.wrap .i64 (x2336 + 1)))))) (some (Sum.inl (x2334, x2335, (IntKind.wrap .i64 (x2336 + 1))))))) (some (Sum.inr (x2334, x2335)))

def spec_SidesOf_n4 (x2259 : List Int) (x2260 : Int) : Option ((Int × Int)) :=
  nloop (fun (s : Int × Int × Int) => ((spec_SidesOf_n3 x2259 x2260 s.1 s.2.1 s.2.2).map (Sum.elim (fun (t : Int × Int × Int) => Sum.inl (t.1, t.2.1, t.2.2)) (fun (t : Int × Int) => Sum.inr t)) : Option ((Int × Int × Int) ⊕ ((Int × Int))))) LL (0, 0, 0)

def spec_SidesOf_n5 (x2259 : List Int) (x2260 : Int) : Option ((Int × Int)) :=
  (spec_SidesOf_n4 x2259 x2260).map (fun (t : Int × Int) => (t.1, t.2))

def spec_SidesOf_n6 (x2259 : List Int) (x2260 : Int) : Option ((Int × Int)) :=
  (spec_SidesOf_n2).bind (fun (t : Unit) => spec_SidesOf_n5 x2259 x2260)

def spec_SidesOf_n7 (x2334 : Int) (x2335 : Int) : Option ((Int × Int × Bool)) :=
  some (x2334, x2335, true)

def spec_SidesOf_n8 (x2259 : List Int) (x2260 : Int) : Option ((Int × Int × Bool)) :=
  (spec_SidesOf_n6 x2259 x2260).bind (fun (t : Int × Int) => spec_SidesOf_n7 t.1 t.2)

def spec_SidesOf_n9 (x2259 : List Int) (x2260 : Int) : Option ((Int × Int × Bool)) :=
  (spec_SidesOf_n1 x2259 x2260).bind (Sum.elim (fun (t : Unit) => spec_SidesOf_n8 x2259 x2260) (fun e => some ((fun (t : Int × Int × Bool) => t) e)))

@[irreducible] def spec_SidesOf (x2259 : List Int) (x2260 : Int) : Option (Int × Int × Bool) :=
  spec_SidesOf_n9 x2259 x2260

/-! loop.example/headtrees/impl.wordOk -/

def impl_wordOk_n1 (x2420 : List Int) (x2421 : Int) : Option (Bool) :=
  (impl_TreeOk x2420).bind fun (v2426 : Bool) => cond v2426 (cond (decide (x2421 ≥ 1)) (some (decide (x2421 ≤ (((List.length x2420 : Nat) : Int))))) (some false)) (some false)

@[irreducible] def impl_wordOk (x2420 : List Int) (x2421 : Int) : Option (Bool) :=
  impl_wordOk_n1 x2420 x2421

/-! loop.example/headtrees/impl.only -/

def impl_only_n1 (x2444 : Int) : Option (Int) :=
  (shl .u64 1 (IntKind.wrap .i64 (x2444 - 1))).bind fun (v2448 : Int) => some v2448

@[irreducible] def impl_only (x2444 : Int) : Option (Int) :=
  impl_only_n1 x2444

/-! loop.example/headtrees/impl.dependents -/

def impl_dependents_n1 : Option (Unit) :=
  some ()

def impl_dependents_n2 (x2435 : List Int) : Option (Int) :=
  some (((List.length x2435 : Nat) : Int))

def impl_dependents_n3 (x2435 : List Int) (x2436 : Int) (x2461 : Int) (x2437 : Int) (x2462 : Int) : Option ((Int × Int) ⊕ Int) :=
  cond (decide (x2462 < x2437)) ((idx x2435 x2462).bind fun (v2472 : Int) => cond (v2472 == x2436) ((impl_only (IntKind.wrap .i64 (x2462 + 1))).bind fun (v2475 : Int) => some (Sum.inl ((ior .u64 x2461 v2475), (IntKind.wrap .i64 (x2462 + 1))))) (some (Sum.inl (x2461, (IntKind.wrap .i64 (x2462 + 1)))))) (some (Sum.inr x2461))

def impl_dependents_n4 (x2435 : List Int) (x2436 : Int) (x2437 : Int) : Option (Int) :=
  nloop (fun (s : Int × Int) => ((impl_dependents_n3 x2435 x2436 s.1 x2437 s.2).map (Sum.elim (fun (t : Int × Int) => Sum.inl (t.1, t.2)) (fun (t : Int) => Sum.inr t)) : Option ((Int × Int) ⊕ (Int)))) LL (0, 0)

def impl_dependents_n5 (x2435 : List Int) (x2436 : Int) (x2437 : Int) : Option (Int) :=
  (impl_dependents_n4 x2435 x2436 x2437).map (fun (t : Int) => t)

def impl_dependents_n6 (x2435 : List Int) (x2436 : Int) : Option (Int) :=
  (impl_dependents_n2 x2435).bind (fun (t : Int) => impl_dependents_n5 x2435 x2436 t)

def impl_dependents_n7 (x2461 : Int) : Option (Int) :=
  some x2461

def impl_dependents_n8 (x2435 : List Int) (x2436 : Int) : Option (Int) :=
  (impl_dependents_n6 x2435 x2436).bind (fun (t : Int) => impl_dependents_n7 t)

def impl_dependents_n9 (x2435 : List Int) (x2436 : Int) : Option (Int) :=
  (impl_dependents_n1).bind (fun (t : Unit) => impl_dependents_n8 x2435 x2436)

@[irreducible] def impl_dependents (x2435 : List Int) (x2436 : Int) : Option (Int) :=
  impl_dependents_n9 x2435 x2436

/-! loop.example/headtrees/impl.before -/

def impl_before_n1 (x2485 : Int) : Option (Int) :=
  (impl_only x2485).bind fun (v2488 : Int) => some (IntKind.wrap .u64 (v2488 - 1))

@[irreducible] def impl_before (x2485 : Int) : Option (Int) :=
  impl_before_n1 x2485

/-! math/bits.OnesCount64 -/

def math_bits_OnesCount64_n1 (x2494 : Int) : Option (Int) :=
  (shr .u64 x2494 1).bind fun (v2495 : Int) => some (IntKind.wrap .u64 ((iand .u64 v2495 6148914691236517205) + (iand .u64 x2494 6148914691236517205)))

def math_bits_OnesCount64_n2 (x2499 : Int) : Option (Int) :=
  (shr .u64 x2499 2).bind fun (v2514 : Int) => some (IntKind.wrap .u64 ((iand .u64 v2514 3689348814741910323) + (iand .u64 x2499 3689348814741910323)))

def math_bits_OnesCount64_n3 (x2517 : Int) : Option (Int) :=
  (shr .u64 x2517 4).bind fun (v2523 : Int) => some (iand .u64 (IntKind.wrap .u64 (v2523 + x2517)) 1085102592571150095)

def math_bits_OnesCount64_n4 (x2525 : Int) : Option (Int) :=
  (shr .u64 x2525 8).bind fun (v2528 : Int) => some (IntKind.wrap .u64 (x2525 + v2528))

def math_bits_OnesCount64_n5 (x2529 : Int) : Option (Int) :=
  (shr .u64 x2529 16).bind fun (v2533 : Int) => some (IntKind.wrap .u64 (x2529 + v2533))

def math_bits_OnesCount64_n6 (x2534 : Int) : Option (Int) :=
  (shr .u64 x2534 32).bind fun (v2538 : Int) => some (IntKind.wrap .u64 (x2534 + v2538))

def math_bits_OnesCount64_n7 (x2539 : Int) : Option (Int) :=
  some (iand .i64 (IntKind.wrap .i64 x2539) 127)

def math_bits_OnesCount64_n8 (x2544 : Int) : Option (Int) :=
  some x2544

def math_bits_OnesCount64_n9 (x2539 : Int) : Option (Int) :=
  (math_bits_OnesCount64_n7 x2539).bind (fun (t : Int) => math_bits_OnesCount64_n8 t)

def math_bits_OnesCount64_n10 (x2534 : Int) : Option (Int) :=
  (math_bits_OnesCount64_n6 x2534).bind (fun (t : Int) => math_bits_OnesCount64_n9 t)

def math_bits_OnesCount64_n11 (x2529 : Int) : Option (Int) :=
  (math_bits_OnesCount64_n5 x2529).bind (fun (t : Int) => math_bits_OnesCount64_n10 t)

def math_bits_OnesCount64_n12 (x2525 : Int) : Option (Int) :=
  (math_bits_OnesCount64_n4 x2525).bind (fun (t : Int) => math_bits_OnesCount64_n11 t)

def math_bits_OnesCount64_n13 (x2517 : Int) : Option (Int) :=
  (math_bits_OnesCount64_n3 x2517).bind (fun (t : Int) => math_bits_OnesCount64_n12 t)

def math_bits_OnesCount64_n14 (x2499 : Int) : Option (Int) :=
  (math_bits_OnesCount64_n2 x2499).bind (fun (t : Int) => math_bits_OnesCount64_n13 t)

def math_bits_OnesCount64_n15 (x2494 : Int) : Option (Int) :=
  (math_bits_OnesCount64_n1 x2494).bind (fun (t : Int) => math_bits_OnesCount64_n14 t)

@[irreducible] def math_bits_OnesCount64 (x2494 : Int) : Option (Int) :=
  math_bits_OnesCount64_n15 x2494

/-! math/bits.OnesCount -/

def math_bits_OnesCount_n1 (x2493 : Int) : Option (Int) :=
  (math_bits_OnesCount64 x2493).bind fun (v2546 : Int) => some v2546

@[irreducible] def math_bits_OnesCount (x2493 : Int) : Option (Int) :=
  math_bits_OnesCount_n1 x2493

/-! (loop.example/headtrees/impl.wordSet).count -/

def impl_wordSet_count_n1 (x2492 : Int) : Option (Int) :=
  (math_bits_OnesCount x2492).bind fun (v2548 : Int) => some v2548

@[irreducible] def impl_wordSet_count (x2492 : Int) : Option (Int) :=
  impl_wordSet_count_n1 x2492

/-! loop.example/headtrees/impl.SidesOf -/

def impl_SidesOf_n1 (x2418 : List Int) (x2419 : Int) : Option ((Int × Int × Bool)) :=
  (impl_wordOk x2418 x2419).bind fun (v2553 : Bool) => cond (!v2553) (some ((-1), (-1), false)) ((impl_dependents x2418 x2419).bind fun (v2555 : Int) => (impl_before x2419).bind fun (v2556 : Int) => (impl_wordSet_count (iand .u64 v2555 v2556)).bind fun (v2558 : Int) => (impl_before x2419).bind fun (v2559 : Int) => (impl_wordSet_count (iandn .u64 v2555 v2559)).bind fun (v2561 : Int) => some (v2558, v2561, true))

@[irreducible] def impl_SidesOf (x2418 : List Int) (x2419 : Int) : Option (Int × Int × Bool) :=
  impl_SidesOf_n1 x2418 x2419

/-! loop.example/headtrees/laws.FnExactSidesOf -/

def laws_FnExactSidesOf_n1 (x2252 : List Int) (x2253 : Int) : Option (Bool) :=
  cond (decide ((((List.length x2252 : Nat) : Int)) > 1048576)) (some true) ((laws_toIntS x2252).bind fun (v2622 : List Int) => (spec_SidesOf v2622 x2253).bind fun (v2623 : Int × Int × Bool) => (laws_toIntS x2252).bind fun (v2627 : List Int) => (impl_SidesOf v2627 x2253).bind fun (v2628 : Int × Int × Bool) => cond ((v2628.1) != (v2623.1)) (some false) (cond ((v2628.2.1) != (v2623.2.1)) (some false) (cond ((v2628.2.2) != (v2623.2.2)) (some false) ((laws_toIntS x2252).bind fun (v2635 : List Int) => (laws_eqIntS v2627 v2635).bind fun (v2636 : Bool) => cond (!v2636) (some false) (some true)))))

@[irreducible] def laws_FnExactSidesOf (x2252 : List Int) (x2253 : Int) : Option (Bool) :=
  laws_FnExactSidesOf_n1 x2252 x2253

end Go.Rv
