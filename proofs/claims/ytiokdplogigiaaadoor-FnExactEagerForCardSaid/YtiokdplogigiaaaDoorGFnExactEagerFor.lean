/-
  Plain functions, written by program for functions of the checked code. Conditions: none.
-/
import Derived.Test.YtiokdplogigiaaaDoorFB
set_option linter.unusedVariables false
namespace Go.Rv
def impl_newStackMachine_n1 (x911 : Int) : Option (((List Int))) :=
  (mk x911 x911).bind fun (v914 : Nat) => some (List.replicate v914 (0 : Int))

@[irreducible] def impl_newStackMachine (x911 : Int) : Option ((List Int)) :=
  impl_newStackMachine_n1 x911

def spec_l1In_n1 (x1554 : Int) (x1555 : Int) (x1556 : Int) : Option (Bool) :=
  cond (decide (x1554 ≥ x1555)) (some (decide (x1554 ≤ x1556))) (some false)

@[irreducible] def spec_l1In (x1554 : Int) (x1555 : Int) (x1556 : Int) : Option (Bool) :=
  spec_l1In_n1 x1554 x1555 x1556

def impl_oneRoot_n1 : Option (Unit) :=
  some ()

def impl_oneRoot_n2 (x3179 : List Int) : Option (Int) :=
  some (((List.length x3179 : Nat) : Int))

def impl_oneRoot_n3 (x3179 : List Int) (x3201 : Int) (x3180 : Int) (x3202 : Int) : Option ((Int × Int) ⊕ Bool ⊕ Int) :=
  cond (decide (x3202 < x3180)) ((idx x3179 x3202).bind fun (v3213 : Int) => cond (decide (v3213 < 0)) (some (Sum.inr (Sum.inl false))) (cond (decide (v3213 > (((List.length x3179 : Nat) : Int)))) (some (Sum.inr (Sum.inl false))) (cond (v3213 == 0) (some (Sum.inl ((IntKind.wrap .i64 (x3201 + 1)), (IntKind.wrap .i64 (x3202 + 1))))) (some (Sum.inl (x3201, (IntKind.wrap .i64 (x3202 + 1)))))))) (some (Sum.inr (Sum.inr x3201)))

def impl_oneRoot_n4 (x3179 : List Int) (x3180 : Int) : Option (Bool ⊕ Int) :=
  nloop (fun (s : Int × Int) => ((impl_oneRoot_n3 x3179 s.1 x3180 s.2).map (Sum.elim (fun (t : Int × Int) => Sum.inl (t.1, t.2)) (Sum.elim (fun (t : Bool) => Sum.inr (Sum.inl t)) (fun (t : Int) => Sum.inr (Sum.inr t)))) : Option ((Int × Int) ⊕ (Bool ⊕ Int)))) LL (0, 0)

def impl_oneRoot_n5 (x3179 : List Int) (x3180 : Int) : Option (Int ⊕ Bool) :=
  (impl_oneRoot_n4 x3179 x3180).map (Sum.elim (fun (t : Bool) => (Sum.inr t)) (fun (t : Int) => (Sum.inl t)))

def impl_oneRoot_n6 (x3179 : List Int) : Option (Int ⊕ Bool) :=
  (impl_oneRoot_n2 x3179).bind (fun (t : Int) => impl_oneRoot_n5 x3179 t)

def impl_oneRoot_n7 (x3201 : Int) : Option (Bool) :=
  some (x3201 == 1)

def impl_oneRoot_n8 (x3179 : List Int) : Option (Bool) :=
  (impl_oneRoot_n6 x3179).bind (Sum.elim (fun (t : Int) => impl_oneRoot_n7 t) (fun e => some ((fun (t : Bool) => t) e)))

def impl_oneRoot_n9 (x3179 : List Int) : Option (Bool) :=
  (impl_oneRoot_n1).bind (fun (t : Unit) => impl_oneRoot_n8 x3179)

@[irreducible] def impl_oneRoot (x3179 : List Int) : Option (Bool) :=
  impl_oneRoot_n9 x3179

def impl_walker_up_n1 (x3235 : List Int) (x3236 : Int) (x3237 : Int) : Option ((Bool × Int × Int)) :=
  (idx x3235 (IntKind.wrap .i64 (x3236 - 1))).bind fun (v3255 : Int) => cond (v3255 == 0) (some (false, x3236, x3237)) (some (true, v3255, (IntKind.wrap .i64 (x3237 + 1))))

@[irreducible] def impl_walker_up (x3235 : List Int) (x3236 : Int) (x3237 : Int) : Option (Bool × Int × Int) :=
  impl_walker_up_n1 x3235 x3236 x3237

def impl_stepsToRoot_n1 : Option (Unit) :=
  some ()

def impl_stepsToRoot_n2 (x3233 : List Int) (x3271 : Int) (x3272 : Int) : Option ((Int × Int) ⊕ (Int × Bool) ⊕ (Int × Int)) :=
  (impl_walker_up x3233 x3271 x3272).bind fun (v3277 : Bool × Int × Int) => cond (v3277.1) (cond (decide ((v3277.2.2) ≥ (((List.length x3233 : Nat) : Int)))) (some (Sum.inr (Sum.inl (0, false)))) (some (Sum.inl ((v3277.2.1), (v3277.2.2))))) (some (Sum.inr (Sum.inr ((v3277.2.1), (v3277.2.2)))))

def impl_stepsToRoot_n3 (x3233 : List Int) (x3234 : Int) : Option ((Int × Bool) ⊕ (Int × Int)) :=
  nloop (fun (s : Int × Int) => ((impl_stepsToRoot_n2 x3233 s.1 s.2).map (Sum.elim (fun (t : Int × Int) => Sum.inl (t.1, t.2)) (Sum.elim (fun (t : Int × Bool) => Sum.inr (Sum.inl t)) (fun (t : Int × Int) => Sum.inr (Sum.inr t)))) : Option ((Int × Int) ⊕ ((Int × Bool) ⊕ (Int × Int))))) LL (x3234, 0)

def impl_stepsToRoot_n4 (x3233 : List Int) (x3234 : Int) : Option ((Int × Int) ⊕ (Int × Bool)) :=
  (impl_stepsToRoot_n3 x3233 x3234).map (Sum.elim (fun (t : Int × Bool) => (Sum.inr t)) (fun (t : Int × Int) => (Sum.inl (t.1, t.2))))

def impl_stepsToRoot_n5 (x3280 : Int) : Option ((Int × Bool)) :=
  some (x3280, true)

def impl_stepsToRoot_n6 (x3233 : List Int) (x3234 : Int) : Option ((Int × Bool)) :=
  (impl_stepsToRoot_n4 x3233 x3234).bind (Sum.elim (fun (t : Int × Int) => impl_stepsToRoot_n5 t.2) (fun e => some ((fun (t : Int × Bool) => t) e)))

def impl_stepsToRoot_n7 (x3233 : List Int) (x3234 : Int) : Option ((Int × Bool)) :=
  (impl_stepsToRoot_n1).bind (fun (t : Unit) => impl_stepsToRoot_n6 x3233 x3234)

@[irreducible] def impl_stepsToRoot (x3233 : List Int) (x3234 : Int) : Option (Int × Bool) :=
  impl_stepsToRoot_n7 x3233 x3234

def impl_TreeOk_n1 (x3174 : List Int) : Option (Unit ⊕ Bool) :=
  cond (decide ((((List.length x3174 : Nat) : Int)) < 1)) (some (Sum.inr false)) (cond (decide ((((List.length x3174 : Nat) : Int)) > 8)) (some (Sum.inr false)) ((impl_oneRoot x3174).bind fun (v3226 : Bool) => cond (!v3226) (some (Sum.inr false)) (some (Sum.inl ()))))

def impl_TreeOk_n2 (x3174 : List Int) : Option (Int) :=
  some (((List.length x3174 : Nat) : Int))

def impl_TreeOk_n3 (x3174 : List Int) (x3228 : Int) (x3296 : Int) : Option (Int ⊕ Bool ⊕ Unit) :=
  cond (decide (x3296 < x3228)) ((impl_stepsToRoot x3174 (IntKind.wrap .i64 (x3296 + 1))).bind fun (v3307 : Int × Bool) => cond (!(v3307.2)) (some (Sum.inr (Sum.inl false))) (some (Sum.inl (IntKind.wrap .i64 (x3296 + 1))))) (some (Sum.inr (Sum.inr ())))

def impl_TreeOk_n4 (x3174 : List Int) (x3228 : Int) : Option (Bool ⊕ Unit) :=
  nloop (fun (s : Int) => ((impl_TreeOk_n3 x3174 x3228 s).map (Sum.elim (fun (t : Int) => Sum.inl t) (Sum.elim (fun (t : Bool) => Sum.inr (Sum.inl t)) (fun (t : Unit) => Sum.inr (Sum.inr t)))) : Option ((Int) ⊕ (Bool ⊕ Unit)))) LL 0

def impl_TreeOk_n5 (x3174 : List Int) (x3228 : Int) : Option (Unit ⊕ Bool) :=
  (impl_TreeOk_n4 x3174 x3228).map (Sum.elim (fun (t : Bool) => (Sum.inr t)) (fun (t : Unit) => (Sum.inl ())))

def impl_TreeOk_n6 (x3174 : List Int) : Option (Unit ⊕ Bool) :=
  (impl_TreeOk_n2 x3174).bind (fun (t : Int) => impl_TreeOk_n5 x3174 t)

def impl_TreeOk_n7 : Option (Bool) :=
  some true

def impl_TreeOk_n8 (x3174 : List Int) : Option (Bool) :=
  (impl_TreeOk_n6 x3174).bind (Sum.elim (fun (t : Unit) => impl_TreeOk_n7) (fun e => some ((fun (t : Bool) => t) e)))

def impl_TreeOk_n9 (x3174 : List Int) : Option (Bool) :=
  (impl_TreeOk_n1 x3174).bind (Sum.elim (fun (t : Unit) => impl_TreeOk_n8 x3174) (fun e => some ((fun (t : Bool) => t) e)))

@[irreducible] def impl_TreeOk (x3174 : List Int) : Option (Bool) :=
  impl_TreeOk_n9 x3174

def impl_RootOf_n1 (x3353 : List Int) : Option (Unit ⊕ Int) :=
  (impl_TreeOk x3353).bind fun (v3357 : Bool) => cond (!v3357) (some (Sum.inr (-1))) (some (Sum.inl ()))

def impl_RootOf_n2 (x3353 : List Int) (x3367 : Int) (x3368 : Int) : Option ((Int × Int) ⊕ (Int × Int)) :=
  (impl_walker_up x3353 x3367 x3368).bind fun (v3373 : Bool × Int × Int) => cond (v3373.1) (some (Sum.inl ((v3373.2.1), (v3373.2.2)))) (some (Sum.inr ((v3373.2.1), (v3373.2.2))))

def impl_RootOf_n3 (x3353 : List Int) : Option ((Int × Int)) :=
  nloop (fun (s : Int × Int) => ((impl_RootOf_n2 x3353 s.1 s.2).map (Sum.elim (fun (t : Int × Int) => Sum.inl (t.1, t.2)) (fun (t : Int × Int) => Sum.inr t)) : Option ((Int × Int) ⊕ ((Int × Int))))) LL (1, 0)

def impl_RootOf_n4 (x3353 : List Int) : Option ((Int × Int)) :=
  (impl_RootOf_n3 x3353).map (fun (t : Int × Int) => (t.1, t.2))

def impl_RootOf_n5 (x3375 : Int) : Option (Int) :=
  some x3375

def impl_RootOf_n6 (x3353 : List Int) : Option (Int) :=
  (impl_RootOf_n4 x3353).bind (fun (t : Int × Int) => impl_RootOf_n5 t.1)

def impl_RootOf_n7 (x3353 : List Int) : Option (Int) :=
  (impl_RootOf_n1 x3353).bind (Sum.elim (fun (t : Unit) => impl_RootOf_n6 x3353) (fun e => some ((fun (t : Int) => t) e)))

@[irreducible] def impl_RootOf (x3353 : List Int) : Option (Int) :=
  impl_RootOf_n7 x3353

def impl_only_n1 (x3382 : Int) : Option (Int) :=
  (shl .u64 1 (IntKind.wrap .i64 (x3382 - 1))).bind fun (v3386 : Int) => some v3386

@[irreducible] def impl_only (x3382 : Int) : Option (Int) :=
  impl_only_n1 x3382

def impl_dependents_n1 : Option (Unit) :=
  some ()

def impl_dependents_n2 (x3388 : List Int) : Option (Int) :=
  some (((List.length x3388 : Nat) : Int))

def impl_dependents_n3 (x3388 : List Int) (x3389 : Int) (x3409 : Int) (x3390 : Int) (x3410 : Int) : Option ((Int × Int) ⊕ Int) :=
  cond (decide (x3410 < x3390)) ((idx x3388 x3410).bind fun (v3420 : Int) => cond (v3420 == x3389) ((impl_only (IntKind.wrap .i64 (x3410 + 1))).bind fun (v3423 : Int) => some (Sum.inl ((ior .u64 x3409 v3423), (IntKind.wrap .i64 (x3410 + 1))))) (some (Sum.inl (x3409, (IntKind.wrap .i64 (x3410 + 1)))))) (some (Sum.inr x3409))

def impl_dependents_n4 (x3388 : List Int) (x3389 : Int) (x3390 : Int) : Option (Int) :=
  nloop (fun (s : Int × Int) => ((impl_dependents_n3 x3388 x3389 s.1 x3390 s.2).map (Sum.elim (fun (t : Int × Int) => Sum.inl (t.1, t.2)) (fun (t : Int) => Sum.inr t)) : Option ((Int × Int) ⊕ (Int)))) LL (0, 0)

def impl_dependents_n5 (x3388 : List Int) (x3389 : Int) (x3390 : Int) : Option (Int) :=
  (impl_dependents_n4 x3388 x3389 x3390).map (fun (t : Int) => t)

def impl_dependents_n6 (x3388 : List Int) (x3389 : Int) : Option (Int) :=
  (impl_dependents_n2 x3388).bind (fun (t : Int) => impl_dependents_n5 x3388 x3389 t)

def impl_dependents_n7 (x3409 : Int) : Option (Int) :=
  some x3409

def impl_dependents_n8 (x3388 : List Int) (x3389 : Int) : Option (Int) :=
  (impl_dependents_n6 x3388 x3389).bind (fun (t : Int) => impl_dependents_n7 t)

def impl_dependents_n9 (x3388 : List Int) (x3389 : Int) : Option (Int) :=
  (impl_dependents_n1).bind (fun (t : Unit) => impl_dependents_n8 x3388 x3389)

@[irreducible] def impl_dependents (x3388 : List Int) (x3389 : Int) : Option (Int) :=
  impl_dependents_n9 x3388 x3389

def math_bits_OnesCount64_n1 (x3433 : Int) : Option (Int) :=
  (shr .u64 x3433 1).bind fun (v3434 : Int) => some (IntKind.wrap .u64 ((iand .u64 v3434 6148914691236517205) + (iand .u64 x3433 6148914691236517205)))

def math_bits_OnesCount64_n2 (x3438 : Int) : Option (Int) :=
  (shr .u64 x3438 2).bind fun (v3452 : Int) => some (IntKind.wrap .u64 ((iand .u64 v3452 3689348814741910323) + (iand .u64 x3438 3689348814741910323)))

def math_bits_OnesCount64_n3 (x3455 : Int) : Option (Int) :=
  (shr .u64 x3455 4).bind fun (v3460 : Int) => some (iand .u64 (IntKind.wrap .u64 (v3460 + x3455)) 1085102592571150095)

def math_bits_OnesCount64_n4 (x3462 : Int) : Option (Int) :=
  (shr .u64 x3462 8).bind fun (v3465 : Int) => some (IntKind.wrap .u64 (x3462 + v3465))

def math_bits_OnesCount64_n5 (x3466 : Int) : Option (Int) :=
  (shr .u64 x3466 16).bind fun (v3470 : Int) => some (IntKind.wrap .u64 (x3466 + v3470))

def math_bits_OnesCount64_n6 (x3471 : Int) : Option (Int) :=
  (shr .u64 x3471 32).bind fun (v3475 : Int) => some (IntKind.wrap .u64 (x3471 + v3475))

def math_bits_OnesCount64_n7 (x3476 : Int) : Option (Int) :=
  some (iand .i64 (IntKind.wrap .i64 x3476) 127)

def math_bits_OnesCount64_n8 (x3481 : Int) : Option (Int) :=
  some x3481

def math_bits_OnesCount64_n9 (x3476 : Int) : Option (Int) :=
  (math_bits_OnesCount64_n7 x3476).bind (fun (t : Int) => math_bits_OnesCount64_n8 t)

def math_bits_OnesCount64_n10 (x3471 : Int) : Option (Int) :=
  (math_bits_OnesCount64_n6 x3471).bind (fun (t : Int) => math_bits_OnesCount64_n9 t)

def math_bits_OnesCount64_n11 (x3466 : Int) : Option (Int) :=
  (math_bits_OnesCount64_n5 x3466).bind (fun (t : Int) => math_bits_OnesCount64_n10 t)

def math_bits_OnesCount64_n12 (x3462 : Int) : Option (Int) :=
  (math_bits_OnesCount64_n4 x3462).bind (fun (t : Int) => math_bits_OnesCount64_n11 t)

def math_bits_OnesCount64_n13 (x3455 : Int) : Option (Int) :=
  (math_bits_OnesCount64_n3 x3455).bind (fun (t : Int) => math_bits_OnesCount64_n12 t)

def math_bits_OnesCount64_n14 (x3438 : Int) : Option (Int) :=
  (math_bits_OnesCount64_n2 x3438).bind (fun (t : Int) => math_bits_OnesCount64_n13 t)

def math_bits_OnesCount64_n15 (x3433 : Int) : Option (Int) :=
  (math_bits_OnesCount64_n1 x3433).bind (fun (t : Int) => math_bits_OnesCount64_n14 t)

@[irreducible] def math_bits_OnesCount64 (x3433 : Int) : Option (Int) :=
  math_bits_OnesCount64_n15 x3433

def math_bits_OnesCount_n1 (x3432 : Int) : Option (Int) :=
  (math_bits_OnesCount64 x3432).bind fun (v3483 : Int) => some v3483

@[irreducible] def math_bits_OnesCount (x3432 : Int) : Option (Int) :=
  math_bits_OnesCount_n1 x3432

def impl_wordSet_count_n1 (x3431 : Int) : Option (Int) :=
  (math_bits_OnesCount x3431).bind fun (v3485 : Int) => some v3485

@[irreducible] def impl_wordSet_count (x3431 : Int) : Option (Int) :=
  impl_wordSet_count_n1 x3431

def math_bits_TrailingZeros64_n1 (x3492 : Int) : Option (Int) :=
  cond (x3492 == 0) (some 64) ((shr .u64 (IntKind.wrap .u64 ((iand .u64 x3492 (IntKind.wrap .u64 (0 - x3492))) * 285870213051353865)) 58).bind fun (v3509 : Int) => (same (List.length tab1) 64).bind fun (v3510 : Unit) => (idx tab1 v3509).bind fun (v3511 : Int) => some (IntKind.wrap .i64 v3511))

@[irreducible] def math_bits_TrailingZeros64 (x3492 : Int) : Option (Int) :=
  math_bits_TrailingZeros64_n1 x3492

def math_bits_TrailingZeros_n1 (x3491 : Int) : Option (Int) :=
  (math_bits_TrailingZeros64 x3491).bind fun (v3515 : Int) => some v3515

@[irreducible] def math_bits_TrailingZeros (x3491 : Int) : Option (Int) :=
  math_bits_TrailingZeros_n1 x3491

def impl_wordSet_list_n1 (x3430 : Int) : Option (((List Int))) :=
  (impl_wordSet_count x3430).bind fun (v3486 : Int) => (mk 0 v3486).bind fun (v3487 : Nat) => some (List.replicate v3487 (0 : Int))

def impl_wordSet_list_n2 : Option (Unit) :=
  some ()

def impl_wordSet_list_n3 (x3531 : Int) (x3532 : List Int) : Option ((Int × (List Int)) ⊕ ((List Int))) :=
  cond (x3531 != 0) ((math_bits_TrailingZeros x3531).bind fun (v3542 : Int) => (room ((List.length x3532) + List.length ([(IntKind.wrap .i64 (v3542 + 1))]))).bind fun (v3546 : Unit) => some (Sum.inl ((iand .u64 x3531 (IntKind.wrap .u64 (x3531 - 1))), (x3532 ++ ([(IntKind.wrap .i64 (v3542 + 1))]))))) (some (Sum.inr x3532))

def impl_wordSet_list_n4 (x3430 : Int) (x3488 : List Int) : Option (((List Int))) :=
  nloop (fun (s : Int × (List Int)) => ((impl_wordSet_list_n3 s.1 s.2).map (Sum.elim (fun (t : Int × (List Int)) => Sum.inl (t.1, t.2)) (fun (t : (List Int)) => Sum.inr t)) : Option ((Int × (List Int)) ⊕ (((List Int)))))) LL (x3430, x3488)

def impl_wordSet_list_n5 (x3430 : Int) (x3488 : List Int) : Option (((List Int))) :=
  (impl_wordSet_list_n4 x3430 x3488).map (fun (t : (List Int)) => t)

def impl_wordSet_list_n6 (x3430 : Int) (x3488 : List Int) : Option (((List Int))) :=
  (impl_wordSet_list_n2).bind (fun (t : Unit) => impl_wordSet_list_n5 x3430 x3488)

def impl_wordSet_list_n7 (x3532 : List Int) : Option (((List Int))) :=
  some x3532

def impl_wordSet_list_n8 (x3430 : Int) (x3488 : List Int) : Option (((List Int))) :=
  (impl_wordSet_list_n6 x3430 x3488).bind (fun (t : (List Int)) => impl_wordSet_list_n7 t)

def impl_wordSet_list_n9 (x3430 : Int) : Option (((List Int))) :=
  (impl_wordSet_list_n1 x3430).bind (fun (t : (List Int)) => impl_wordSet_list_n8 x3430 t)

@[irreducible] def impl_wordSet_list (x3430 : Int) : Option ((List Int)) :=
  impl_wordSet_list_n9 x3430

def impl_fillYields_n1 (R0 : (List Int) → Int → (List Int) → Option (Int × (List Int))) (x3380 : Int) : Option (Int) :=
  (impl_only x3380).bind fun (v3566 : Int) => some v3566

def impl_fillYields_n2 (R0 : (List Int) → Int → (List Int) → Option (Int × (List Int))) (x3379 : List Int) (x3380 : Int) : Option ((Int × (List Int))) :=
  (impl_dependents x3379 x3380).bind fun (v3567 : Int) => (impl_wordSet_list v3567).bind fun (v3568 : List Int) => some ((((List.length v3568 : Nat) : Int)), v3568)

def impl_fillYields_n3 (R0 : (List Int) → Int → (List Int) → Option (Int × (List Int))) (x3379 : List Int) (x3587 : Int) (x3569 : Int) (x3588 : Int) (x3589 : List Int) (x3568 : List Int) : Option ((Int × Int × (List Int)) ⊕ (Int × (List Int))) :=
  cond (decide (x3588 < x3569)) ((inb x3588 (List.length x3568)).bind fun (v3600 : Nat) => (x3568[v3600]?).bind fun (v3601 : Int) => (R0 x3379 v3601 x3589).bind fun (v3602 : Int × (List Int)) => some (Sum.inl ((ior .u64 x3587 (v3602.1)), (IntKind.wrap .i64 (x3588 + 1)), (v3602.2)))) (some (Sum.inr (x3587, x3589)))

def impl_fillYields_n4 (R0 : (List Int) → Int → (List Int) → Option (Int × (List Int))) (x3379 : List Int) (x3566 : Int) (x3569 : Int) (x3381 : List Int) (x3568 : List Int) : Option ((Int × (List Int))) :=
  nloop (fun (s : Int × Int × (List Int)) => ((impl_fillYields_n3 R0 x3379 s.1 x3569 s.2.1 s.2.2 x3568).map (Sum.elim (fun (t : Int × Int × (List Int)) => Sum.inl (t.1, t.2.1, t.2.2)) (fun (t : Int × (List Int)) => Sum.inr t)) : Option ((Int × Int × (List Int)) ⊕ ((Int × (List Int)))))) LL (x3566, 0, x3381)

def impl_fillYields_n5 (R0 : (List Int) → Int → (List Int) → Option (Int × (List Int))) (x3379 : List Int) (x3566 : Int) (x3569 : Int) (x3381 : List Int) (x3568 : List Int) : Option ((Int × (List Int))) :=
  (impl_fillYields_n4 R0 x3379 x3566 x3569 x3381 x3568).map (fun (t : Int × (List Int)) => (t.1, t.2))

def impl_fillYields_n6 (R0 : (List Int) → Int → (List Int) → Option (Int × (List Int))) (x3379 : List Int) (x3380 : Int) (x3566 : Int) (x3381 : List Int) : Option ((Int × (List Int))) :=
  (impl_fillYields_n2 R0 x3379 x3380).bind (fun (t : Int × (List Int)) => impl_fillYields_n5 R0 x3379 x3566 t.1 x3381 t.2)

def impl_fillYields_n7 (R0 : (List Int) → Int → (List Int) → Option (Int × (List Int))) (x3380 : Int) (x3587 : Int) (x3589 : List Int) : Option ((Int × (List Int))) :=
  (inb (IntKind.wrap .i64 (x3380 - 1)) (List.length x3589)).bind fun (v3614 : Nat) => some (x3587, (x3589.set v3614 x3587))

def impl_fillYields_n8 (R0 : (List Int) → Int → (List Int) → Option (Int × (List Int))) (x3379 : List Int) (x3380 : Int) (x3566 : Int) (x3381 : List Int) : Option ((Int × (List Int))) :=
  (impl_fillYields_n6 R0 x3379 x3380 x3566 x3381).bind (fun (t : Int × (List Int)) => impl_fillYields_n7 R0 x3380 t.1 t.2)

def impl_fillYields_n9 (R0 : (List Int) → Int → (List Int) → Option (Int × (List Int))) (x3379 : List Int) (x3380 : Int) (x3381 : List Int) : Option ((Int × (List Int))) :=
  (impl_fillYields_n1 R0 x3380).bind (fun (t : Int) => impl_fillYields_n8 R0 x3379 x3380 t x3381)

def impl_fillYields_one (R0 : (List Int) → Int → (List Int) → Option (Int × (List Int))) (x3379 : List Int) (x3380 : Int) (x3381 : List Int) : Option (Int × (List Int)) :=
  impl_fillYields_n9 R0 x3379 x3380 x3381

def impl_fillYields_knot : Nat → ((List Int) → Int → (List Int) → Option (Int × (List Int)))
  | 0 => (fun _ _ _ => none)
  | n + 1 => (fun y0 y1 y2 => impl_fillYields_one (impl_fillYields_knot n) y0 y1 y2)

def impl_fillYields_fuel (n : Nat) : (List Int) → Int → (List Int) → Option (Int × (List Int)) := (impl_fillYields_knot n)

@[irreducible] def impl_fillYields (x3379 : List Int) (x3380 : Int) (x3381 : List Int) : Option (Int × (List Int)) := impl_fillYields_fuel RR x3379 x3380 x3381

def impl_yieldsOf_n1 (x3346 : List Int) : Option (((List Int))) :=
  (mk (((List.length x3346 : Nat) : Int)) (((List.length x3346 : Nat) : Int))).bind fun (v3627 : Nat) => (impl_RootOf x3346).bind fun (v3629 : Int) => (impl_fillYields x3346 v3629 (List.replicate v3627 (0 : Int))).bind fun (v3630 : Int × (List Int)) => some (v3630.2)

@[irreducible] def impl_yieldsOf (x3346 : List Int) : Option ((List Int)) :=
  impl_yieldsOf_n1 x3346

def impl_wordSet_isRow_n1 (x3640 : Int) : Option (Bool) :=
  some ((iand .u64 x3640 (IntKind.wrap .u64 (x3640 + (iand .u64 x3640 (IntKind.wrap .u64 (0 - x3640)))))) == 0)

@[irreducible] def impl_wordSet_isRow (x3640 : Int) : Option (Bool) :=
  impl_wordSet_isRow_n1 x3640

def impl_FlatOk_n1 (x3343 : List Int) : Option (Unit ⊕ Bool) :=
  (impl_TreeOk x3343).bind fun (v3344 : Bool) => cond (!v3344) (some (Sum.inr false)) (some (Sum.inl ()))

def impl_FlatOk_n2 (x3343 : List Int) : Option ((Int × (List Int))) :=
  (impl_yieldsOf x3343).bind fun (v3633 : List Int) => some ((((List.length v3633 : Nat) : Int)), v3633)

def impl_FlatOk_n3 (x3634 : Int) (x3661 : Int) (x3633 : List Int) : Option (Int ⊕ Bool ⊕ Unit) :=
  cond (decide (x3661 < x3634)) ((inb x3661 (List.length x3633)).bind fun (v3670 : Nat) => (x3633[v3670]?).bind fun (v3671 : Int) => (impl_wordSet_isRow v3671).bind fun (v3672 : Bool) => cond (!v3672) (some (Sum.inr (Sum.inl false))) (some (Sum.inl (IntKind.wrap .i64 (x3661 + 1))))) (some (Sum.inr (Sum.inr ())))

def impl_FlatOk_n4 (x3634 : Int) (x3633 : List Int) : Option (Bool ⊕ Unit) :=
  nloop (fun (s : Int) => ((impl_FlatOk_n3 x3634 s x3633).map (Sum.elim (fun (t : Int) => Sum.inl t) (Sum.elim (fun (t : Bool) => Sum.inr (Sum.inl t)) (fun (t : Unit) => Sum.inr (Sum.inr t)))) : Option ((Int) ⊕ (Bool ⊕ Unit)))) LL 0

def impl_FlatOk_n5 (x3634 : Int) (x3633 : List Int) : Option (Unit ⊕ Bool) :=
  (impl_FlatOk_n4 x3634 x3633).map (Sum.elim (fun (t : Bool) => (Sum.inr t)) (fun (t : Unit) => (Sum.inl ())))

def impl_FlatOk_n6 (x3343 : List Int) : Option (Unit ⊕ Bool) :=
  (impl_FlatOk_n2 x3343).bind (fun (t : Int × (List Int)) => impl_FlatOk_n5 t.1 t.2)

def impl_FlatOk_n7 : Option (Bool) :=
  some true

def impl_FlatOk_n8 (x3343 : List Int) : Option (Bool) :=
  (impl_FlatOk_n6 x3343).bind (Sum.elim (fun (t : Unit) => impl_FlatOk_n7) (fun e => some ((fun (t : Bool) => t) e)))

def impl_FlatOk_n9 (x3343 : List Int) : Option (Bool) :=
  (impl_FlatOk_n1 x3343).bind (Sum.elim (fun (t : Unit) => impl_FlatOk_n8 x3343) (fun e => some ((fun (t : Bool) => t) e)))

@[irreducible] def impl_FlatOk (x3343 : List Int) : Option (Bool) :=
  impl_FlatOk_n9 x3343

def impl_stackMachine_putNext_v2_n1 (x12324 : Nat) (x12325 : Nat) (x12326 : Int) (x12327 : Int) (x12329 : List Int) (x12330 : List Int) : Option ((Bool × Nat × Nat × Int × Int × (List Int))) :=
  cond (x12326 == (((List.length x12329 : Nat) : Int))) (some (false, x12324, x12325, x12326, x12327, x12330)) ((room (x12325 + List.length ([(IntKind.wrap .i64 (x12326 + 1))]))).bind fun (v12444 : Unit) => some (true, 0, (List.length (((x12330.drop x12324).take x12325) ++ ([(IntKind.wrap .i64 (x12326 + 1))]))), (IntKind.wrap .i64 (x12326 + 1)), (imax x12327 (((List.length (((x12330.drop x12324).take x12325) ++ ([(IntKind.wrap .i64 (x12326 + 1))])) : Nat) : Int))), (((x12330.drop x12324).take x12325) ++ ([(IntKind.wrap .i64 (x12326 + 1))]))))

@[irreducible] def impl_stackMachine_putNext_v2 (x12324 : Nat) (x12325 : Nat) (x12326 : Int) (x12327 : Int) (x12328 : Int) (x12329 : List Int) (x12330 : List Int) : Option (Bool × Nat × Nat × Int × Int × (List Int)) :=
  impl_stackMachine_putNext_v2_n1 x12324 x12325 x12326 x12327 x12329 x12330

def spec_TreeOk_n1 (x5097 : List Int) : Option (Int ⊕ Bool) :=
  (spec_l1In (((List.length x5097 : Nat) : Int)) 1 8).bind fun (v5103 : Bool) => cond (!v5103) (some (Sum.inr false)) (some (Sum.inl (((List.length x5097 : Nat) : Int))))

def spec_TreeOk_n2 : Option (Unit) :=
  some ()

def spec_TreeOk_n3 (x5102 : Int) (x5169 : Int) (x5170 : Int) : Option (Unit ⊕ Int) :=
  cond (decide (x5170 < x5102)) (some (Sum.inl ())) (some (Sum.inr x5169))

def spec_TreeOk_n4 (x5097 : List Int) (x5102 : Int) (x5169 : Int) (x5170 : Int) : Option ((Int × Int) ⊕ Bool) :=
  (idx x5097 x5170).bind fun (v5187 : Int) => (spec_l1In v5187 0 x5102).bind fun (v5188 : Bool) => cond (!v5188) (some (Sum.inr false)) ((idx x5097 x5170).bind fun (v5190 : Int) => cond (v5190 == (IntKind.wrap .i64 (x5170 + 1))) (some (Sum.inr false)) ((idx x5097 x5170).bind fun (v5193 : Int) => cond (v5193 == 0) (some (Sum.inl ((IntKind.wrap .i64 (x5169 + 1)), (IntKind.wrap .i64 (x5170 + 1))))) (some (Sum.inl (x5169, (IntKind.wrap .i64 (x5170 + 1)))))))

def spec_TreeOk_n5 : Option (Unit) :=
  some ()

def spec_TreeOk_n6 (x5097 : List Int) (x5102 : Int) (x5215 : Int) (x5216 : Int) : Option ((Int × Int) ⊕ Bool ⊕ Int) :=
  cond (decide (x5215 > 0)) (cond (decide (x5216 < x5102)) ((idx x5097 (IntKind.wrap .i64 (x5215 - 1))).bind fun (v5228 : Int) => (spec_l1In v5228 0 x5102).bind fun (v5229 : Bool) => cond (!v5229) (some (Sum.inr (Sum.inl false))) (some (Sum.inl (v5228, (IntKind.wrap .i64 (x5216 + 1)))))) (some (Sum.inr (Sum.inr x5215)))) (some (Sum.inr (Sum.inr x5215)))

def spec_TreeOk_n7 (x5097 : List Int) (x5102 : Int) (x5199 : Int) : Option (Bool ⊕ Int) :=
  nloop (fun (s : Int × Int) => ((spec_TreeOk_n6 x5097 x5102 s.1 s.2).map (Sum.elim (fun (t : Int × Int) => Sum.inl (t.1, t.2)) (Sum.elim (fun (t : Bool) => Sum.inr (Sum.inl t)) (fun (t : Int) => Sum.inr (Sum.inr t)))) : Option ((Int × Int) ⊕ (Bool ⊕ Int)))) LL (x5199, 0)

def spec_TreeOk_n8 (x5097 : List Int) (x5102 : Int) (x5199 : Int) : Option (Int ⊕ Bool) :=
  (spec_TreeOk_n7 x5097 x5102 x5199).map (Sum.elim (fun (t : Bool) => (Sum.inr t)) (fun (t : Int) => (Sum.inl t)))

def spec_TreeOk_n9 (x5097 : List Int) (x5102 : Int) (x5199 : Int) : Option (Int ⊕ Bool) :=
  (spec_TreeOk_n5).bind (fun (t : Unit) => spec_TreeOk_n8 x5097 x5102 x5199)

def spec_TreeOk_n10 (x5215 : Int) : Option (Unit ⊕ Bool) :=
  cond (decide (x5215 > 0)) (some (Sum.inr false)) (some (Sum.inl ()))

def spec_TreeOk_n11 (x5097 : List Int) (x5102 : Int) (x5199 : Int) : Option (Unit ⊕ Bool) :=
  (spec_TreeOk_n9 x5097 x5102 x5199).bind (Sum.elim (fun (t : Int) => spec_TreeOk_n10 t) (fun e => some ((fun (t : Bool) => (Sum.inr t)) e)))

def spec_TreeOk_n12 (x5097 : List Int) (x5102 : Int) (x5169 : Int) (x5170 : Int) : Option (Int ⊕ Bool) :=
  (spec_TreeOk_n4 x5097 x5102 x5169 x5170).bind (Sum.elim (fun (t : Int × Int) => (spec_TreeOk_n11 x5097 x5102 t.2).map (Sum.elim (fun (u : Unit) => (Sum.inl t.1)) (fun (u : Bool) => (Sum.inr u)))) (fun e => some ((fun (t : Bool) => (Sum.inr t)) e)))

def spec_TreeOk_n13 (x5097 : List Int) (x5102 : Int) (x5169 : Int) (x5170 : Int) : Option (Int ⊕ Bool) :=
  (spec_TreeOk_n12 x5097 x5102 x5169 x5170).map (Sum.elim (fun (t : Int) => (Sum.inl t)) (fun (t : Bool) => (Sum.inr t)))

def spec_TreeOk_n14 (x5170 : Int) : Option (Int) :=
  some (IntKind.wrap .i64 (x5170 + 1))

def spec_TreeOk_n15 (x5097 : List Int) (x5102 : Int) (x5169 : Int) (x5170 : Int) : Option ((Int × Int) ⊕ Bool) :=
  (spec_TreeOk_n13 x5097 x5102 x5169 x5170).bind (Sum.elim (fun (t : Int) => (spec_TreeOk_n14 x5170).map (fun (u : Int) => (Sum.inl (t, u)))) (fun e => some ((fun (t : Bool) => (Sum.inr t)) e)))

def spec_TreeOk_n16 (x5097 : List Int) (x5102 : Int) (x5169 : Int) (x5170 : Int) : Option ((Int × Int) ⊕ Bool ⊕ Int) :=
  (spec_TreeOk_n3 x5102 x5169 x5170).bind (Sum.elim (fun (t : Unit) => (spec_TreeOk_n15 x5097 x5102 x5169 x5170).map (Sum.elim (fun (t : Int × Int) => (Sum.inl (t.1, t.2))) (fun (t : Bool) => (Sum.inr (Sum.inl t))))) (fun e => some ((fun (t : Int) => (Sum.inr (Sum.inr t))) e)))

def spec_TreeOk_n17 (x5097 : List Int) (x5102 : Int) : Option (Bool ⊕ Int) :=
  nloop (fun (s : Int × Int) => ((spec_TreeOk_n16 x5097 x5102 s.1 s.2).map (Sum.elim (fun (t : Int × Int) => Sum.inl (t.1, t.2)) (Sum.elim (fun (t : Bool) => Sum.inr (Sum.inl t)) (fun (t : Int) => Sum.inr (Sum.inr t)))) : Option ((Int × Int) ⊕ (Bool ⊕ Int)))) LL (0, 0)

def spec_TreeOk_n18 (x5097 : List Int) (x5102 : Int) : Option (Int ⊕ Bool) :=
  (spec_TreeOk_n17 x5097 x5102).map (Sum.elim (fun (t : Bool) => (Sum.inr t)) (fun (t : Int) => (Sum.inl t)))

def spec_TreeOk_n19 (x5097 : List Int) (x5102 : Int) : Option (Int ⊕ Bool) :=
  (spec_TreeOk_n2).bind (fun (t : Unit) => spec_TreeOk_n18 x5097 x5102)

def spec_TreeOk_n20 (x5169 : Int) : Option (Bool) :=
  some (x5169 == 1)

def spec_TreeOk_n21 (x5097 : List Int) (x5102 : Int) : Option (Bool) :=
  (spec_TreeOk_n19 x5097 x5102).bind (Sum.elim (fun (t : Int) => spec_TreeOk_n20 t) (fun e => some ((fun (t : Bool) => t) e)))

def spec_TreeOk_n22 (x5097 : List Int) : Option (Bool) :=
  (spec_TreeOk_n1 x5097).bind (Sum.elim (fun (t : Int) => spec_TreeOk_n21 x5097 t) (fun e => some ((fun (t : Bool) => t) e)))

@[irreducible] def spec_TreeOk (x5097 : List Int) : Option (Bool) :=
  spec_TreeOk_n22 x5097

def spec_l2Yield_n1 (R0 : (List Int) → Int → Option Int) (x5243 : Int) : Option (Int) :=
  (shl .i64 1 (IntKind.wrap .i64 (x5243 - 1))).bind fun (v5274 : Int) => some v5274

def spec_l2Yield_n2 (R0 : (List Int) → Int → Option Int) : Option (Unit) :=
  some ()

def spec_l2Yield_n3 (R0 : (List Int) → Int → Option Int) (x5242 : List Int) (x5243 : Int) (x5295 : Int) (x5296 : Int) : Option ((Int × Int) ⊕ Int) :=
  cond (decide (x5296 < (((List.length x5242 : Nat) : Int)))) ((idx x5242 x5296).bind fun (v5308 : Int) => cond (v5308 == x5243) ((R0 x5242 (IntKind.wrap .i64 (x5296 + 1))).bind fun (v5311 : Int) => some (Sum.inl ((ior .i64 x5295 v5311), (IntKind.wrap .i64 (x5296 + 1))))) (some (Sum.inl (x5295, (IntKind.wrap .i64 (x5296 + 1)))))) (some (Sum.inr x5295))

def spec_l2Yield_n4 (R0 : (List Int) → Int → Option Int) (x5242 : List Int) (x5243 : Int) (x5274 : Int) : Option (Int) :=
  nloop (fun (s : Int × Int) => ((spec_l2Yield_n3 R0 x5242 x5243 s.1 s.2).map (Sum.elim (fun (t : Int × Int) => Sum.inl (t.1, t.2)) (fun (t : Int) => Sum.inr t)) : Option ((Int × Int) ⊕ (Int)))) LL (x5274, 0)

def spec_l2Yield_n5 (R0 : (List Int) → Int → Option Int) (x5242 : List Int) (x5243 : Int) (x5274 : Int) : Option (Int) :=
  (spec_l2Yield_n4 R0 x5242 x5243 x5274).map (fun (t : Int) => t)

def spec_l2Yield_n6 (R0 : (List Int) → Int → Option Int) (x5242 : List Int) (x5243 : Int) (x5274 : Int) : Option (Int) :=
  (spec_l2Yield_n2 R0).bind (fun (t : Unit) => spec_l2Yield_n5 R0 x5242 x5243 x5274)

def spec_l2Yield_n7 (R0 : (List Int) → Int → Option Int) (x5295 : Int) : Option (Int) :=
  some x5295

def spec_l2Yield_n8 (R0 : (List Int) → Int → Option Int) (x5242 : List Int) (x5243 : Int) (x5274 : Int) : Option (Int) :=
  (spec_l2Yield_n6 R0 x5242 x5243 x5274).bind (fun (t : Int) => spec_l2Yield_n7 R0 t)

def spec_l2Yield_n9 (R0 : (List Int) → Int → Option Int) (x5242 : List Int) (x5243 : Int) : Option (Int) :=
  (spec_l2Yield_n1 R0 x5243).bind (fun (t : Int) => spec_l2Yield_n8 R0 x5242 x5243 t)

def spec_l2Yield_one (R0 : (List Int) → Int → Option Int) (x5242 : List Int) (x5243 : Int) : Option (Int) :=
  spec_l2Yield_n9 R0 x5242 x5243

def spec_l2Yield_knot : Nat → ((List Int) → Int → Option Int)
  | 0 => (fun _ _ => none)
  | n + 1 => (fun y0 y1 => spec_l2Yield_one (spec_l2Yield_knot n) y0 y1)

def spec_l2Yield_fuel (n : Nat) : (List Int) → Int → Option Int := (spec_l2Yield_knot n)

@[irreducible] def spec_l2Yield (x5242 : List Int) (x5243 : Int) : Option (Int) := spec_l2Yield_fuel RR x5242 x5243

def spec_l3Row_n1 : Option (Unit) :=
  some ()

def spec_l3Row_n2 (x5324 : Int) : Option (Int ⊕ Int) :=
  (rem x5324 2).bind fun (v5327 : Int) => cond (v5327 == 0) ((quo .i64 x5324 2).bind fun (v5329 : Int) => some (Sum.inl v5329)) (some (Sum.inr x5324))

def spec_l3Row_n3 (x5318 : Int) : Option (Int) :=
  nloop (fun (s : Int) => ((spec_l3Row_n2 s).map (Sum.elim (fun (t : Int) => Sum.inl t) (fun (t : Int) => Sum.inr t)) : Option ((Int) ⊕ (Int)))) LL x5318

def spec_l3Row_n4 (x5318 : Int) : Option (Int) :=
  (spec_l3Row_n3 x5318).map (fun (t : Int) => t)

def spec_l3Row_n5 (x5324 : Int) : Option (Bool) :=
  some ((iand .i64 x5324 (IntKind.wrap .i64 (x5324 + 1))) == 0)

def spec_l3Row_n6 (x5318 : Int) : Option (Bool) :=
  (spec_l3Row_n4 x5318).bind (fun (t : Int) => spec_l3Row_n5 t)

def spec_l3Row_n7 (x5318 : Int) : Option (Bool) :=
  (spec_l3Row_n1).bind (fun (t : Unit) => spec_l3Row_n6 x5318)

@[irreducible] def spec_l3Row (x5318 : Int) : Option (Bool) :=
  spec_l3Row_n7 x5318

def spec_FlatOk_n1 : Option (Unit) :=
  some ()

def spec_FlatOk_n2 : Option (Unit) :=
  some ()

def spec_FlatOk_n3 (x5094 : List Int) (x5345 : Int) : Option (Int ⊕ Bool ⊕ Unit) :=
  cond (decide (x5345 ≤ (((List.length x5094 : Nat) : Int)))) ((spec_TreeOk x5094).bind fun (v5357 : Bool) => cond v5357 ((spec_l2Yield x5094 x5345).bind fun (v5358 : Int) => (spec_l3Row v5358).bind fun (v5359 : Bool) => cond (!v5359) (some (Sum.inr (Sum.inl false))) (some (Sum.inl (IntKind.wrap .i64 (x5345 + 1))))) (some (Sum.inr (Sum.inr ())))) (some (Sum.inr (Sum.inr ())))

def spec_FlatOk_n4 (x5094 : List Int) : Option (Bool ⊕ Unit) :=
  nloop (fun (s : Int) => ((spec_FlatOk_n3 x5094 s).map (Sum.elim (fun (t : Int) => Sum.inl t) (Sum.elim (fun (t : Bool) => Sum.inr (Sum.inl t)) (fun (t : Unit) => Sum.inr (Sum.inr t)))) : Option ((Int) ⊕ (Bool ⊕ Unit)))) LL 1

def spec_FlatOk_n5 (x5094 : List Int) : Option (Unit ⊕ Bool) :=
  (spec_FlatOk_n4 x5094).map (Sum.elim (fun (t : Bool) => (Sum.inr t)) (fun (t : Unit) => (Sum.inl ())))

def spec_FlatOk_n6 (x5094 : List Int) : Option (Unit ⊕ Bool) :=
  (spec_FlatOk_n2).bind (fun (t : Unit) => spec_FlatOk_n5 x5094)

def spec_FlatOk_n7 (x5094 : List Int) : Option (Bool) :=
  (spec_TreeOk x5094).bind fun (v5363 : Bool) => some v5363

def spec_FlatOk_n8 (x5094 : List Int) : Option (Bool) :=
  (spec_FlatOk_n6 x5094).bind (Sum.elim (fun (t : Unit) => spec_FlatOk_n7 x5094) (fun e => some ((fun (t : Bool) => t) e)))

def spec_FlatOk_n9 (x5094 : List Int) : Option (Bool) :=
  (spec_FlatOk_n1).bind (fun (t : Unit) => spec_FlatOk_n8 x5094)

@[irreducible] def spec_FlatOk (x5094 : List Int) : Option (Bool) :=
  spec_FlatOk_n9 x5094

def spec_l7Rule_n1 (x6596 : List Int) (x6597 : List Int) (x6598 : Int) : Option (Int ⊕ ByteArray) :=
  cond (decide ((IntKind.wrap .i64 ((((List.length x6597 : Nat) : Int)) - 1)) < 0)) (some (Sum.inr (ByteArray.mk #[83]))) ((idx x6597 (IntKind.wrap .i64 ((((List.length x6597 : Nat) : Int)) - 1))).bind fun (v6611 : Int) => (idx x6596 (IntKind.wrap .i64 (v6611 - 1))).bind fun (v6613 : Int) => cond (v6613 == x6598) (some (Sum.inr (ByteArray.mk #[76]))) ((idx x6596 (IntKind.wrap .i64 (x6598 - 1))).bind fun (v6616 : Int) => cond (v6616 == v6611) (some (Sum.inr (ByteArray.mk #[82]))) (some (Sum.inl (IntKind.wrap .i64 ((((List.length x6597 : Nat) : Int)) - 1))))))

def spec_l7Rule_n2 : Option (Unit) :=
  some ()

def spec_l7Rule_n3 (x6596 : List Int) (x6597 : List Int) (x6598 : Int) (x6609 : Int) (x6639 : Int) : Option (Int ⊕ ByteArray ⊕ Unit) :=
  cond (decide (x6639 < x6609)) ((idx x6596 (IntKind.wrap .i64 (x6598 - 1))).bind fun (v6652 : Int) => (idx x6597 x6639).bind fun (v6653 : Int) => cond (v6652 == v6653) (some (Sum.inr (Sum.inl (ByteArray.mk #[68])))) ((idx x6597 x6639).bind fun (v6655 : Int) => (idx x6596 (IntKind.wrap .i64 (v6655 - 1))).bind fun (v6657 : Int) => cond (v6657 == x6598) (some (Sum.inr (Sum.inl (ByteArray.mk #[68])))) (some (Sum.inl (IntKind.wrap .i64 (x6639 + 1)))))) (some (Sum.inr (Sum.inr ())))

def spec_l7Rule_n4 (x6596 : List Int) (x6597 : List Int) (x6598 : Int) (x6609 : Int) : Option (ByteArray ⊕ Unit) :=
  nloop (fun (s : Int) => ((spec_l7Rule_n3 x6596 x6597 x6598 x6609 s).map (Sum.elim (fun (t : Int) => Sum.inl t) (Sum.elim (fun (t : ByteArray) => Sum.inr (Sum.inl t)) (fun (t : Unit) => Sum.inr (Sum.inr t)))) : Option ((Int) ⊕ (ByteArray ⊕ Unit)))) LL 0

def spec_l7Rule_n5 (x6596 : List Int) (x6597 : List Int) (x6598 : Int) (x6609 : Int) : Option (Unit ⊕ ByteArray) :=
  (spec_l7Rule_n4 x6596 x6597 x6598 x6609).map (Sum.elim (fun (t : ByteArray) => (Sum.inr t)) (fun (t : Unit) => (Sum.inl ())))

def spec_l7Rule_n6 (x6596 : List Int) (x6597 : List Int) (x6598 : Int) (x6609 : Int) : Option (Unit ⊕ ByteArray) :=
  (spec_l7Rule_n2).bind (fun (t : Unit) => spec_l7Rule_n5 x6596 x6597 x6598 x6609)

def spec_l7Rule_n7 : Option (ByteArray) :=
  some (ByteArray.mk #[83])

def spec_l7Rule_n8 (x6596 : List Int) (x6597 : List Int) (x6598 : Int) (x6609 : Int) : Option (ByteArray) :=
  (spec_l7Rule_n6 x6596 x6597 x6598 x6609).bind (Sum.elim (fun (t : Unit) => spec_l7Rule_n7) (fun e => some ((fun (t : ByteArray) => t) e)))

def spec_l7Rule_n9 (x6596 : List Int) (x6597 : List Int) (x6598 : Int) : Option (ByteArray) :=
  (spec_l7Rule_n1 x6596 x6597 x6598).bind (Sum.elim (fun (t : Int) => spec_l7Rule_n8 x6596 x6597 x6598 t) (fun e => some ((fun (t : ByteArray) => t) e)))

@[irreducible] def spec_l7Rule (x6596 : List Int) (x6597 : List Int) (x6598 : Int) : Option (ByteArray) :=
  spec_l7Rule_n9 x6596 x6597 x6598

def spec_l7Step_n1 (x6663 : List Int) : Option (Int) :=
  some (IntKind.wrap .i64 ((((List.length x6663 : Nat) : Int)) - 1))

def spec_l7Step_n2 (x6664 : Int) (x6665 : Int) (x6666 : List Int) : Option (Bool) :=
  cond (x6665 == 83) (some (decide (x6664 ≤ (((List.length x6666 : Nat) : Int))))) (some false)

def spec_l7Step_n3 (x6663 : List Int) (x6664 : Int) (x6666 : List Int) : Option (((List Int) × Int × Bool × (List Int))) :=
  (room ((List.length ([] : List Int)) + List.length x6663)).bind fun (v7548 : Unit) => (room ((List.length (([] : List Int) ++ x6663)) + List.length ([x6664]))).bind fun (v7552 : Unit) => some (((([] : List Int) ++ x6663) ++ ([x6664])), (IntKind.wrap .i64 (x6664 + 1)), true, x6666)

def spec_l7Step_n4 (x6663 : List Int) (x6664 : Int) (x6665 : Int) (x7195 : Int) (x6666 : List Int) : Option (Bool) :=
  cond (x6665 == 76) (cond (decide (x6664 ≤ (((List.length x6666 : Nat) : Int)))) (cond (decide (x7195 ≥ 0)) ((idx x6663 x7195).bind fun (v7559 : Int) => (inb (IntKind.wrap .i64 (v7559 - 1)) (List.length x6666)).bind fun (v7561 : Nat) => (x6666[v7561]?).bind fun (v7562 : Int) => some (decide (v7562 < 0))) (some false)) (some false)) (some false)

def spec_l7Step_n5 (x6663 : List Int) (x6664 : Int) (x6665 : Int) (x7195 : Int) (x7654 : Bool) (x6666 : List Int) : Option (Unit ⊕ ((List Int) × Int × Bool × (List Int))) :=
  cond x7654 ((idx x6663 x7195).bind fun (v7655 : Int) => (inb (IntKind.wrap .i64 (v7655 - 1)) (List.length x6666)).bind fun (v7657 : Nat) => (inc x7195 (List.length x6663)).bind fun (v7660 : Nat) => (room ((List.length ([] : List Int)) + List.length ((x6663.take v7660).drop 0))).bind fun (v7663 : Unit) => some (Sum.inr ((([] : List Int) ++ ((x6663.take v7660).drop 0)), x6664, true, (x6666.set v7657 x6664)))) (cond (x6665 == 82) (cond (decide (x6664 ≤ (((List.length x6666 : Nat) : Int)))) (cond (decide (x7195 ≥ 0)) ((idx x6663 x7195).bind fun (v7670 : Int) => (inb (IntKind.wrap .i64 (x6664 - 1)) (List.length x6666)).bind fun (v7671 : Nat) => (room ((List.length ([] : List Int)) + List.length x6663)).bind fun (v7674 : Unit) => (room ((List.length (([] : List Int) ++ x6663)) + List.length ([x6664]))).bind fun (v7678 : Unit) => some (Sum.inr (((([] : List Int) ++ x6663) ++ ([x6664])), (IntKind.wrap .i64 (x6664 + 1)), true, (x6666.set v7671 v7670)))) (cond (x6665 == 68) (cond (decide (x7195 ≥ 0)) ((idx x6663 x7195).bind fun (v7683 : Int) => (inb (IntKind.wrap .i64 (v7683 - 1)) (List.length x6666)).bind fun (v7685 : Nat) => (x6666[v7685]?).bind fun (v7686 : Int) => cond (decide (v7686 > 0)) ((inc x7195 (List.length x6663)).bind fun (v7689 : Nat) => (room ((List.length ([] : List Int)) + List.length ((x6663.take v7689).drop 0))).bind fun (v7692 : Unit) => some (Sum.inr ((([] : List Int) ++ ((x6663.take v7689).drop 0)), x6664, true, x6666))) (some (Sum.inl ()))) (some (Sum.inl ()))) (some (Sum.inl ())))) (cond (x6665 == 68) (cond (decide (x7195 ≥ 0)) ((idx x6663 x7195).bind fun (v7696 : Int) => (inb (IntKind.wrap .i64 (v7696 - 1)) (List.length x6666)).bind fun (v7698 : Nat) => (x6666[v7698]?).bind fun (v7699 : Int) => cond (decide (v7699 > 0)) ((inc x7195 (List.length x6663)).bind fun (v7702 : Nat) => (room ((List.length ([] : List Int)) + List.length ((x6663.take v7702).drop 0))).bind fun (v7705 : Unit) => some (Sum.inr ((([] : List Int) ++ ((x6663.take v7702).drop 0)), x6664, true, x6666))) (some (Sum.inl ()))) (some (Sum.inl ()))) (some (Sum.inl ())))) (cond (x6665 == 68) (cond (decide (x7195 ≥ 0)) ((idx x6663 x7195).bind fun (v7709 : Int) => (inb (IntKind.wrap .i64 (v7709 - 1)) (List.length x6666)).bind fun (v7711 : Nat) => (x6666[v7711]?).bind fun (v7712 : Int) => cond (decide (v7712 > 0)) ((inc x7195 (List.length x6663)).bind fun (v7715 : Nat) => (room ((List.length ([] : List Int)) + List.length ((x6663.take v7715).drop 0))).bind fun (v7718 : Unit) => some (Sum.inr ((([] : List Int) ++ ((x6663.take v7715).drop 0)), x6664, true, x6666))) (some (Sum.inl ()))) (some (Sum.inl ()))) (some (Sum.inl ()))))

def spec_l7Step_n6 (x6663 : List Int) (x6664 : Int) (x6665 : Int) (x7195 : Int) (x6666 : List Int) : Option (Unit ⊕ ((List Int) × Int × Bool × (List Int))) :=
  (spec_l7Step_n4 x6663 x6664 x6665 x7195 x6666).bind (fun (t : Bool) => spec_l7Step_n5 x6663 x6664 x6665 x7195 t x6666)

def spec_l7Step_n7 (x6663 : List Int) (x6664 : Int) (x6665 : Int) (x7195 : Int) (x7456 : Bool) (x6666 : List Int) : Option (Unit ⊕ ((List Int) × Int × Bool × (List Int))) :=
  cond x7456 ((spec_l7Step_n3 x6663 x6664 x6666).map (fun (t : (List Int) × Int × Bool × (List Int)) => (Sum.inr t))) (spec_l7Step_n6 x6663 x6664 x6665 x7195 x6666)

def spec_l7Step_n8 (x6663 : List Int) (x6664 : Int) (x6665 : Int) (x7195 : Int) (x6666 : List Int) : Option (Unit ⊕ ((List Int) × Int × Bool × (List Int))) :=
  (spec_l7Step_n2 x6664 x6665 x6666).bind (fun (t : Bool) => spec_l7Step_n7 x6663 x6664 x6665 x7195 t x6666)

def spec_l7Step_n9 (x6663 : List Int) (x6664 : Int) (x6665 : Int) (x7195 : Int) (x6666 : List Int) : Option (Unit ⊕ ((List Int) × Int × Bool × (List Int))) :=
  (spec_l7Step_n8 x6663 x6664 x6665 x7195 x6666).map (Sum.elim (fun (t : Unit) => (Sum.inl ())) (fun (t : (List Int) × Int × Bool × (List Int)) => (Sum.inr t)))

def spec_l7Step_n10 (x6663 : List Int) (x6664 : Int) (x6666 : List Int) : Option (((List Int) × Int × Bool × (List Int))) :=
  some (x6663, x6664, false, x6666)

def spec_l7Step_n11 (x6663 : List Int) (x6664 : Int) (x6665 : Int) (x7195 : Int) (x6666 : List Int) : Option (((List Int) × Int × Bool × (List Int))) :=
  (spec_l7Step_n9 x6663 x6664 x6665 x7195 x6666).bind (Sum.elim (fun (t : Unit) => spec_l7Step_n10 x6663 x6664 x6666) (fun e => some ((fun (t : (List Int) × Int × Bool × (List Int)) => t) e)))

def spec_l7Step_n12 (x6663 : List Int) (x6664 : Int) (x6665 : Int) (x6666 : List Int) : Option (((List Int) × Int × Bool × (List Int))) :=
  (spec_l7Step_n1 x6663).bind (fun (t : Int) => spec_l7Step_n11 x6663 x6664 x6665 t x6666)

@[irreducible] def spec_l7Step (x6663 : List Int) (x6664 : Int) (x6665 : Int) (x6666 : List Int) : Option ((List Int) × Int × Bool × (List Int)) :=
  spec_l7Step_n12 x6663 x6664 x6665 x6666

def spec_EagerFor_n1 (x6555 : List Int) : Option (Unit ⊕ (ByteArray × Bool)) :=
  (spec_FlatOk x6555).bind fun (v7775 : Bool) => cond (!v7775) (some (Sum.inr (ByteArray.empty, false))) (some (Sum.inl ()))

def spec_EagerFor_n2 : Option (Unit) :=
  some ()

def spec_EagerFor_n3 (x6555 : List Int) (x7792 : Int) (x7793 : List Int) : Option ((Int × (List Int)) ⊕ ((List Int))) :=
  cond (decide (x7792 < (((List.length x6555 : Nat) : Int)))) ((room ((List.length x7793) + List.length ([(-1)]))).bind fun (v7806 : Unit) => some (Sum.inl ((IntKind.wrap .i64 (x7792 + 1)), (x7793 ++ ([(-1)]))))) (some (Sum.inr x7793))

def spec_EagerFor_n4 (x6555 : List Int) : Option (((List Int))) :=
  nloop (fun (s : Int × (List Int)) => ((spec_EagerFor_n3 x6555 s.1 s.2).map (Sum.elim (fun (t : Int × (List Int)) => Sum.inl (t.1, t.2)) (fun (t : (List Int)) => Sum.inr t)) : Option ((Int × (List Int)) ⊕ (((List Int)))))) LL (0, ([] : List Int))

def spec_EagerFor_n5 (x6555 : List Int) : Option (((List Int))) :=
  (spec_EagerFor_n4 x6555).map (fun (t : (List Int)) => t)

def spec_EagerFor_n6 (x6555 : List Int) : Option (((List Int))) :=
  (spec_EagerFor_n2).bind (fun (t : Unit) => spec_EagerFor_n5 x6555)

def spec_EagerFor_n7 : Option (Unit) :=
  some ()

def spec_EagerFor_n8 (x6555 : List Int) (x7822 : List Int) (x7823 : ByteArray) (x7824 : Int) (x7825 : List Int) : Option (((List Int) × ByteArray × Int × (List Int)) ⊕ (ByteArray × Bool) ⊕ ByteArray) :=
  cond (decide (x7824 ≤ (((List.length x6555 : Nat) : Int)))) ((spec_l7Rule x6555 x7822 x7824).bind fun (v7830 : ByteArray) => (bidx v7830 0).bind fun (v7831 : Int) => (spec_l7Step x7822 x7824 v7831 x7825).bind fun (v7832 : (List Int) × Int × Bool × (List Int)) => cond (!(v7832.2.2.1)) (some (Sum.inr (Sum.inl (ByteArray.empty, false)))) ((cat x7823 v7830).bind fun (v7838 : ByteArray) => some (Sum.inl ((v7832.1), v7838, (v7832.2.1), (v7832.2.2.2))))) (some (Sum.inr (Sum.inr x7823)))

def spec_EagerFor_n9 (x6555 : List Int) (x7793 : List Int) : Option ((ByteArray × Bool) ⊕ ByteArray) :=
  nloop (fun (s : (List Int) × ByteArray × Int × (List Int)) => ((spec_EagerFor_n8 x6555 s.1 s.2.1 s.2.2.1 s.2.2.2).map (Sum.elim (fun (t : (List Int) × ByteArray × Int × (List Int)) => Sum.inl (t.1, t.2.1, t.2.2.1, t.2.2.2)) (Sum.elim (fun (t : ByteArray × Bool) => Sum.inr (Sum.inl t)) (fun (t : ByteArray) => Sum.inr (Sum.inr t)))) : Option (((List Int) × ByteArray × Int × (List Int)) ⊕ ((ByteArray × Bool) ⊕ ByteArray)))) LL (([] : List Int), ByteArray.empty, 1, x7793)

def spec_EagerFor_n10 (x6555 : List Int) (x7793 : List Int) : Option (ByteArray ⊕ (ByteArray × Bool)) :=
  (spec_EagerFor_n9 x6555 x7793).map (Sum.elim (fun (t : ByteArray × Bool) => (Sum.inr t)) (fun (t : ByteArray) => (Sum.inl t)))

def spec_EagerFor_n11 (x7823 : ByteArray) : Option ((ByteArray × Bool)) :=
  some (x7823, true)

def spec_EagerFor_n12 (x6555 : List Int) (x7793 : List Int) : Option ((ByteArray × Bool)) :=
  (spec_EagerFor_n10 x6555 x7793).bind (Sum.elim (fun (t : ByteArray) => spec_EagerFor_n11 t) (fun e => some ((fun (t : ByteArray × Bool) => t) e)))

def spec_EagerFor_n13 (x6555 : List Int) (x7793 : List Int) : Option ((ByteArray × Bool)) :=
  (spec_EagerFor_n7).bind (fun (t : Unit) => spec_EagerFor_n12 x6555 x7793)

def spec_EagerFor_n14 (x6555 : List Int) : Option ((ByteArray × Bool)) :=
  (spec_EagerFor_n6 x6555).bind (fun (t : (List Int)) => spec_EagerFor_n13 x6555 t)

def spec_EagerFor_n15 (x6555 : List Int) : Option ((ByteArray × Bool)) :=
  (spec_EagerFor_n1 x6555).bind (Sum.elim (fun (t : Unit) => spec_EagerFor_n14 x6555) (fun e => some ((fun (t : ByteArray × Bool) => t) e)))

@[irreducible] def spec_EagerFor (x6555 : List Int) : Option (ByteArray × Bool) :=
  spec_EagerFor_n15 x6555

def impl_newEagerMachine_n1 (x11260 : Int) : Option (((List Int))) :=
  (impl_newStackMachine x11260).bind fun (v11262 : List Int) => some v11262

@[irreducible] def impl_newEagerMachine (x11260 : Int) : Option ((List Int)) :=
  impl_newEagerMachine_n1 x11260

@[irreducible] def impl_eagerMoves : Option (Unit) :=
  some ()

def impl_eagerMachine_upperAndNext_n1 (x12471 : Nat) (x12472 : Nat) (x12473 : Int) (x12476 : List Int) (x12477 : List Int) : Option ((Int × Int × Bool)) :=
  cond ((((x12472 : Nat) : Int)) == 0) (some (0, 0, false)) (cond (x12473 == (((List.length x12476 : Nat) : Int))) (some (0, 0, false)) ((inb (IntKind.wrap .i64 ((((x12472 : Nat) : Int)) - 1)) x12472).bind fun (v12497 : Nat) => (x12477[(x12471 + v12497)]?).bind fun (v12499 : Int) => some (v12499, (IntKind.wrap .i64 (x12473 + 1)), true)))

@[irreducible] def impl_eagerMachine_upperAndNext (x12471 : Nat) (x12472 : Nat) (x12473 : Int) (x12474 : Int) (x12475 : Int) (x12476 : List Int) (x12477 : List Int) : Option (Int × Int × Bool) :=
  impl_eagerMachine_upperAndNext_n1 x12471 x12472 x12473 x12476 x12477

def impl_wordSet_hasAll_n1 (x11447 : Int) (x11448 : Int) : Option (Bool) :=
  some ((iand .u64 x11447 x11448) == x11448)

@[irreducible] def impl_wordSet_hasAll (x11447 : Int) (x11448 : Int) : Option (Bool) :=
  impl_wordSet_hasAll_n1 x11447 x11448

def impl_eagerMachine_hasHead_n1 (x12513 : Int) (x12518 : Int) : Option (Bool) :=
  (impl_only x12513).bind fun (v12523 : Int) => (impl_wordSet_hasAll x12518 v12523).bind fun (v12524 : Bool) => some v12524

@[irreducible] def impl_eagerMachine_hasHead (x12513 : Int) (x12514 : Nat) (x12515 : Nat) (x12516 : Int) (x12517 : Int) (x12518 : Int) (x12519 : List Int) (x12520 : List Int) : Option (Bool) :=
  impl_eagerMachine_hasHead_n1 x12513 x12518

def impl_eagerMachine_giveHead_n1 (x12532 : Int) (x12533 : Int) (x12538 : Int) (x12539 : List Int) : Option ((Int × (List Int))) :=
  (inb (IntKind.wrap .i64 (x12532 - 1)) (List.length x12539)).bind fun (v12545 : Nat) => (impl_only x12532).bind fun (v12547 : Int) => some ((ior .u64 x12538 v12547), (x12539.set v12545 x12533))

@[irreducible] def impl_eagerMachine_giveHead (x12532 : Int) (x12533 : Int) (x12534 : Nat) (x12535 : Nat) (x12536 : Int) (x12537 : Int) (x12538 : Int) (x12539 : List Int) (x12540 : List Int) : Option (Int × (List Int)) :=
  (impl_eagerMachine_giveHead_n1 x12532 x12533 x12538 x12539).map (fun (t : Int × (List Int)) => (t.1, t.2))

def impl_eagerMachine_takeAway_n1 (x12561 : Nat) (x12562 : Nat) : Option ((Nat × Nat)) :=
  (inc (IntKind.wrap .i64 ((((x12562 : Nat) : Int)) - 1)) x12562).bind fun (v12570 : Nat) => some ((x12561 + 0), (v12570 - 0))

@[irreducible] def impl_eagerMachine_takeAway (x12561 : Nat) (x12562 : Nat) (x12563 : Int) (x12564 : Int) (x12565 : Int) (x12566 : List Int) (x12567 : List Int) : Option (Nat × Nat) :=
  (impl_eagerMachine_takeAway_n1 x12561 x12562).map (fun (t : Nat × Nat) => (t.1, t.2))

def impl_eagerMachine_takeUnderNext_n1 (x12464 : Nat) (x12465 : Nat) (x12466 : Int) (x12467 : Int) (x12468 : Int) (x12469 : List Int) (x12470 : List Int) : Option ((Bool × Nat × Nat × Int × (List Int))) :=
  (impl_eagerMachine_upperAndNext x12464 x12465 x12466 x12467 x12468 x12469 x12470).bind fun (v12588 : Int × Int × Bool) => cond (!(v12588.2.2)) (some (false, x12464, x12465, x12468, x12469)) ((impl_eagerMachine_hasHead (v12588.1) x12464 x12465 x12466 x12467 x12468 x12469 x12470).bind fun (v12593 : Bool) => cond v12593 (some (false, x12464, x12465, x12468, x12469)) ((impl_eagerMachine_giveHead (v12588.1) (v12588.2.1) x12464 x12465 x12466 x12467 x12468 x12469 x12470).bind fun (v12594 : Int × (List Int)) => (impl_eagerMachine_takeAway x12464 x12465 x12466 x12467 (v12594.1) (v12594.2) x12470).bind fun (v12597 : Nat × Nat) => some (true, (v12597.1), (v12597.2), (v12594.1), (v12594.2))))

@[irreducible] def impl_eagerMachine_takeUnderNext (x12464 : Nat) (x12465 : Nat) (x12466 : Int) (x12467 : Int) (x12468 : Int) (x12469 : List Int) (x12470 : List Int) : Option (Bool × Nat × Nat × Int × (List Int)) :=
  impl_eagerMachine_takeUnderNext_n1 x12464 x12465 x12466 x12467 x12468 x12469 x12470

def impl_eagerMachine_putUnderUpper_n1 (x12613 : Nat) (x12614 : Nat) (x12615 : Int) (x12616 : Int) (x12617 : Int) (x12618 : List Int) (x12619 : List Int) : Option ((Bool × Nat × Nat × Int × Int × Int × (List Int) × (List Int))) :=
  (impl_eagerMachine_upperAndNext x12613 x12614 x12615 x12616 x12617 x12618 x12619).bind fun (v12652 : Int × Int × Bool) => cond (!(v12652.2.2)) (some (false, x12613, x12614, x12615, x12616, x12617, x12618, x12619)) ((impl_eagerMachine_giveHead (v12652.2.1) (v12652.1) x12613 x12614 x12615 x12616 x12617 x12618 x12619).bind fun (v12657 : Int × (List Int)) => (impl_stackMachine_putNext_v2 x12613 x12614 x12615 x12616 (v12657.1) (v12657.2) x12619).bind fun (v12660 : Bool × Nat × Nat × Int × Int × (List Int)) => some ((v12660.1), (v12660.2.1), (v12660.2.2.1), (v12660.2.2.2.1), (v12660.2.2.2.2.1), (v12657.1), (v12657.2), (v12660.2.2.2.2.2)))

@[irreducible] def impl_eagerMachine_putUnderUpper (x12613 : Nat) (x12614 : Nat) (x12615 : Int) (x12616 : Int) (x12617 : Int) (x12618 : List Int) (x12619 : List Int) : Option (Bool × Nat × Nat × Int × Int × Int × (List Int) × (List Int)) :=
  impl_eagerMachine_putUnderUpper_n1 x12613 x12614 x12615 x12616 x12617 x12618 x12619

def impl_eagerMachine_takeHeaded_n1 (x12686 : Nat) (x12687 : Nat) (x12688 : Int) (x12689 : Int) (x12690 : Int) (x12691 : List Int) (x12692 : List Int) : Option ((Bool × Nat × Nat)) :=
  cond ((((x12687 : Nat) : Int)) == 0) (some (false, x12686, x12687)) ((inb (IntKind.wrap .i64 ((((x12687 : Nat) : Int)) - 1)) x12687).bind fun (v12727 : Nat) => (x12692[(x12686 + v12727)]?).bind fun (v12729 : Int) => (impl_eagerMachine_hasHead v12729 x12686 x12687 x12688 x12689 x12690 x12691 x12692).bind fun (v12730 : Bool) => cond (!v12730) (some (false, x12686, x12687)) ((impl_eagerMachine_takeAway x12686 x12687 x12688 x12689 x12690 x12691 x12692).bind fun (v12732 : Nat × Nat) => some (true, (v12732.1), (v12732.2))))

@[irreducible] def impl_eagerMachine_takeHeaded (x12686 : Nat) (x12687 : Nat) (x12688 : Int) (x12689 : Int) (x12690 : Int) (x12691 : List Int) (x12692 : List Int) : Option (Bool × Nat × Nat) :=
  impl_eagerMachine_takeHeaded_n1 x12686 x12687 x12688 x12689 x12690 x12691 x12692

def impl_eagerMachine_waitsBelow_1_n1 (x13316 : Int) (x13317 : List Int) (x13318 : Int) : Option (Bool) :=
  (idx x13317 (IntKind.wrap .i64 (x13318 - 1))).bind fun (v13326 : Int) => cond (v13326 == x13316) (some true) ((idx x13317 (IntKind.wrap .i64 (x13316 - 1))).bind fun (v13329 : Int) => some (v13329 == x13318))

@[irreducible] def impl_eagerMachine_waitsBelow_1 (x13316 : Int) (x13317 : List Int) (x13318 : Int) : Option (Bool) :=
  impl_eagerMachine_waitsBelow_1_n1 x13316 x13317 x13318

def slices_IndexFunc_int_int_n1 : Option (Unit) :=
  some ()

def slices_IndexFunc_int_int_n2 (x13308 : List Int) : Option (Int) :=
  some (((List.length x13308 : Nat) : Int))

def slices_IndexFunc_int_int_n3 (x13308 : List Int) (x13311 : Int) (x13337 : Int) (x13309 : List Int) (x13310 : Int) : Option (Int ⊕ Int ⊕ Unit) :=
  cond (decide (x13337 < x13311)) ((idx x13308 x13337).bind fun (v13344 : Int) => (impl_eagerMachine_waitsBelow_1 v13344 x13309 x13310).bind fun (v13345 : Bool) => cond v13345 (some (Sum.inr (Sum.inl x13337))) (some (Sum.inl (IntKind.wrap .i64 (x13337 + 1))))) (some (Sum.inr (Sum.inr ())))

def slices_IndexFunc_int_int_n4 (x13308 : List Int) (x13311 : Int) (x13309 : List Int) (x13310 : Int) : Option (Int ⊕ Unit) :=
  nloop (fun (s : Int) => ((slices_IndexFunc_int_int_n3 x13308 x13311 s x13309 x13310).map (Sum.elim (fun (t : Int) => Sum.inl t) (Sum.elim (fun (t : Int) => Sum.inr (Sum.inl t)) (fun (t : Unit) => Sum.inr (Sum.inr t)))) : Option ((Int) ⊕ (Int ⊕ Unit)))) LL 0

def slices_IndexFunc_int_int_n5 (x13308 : List Int) (x13311 : Int) (x13309 : List Int) (x13310 : Int) : Option (Unit ⊕ Int) :=
  (slices_IndexFunc_int_int_n4 x13308 x13311 x13309 x13310).map (Sum.elim (fun (t : Int) => (Sum.inr t)) (fun (t : Unit) => (Sum.inl ())))

def slices_IndexFunc_int_int_n6 (x13308 : List Int) (x13309 : List Int) (x13310 : Int) : Option (Unit ⊕ Int) :=
  (slices_IndexFunc_int_int_n2 x13308).bind (fun (t : Int) => slices_IndexFunc_int_int_n5 x13308 t x13309 x13310)

def slices_IndexFunc_int_int_n7 : Option (Int) :=
  some (-1)

def slices_IndexFunc_int_int_n8 (x13308 : List Int) (x13309 : List Int) (x13310 : Int) : Option (Int) :=
  (slices_IndexFunc_int_int_n6 x13308 x13309 x13310).bind (Sum.elim (fun (t : Unit) => slices_IndexFunc_int_int_n7) (fun e => some ((fun (t : Int) => t) e)))

def slices_IndexFunc_int_int_n9 (x13308 : List Int) (x13309 : List Int) (x13310 : Int) : Option (Int) :=
  (slices_IndexFunc_int_int_n1).bind (fun (t : Unit) => slices_IndexFunc_int_int_n8 x13308 x13309 x13310)

@[irreducible] def slices_IndexFunc_int_int (x13308 : List Int) (x13309 : List Int) (x13310 : Int) : Option (Int) :=
  slices_IndexFunc_int_int_n9 x13308 x13309 x13310

def slices_ContainsFunc_int_int_n1 (x13305 : List Int) (x13306 : List Int) (x13307 : Int) : Option (Bool) :=
  (slices_IndexFunc_int_int x13305 x13306 x13307).bind fun (v13350 : Int) => some (decide (v13350 ≥ 0))

@[irreducible] def slices_ContainsFunc_int_int (x13305 : List Int) (x13306 : List Int) (x13307 : Int) : Option (Bool) :=
  slices_ContainsFunc_int_int_n1 x13305 x13306 x13307

def impl_eagerMachine_waitsBelow_n1 (x13652 : List Int) (x13653 : Int) (x13654 : Nat) (x13655 : Nat) (x13660 : List Int) : Option (Bool) :=
  (inc (IntKind.wrap .i64 ((((x13655 : Nat) : Int)) - 1)) x13655).bind fun (v13676 : Nat) => (slices_ContainsFunc_int_int ((x13660.drop (x13654 + 0)).take (v13676 - 0)) x13652 x13653).bind fun (v13680 : Bool) => some v13680

@[irreducible] def impl_eagerMachine_waitsBelow (x13652 : List Int) (x13653 : Int) (x13654 : Nat) (x13655 : Nat) (x13656 : Int) (x13657 : Int) (x13658 : Int) (x13659 : List Int) (x13660 : List Int) : Option (Bool) :=
  impl_eagerMachine_waitsBelow_n1 x13652 x13653 x13654 x13655 x13660

def impl_eagerMachine_letterFor_n1 (x13629 : List Int) (x13630 : Nat) (x13631 : Nat) (x13632 : Int) (x13633 : Int) (x13634 : Int) (x13635 : List Int) (x13636 : List Int) : Option (Int) :=
  (impl_eagerMachine_upperAndNext x13630 x13631 x13632 x13633 x13634 x13635 x13636).bind fun (v13694 : Int × Int × Bool) => cond (!(v13694.2.2)) (some 83) ((idx x13629 (IntKind.wrap .i64 ((v13694.1) - 1))).bind fun (v13700 : Int) => cond (v13700 == (v13694.2.1)) (some 76) ((idx x13629 (IntKind.wrap .i64 ((v13694.2.1) - 1))).bind fun (v13703 : Int) => cond (v13703 == (v13694.1)) (some 82) ((impl_eagerMachine_waitsBelow x13629 (v13694.2.1) x13630 x13631 x13632 x13633 x13634 x13635 x13636).bind fun (v13705 : Bool) => cond v13705 (some 68) (some 83))))

@[irreducible] def impl_eagerMachine_letterFor (x13629 : List Int) (x13630 : Nat) (x13631 : Nat) (x13632 : Int) (x13633 : Int) (x13634 : Int) (x13635 : List Int) (x13636 : List Int) : Option (Int) :=
  impl_eagerMachine_letterFor_n1 x13629 x13630 x13631 x13632 x13633 x13634 x13635 x13636

def impl_EagerFor_n1 (x13238 : List Int) : Option ((Nat × (List Int)) ⊕ (ByteArray × Bool)) :=
  (impl_FlatOk x13238).bind fun (v13836 : Bool) => cond (!v13836) (some (Sum.inr (ByteArray.empty, false))) ((impl_newEagerMachine (((List.length x13238 : Nat) : Int))).bind fun (v13839 : List Int) => (impl_eagerMoves).bind fun (v13840 : Unit) => some (Sum.inl ((List.length ([] : List Int)), v13839)))

def impl_EagerFor_n2 (x13238 : List Int) (x13901 : Nat) (x13902 : Nat) (x13903 : Int) (x13904 : Int) (x13905 : Int) (x13906 : List Int) (x13907 : List Int) (x13908 : List Int) : Option ((Nat × Nat × Int × Int × Int × (List Int) × (List Int) × (List Int)) ⊕ ((List Int))) :=
  cond (decide (x13903 < (((List.length x13238 : Nat) : Int)))) ((impl_eagerMachine_letterFor x13238 x13901 x13902 x13903 x13904 x13905 x13907 x13908).bind fun (v13913 : Int) => cond (v13913 == 83) ((impl_stackMachine_putNext_v2 x13901 x13902 x13903 x13904 x13905 x13907 x13908).bind fun (v13915 : Bool × Nat × Nat × Int × Int × (List Int)) => (room ((List.length x13906) + List.length ([v13913]))).bind fun (v13924 : Unit) => some (Sum.inl ((v13915.2.1), (v13915.2.2.1), (v13915.2.2.2.1), (v13915.2.2.2.2.1), x13905, (x13906 ++ ([v13913])), x13907, (v13915.2.2.2.2.2)))) (cond (v13913 == 76) ((impl_eagerMachine_takeUnderNext x13901 x13902 x13903 x13904 x13905 x13907 x13908).bind fun (v13927 : Bool × Nat × Nat × Int × (List Int)) => (room ((List.length x13906) + List.length ([v13913]))).bind fun (v13935 : Unit) => some (Sum.inl ((v13927.2.1), (v13927.2.2.1), x13903, x13904, (v13927.2.2.2.1), (x13906 ++ ([v13913])), (v13927.2.2.2.2), x13908))) (cond (v13913 == 82) ((impl_eagerMachine_putUnderUpper x13901 x13902 x13903 x13904 x13905 x13907 x13908).bind fun (v13938 : Bool × Nat × Nat × Int × Int × Int × (List Int) × (List Int)) => (room ((List.length x13906) + List.length ([v13913]))).bind fun (v13949 : Unit) => some (Sum.inl ((v13938.2.1), (v13938.2.2.1), (v13938.2.2.2.1), (v13938.2.2.2.2.1), (v13938.2.2.2.2.2.1), (x13906 ++ ([v13913])), (v13938.2.2.2.2.2.2.1), (v13938.2.2.2.2.2.2.2)))) (cond (v13913 == 68) ((impl_eagerMachine_takeHeaded x13901 x13902 x13903 x13904 x13905 x13907 x13908).bind fun (v13952 : Bool × Nat × Nat) => (room ((List.length x13906) + List.length ([v13913]))).bind fun (v13958 : Unit) => some (Sum.inl ((v13952.2.1), (v13952.2.2), x13903, x13904, x13905, (x13906 ++ ([v13913])), x13907, x13908))) (none))))) (some (Sum.inr x13906))

def impl_EagerFor_n3 (x13238 : List Int) (x13841 : Nat) (x13839 : List Int) : Option (((List Int))) :=
  nloop (fun (s : Nat × Nat × Int × Int × Int × (List Int) × (List Int) × (List Int)) => ((impl_EagerFor_n2 x13238 s.1 s.2.1 s.2.2.1 s.2.2.2.1 s.2.2.2.2.1 s.2.2.2.2.2.1 s.2.2.2.2.2.2.1 s.2.2.2.2.2.2.2).map (Sum.elim (fun (t : Nat × Nat × Int × Int × Int × (List Int) × (List Int) × (List Int)) => Sum.inl (t.1, t.2.1, t.2.2.1, t.2.2.2.1, t.2.2.2.2.1, t.2.2.2.2.2.1, t.2.2.2.2.2.2.1, t.2.2.2.2.2.2.2)) (fun (t : (List Int)) => Sum.inr t)) : Option ((Nat × Nat × Int × Int × Int × (List Int) × (List Int) × (List Int)) ⊕ (((List Int)))))) LL (0, x13841, 0, 0, 0, ([] : List Int), x13839, ([] : List Int))

def impl_EagerFor_n4 (x13238 : List Int) (x13841 : Nat) (x13839 : List Int) : Option (((List Int))) :=
  (impl_EagerFor_n3 x13238 x13841 x13839).map (fun (t : (List Int)) => t)

def impl_EagerFor_n5 (x13906 : List Int) : Option ((ByteArray × Bool)) :=
  some ((bytesOf x13906), true)

def impl_EagerFor_n6 (x13238 : List Int) (x13841 : Nat) (x13839 : List Int) : Option ((ByteArray × Bool)) :=
  (impl_EagerFor_n4 x13238 x13841 x13839).bind (fun (t : (List Int)) => impl_EagerFor_n5 t)

def impl_EagerFor_n7 (x13238 : List Int) : Option ((ByteArray × Bool)) :=
  (impl_EagerFor_n1 x13238).bind (Sum.elim (fun (t : Nat × (List Int)) => impl_EagerFor_n6 x13238 t.1 t.2) (fun e => some ((fun (t : ByteArray × Bool) => t) e)))

@[irreducible] def impl_EagerFor (x13238 : List Int) : Option (ByteArray × Bool) :=
  impl_EagerFor_n7 x13238

def laws_toIntS_n1 (x14389 : List Int) : Option (((List Int))) :=
  (mk (((List.length x14389 : Nat) : Int)) (((List.length x14389 : Nat) : Int))).bind fun (v14391 : Nat) => some (List.replicate v14391 (0 : Int))

def laws_toIntS_n2 : Option (Unit) :=
  some ()

def laws_toIntS_n3 (x14389 : List Int) (x14406 : Int) (x14407 : List Int) : Option ((Int × (List Int)) ⊕ ((List Int))) :=
  cond (decide (x14406 < (((List.length x14389 : Nat) : Int)))) ((idx x14389 x14406).bind fun (v14417 : Int) => (inb x14406 (List.length x14407)).bind fun (v14418 : Nat) => some (Sum.inl ((IntKind.wrap .i64 (x14406 + 1)), (x14407.set v14418 v14417)))) (some (Sum.inr x14407))

def laws_toIntS_n4 (x14389 : List Int) (x14392 : List Int) : Option (((List Int))) :=
  nloop (fun (s : Int × (List Int)) => ((laws_toIntS_n3 x14389 s.1 s.2).map (Sum.elim (fun (t : Int × (List Int)) => Sum.inl (t.1, t.2)) (fun (t : (List Int)) => Sum.inr t)) : Option ((Int × (List Int)) ⊕ (((List Int)))))) LL (0, x14392)

def laws_toIntS_n5 (x14389 : List Int) (x14392 : List Int) : Option (((List Int))) :=
  (laws_toIntS_n4 x14389 x14392).map (fun (t : (List Int)) => t)

def laws_toIntS_n6 (x14389 : List Int) (x14392 : List Int) : Option (((List Int))) :=
  (laws_toIntS_n2).bind (fun (t : Unit) => laws_toIntS_n5 x14389 x14392)

def laws_toIntS_n7 (x14407 : List Int) : Option (((List Int))) :=
  some x14407

def laws_toIntS_n8 (x14389 : List Int) (x14392 : List Int) : Option (((List Int))) :=
  (laws_toIntS_n6 x14389 x14392).bind (fun (t : (List Int)) => laws_toIntS_n7 t)

def laws_toIntS_n9 (x14389 : List Int) : Option (((List Int))) :=
  (laws_toIntS_n1 x14389).bind (fun (t : (List Int)) => laws_toIntS_n8 x14389 t)

@[irreducible] def laws_toIntS (x14389 : List Int) : Option ((List Int)) :=
  laws_toIntS_n9 x14389

def laws_eqIntS_n1 (x14467 : List Int) (x14468 : List Int) : Option (Unit ⊕ Bool) :=
  cond ((((List.length x14467 : Nat) : Int)) != (((List.length x14468 : Nat) : Int))) (some (Sum.inr false)) (some (Sum.inl ()))

def laws_eqIntS_n2 : Option (Unit) :=
  some ()

def laws_eqIntS_n3 (x14467 : List Int) (x14468 : List Int) (x14485 : Int) : Option (Int ⊕ Bool ⊕ Unit) :=
  cond (decide (x14485 < (((List.length x14467 : Nat) : Int)))) ((idx x14467 x14485).bind fun (v14495 : Int) => (idx x14468 x14485).bind fun (v14496 : Int) => cond (v14495 != v14496) (some (Sum.inr (Sum.inl false))) (some (Sum.inl (IntKind.wrap .i64 (x14485 + 1))))) (some (Sum.inr (Sum.inr ())))

def laws_eqIntS_n4 (x14467 : List Int) (x14468 : List Int) : Option (Bool ⊕ Unit) :=
  nloop (fun (s : Int) => ((laws_eqIntS_n3 x14467 x14468 s).map (Sum.elim (fun (t : Int) => Sum.inl t) (Sum.elim (fun (t : Bool) => Sum.inr (Sum.inl t)) (fun (t : Unit) => Sum.inr (Sum.inr t)))) : Option ((Int) ⊕ (Bool ⊕ Unit)))) LL 0

def laws_eqIntS_n5 (x14467 : List Int) (x14468 : List Int) : Option (Unit ⊕ Bool) :=
  (laws_eqIntS_n4 x14467 x14468).map (Sum.elim (fun (t : Bool) => (Sum.inr t)) (fun (t : Unit) => (Sum.inl ())))

def laws_eqIntS_n6 (x14467 : List Int) (x14468 : List Int) : Option (Unit ⊕ Bool) :=
  (laws_eqIntS_n2).bind (fun (t : Unit) => laws_eqIntS_n5 x14467 x14468)

def laws_eqIntS_n7 : Option (Bool) :=
  some true

def laws_eqIntS_n8 (x14467 : List Int) (x14468 : List Int) : Option (Bool) :=
  (laws_eqIntS_n6 x14467 x14468).bind (Sum.elim (fun (t : Unit) => laws_eqIntS_n7) (fun e => some ((fun (t : Bool) => t) e)))

def laws_eqIntS_n9 (x14467 : List Int) (x14468 : List Int) : Option (Bool) :=
  (laws_eqIntS_n1 x14467 x14468).bind (Sum.elim (fun (t : Unit) => laws_eqIntS_n8 x14467 x14468) (fun e => some ((fun (t : Bool) => t) e)))

@[irreducible] def laws_eqIntS (x14467 : List Int) (x14468 : List Int) : Option (Bool) :=
  laws_eqIntS_n9 x14467 x14468

def laws_FnExactEagerFor_n1 (x14534 : List Int) : Option (Bool) :=
  cond (decide ((((List.length x14534 : Nat) : Int)) > 1048576)) (some true) ((laws_toIntS x14534).bind fun (v14604 : List Int) => (spec_EagerFor v14604).bind fun (v14605 : ByteArray × Bool) => (laws_toIntS x14534).bind fun (v14608 : List Int) => (impl_EagerFor v14608).bind fun (v14609 : ByteArray × Bool) => cond (!(seqs (v14609.1) (v14605.1))) (some false) (cond ((v14609.2) != (v14605.2)) (some false) ((laws_toIntS x14534).bind fun (v14614 : List Int) => (laws_eqIntS v14608 v14614).bind fun (v14615 : Bool) => cond (!v14615) (some false) (some true))))

@[irreducible] def laws_FnExactEagerFor (x14534 : List Int) : Option (Bool) :=
  laws_FnExactEagerFor_n1 x14534

end Go.Rv
