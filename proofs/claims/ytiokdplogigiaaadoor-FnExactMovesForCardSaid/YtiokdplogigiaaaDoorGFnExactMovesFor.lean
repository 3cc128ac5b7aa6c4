/-
  Plain functions, written by program for functions of the checked code. Conditions: none.
-/
import Derived.Test.YtiokdplogigiaaaDoorFB
set_option linter.unusedVariables false
namespace Go.Rv
def impl_newStackMachine_n1 (x911 : Int) : Option (((List Int))) :=
  (mk x911 x911).bind fun (v914 : Nat) => some (List.replicate v914 (0 : Int))

@[irreducible] def impl_newStackMachine (x911 : Int) : Option ((List Int)) :=
  impl_newStackMachine_n1 x911

@[irreducible] def impl_stackMoves : Option (Unit) :=
  some ()

def impl_stackMachine_putNext_n1 (x1204 : Int) (x1205 : Int) (x1206 : List Int) (x1207 : List Int) : Option ((Bool × Int × Int × (List Int))) :=
  cond (x1204 == (((List.length x1206 : Nat) : Int))) (some (false, x1204, x1205, x1207)) ((room ((List.length x1207) + List.length ([(IntKind.wrap .i64 (x1204 + 1))]))).bind fun (v1243 : Unit) => some (true, (IntKind.wrap .i64 (x1204 + 1)), (imax x1205 (((List.length (x1207 ++ ([(IntKind.wrap .i64 (x1204 + 1))])) : Nat) : Int))), (x1207 ++ ([(IntKind.wrap .i64 (x1204 + 1))]))))

@[irreducible] def impl_stackMachine_putNext (x1204 : Int) (x1205 : Int) (x1206 : List Int) (x1207 : List Int) : Option (Bool × Int × Int × (List Int)) :=
  impl_stackMachine_putNext_n1 x1204 x1205 x1206 x1207

def impl_stackMachine_upperTwo_n1 (x1051 : List Int) : Option ((Int × Int × Bool)) :=
  cond (decide ((((List.length x1051 : Nat) : Int)) < 2)) (some (0, 0, false)) ((inb (IntKind.wrap .i64 ((((List.length x1051 : Nat) : Int)) - 2)) (List.length x1051)).bind fun (v1066 : Nat) => (x1051[v1066]?).bind fun (v1067 : Int) => (inb (IntKind.wrap .i64 ((((List.length x1051 : Nat) : Int)) - 1)) (List.length x1051)).bind fun (v1069 : Nat) => (x1051[v1069]?).bind fun (v1070 : Int) => some (v1067, v1070, true))

@[irreducible] def impl_stackMachine_upperTwo (x1048 : Int) (x1049 : Int) (x1050 : List Int) (x1051 : List Int) : Option (Int × Int × Bool) :=
  impl_stackMachine_upperTwo_n1 x1051

def impl_stackMachine_join_n1 (x1082 : Int) (x1083 : Int) (x1086 : List Int) (x1087 : List Int) : Option (((List Int) × (List Int))) :=
  (inb (IntKind.wrap .i64 (x1082 - 1)) (List.length x1086)).bind fun (v1092 : Nat) => (inc (IntKind.wrap .i64 ((((List.length x1087 : Nat) : Int)) - 2)) (List.length x1087)).bind fun (v1097 : Nat) => (room ((v1097 - 0) + List.length ([x1083]))).bind fun (v1101 : Unit) => some ((x1086.set v1092 x1083), (((x1087.drop 0).take (v1097 - 0)) ++ ([x1083])))

@[irreducible] def impl_stackMachine_join (x1082 : Int) (x1083 : Int) (x1084 : Int) (x1085 : Int) (x1086 : List Int) (x1087 : List Int) : Option ((List Int) × (List Int)) :=
  (impl_stackMachine_join_n1 x1082 x1083 x1086 x1087).map (fun (t : (List Int) × (List Int)) => (t.1, t.2))

def impl_stackMachine_takeBelow_n1 (x1258 : Int) (x1259 : Int) (x1260 : List Int) (x1261 : List Int) : Option ((Bool × (List Int) × (List Int))) :=
  (impl_stackMachine_upperTwo x1258 x1259 x1260 x1261).bind fun (v1280 : Int × Int × Bool) => cond (v1280.2.2) ((impl_stackMachine_join (v1280.1) (v1280.2.1) x1258 x1259 x1260 x1261).bind fun (v1284 : (List Int) × (List Int)) => some ((v1280.2.2), (v1284.1), (v1284.2))) (some ((v1280.2.2), x1260, x1261))

@[irreducible] def impl_stackMachine_takeBelow (x1258 : Int) (x1259 : Int) (x1260 : List Int) (x1261 : List Int) : Option (Bool × (List Int) × (List Int)) :=
  impl_stackMachine_takeBelow_n1 x1258 x1259 x1260 x1261

def impl_stackMachine_takeUpper_n1 (x1295 : Int) (x1296 : Int) (x1297 : List Int) (x1298 : List Int) : Option ((Bool × (List Int) × (List Int))) :=
  (impl_stackMachine_upperTwo x1295 x1296 x1297 x1298).bind fun (v1317 : Int × Int × Bool) => cond (v1317.2.2) ((impl_stackMachine_join (v1317.2.1) (v1317.1) x1295 x1296 x1297 x1298).bind fun (v1321 : (List Int) × (List Int)) => some ((v1317.2.2), (v1321.1), (v1321.2))) (some ((v1317.2.2), x1297, x1298))

@[irreducible] def impl_stackMachine_takeUpper (x1295 : Int) (x1296 : Int) (x1297 : List Int) (x1298 : List Int) : Option (Bool × (List Int) × (List Int)) :=
  impl_stackMachine_takeUpper_n1 x1295 x1296 x1297 x1298

def spec_l1In_n1 (x1554 : Int) (x1555 : Int) (x1556 : Int) : Option (Bool) :=
  cond (decide (x1554 ≥ x1555)) (some (decide (x1554 ≤ x1556))) (some false)

@[irreducible] def spec_l1In (x1554 : Int) (x1555 : Int) (x1556 : Int) : Option (Bool) :=
  spec_l1In_n1 x1554 x1555 x1556

def impl_oneRoot_n1 : Option (Unit) :=
  some ()

def impl_oneRoot_n2 (x3179 : List Int) : Option (Int) :=
  some (((List.length x3179 : Nat) : Int))

def impl_oneRoot_n3 (x3179 : List Int) (x3201 : Int) (x3180 : Int) (x3202 : Int) : Option ((Int × Int) ⊕ Bool ⊕ Int) :=
  cond (decide (x3202 < x3180)) ((idx x3179 x3202).bind fun (v3213 : Int) => cond (decide (v3213 < 0)) (some (Sum.inr (Sum.inl false))) (cond (decide (v3213 > (((List.length x3179 : Nat) : Int)))) (some (Sum.inr (Sum.inl false))) (cond (v3213 == 0) (some (Sum.inl ((IntKind.wrap .i64 (x3201 + 1)), (IntKind.wrap .i64 (x3202 + 1))))) (some (Sum.inl (x3201, (IntKind.wrap .i64 (x3202 + 1)))))))) (some (Sum.inr (Sum.inr x3201)))

def impl_oneRoot_n4 (x3179 : List Int) (x3180 : Int) : Option (Bool ⊕ Int) :=
  nloop (fun (s : Int × Int) => ((impl_oneRoot_n3 x3179 s.1 x3180 s.2).map (Sum.elim (fun (t : Int × Int) => Sum.inl (t.1, t.2)) (Sum.elim (fun (t : Bool) => Sum.inr (Sum.inl t)) (fun (t : Int) => Sum.inr (Sum.inr t)))) : Option ((Int × Int) ⊕ (Bool ⊕ Int)))) LL (0, 0)

def impl_oneRoot_n5 (x3179 : List Int) (x3180 : Int) : Option (Int ⊕ Bool) :=
  (impl_oneRoot_n4 x3179 x3180).map (Sum.elim (fun (t : Bool) => (Sum.inr t)) (fun (t : Int) => (Sum.inl t)))

def impl_oneRoot_n6 (x3179 : List Int) : Option (Int ⊕ Bool) :=
  (impl_oneRoot_n2 x3179).bind (fun (t : Int) => impl_oneRoot_n5 x3179 t)

def impl_oneRoot_n7 (x3201 : Int) : Option (Bool) :=
  some (x3201 == 1)

def impl_oneRoot_n8 (x3179 : List Int) : Option (Bool) :=
  (impl_oneRoot_n6 x3179).bind (Sum.elim (fun (t : Int) => impl_oneRoot_n7 t) (fun e => some ((fun (t : Bool) => t) e)))

def impl_oneRoot_n9 (x3179 : List Int) : Option (Bool) :=
  (impl_oneRoot_n1).bind (fun (t : Unit) => impl_oneRoot_n8 x3179)

@[irreducible] def impl_oneRoot (x3179 : List Int) : Option (Bool) :=
  impl_oneRoot_n9 x3179

def impl_walker_up_n1 (x3235 : List Int) (x3236 : Int) (x3237 : Int) : Option ((Bool × Int × Int)) :=
  (idx x3235 (IntKind.wrap .i64 (x3236 - 1))).bind fun (v3255 : Int) => cond (v3255 == 0) (some (false, x3236, x3237)) (some (true, v3255, (IntKind.wrap .i64 (x3237 + 1))))

@[irreducible] def impl_walker_up (x3235 : List Int) (x3236 : Int) (x3237 : Int) : Option (Bool × Int × Int) :=
  impl_walker_up_n1 x3235 x3236 x3237

def impl_stepsToRoot_n1 : Option (Unit) :=
  some ()

def impl_stepsToRoot_n2 (x3233 : List Int) (x3271 : Int) (x3272 : Int) : Option ((Int × Int) ⊕ (Int × Bool) ⊕ (Int × Int)) :=
  (impl_walker_up x3233 x3271 x3272).bind fun (v3277 : Bool × Int × Int) => cond (v3277.1) (cond (decide ((v3277.2.2) ≥ (((List.length x3233 : Nat) : Int)))) (some (Sum.inr (Sum.inl (0, false)))) (some (Sum.inl ((v3277.2.1), (v3277.2.2))))) (some (Sum.inr (Sum.inr ((v3277.2.1), (v3277.2.2)))))

def impl_stepsToRoot_n3 (x3233 : List Int) (x3234 : Int) : Option ((Int × Bool) ⊕ (Int × Int)) :=
  nloop (fun (s : Int × Int) => ((impl_stepsToRoot_n2 x3233 s.1 s.2).map (Sum.elim (fun (t : Int × Int) => Sum.inl (t.1, t.2)) (Sum.elim (fun (t : Int × Bool) => Sum.inr (Sum.inl t)) (fun (t : Int × Int) => Sum.inr (Sum.inr t)))) : Option ((Int × Int) ⊕ ((Int × Bool) ⊕ (Int × Int))))) LL (x3234, 0)

def impl_stepsToRoot_n4 (x3233 : List Int) (x3234 : Int) : Option ((Int × Int) ⊕ (Int × Bool)) :=
  (impl_stepsToRoot_n3 x3233 x3234).map (Sum.elim (fun (t : Int × Bool) => (Sum.inr t)) (fun (t : Int × Int) => (Sum.inl (t.1, t.2))))

def impl_stepsToRoot_n5 (x3280 : Int) : Option ((Int × Bool)) :=
  some (x3280, true)

def impl_stepsToRoot_n6 (x3233 : List Int) (x3234 : Int) : Option ((Int × Bool)) :=
  (impl_stepsToRoot_n4 x3233 x3234).bind (Sum.elim (fun (t : Int × Int) => impl_stepsToRoot_n5 t.2) (fun e => some ((fun (t : Int × Bool) => t) e)))

def impl_stepsToRoot_n7 (x3233 : List Int) (x3234 : Int) : Option ((Int × Bool)) :=
  (impl_stepsToRoot_n1).bind (fun (t : Unit) => impl_stepsToRoot_n6 x3233 x3234)

@[irreducible] def impl_stepsToRoot (x3233 : List Int) (x3234 : Int) : Option (Int × Bool) :=
  impl_stepsToRoot_n7 x3233 x3234

def impl_TreeOk_n1 (x3174 : List Int) : Option (Unit ⊕ Bool) :=
  cond (decide ((((List.length x3174 : Nat) : Int)) < 1)) (some (Sum.inr false)) (cond (decide ((((List.length x3174 : Nat) : Int)) > 8)) (some (Sum.inr false)) ((impl_oneRoot x3174).bind fun (v3226 : Bool) => cond (!v3226) (some (Sum.inr false)) (some (Sum.inl ()))))

def impl_TreeOk_n2 (x3174 : List Int) : Option (Int) :=
  some (((List.length x3174 : Nat) : Int))

def impl_TreeOk_n3 (x3174 : List Int) (x3228 : Int) (x3296 : Int) : Option (Int ⊕ Bool ⊕ Unit) :=
  cond (decide (x3296 < x3228)) ((impl_stepsToRoot x3174 (IntKind.wrap .i64 (x3296 + 1))).bind fun (v3307 : Int × Bool) => cond (!(v3307.2)) (some (Sum.inr (Sum.inl false))) (some (Sum.inl (IntKind.wrap .i64 (x3296 + 1))))) (some (Sum.inr (Sum.inr ())))

def impl_TreeOk_n4 (x3174 : List Int) (x3228 : Int) : Option (Bool ⊕ Unit) :=
  nloop (fun (s : Int) => ((impl_TreeOk_n3 x3174 x3228 s).map (Sum.elim (fun (t : Int) => Sum.inl t) (Sum.elim (fun (t : Bool) => Sum.inr (Sum.inl t)) (fun (t : Unit) => Sum.inr (Sum.inr t)))) : Option ((Int) ⊕ (Bool ⊕ Unit)))) LL 0

def impl_TreeOk_n5 (x3174 : List Int) (x3228 : Int) : Option (Unit ⊕ Bool) :=
  (impl_TreeOk_n4 x3174 x3228).map (Sum.elim (fun (t : Bool) => (Sum.inr t)) (fun (t : Unit) => (Sum.inl ())))

def impl_TreeOk_n6 (x3174 : List Int) : Option (Unit ⊕ Bool) :=
  (impl_TreeOk_n2 x3174).bind (fun (t : Int) => impl_TreeOk_n5 x3174 t)

def impl_TreeOk_n7 : Option (Bool) :=
  some true

def impl_TreeOk_n8 (x3174 : List Int) : Option (Bool) :=
  (impl_TreeOk_n6 x3174).bind (Sum.elim (fun (t : Unit) => impl_TreeOk_n7) (fun e => some ((fun (t : Bool) => t) e)))

def impl_TreeOk_n9 (x3174 : List Int) : Option (Bool) :=
  (impl_TreeOk_n1 x3174).bind (Sum.elim (fun (t : Unit) => impl_TreeOk_n8 x3174) (fun e => some ((fun (t : Bool) => t) e)))

@[irreducible] def impl_TreeOk (x3174 : List Int) : Option (Bool) :=
  impl_TreeOk_n9 x3174

def impl_RootOf_n1 (x3353 : List Int) : Option (Unit ⊕ Int) :=
  (impl_TreeOk x3353).bind fun (v3357 : Bool) => cond (!v3357) (some (Sum.inr (-1))) (some (Sum.inl ()))

def impl_RootOf_n2 (x3353 : List Int) (x3367 : Int) (x3368 : Int) : Option ((Int × Int) ⊕ (Int × Int)) :=
  (impl_walker_up x3353 x3367 x3368).bind fun (v3373 : Bool × Int × Int) => cond (v3373.1) (some (Sum.inl ((v3373.2.1), (v3373.2.2)))) (some (Sum.inr ((v3373.2.1), (v3373.2.2))))

def impl_RootOf_n3 (x3353 : List Int) : Option ((Int × Int)) :=
  nloop (fun (s : Int × Int) => ((impl_RootOf_n2 x3353 s.1 s.2).map (Sum.elim (fun (t : Int × Int) => Sum.inl (t.1, t.2)) (fun (t : Int × Int) => Sum.inr t)) : Option ((Int × Int) ⊕ ((Int × Int))))) LL (1, 0)

def impl_RootOf_n4 (x3353 : List Int) : Option ((Int × Int)) :=
  (impl_RootOf_n3 x3353).map (fun (t : Int × Int) => (t.1, t.2))

def impl_RootOf_n5 (x3375 : Int) : Option (Int) :=
  some x3375

def impl_RootOf_n6 (x3353 : List Int) : Option (Int) :=
  (impl_RootOf_n4 x3353).bind (fun (t : Int × Int) => impl_RootOf_n5 t.1)

def impl_RootOf_n7 (x3353 : List Int) : Option (Int) :=
  (impl_RootOf_n1 x3353).bind (Sum.elim (fun (t : Unit) => impl_RootOf_n6 x3353) (fun e => some ((fun (t : Int) => t) e)))

@[irreducible] def impl_RootOf (x3353 : List Int) : Option (Int) :=
  impl_RootOf_n7 x3353

def impl_only_n1 (x3382 : Int) : Option (Int) :=
  (shl .u64 1 (IntKind.wrap .i64 (x3382 - 1))).bind fun (v3386 : Int) => some v3386

@[irreducible] def impl_only (x3382 : Int) : Option (Int) :=
  impl_only_n1 x3382

def impl_dependents_n1 : Option (Unit) :=
  some ()

def impl_dependents_n2 (x3388 : List Int) : Option (Int) :=
  some (((List.length x3388 : Nat) : Int))

def impl_dependents_n3 (x3388 : List Int) (x3389 : Int) (x3409 : Int) (x3390 : Int) (x3410 : Int) : Option ((Int × Int) ⊕ Int) :=
  cond (decide (x3410 < x3390)) ((idx x3388 x3410).bind fun (v3420 : Int) => cond (v3420 == x3389) ((impl_only (IntKind.wrap .i64 (x3410 + 1))).bind fun (v3423 : Int) => some (Sum.inl ((ior .u64 x3409 v3423), (IntKind.wrap .i64 (x3410 + 1))))) (some (Sum.inl (x3409, (IntKind.wrap .i64 (x3410 + 1)))))) (some (Sum.inr x3409))

def impl_dependents_n4 (x3388 : List Int) (x3389 : Int) (x3390 : Int) : Option (Int) :=
  nloop (fun (s : Int × Int) => ((impl_dependents_n3 x3388 x3389 s.1 x3390 s.2).map (Sum.elim (fun (t : Int × Int) => Sum.inl (t.1, t.2)) (fun (t : Int) => Sum.inr t)) : Option ((Int × Int) ⊕ (Int)))) LL (0, 0)

def impl_dependents_n5 (x3388 : List Int) (x3389 : Int) (x3390 : Int) : Option (Int) :=
  (impl_dependents_n4 x3388 x3389 x3390).map (fun (t : Int) => t)

def impl_dependents_n6 (x3388 : List Int) (x3389 : Int) : Option (Int) :=
  (impl_dependents_n2 x3388).bind (fun (t : Int) => impl_dependents_n5 x3388 x3389 t)

def impl_dependents_n7 (x3409 : Int) : Option (Int) :=
  some x3409

def impl_dependents_n8 (x3388 : List Int) (x3389 : Int) : Option (Int) :=
  (impl_dependents_n6 x3388 x3389).bind (fun (t : Int) => impl_dependents_n7 t)

def impl_dependents_n9 (x3388 : List Int) (x3389 : Int) : Option (Int) :=
  (impl_dependents_n1).bind (fun (t : Unit) => impl_dependents_n8 x3388 x3389)

@[irreducible] def impl_dependents (x3388 : List Int) (x3389 : Int) : Option (Int) :=
  impl_dependents_n9 x3388 x3389

def math_bits_OnesCount64_n1 (x3433 : Int) : Option (Int) :=
  (shr .u64 x3433 1).bind fun (v3434 : Int) => some (IntKind.wrap .u64 ((iand .u64 v3434 6148914691236517205) + (iand .u64 x3433 6148914691236517205)))

def math_bits_OnesCount64_n2 (x3438 : Int) : Option (Int) :=
  (shr .u64 x3438 2).bind fun (v3452 : Int) => some (IntKind.wrap .u64 ((iand .u64 v3452 3689348814741910323) + (iand .u64 x3438 3689348814741910323)))

def math_bits_OnesCount64_n3 (x3455 : Int) : Option (Int) :=
  (shr .u64 x3455 4).bind fun (v3460 : Int) => some (iand .u64 (IntKind.wrap .u64 (v3460 + x3455)) 1085102592571150095)

def math_bits_OnesCount64_n4 (x3462 : Int) : Option (Int) :=
  (shr .u64 x3462 8).bind fun (v3465 : Int) => some (IntKind.wrap .u64 (x3462 + v3465))

def math_bits_OnesCount64_n5 (x3466 : Int) : Option (Int) :=
  (shr .u64 x3466 16).bind fun (v3470 : Int) => some (IntKind.wrap .u64 (x3466 + v3470))

def math_bits_OnesCount64_n6 (x3471 : Int) : Option (Int) :=
  (shr .u64 x3471 32).bind fun (v3475 : Int) => some (IntKind.wrap .u64 (x3471 + v3475))

def math_bits_OnesCount64_n7 (x3476 : Int) : Option (Int) :=
  some (iand .i64 (IntKind.wrap .i64 x3476) 127)

def math_bits_OnesCount64_n8 (x3481 : Int) : Option (Int) :=
  some x3481

def math_bits_OnesCount64_n9 (x3476 : Int) : Option (Int) :=
  (math_bits_OnesCount64_n7 x3476).bind (fun (t : Int) => math_bits_OnesCount64_n8 t)

def math_bits_OnesCount64_n10 (x3471 : Int) : Option (Int) :=
  (math_bits_OnesCount64_n6 x3471).bind (fun (t : Int) => math_bits_OnesCount64_n9 t)

def math_bits_OnesCount64_n11 (x3466 : Int) : Option (Int) :=
  (math_bits_OnesCount64_n5 x3466).bind (fun (t : Int) => math_bits_OnesCount64_n10 t)

def math_bits_OnesCount64_n12 (x3462 : Int) : Option (Int) :=
  (math_bits_OnesCount64_n4 x3462).bind (fun (t : Int) => math_bits_OnesCount64_n11 t)

def math_bits_OnesCount64_n13 (x3455 : Int) : Option (Int) :=
  (math_bits_OnesCount64_n3 x3455).bind (fun (t : Int) => math_bits_OnesCount64_n12 t)

def math_bits_OnesCount64_n14 (x3438 : Int) : Option (Int) :=
  (math_bits_OnesCount64_n2 x3438).bind (fun (t : Int) => math_bits_OnesCount64_n13 t)

def math_bits_OnesCount64_n15 (x3433 : Int) : Option (Int) :=
  (math_bits_OnesCount64_n1 x3433).bind (fun (t : Int) => math_bits_OnesCount64_n14 t)

@[irreducible] def math_bits_OnesCount64 (x3433 : Int) : Option (Int) :=
  math_bits_OnesCount64_n15 x3433

def math_bits_OnesCount_n1 (x3432 : Int) : Option (Int) :=
  (math_bits_OnesCount64 x3432).bind fun (v3483 : Int) => some v3483

@[irreducible] def math_bits_OnesCount (x3432 : Int) : Option (Int) :=
  math_bits_OnesCount_n1 x3432

def impl_wordSet_count_n1 (x3431 : Int) : Option (Int) :=
  (math_bits_OnesCount x3431).bind fun (v3485 : Int) => some v3485

@[irreducible] def impl_wordSet_count (x3431 : Int) : Option (Int) :=
  impl_wordSet_count_n1 x3431

def math_bits_TrailingZeros64_n1 (x3492 : Int) : Option (Int) :=
  cond (x3492 == 0) (some 64) ((shr .u64 (IntKind.wrap .u64 ((iand .u64 x3492 (IntKind.wrap .u64 (0 - x3492))) * 285870213051353865)) 58).bind fun (v3509 : Int) => (same (List.length tab1) 64).bind fun (v3510 : Unit) => (idx tab1 v3509).bind fun (v3511 : Int) => some (IntKind.wrap .i64 v3511))

@[irreducible] def math_bits_TrailingZeros64 (x3492 : Int) : Option (Int) :=
  math_bits_TrailingZeros64_n1 x3492

def math_bits_TrailingZeros_n1 (x3491 : Int) : Option (Int) :=
  (math_bits_TrailingZeros64 x3491).bind fun (v3515 : Int) => some v3515

@[irreducible] def math_bits_TrailingZeros (x3491 : Int) : Option (Int) :=
  math_bits_TrailingZeros_n1 x3491

def impl_wordSet_list_n1 (x3430 : Int) : Option (((List Int))) :=
  (impl_wordSet_count x3430).bind fun (v3486 : Int) => (mk 0 v3486).bind fun (v3487 : Nat) => some (List.replicate v3487 (0 : Int))

def impl_wordSet_list_n2 : Option (Unit) :=
  some ()

def impl_wordSet_list_n3 (x3531 : Int) (x3532 : List Int) : Option ((Int × (List Int)) ⊕ ((List Int))) :=
  cond (x3531 != 0) ((math_bits_TrailingZeros x3531).bind fun (v3542 : Int) => (room ((List.length x3532) + List.length ([(IntKind.wrap .i64 (v3542 + 1))]))).bind fun (v3546 : Unit) => some (Sum.inl ((iand .u64 x3531 (IntKind.wrap .u64 (x3531 - 1))), (x3532 ++ ([(IntKind.wrap .i64 (v3542 + 1))]))))) (some (Sum.inr x3532))

def impl_wordSet_list_n4 (x3430 : Int) (x3488 : List Int) : Option (((List Int))) :=
  nloop (fun (s : Int × (List Int)) => ((impl_wordSet_list_n3 s.1 s.2).map (Sum.elim (fun (t : Int × (List Int)) => Sum.inl (t.1, t.2)) (fun (t : (List Int)) => Sum.inr t)) : Option ((Int × (List Int)) ⊕ (((List Int)))))) LL (x3430, x3488)

def impl_wordSet_list_n5 (x3430 : Int) (x3488 : List Int) : Option (((List Int))) :=
  (impl_wordSet_list_n4 x3430 x3488).map (fun (t : (List Int)) => t)

def impl_wordSet_list_n6 (x3430 : Int) (x3488 : List Int) : Option (((List Int))) :=
  (impl_wordSet_list_n2).bind (fun (t : Unit) => impl_wordSet_list_n5 x3430 x3488)

def impl_wordSet_list_n7 (x3532 : List Int) : Option (((List Int))) :=
  some x3532

def impl_wordSet_list_n8 (x3430 : Int) (x3488 : List Int) : Option (((List Int))) :=
  (impl_wordSet_list_n6 x3430 x3488).bind (fun (t : (List Int)) => impl_wordSet_list_n7 t)

def impl_wordSet_list_n9 (x3430 : Int) : Option (((List Int))) :=
  (impl_wordSet_list_n1 x3430).bind (fun (t : (List Int)) => impl_wordSet_list_n8 x3430 t)

@[irreducible] def impl_wordSet_list (x3430 : Int) : Option ((List Int)) :=
  impl_wordSet_list_n9 x3430

def impl_fillYields_n1 (R0 : (List Int) → Int → (List Int) → Option (Int × (List Int))) (x3380 : Int) : Option (Int) :=
  (impl_only x3380).bind fun (v3566 : Int) => some v3566

def impl_fillYields_n2 (R0 : (List Int) → Int → (List Int) → Option (Int × (List Int))) (x3379 : List Int) (x3380 : Int) : Option ((Int × (List Int))) :=
  (impl_dependents x3379 x3380).bind fun (v3567 : Int) => (impl_wordSet_list v3567).bind fun (v3568 : List Int) => some ((((List.length v3568 : Nat) : Int)), v3568)

def impl_fillYields_n3 (R0 : (List Int) → Int → (List Int) → Option (Int × (List Int))) (x3379 : List Int) (x3587 : Int) (x3569 : Int) (x3588 : Int) (x3589 : List Int) (x3568 : List Int) : Option ((Int × Int × (List Int)) ⊕ (Int × (List Int))) :=
  cond (decide (x3588 < x3569)) ((inb x3588 (List.length x3568)).bind fun (v3600 : Nat) => (x3568[v3600]?).bind fun (v3601 : Int) => (R0 x3379 v3601 x3589).bind fun (v3602 : Int × (List Int)) => some (Sum.inl ((ior .u64 x3587 (v3602.1)), (IntKind.wrap .i64 (x3588 + 1)), (v3602.2)))) (some (Sum.inr (x3587, x3589)))

def impl_fillYields_n4 (R0 : (List Int) → Int → (List Int) → Option (Int × (List Int))) (x3379 : List Int) (x3566 : Int) (x3569 : Int) (x3381 : List Int) (x3568 : List Int) : Option ((Int × (List Int))) :=
  nloop (fun (s : Int × Int × (List Int)) => ((impl_fillYields_n3 R0 x3379 s.1 x3569 s.2.1 s.2.2 x3568).map (Sum.elim (fun (t : Int × Int × (List Int)) => Sum.inl (t.1, t.2.1, t.2.2)) (fun (t : Int × (List Int)) => Sum.inr t)) : Option ((Int × Int × (List Int)) ⊕ ((Int × (List Int)))))) LL (x3566, 0, x3381)

def impl_fillYields_n5 (R0 : (List Int) → Int → (List Int) → Option (Int × (List Int))) (x3379 : List Int) (x3566 : Int) (x3569 : Int) (x3381 : List Int) (x3568 : List Int) : Option ((Int × (List Int))) :=
  (impl_fillYields_n4 R0 x3379 x3566 x3569 x3381 x3568).map (fun (t : Int × (List Int)) => (t.1, t.2))

def impl_fillYields_n6 (R0 : (List Int) → Int → (List Int) → Option (Int × (List Int))) (x3379 : List Int) (x3380 : Int) (x3566 : Int) (x3381 : List Int) : Option ((Int × (List Int))) :=
  (impl_fillYields_n2 R0 x3379 x3380).bind (fun (t : Int × (List Int)) => impl_fillYields_n5 R0 x3379 x3566 t.1 x3381 t.2)

def impl_fillYields_n7 (R0 : (List Int) → Int → (List Int) → Option (Int × (List Int))) (x3380 : Int) (x3587 : Int) (x3589 : List Int) : Option ((Int × (List Int))) :=
  (inb (IntKind.wrap .i64 (x3380 - 1)) (List.length x3589)).bind fun (v3614 : Nat) => some (x3587, (x3589.set v3614 x3587))

def impl_fillYields_n8 (R0 : (List Int) → Int → (List Int) → Option (Int × (List Int))) (x3379 : List Int) (x3380 : Int) (x3566 : Int) (x3381 : List Int) : Option ((Int × (List Int))) :=
  (impl_fillYields_n6 R0 x3379 x3380 x3566 x3381).bind (fun (t : Int × (List Int)) => impl_fillYields_n7 R0 x3380 t.1 t.2)

def impl_fillYields_n9 (R0 : (List Int) → Int → (List Int) → Option (Int × (List Int))) (x3379 : List Int) (x3380 : Int) (x3381 : List Int) : Option ((Int × (List Int))) :=
  (impl_fillYields_n1 R0 x3380).bind (fun (t : Int) => impl_fillYields_n8 R0 x3379 x3380 t x3381)

def impl_fillYields_one (R0 : (List Int) → Int → (List Int) → Option (Int × (List Int))) (x3379 : List Int) (x3380 : Int) (x3381 : List Int) : Option (Int × (List Int)) :=
  impl_fillYields_n9 R0 x3379 x3380 x3381

def impl_fillYields_knot : Nat → ((List Int) → Int → (List Int) → Option (Int × (List Int)))
  | 0 => (fun _ _ _ => none)
  | n + 1 => (fun y0 y1 y2 => impl_fillYields_one (impl_fillYields_knot n) y0 y1 y2)

def impl_fillYields_fuel (n : Nat) : (List Int) → Int → (List Int) → Option (Int × (List Int)) := (impl_fillYields_knot n)

@[irreducible] def impl_fillYields (x3379 : List Int) (x3380 : Int) (x3381 : List Int) : Option (Int × (List Int)) := impl_fillYields_fuel RR x3379 x3380 x3381

def impl_yieldsOf_n1 (x3346 : List Int) : Option (((List Int))) :=
  (mk (((List.length x3346 : Nat) : Int)) (((List.length x3346 : Nat) : Int))).bind fun (v3627 : Nat) => (impl_RootOf x3346).bind fun (v3629 : Int) => (impl_fillYields x3346 v3629 (List.replicate v3627 (0 : Int))).bind fun (v3630 : Int × (List Int)) => some (v3630.2)

@[irreducible] def impl_yieldsOf (x3346 : List Int) : Option ((List Int)) :=
  impl_yieldsOf_n1 x3346

def impl_wordSet_isRow_n1 (x3640 : Int) : Option (Bool) :=
  some ((iand .u64 x3640 (IntKind.wrap .u64 (x3640 + (iand .u64 x3640 (IntKind.wrap .u64 (0 - x3640)))))) == 0)

@[irreducible] def impl_wordSet_isRow (x3640 : Int) : Option (Bool) :=
  impl_wordSet_isRow_n1 x3640

def impl_FlatOk_n1 (x3343 : List Int) : Option (Unit ⊕ Bool) :=
  (impl_TreeOk x3343).bind fun (v3344 : Bool) => cond (!v3344) (some (Sum.inr false)) (some (Sum.inl ()))

def impl_FlatOk_n2 (x3343 : List Int) : Option ((Int × (List Int))) :=
  (impl_yieldsOf x3343).bind fun (v3633 : List Int) => some ((((List.length v3633 : Nat) : Int)), v3633)

def impl_FlatOk_n3 (x3634 : Int) (x3661 : Int) (x3633 : List Int) : Option (Int ⊕ Bool ⊕ Unit) :=
  cond (decide (x3661 < x3634)) ((inb x3661 (List.length x3633)).bind fun (v3670 : Nat) => (x3633[v3670]?).bind fun (v3671 : Int) => (impl_wordSet_isRow v3671).bind fun (v3672 : Bool) => cond (!v3672) (some (Sum.inr (Sum.inl false))) (some (Sum.inl (IntKind.wrap .i64 (x3661 + 1))))) (some (Sum.inr (Sum.inr ())))

def impl_FlatOk_n4 (x3634 : Int) (x3633 : List Int) : Option (Bool ⊕ Unit) :=
  nloop (fun (s : Int) => ((impl_FlatOk_n3 x3634 s x3633).map (Sum.elim (fun (t : Int) => Sum.inl t) (Sum.elim (fun (t : Bool) => Sum.inr (Sum.inl t)) (fun (t : Unit) => Sum.inr (Sum.inr t)))) : Option ((Int) ⊕ (Bool ⊕ Unit)))) LL 0

def impl_FlatOk_n5 (x3634 : Int) (x3633 : List Int) : Option (Unit ⊕ Bool) :=
  (impl_FlatOk_n4 x3634 x3633).map (Sum.elim (fun (t : Bool) => (Sum.inr t)) (fun (t : Unit) => (Sum.inl ())))

def impl_FlatOk_n6 (x3343 : List Int) : Option (Unit ⊕ Bool) :=
  (impl_FlatOk_n2 x3343).bind (fun (t : Int × (List Int)) => impl_FlatOk_n5 t.1 t.2)

def impl_FlatOk_n7 : Option (Bool) :=
  some true

def impl_FlatOk_n8 (x3343 : List Int) : Option (Bool) :=
  (impl_FlatOk_n6 x3343).bind (Sum.elim (fun (t : Unit) => impl_FlatOk_n7) (fun e => some ((fun (t : Bool) => t) e)))

def impl_FlatOk_n9 (x3343 : List Int) : Option (Bool) :=
  (impl_FlatOk_n1 x3343).bind (Sum.elim (fun (t : Unit) => impl_FlatOk_n8 x3343) (fun e => some ((fun (t : Bool) => t) e)))

@[irreducible] def impl_FlatOk (x3343 : List Int) : Option (Bool) :=
  impl_FlatOk_n9 x3343

def impl_stackMachine_ruleFor_n1 : Option (Unit) :=
  some ()

@[irreducible] def impl_stackMachine_ruleFor (x3688 : List Int) (x3689 : Int) (x3690 : Int) (x3691 : List Int) : Option (Unit) :=
  impl_stackMachine_ruleFor_n1

def impl_stackMachine_ruleFor_1_n1 (x3723 : Int) (x3724 : Int) (x3725 : List Int) (x3728 : List Int) : Option (Bool) :=
  (idx x3725 (IntKind.wrap .i64 (x3723 - 1))).bind fun (v3737 : Int) => cond (v3737 == x3724) ((impl_dependents x3725 x3723).bind fun (v3739 : Int) => (impl_dependents x3728 x3723).bind fun (v3740 : Int) => some (v3739 == v3740)) (some false)

@[irreducible] def impl_stackMachine_ruleFor_1 (x3723 : Int) (x3724 : Int) (x3725 : List Int) (x3726 : Int) (x3727 : Int) (x3728 : List Int) (x3729 : List Int) : Option (Bool) :=
  impl_stackMachine_ruleFor_1_n1 x3723 x3724 x3725 x3728

def impl_stackMachine_ruleFor_2_n1 (x3854 : Int) (x3855 : Int) (x3856 : List Int) (x3857 : List Int) (x3858 : List Int) : Option (Int) :=
  (impl_stackMachine_upperTwo x3854 x3855 x3857 x3858).bind fun (v3877 : Int × Int × Bool) => cond (v3877.2.2) ((impl_stackMachine_ruleFor_1 (v3877.1) (v3877.2.1) x3856 x3854 x3855 x3857 x3858).bind fun (v3881 : Bool) => cond v3881 (some 76) (cond (v3877.2.2) ((impl_stackMachine_ruleFor_1 (v3877.2.1) (v3877.1) x3856 x3854 x3855 x3857 x3858).bind fun (v3882 : Bool) => cond v3882 (some 82) (some 83)) (some 83))) (cond (v3877.2.2) ((impl_stackMachine_ruleFor_1 (v3877.2.1) (v3877.1) x3856 x3854 x3855 x3857 x3858).bind fun (v3883 : Bool) => cond v3883 (some 82) (some 83)) (some 83))

@[irreducible] def impl_stackMachine_ruleFor_2 (x3854 : Int) (x3855 : Int) (x3856 : List Int) (x3857 : List Int) (x3858 : List Int) : Option (Int) :=
  impl_stackMachine_ruleFor_2_n1 x3854 x3855 x3856 x3857 x3858

def impl_MovesFor_n1 (x3342 : List Int) : Option (((List Int)) ⊕ (ByteArray × Bool)) :=
  (impl_FlatOk x3342).bind fun (v4043 : Bool) => cond (!v4043) (some (Sum.inr (ByteArray.empty, false))) ((impl_newStackMachine (((List.length x3342 : Nat) : Int))).bind fun (v4046 : List Int) => (impl_stackMoves).bind fun (v4047 : Unit) => (impl_stackMachine_ruleFor x3342 0 0 v4046).bind fun (v4048 : Unit) => some (Sum.inl v4046))

def impl_MovesFor_n2 (x3342 : List Int) : Option (Int) :=
  some (IntKind.wrap .i64 ((IntKind.wrap .i64 (2 * (((List.length x3342 : Nat) : Int)))) - 1))

def impl_MovesFor_n3 (x4051 : Int) (x4123 : Int) (x4124 : Int) (x4125 : Int) (x4126 : List Int) (x4127 : List Int) (x4128 : List Int) (x3342 : List Int) : Option ((Int × Int × Int × (List Int) × (List Int) × (List Int)) ⊕ ((List Int))) :=
  cond (decide (x4123 < x4051)) ((impl_stackMachine_ruleFor_2 x4124 x4125 x3342 x4127 x4128).bind fun (v4162 : Int) => cond (v4162 == 83) ((impl_stackMachine_putNext x4124 x4125 x4127 x4128).bind fun (v4164 : Bool × Int × Int × (List Int)) => (room ((List.length x4126) + List.length ([v4162]))).bind fun (v4171 : Unit) => some (Sum.inl ((IntKind.wrap .i64 (x4123 + 1)), (v4164.2.1), (v4164.2.2.1), (x4126 ++ ([v4162])), x4127, (v4164.2.2.2)))) (cond (v4162 == 76) ((impl_stackMachine_takeBelow x4124 x4125 x4127 x4128).bind fun (v4175 : Bool × (List Int) × (List Int)) => (room ((List.length x4126) + List.length ([v4162]))).bind fun (v4181 : Unit) => some (Sum.inl ((IntKind.wrap .i64 (x4123 + 1)), x4124, x4125, (x4126 ++ ([v4162])), (v4175.2.1), (v4175.2.2)))) (cond (v4162 == 82) ((impl_stackMachine_takeUpper x4124 x4125 x4127 x4128).bind fun (v4185 : Bool × (List Int) × (List Int)) => (room ((List.length x4126) + List.length ([v4162]))).bind fun (v4191 : Unit) => some (Sum.inl ((IntKind.wrap .i64 (x4123 + 1)), x4124, x4125, (x4126 ++ ([v4162])), (v4185.2.1), (v4185.2.2)))) (none)))) (some (Sum.inr x4126))

def impl_MovesFor_n4 (x4051 : Int) (x4046 : List Int) (x3342 : List Int) : Option (((List Int))) :=
  nloop (fun (s : Int × Int × Int × (List Int) × (List Int) × (List Int)) => ((impl_MovesFor_n3 x4051 s.1 s.2.1 s.2.2.1 s.2.2.2.1 s.2.2.2.2.1 s.2.2.2.2.2 x3342).map (Sum.elim (fun (t : Int × Int × Int × (List Int) × (List Int) × (List Int)) => Sum.inl (t.1, t.2.1, t.2.2.1, t.2.2.2.1, t.2.2.2.2.1, t.2.2.2.2.2)) (fun (t : (List Int)) => Sum.inr t)) : Option ((Int × Int × Int × (List Int) × (List Int) × (List Int)) ⊕ (((List Int)))))) LL (0, 0, 0, ([] : List Int), x4046, ([] : List Int))

def impl_MovesFor_n5 (x4051 : Int) (x4046 : List Int) (x3342 : List Int) : Option (((List Int))) :=
  (impl_MovesFor_n4 x4051 x4046 x3342).map (fun (t : (List Int)) => t)

def impl_MovesFor_n6 (x3342 : List Int) (x4046 : List Int) : Option (((List Int))) :=
  (impl_MovesFor_n2 x3342).bind (fun (t : Int) => impl_MovesFor_n5 t x4046 x3342)

def impl_MovesFor_n7 (x4126 : List Int) : Option ((ByteArray × Bool)) :=
  some ((bytesOf x4126), true)

def impl_MovesFor_n8 (x3342 : List Int) (x4046 : List Int) : Option ((ByteArray × Bool)) :=
  (impl_MovesFor_n6 x3342 x4046).bind (fun (t : (List Int)) => impl_MovesFor_n7 t)

def impl_MovesFor_n9 (x3342 : List Int) : Option ((ByteArray × Bool)) :=
  (impl_MovesFor_n1 x3342).bind (Sum.elim (fun (t : (List Int)) => impl_MovesFor_n8 x3342 t) (fun e => some ((fun (t : ByteArray × Bool) => t) e)))

@[irreducible] def impl_MovesFor (x3342 : List Int) : Option (ByteArray × Bool) :=
  impl_MovesFor_n9 x3342

def spec_TreeOk_n1 (x5097 : List Int) : Option (Int ⊕ Bool) :=
  (spec_l1In (((List.length x5097 : Nat) : Int)) 1 8).bind fun (v5103 : Bool) => cond (!v5103) (some (Sum.inr false)) (some (Sum.inl (((List.length x5097 : Nat) : Int))))

def spec_TreeOk_n2 : Option (Unit) :=
  some ()

def spec_TreeOk_n3 (x5102 : Int) (x5169 : Int) (x5170 : Int) : Option (Unit ⊕ Int) :=
  cond (decide (x5170 < x5102)) (some (Sum.inl ())) (some (Sum.inr x5169))

def spec_TreeOk_n4 (x5097 : List Int) (x5102 : Int) (x5169 : Int) (x5170 : Int) : Option ((Int × Int) ⊕ Bool) :=
  (idx x5097 x5170).bind fun (v5187 : Int) => (spec_l1In v5187 0 x5102).bind fun (v5188 : Bool) => cond (!v5188) (some (Sum.inr false)) ((idx x5097 x5170).bind fun (v5190 : Int) => cond (v5190 == (IntKind.wrap .i64 (x5170 + 1))) (some (Sum.inr false)) ((idx x5097 x5170).bind fun (v5193 : Int) => cond (v5193 == 0) (some (Sum.inl ((IntKind.wrap .i64 (x5169 + 1)), (IntKind.wrap .i64 (x5170 + 1))))) (some (Sum.inl (x5169, (IntKind.wrap .i64 (x5170 + 1)))))))

def spec_TreeOk_n5 : Option (Unit) :=
  some ()

def spec_TreeOk_n6 (x5097 : List Int) (x5102 : Int) (x5215 : Int) (x5216 : Int) : Option ((Int × Int) ⊕ Bool ⊕ Int) :=
  cond (decide (x5215 > 0)) (cond (decide (x5216 < x5102)) ((idx x5097 (IntKind.wrap .i64 (x5215 - 1))).bind fun (v5228 : Int) => (spec_l1In v5228 0 x5102).bind fun (v5229 : Bool) => cond (!v5229) (some (Sum.inr (Sum.inl false))) (some (Sum.inl (v5228, (IntKind.wrap .i64 (x5216 + 1)))))) (some (Sum.inr (Sum.inr x5215)))) (some (Sum.inr (Sum.inr x5215)))

def spec_TreeOk_n7 (x5097 : List Int) (x5102 : Int) (x5199 : Int) : Option (Bool ⊕ Int) :=
  nloop (fun (s : Int × Int) => ((spec_TreeOk_n6 x5097 x5102 s.1 s.2).map (Sum.elim (fun (t : Int × Int) => Sum.inl (t.1, t.2)) (Sum.elim (fun (t : Bool) => Sum.inr (Sum.inl t)) (fun (t : Int) => Sum.inr (Sum.inr t)))) : Option ((Int × Int) ⊕ (Bool ⊕ Int)))) LL (x5199, 0)

def spec_TreeOk_n8 (x5097 : List Int) (x5102 : Int) (x5199 : Int) : Option (Int ⊕ Bool) :=
  (spec_TreeOk_n7 x5097 x5102 x5199).map (Sum.elim (fun (t : Bool) => (Sum.inr t)) (fun (t : Int) => (Sum.inl t)))

def spec_TreeOk_n9 (x5097 : List Int) (x5102 : Int) (x5199 : Int) : Option (Int ⊕ Bool) :=
  (spec_TreeOk_n5).bind (fun (t : Unit) => spec_TreeOk_n8 x5097 x5102 x5199)

def spec_TreeOk_n10 (x5215 : Int) : Option (Unit ⊕ Bool) :=
  cond (decide (x5215 > 0)) (some (Sum.inr false)) (some (Sum.inl ()))

def spec_TreeOk_n11 (x5097 : List Int) (x5102 : Int) (x5199 : Int) : Option (Unit ⊕ Bool) :=
  (spec_TreeOk_n9 x5097 x5102 x5199).bind (Sum.elim (fun (t : Int) => spec_TreeOk_n10 t) (fun e => some ((fun (t : Bool) => (Sum.inr t)) e)))

def spec_TreeOk_n12 (x5097 : List Int) (x5102 : Int) (x5169 : Int) (x5170 : Int) : Option (Int ⊕ Bool) :=
  (spec_TreeOk_n4 x5097 x5102 x5169 x5170).bind (Sum.elim (fun (t : Int × Int) => (spec_TreeOk_n11 x5097 x5102 t.2).map (Sum.elim (fun (u : Unit) => (Sum.inl t.1)) (fun (u : Bool) => (Sum.inr u)))) (fun e => some ((fun (t : Bool) => (Sum.inr t)) e)))

def spec_TreeOk_n13 (x5097 : List Int) (x5102 : Int) (x5169 : Int) (x5170 : Int) : Option (Int ⊕ Bool) :=
  (spec_TreeOk_n12 x5097 x5102 x5169 x5170).map (Sum.elim (fun (t : Int) => (Sum.inl t)) (fun (t : Bool) => (Sum.inr t)))

def spec_TreeOk_n14 (x5170 : Int) : Option (Int) :=
  some (IntKind.wrap .i64 (x5170 + 1))

def spec_TreeOk_n15 (x5097 : List Int) (x5102 : Int) (x5169 : Int) (x5170 : Int) : Option ((Int × Int) ⊕ Bool) :=
  (spec_TreeOk_n13 x5097 x5102 x5169 x5170).bind (Sum.elim (fun (t : Int) => (spec_TreeOk_n14 x5170).map (fun (u : Int) => (Sum.inl (t, u)))) (fun e => some ((fun (t : Bool) => (Sum.inr t)) e)))

def spec_TreeOk_n16 (x5097 : List Int) (x5102 : Int) (x5169 : Int) (x5170 : Int) : Option ((Int × Int) ⊕ Bool ⊕ Int) :=
  (spec_TreeOk_n3 x5102 x5169 x5170).bind (Sum.elim (fun (t : Unit) => (spec_TreeOk_n15 x5097 x5102 x5169 x5170).map (Sum.elim (fun (t : Int × Int) => (Sum.inl (t.1, t.2))) (fun (t : Bool) => (Sum.inr (Sum.inl t))))) (fun e => some ((fun (t : Int) => (Sum.inr (Sum.inr t))) e)))

def spec_TreeOk_n17 (x5097 : List Int) (x5102 : Int) : Option (Bool ⊕ Int) :=
  nloop (fun (s : Int × Int) => ((spec_TreeOk_n16 x5097 x5102 s.1 s.2).map (Sum.elim (fun (t : Int × Int) => Sum.inl (t.1, t.2)) (Sum.elim (fun (t : Bool) => Sum.inr (Sum.inl t)) (fun (t : Int) => Sum.inr (Sum.inr t)))) : Option ((Int × Int) ⊕ (Bool ⊕ Int)))) LL (0, 0)

def spec_TreeOk_n18 (x5097 : List Int) (x5102 : Int) : Option (Int ⊕ Bool) :=
  (spec_TreeOk_n17 x5097 x5102).map (Sum.elim (fun (t : Bool) => (Sum.inr t)) (fun (t : Int) => (Sum.inl t)))

def spec_TreeOk_n19 (x5097 : List Int) (x5102 : Int) : Option (Int ⊕ Bool) :=
  (spec_TreeOk_n2).bind (fun (t : Unit) => spec_TreeOk_n18 x5097 x5102)

def spec_TreeOk_n20 (x5169 : Int) : Option (Bool) :=
  some (x5169 == 1)

def spec_TreeOk_n21 (x5097 : List Int) (x5102 : Int) : Option (Bool) :=
  (spec_TreeOk_n19 x5097 x5102).bind (Sum.elim (fun (t : Int) => spec_TreeOk_n20 t) (fun e => some ((fun (t : Bool) => t) e)))

def spec_TreeOk_n22 (x5097 : List Int) : Option (Bool) :=
  (spec_TreeOk_n1 x5097).bind (Sum.elim (fun (t : Int) => spec_TreeOk_n21 x5097 t) (fun e => some ((fun (t : Bool) => t) e)))

@[irreducible] def spec_TreeOk (x5097 : List Int) : Option (Bool) :=
  spec_TreeOk_n22 x5097

def spec_l2Yield_n1 (R0 : (List Int) → Int → Option Int) (x5243 : Int) : Option (Int) :=
  (shl .i64 1 (IntKind.wrap .i64 (x5243 - 1))).bind fun (v5274 : Int) => some v5274

def spec_l2Yield_n2 (R0 : (List Int) → Int → Option Int) : Option (Unit) :=
  some ()

def spec_l2Yield_n3 (R0 : (List Int) → Int → Option Int) (x5242 : List Int) (x5243 : Int) (x5295 : Int) (x5296 : Int) : Option ((Int × Int) ⊕ Int) :=
  cond (decide (x5296 < (((List.length x5242 : Nat) : Int)))) ((idx x5242 x5296).bind fun (v5308 : Int) => cond (v5308 == x5243) ((R0 x5242 (IntKind.wrap .i64 (x5296 + 1))).bind fun (v5311 : Int) => some (Sum.inl ((ior .i64 x5295 v5311), (IntKind.wrap .i64 (x5296 + 1))))) (some (Sum.inl (x5295, (IntKind.wrap .i64 (x5296 + 1)))))) (some (Sum.inr x5295))

def spec_l2Yield_n4 (R0 : (List Int) → Int → Option Int) (x5242 : List Int) (x5243 : Int) (x5274 : Int) : Option (Int) :=
  nloop (fun (s : Int × Int) => ((spec_l2Yield_n3 R0 x5242 x5243 s.1 s.2).map (Sum.elim (fun (t : Int × Int) => Sum.inl (t.1, t.2)) (fun (t : Int) => Sum.inr t)) : Option ((Int × Int) ⊕ (Int)))) LL (x5274, 0)

def spec_l2Yield_n5 (R0 : (List Int) → Int → Option Int) (x5242 : List Int) (x5243 : Int) (x5274 : Int) : Option (Int) :=
  (spec_l2Yield_n4 R0 x5242 x5243 x5274).map (fun (t : Int) => t)

def spec_l2Yield_n6 (R0 : (List Int) → Int → Option Int) (x5242 : List Int) (x5243 : Int) (x5274 : Int) : Option (Int) :=
  (spec_l2Yield_n2 R0).bind (fun (t : Unit) => spec_l2Yield_n5 R0 x5242 x5243 x5274)

def spec_l2Yield_n7 (R0 : (List Int) → Int → Option Int) (x5295 : Int) : Option (Int) :=
  some x5295

def spec_l2Yield_n8 (R0 : (List Int) → Int → Option Int) (x5242 : List Int) (x5243 : Int) (x5274 : Int) : Option (Int) :=
  (spec_l2Yield_n6 R0 x5242 x5243 x5274).bind (fun (t : Int) => spec_l2Yield_n7 R0 t)

def spec_l2Yield_n9 (R0 : (List Int) → Int → Option Int) (x5242 : List Int) (x5243 : Int) : Option (Int) :=
  (spec_l2Yield_n1 R0 x5243).bind (fun (t : Int) => spec_l2Yield_n8 R0 x5242 x5243 t)

def spec_l2Yield_one (R0 : (List Int) → Int → Option Int) (x5242 : List Int) (x5243 : Int) : Option (Int) :=
  spec_l2Yield_n9 R0 x5242 x5243

def spec_l2Yield_knot : Nat → ((List Int) → Int → Option Int)
  | 0 => (fun _ _ => none)
  | n + 1 => (fun y0 y1 => spec_l2Yield_one (spec_l2Yield_knot n) y0 y1)

def spec_l2Yield_fuel (n : Nat) : (List Int) → Int → Option Int := (spec_l2Yield_knot n)

@[irreducible] def spec_l2Yield (x5242 : List Int) (x5243 : Int) : Option (Int) := spec_l2Yield_fuel RR x5242 x5243

def spec_l3Row_n1 : Option (Unit) :=
  some ()

def spec_l3Row_n2 (x5324 : Int) : Option (Int ⊕ Int) :=
  (rem x5324 2).bind fun (v5327 : Int) => cond (v5327 == 0) ((quo .i64 x5324 2).bind fun (v5329 : Int) => some (Sum.inl v5329)) (some (Sum.inr x5324))

def spec_l3Row_n3 (x5318 : Int) : Option (Int) :=
  nloop (fun (s : Int) => ((spec_l3Row_n2 s).map (Sum.elim (fun (t : Int) => Sum.inl t) (fun (t : Int) => Sum.inr t)) : Option ((Int) ⊕ (Int)))) LL x5318

def spec_l3Row_n4 (x5318 : Int) : Option (Int) :=
  (spec_l3Row_n3 x5318).map (fun (t : Int) => t)

def spec_l3Row_n5 (x5324 : Int) : Option (Bool) :=
  some ((iand .i64 x5324 (IntKind.wrap .i64 (x5324 + 1))) == 0)

def spec_l3Row_n6 (x5318 : Int) : Option (Bool) :=
  (spec_l3Row_n4 x5318).bind (fun (t : Int) => spec_l3Row_n5 t)

def spec_l3Row_n7 (x5318 : Int) : Option (Bool) :=
  (spec_l3Row_n1).bind (fun (t : Unit) => spec_l3Row_n6 x5318)

@[irreducible] def spec_l3Row (x5318 : Int) : Option (Bool) :=
  spec_l3Row_n7 x5318

def spec_FlatOk_n1 : Option (Unit) :=
  some ()

def spec_FlatOk_n2 : Option (Unit) :=
  some ()

def spec_FlatOk_n3 (x5094 : List Int) (x5345 : Int) : Option (Int ⊕ Bool ⊕ Unit) :=
  cond (decide (x5345 ≤ (((List.length x5094 : Nat) : Int)))) ((spec_TreeOk x5094).bind fun (v5357 : Bool) => cond v5357 ((spec_l2Yield x5094 x5345).bind fun (v5358 : Int) => (spec_l3Row v5358).bind fun (v5359 : Bool) => cond (!v5359) (some (Sum.inr (Sum.inl false))) (some (Sum.inl (IntKind.wrap .i64 (x5345 + 1))))) (some (Sum.inr (Sum.inr ())))) (some (Sum.inr (Sum.inr ())))

def spec_FlatOk_n4 (x5094 : List Int) : Option (Bool ⊕ Unit) :=
  nloop (fun (s : Int) => ((spec_FlatOk_n3 x5094 s).map (Sum.elim (fun (t : Int) => Sum.inl t) (Sum.elim (fun (t : Bool) => Sum.inr (Sum.inl t)) (fun (t : Unit) => Sum.inr (Sum.inr t)))) : Option ((Int) ⊕ (Bool ⊕ Unit)))) LL 1

def spec_FlatOk_n5 (x5094 : List Int) : Option (Unit ⊕ Bool) :=
  (spec_FlatOk_n4 x5094).map (Sum.elim (fun (t : Bool) => (Sum.inr t)) (fun (t : Unit) => (Sum.inl ())))

def spec_FlatOk_n6 (x5094 : List Int) : Option (Unit ⊕ Bool) :=
  (spec_FlatOk_n2).bind (fun (t : Unit) => spec_FlatOk_n5 x5094)

def spec_FlatOk_n7 (x5094 : List Int) : Option (Bool) :=
  (spec_TreeOk x5094).bind fun (v5363 : Bool) => some v5363

def spec_FlatOk_n8 (x5094 : List Int) : Option (Bool) :=
  (spec_FlatOk_n6 x5094).bind (Sum.elim (fun (t : Unit) => spec_FlatOk_n7 x5094) (fun e => some ((fun (t : Bool) => t) e)))

def spec_FlatOk_n9 (x5094 : List Int) : Option (Bool) :=
  (spec_FlatOk_n1).bind (fun (t : Unit) => spec_FlatOk_n8 x5094)

@[irreducible] def spec_FlatOk (x5094 : List Int) : Option (Bool) :=
  spec_FlatOk_n9 x5094

def spec_l6Free_n1 : Option (Unit) :=
  some ()

def spec_l6Free_n2 : Option (Unit) :=
  some ()

def spec_l6Free_n3 (x5407 : List Int) (x5408 : Int) (x5409 : List Bool) (x5427 : Int) : Option (Int ⊕ Bool ⊕ Unit) :=
  cond (decide (x5427 < (((List.length x5407 : Nat) : Int)))) ((idx x5407 x5427).bind fun (v5438 : Int) => cond (v5438 == x5408) ((idx x5409 x5427).bind fun (v5440 : Bool) => cond (!v5440) (some (Sum.inr (Sum.inl false))) (some (Sum.inl (IntKind.wrap .i64 (x5427 + 1))))) (some (Sum.inl (IntKind.wrap .i64 (x5427 + 1))))) (some (Sum.inr (Sum.inr ())))

def spec_l6Free_n4 (x5407 : List Int) (x5408 : Int) (x5409 : List Bool) : Option (Bool ⊕ Unit) :=
  nloop (fun (s : Int) => ((spec_l6Free_n3 x5407 x5408 x5409 s).map (Sum.elim (fun (t : Int) => Sum.inl t) (Sum.elim (fun (t : Bool) => Sum.inr (Sum.inl t)) (fun (t : Unit) => Sum.inr (Sum.inr t)))) : Option ((Int) ⊕ (Bool ⊕ Unit)))) LL 0

def spec_l6Free_n5 (x5407 : List Int) (x5408 : Int) (x5409 : List Bool) : Option (Unit ⊕ Bool) :=
  (spec_l6Free_n4 x5407 x5408 x5409).map (Sum.elim (fun (t : Bool) => (Sum.inr t)) (fun (t : Unit) => (Sum.inl ())))

def spec_l6Free_n6 (x5407 : List Int) (x5408 : Int) (x5409 : List Bool) : Option (Unit ⊕ Bool) :=
  (spec_l6Free_n2).bind (fun (t : Unit) => spec_l6Free_n5 x5407 x5408 x5409)

def spec_l6Free_n7 : Option (Bool) :=
  some true

def spec_l6Free_n8 (x5407 : List Int) (x5408 : Int) (x5409 : List Bool) : Option (Bool) :=
  (spec_l6Free_n6 x5407 x5408 x5409).bind (Sum.elim (fun (t : Unit) => spec_l6Free_n7) (fun e => some ((fun (t : Bool) => t) e)))

def spec_l6Free_n9 (x5407 : List Int) (x5408 : Int) (x5409 : List Bool) : Option (Bool) :=
  (spec_l6Free_n1).bind (fun (t : Unit) => spec_l6Free_n8 x5407 x5408 x5409)

@[irreducible] def spec_l6Free (x5407 : List Int) (x5408 : Int) (x5409 : List Bool) : Option (Bool) :=
  spec_l6Free_n9 x5407 x5408 x5409

def spec_MovesFor_n1 (x5093 : List Int) : Option (((List Bool)) ⊕ (ByteArray × Bool)) :=
  (spec_FlatOk x5093).bind fun (v5525 : Bool) => cond (!v5525) (some (Sum.inr (ByteArray.empty, false))) ((mk (((List.length x5093 : Nat) : Int)) (((List.length x5093 : Nat) : Int))).bind fun (v5528 : Nat) => some (Sum.inl (List.replicate v5528 false)))

def spec_MovesFor_n2 (x5093 : List Int) (x5927 : ByteArray) (x5928 : Int) (x5930 : List Int) : Option (Unit ⊕ ByteArray) :=
  cond (decide (x5928 ≤ (((List.length x5093 : Nat) : Int)))) (some (Sum.inl ())) (cond (decide ((((List.length x5930 : Nat) : Int)) > 1)) (some (Sum.inl ())) (some (Sum.inr x5927)))

def spec_MovesFor_n3 (x5093 : List Int) (x5927 : ByteArray) (x5928 : Int) (x5929 : List Bool) (x5930 : List Int) : Option ((ByteArray × Int × (List Bool) × (List Int))) :=
  cond (decide ((IntKind.wrap .i64 ((((List.length x5930 : Nat) : Int)) - 1)) ≥ 1)) ((inb (IntKind.wrap .i64 ((IntKind.wrap .i64 ((((List.length x5930 : Nat) : Int)) - 1)) - 1)) (List.length x5930)).bind fun (v6165 : Nat) => (x5930[v6165]?).bind fun (v6166 : Int) => (idx x5093 (IntKind.wrap .i64 (v6166 - 1))).bind fun (v6168 : Int) => (inb (IntKind.wrap .i64 ((((List.length x5930 : Nat) : Int)) - 1)) (List.length x5930)).bind fun (v6169 : Nat) => (x5930[v6169]?).bind fun (v6170 : Int) => cond (v6168 == v6170) ((inb (IntKind.wrap .i64 ((IntKind.wrap .i64 ((((List.length x5930 : Nat) : Int)) - 1)) - 1)) (List.length x5930)).bind fun (v6173 : Nat) => (x5930[v6173]?).bind fun (v6174 : Int) => (spec_l6Free x5093 v6174 x5929).bind fun (v6175 : Bool) => cond v6175 ((cat x5927 (ByteArray.mk #[76])).bind fun (v6176 : ByteArray) => (inb (IntKind.wrap .i64 ((IntKind.wrap .i64 ((((List.length x5930 : Nat) : Int)) - 1)) - 1)) (List.length x5930)).bind fun (v6178 : Nat) => (x5930[v6178]?).bind fun (v6179 : Int) => (inb (IntKind.wrap .i64 (v6179 - 1)) (List.length x5929)).bind fun (v6181 : Nat) => (inc (IntKind.wrap .i64 ((IntKind.wrap .i64 ((((List.length x5930 : Nat) : Int)) - 1)) - 1)) (List.length x5930)).bind fun (v6185 : Nat) => (inb (IntKind.wrap .i64 ((((List.length x5930 : Nat) : Int)) - 1)) (List.length x5930)).bind fun (v6187 : Nat) => (x5930[v6187]?).bind fun (v6188 : Int) => (room (List.length ((x5930.drop 0).take (v6185 - 0)))).bind fun (v6191 : Unit) => (room ((List.length ((x5930.drop 0).take (v6185 - 0))) + List.length ([v6188]))).bind fun (v6193 : Unit) => some (v6176, x5928, (x5929.set v6181 true), (((x5930.drop 0).take (v6185 - 0)) ++ ([v6188])))) (cond (decide ((IntKind.wrap .i64 ((((List.length x5930 : Nat) : Int)) - 1)) ≥ 1)) ((inb (IntKind.wrap .i64 ((((List.length x5930 : Nat) : Int)) - 1)) (List.length x5930)).bind fun (v6196 : Nat) => (x5930[v6196]?).bind fun (v6197 : Int) => (idx x5093 (IntKind.wrap .i64 (v6197 - 1))).bind fun (v6199 : Int) => (inb (IntKind.wrap .i64 ((IntKind.wrap .i64 ((((List.length x5930 : Nat) : Int)) - 1)) - 1)) (List.length x5930)).bind fun (v6201 : Nat) => (x5930[v6201]?).bind fun (v6202 : Int) => cond (v6199 == v6202) ((inb (IntKind.wrap .i64 ((((List.length x5930 : Nat) : Int)) - 1)) (List.length x5930)).bind fun (v6204 : Nat) => (x5930[v6204]?).bind fun (v6205 : Int) => (spec_l6Free x5093 v6205 x5929).bind fun (v6206 : Bool) => cond v6206 ((cat x5927 (ByteArray.mk #[82])).bind fun (v6207 : ByteArray) => (inb (IntKind.wrap .i64 ((((List.length x5930 : Nat) : Int)) - 1)) (List.length x5930)).bind fun (v6208 : Nat) => (x5930[v6208]?).bind fun (v6209 : Int) => (inb (IntKind.wrap .i64 (v6209 - 1)) (List.length x5929)).bind fun (v6211 : Nat) => (inc (IntKind.wrap .i64 ((((List.length x5930 : Nat) : Int)) - 1)) (List.length x5930)).bind fun (v6214 : Nat) => (room ((List.length ([] : List Int)) + List.length ((x5930.drop 0).take (v6214 - 0)))).bind fun (v6218 : Unit) => some (v6207, x5928, (x5929.set v6211 true), (([] : List Int) ++ ((x5930.drop 0).take (v6214 - 0))))) ((cat x5927 (ByteArray.mk #[83])).bind fun (v6220 : ByteArray) => (room ((List.length x5930) + List.length ([x5928]))).bind fun (v6223 : Unit) => some (v6220, (IntKind.wrap .i64 (x5928 + 1)), x5929, (x5930 ++ ([x5928]))))) ((cat x5927 (ByteArray.mk #[83])).bind fun (v6226 : ByteArray) => (room ((List.length x5930) + List.length ([x5928]))).bind fun (v6229 : Unit) => some (v6226, (IntKind.wrap .i64 (x5928 + 1)), x5929, (x5930 ++ ([x5928]))))) ((cat x5927 (ByteArray.mk #[83])).bind fun (v6232 : ByteArray) => (room ((List.length x5930) + List.length ([x5928]))).bind fun (v6235 : Unit) => some (v6232, (IntKind.wrap .i64 (x5928 + 1)), x5929, (x5930 ++ ([x5928])))))) (cond (decide ((IntKind.wrap .i64 ((((List.length x5930 : Nat) : Int)) - 1)) ≥ 1)) ((inb (IntKind.wrap .i64 ((((List.length x5930 : Nat) : Int)) - 1)) (List.length x5930)).bind fun (v6239 : Nat) => (x5930[v6239]?).bind fun (v6240 : Int) => (idx x5093 (IntKind.wrap .i64 (v6240 - 1))).bind fun (v6242 : Int) => (inb (IntKind.wrap .i64 ((IntKind.wrap .i64 ((((List.length x5930 : Nat) : Int)) - 1)) - 1)) (List.length x5930)).bind fun (v6244 : Nat) => (x5930[v6244]?).bind fun (v6245 : Int) => cond (v6242 == v6245) ((inb (IntKind.wrap .i64 ((((List.length x5930 : Nat) : Int)) - 1)) (List.length x5930)).bind fun (v6247 : Nat) => (x5930[v6247]?).bind fun (v6248 : Int) => (spec_l6Free x5093 v6248 x5929).bind fun (v6249 : Bool) => cond v6249 ((cat x5927 (ByteArray.mk #[82])).bind fun (v6250 : ByteArray) => (inb (IntKind.wrap .i64 ((((List.length x5930 : Nat) : Int)) - 1)) (List.length x5930)).bind fun (v6251 : Nat) => (x5930[v6251]?).bind fun (v6252 : Int) => (inb (IntKind.wrap .i64 (v6252 - 1)) (List.length x5929)).bind fun (v6254 : Nat) => (inc (IntKind.wrap .i64 ((((List.length x5930 : Nat) : Int)) - 1)) (List.length x5930)).bind fun (v6257 : Nat) => (room ((List.length ([] : List Int)) + List.length ((x5930.drop 0).take (v6257 - 0)))).bind fun (v6261 : Unit) => some (v6250, x5928, (x5929.set v6254 true), (([] : List Int) ++ ((x5930.drop 0).take (v6257 - 0))))) ((cat x5927 (ByteArray.mk #[83])).bind fun (v6263 : ByteArray) => (room ((List.length x5930) + List.length ([x5928]))).bind fun (v6266 : Unit) => some (v6263, (IntKind.wrap .i64 (x5928 + 1)), x5929, (x5930 ++ ([x5928]))))) ((cat x5927 (ByteArray.mk #[83])).bind fun (v6269 : ByteArray) => (room ((List.length x5930) + List.length ([x5928]))).bind fun (v6272 : Unit) => some (v6269, (IntKind.wrap .i64 (x5928 + 1)), x5929, (x5930 ++ ([x5928]))))) ((cat x5927 (ByteArray.mk #[83])).bind fun (v6275 : ByteArray) => (room ((List.length x5930) + List.length ([x5928]))).bind fun (v6278 : Unit) => some (v6275, (IntKind.wrap .i64 (x5928 + 1)), x5929, (x5930 ++ ([x5928])))))) (cond (decide ((IntKind.wrap .i64 ((((List.length x5930 : Nat) : Int)) - 1)) ≥ 1)) ((inb (IntKind.wrap .i64 ((((List.length x5930 : Nat) : Int)) - 1)) (List.length x5930)).bind fun (v6282 : Nat) => (x5930[v6282]?).bind fun (v6283 : Int) => (idx x5093 (IntKind.wrap .i64 (v6283 - 1))).bind fun (v6285 : Int) => (inb (IntKind.wrap .i64 ((IntKind.wrap .i64 ((((List.length x5930 : Nat) : Int)) - 1)) - 1)) (List.length x5930)).bind fun (v6287 : Nat) => (x5930[v6287]?).bind fun (v6288 : Int) => cond (v6285 == v6288) ((inb (IntKind.wrap .i64 ((((List.length x5930 : Nat) : Int)) - 1)) (List.length x5930)).bind fun (v6290 : Nat) => (x5930[v6290]?).bind fun (v6291 : Int) => (spec_l6Free x5093 v6291 x5929).bind fun (v6292 : Bool) => cond v6292 ((cat x5927 (ByteArray.mk #[82])).bind fun (v6293 : ByteArray) => (inb (IntKind.wrap .i64 ((((List.length x5930 : Nat) : Int)) - 1)) (List.length x5930)).bind fun (v6294 : Nat) => (x5930[v6294]?).bind fun (v6295 : Int) => (inb (IntKind.wrap .i64 (v6295 - 1)) (List.length x5929)).bind fun (v6297 : Nat) => (inc (IntKind.wrap .i64 ((((List.length x5930 : Nat) : Int)) - 1)) (List.length x5930)).bind fun (v6300 : Nat) => (room ((List.length ([] : List Int)) + List.length ((x5930.drop 0).take (v6300 - 0)))).bind fun (v6304 : Unit) => some (v6293, x5928, (x5929.set v6297 true), (([] : List Int) ++ ((x5930.drop 0).take (v6300 - 0))))) ((cat x5927 (ByteArray.mk #[83])).bind fun (v6306 : ByteArray) => (room ((List.length x5930) + List.length ([x5928]))).bind fun (v6309 : Unit) => some (v6306, (IntKind.wrap .i64 (x5928 + 1)), x5929, (x5930 ++ ([x5928]))))) ((cat x5927 (ByteArray.mk #[83])).bind fun (v6312 : ByteArray) => (room ((List.length x5930) + List.length ([x5928]))).bind fun (v6315 : Unit) => some (v6312, (IntKind.wrap .i64 (x5928 + 1)), x5929, (x5930 ++ ([x5928]))))) ((cat x5927 (ByteArray.mk #[83])).bind fun (v6318 : ByteArray) => (room ((List.length x5930) + List.length ([x5928]))).bind fun (v6321 : Unit) => some (v6318, (IntKind.wrap .i64 (x5928 + 1)), x5929, (x5930 ++ ([x5928])))))

def spec_MovesFor_n4 (x5093 : List Int) (x5927 : ByteArray) (x5928 : Int) (x5929 : List Bool) (x5930 : List Int) : Option ((ByteArray × Int × (List Bool) × (List Int)) ⊕ ByteArray) :=
  (spec_MovesFor_n2 x5093 x5927 x5928 x5930).bind (Sum.elim (fun (t : Unit) => (spec_MovesFor_n3 x5093 x5927 x5928 x5929 x5930).map (fun (t : ByteArray × Int × (List Bool) × (List Int)) => (Sum.inl (t.1, t.2.1, t.2.2.1, t.2.2.2)))) (fun e => some ((fun (t : ByteArray) => (Sum.inr t)) e)))

def spec_MovesFor_n5 (x5093 : List Int) (x5529 : List Bool) : Option (ByteArray) :=
  nloop (fun (s : ByteArray × Int × (List Bool) × (List Int)) => ((spec_MovesFor_n4 x5093 s.1 s.2.1 s.2.2.1 s.2.2.2).map (Sum.elim (fun (t : ByteArray × Int × (List Bool) × (List Int)) => Sum.inl (t.1, t.2.1, t.2.2.1, t.2.2.2)) (fun (t : ByteArray) => Sum.inr t)) : Option ((ByteArray × Int × (List Bool) × (List Int)) ⊕ (ByteArray)))) LL (ByteArray.empty, 1, x5529, ([] : List Int))

def spec_MovesFor_n6 (x5093 : List Int) (x5529 : List Bool) : Option (ByteArray) :=
  (spec_MovesFor_n5 x5093 x5529).map (fun (t : ByteArray) => t)

def spec_MovesFor_n7 (x5927 : ByteArray) : Option ((ByteArray × Bool)) :=
  some (x5927, true)

def spec_MovesFor_n8 (x5093 : List Int) (x5529 : List Bool) : Option ((ByteArray × Bool)) :=
  (spec_MovesFor_n6 x5093 x5529).bind (fun (t : ByteArray) => spec_MovesFor_n7 t)

def spec_MovesFor_n9 (x5093 : List Int) : Option ((ByteArray × Bool)) :=
  (spec_MovesFor_n1 x5093).bind (Sum.elim (fun (t : (List Bool)) => spec_MovesFor_n8 x5093 t) (fun e => some ((fun (t : ByteArray × Bool) => t) e)))

@[irreducible] def spec_MovesFor (x5093 : List Int) : Option (ByteArray × Bool) :=
  spec_MovesFor_n9 x5093

def laws_toIntS_n1 (x14389 : List Int) : Option (((List Int))) :=
  (mk (((List.length x14389 : Nat) : Int)) (((List.length x14389 : Nat) : Int))).bind fun (v14391 : Nat) => some (List.replicate v14391 (0 : Int))

def laws_toIntS_n2 : Option (Unit) :=
  some ()

def laws_toIntS_n3 (x14389 : List Int) (x14406 : Int) (x14407 : List Int) : Option ((Int × (List Int)) ⊕ ((List Int))) :=
  cond (decide (x14406 < (((List.length x14389 : Nat) : Int)))) ((idx x14389 x14406).bind fun (v14417 : Int) => (inb x14406 (List.length x14407)).bind fun (v14418 : Nat) => some (Sum.inl ((IntKind.wrap .i64 (x14406 + 1)), (x14407.set v14418 v14417)))) (some (Sum.inr x14407))

def laws_toIntS_n4 (x14389 : List Int) (x14392 : List Int) : Option (((List Int))) :=
  nloop (fun (s : Int × (List Int)) => ((laws_toIntS_n3 x14389 s.1 s.2).map (Sum.elim (fun (t : Int × (List Int)) => Sum.inl (t.1, t.2)) (fun (t : (List Int)) => Sum.inr t)) : Option ((Int × (List Int)) ⊕ (((List Int)))))) LL (0, x14392)

def laws_toIntS_n5 (x14389 : List Int) (x14392 : List Int) : Option (((List Int))) :=
  (laws_toIntS_n4 x14389 x14392).map (fun (t : (List Int)) => t)

def laws_toIntS_n6 (x14389 : List Int) (x14392 : List Int) : Option (((List Int))) :=
  (laws_toIntS_n2).bind (fun (t : Unit) => laws_toIntS_n5 x14389 x14392)

def laws_toIntS_n7 (x14407 : List Int) : Option (((List Int))) :=
  some x14407

def laws_toIntS_n8 (x14389 : List Int) (x14392 : List Int) : Option (((List Int))) :=
  (laws_toIntS_n6 x14389 x14392).bind (fun (t : (List Int)) => laws_toIntS_n7 t)

def laws_toIntS_n9 (x14389 : List Int) : Option (((List Int))) :=
  (laws_toIntS_n1 x14389).bind (fun (t : (List Int)) => laws_toIntS_n8 x14389 t)

@[irreducible] def laws_toIntS (x14389 : List Int) : Option ((List Int)) :=
  laws_toIntS_n9 x14389

def laws_eqIntS_n1 (x14467 : List Int) (x14468 : List Int) : Option (Unit ⊕ Bool) :=
  cond ((((List.length x14467 : Nat) : Int)) != (((List.length x14468 : Nat) : Int))) (some (Sum.inr false)) (some (Sum.inl ()))

def laws_eqIntS_n2 : Option (Unit) :=
  some ()

def laws_eqIntS_n3 (x14467 : List Int) (x14468 : List Int) (x14485 : Int) : Option (Int ⊕ Bool ⊕ Unit) :=
  cond (decide (x14485 < (((List.length x14467 : Nat) : Int)))) ((idx x14467 x14485).bind fun (v14495 : Int) => (idx x14468 x14485).bind fun (v14496 : Int) => cond (v14495 != v14496) (some (Sum.inr (Sum.inl false))) (some (Sum.inl (IntKind.wrap .i64 (x14485 + 1))))) (some (Sum.inr (Sum.inr ())))

def laws_eqIntS_n4 (x14467 : List Int) (x14468 : List Int) : Option (Bool ⊕ Unit) :=
  nloop (fun (s : Int) => ((laws_eqIntS_n3 x14467 x14468 s).map (Sum.elim (fun (t : Int) => Sum.inl t) (Sum.elim (fun (t : Bool) => Sum.inr (Sum.inl t)) (fun (t : Unit) => Sum.inr (Sum.inr t)))) : Option ((Int) ⊕ (Bool ⊕ Unit)))) LL 0

def laws_eqIntS_n5 (x14467 : List Int) (x14468 : List Int) : Option (Unit ⊕ Bool) :=
  (laws_eqIntS_n4 x14467 x14468).map (Sum.elim (fun (t : Bool) => (Sum.inr t)) (fun (t : Unit) => (Sum.inl ())))

def laws_eqIntS_n6 (x14467 : List Int) (x14468 : List Int) : Option (Unit ⊕ Bool) :=
  (laws_eqIntS_n2).bind (fun (t : Unit) => laws_eqIntS_n5 x14467 x14468)

def laws_eqIntS_n7 : Option (Bool) :=
  some true

def laws_eqIntS_n8 (x14467 : List Int) (x14468 : List Int) : Option (Bool) :=
  (laws_eqIntS_n6 x14467 x14468).bind (Sum.elim (fun (t : Unit) => laws_eqIntS_n7) (fun e => some ((fun (t : Bool) => t) e)))

def laws_eqIntS_n9 (x14467 : List Int) (x14468 : List Int) : Option (Bool) :=
  (laws_eqIntS_n1 x14467 x14468).bind (Sum.elim (fun (t : Unit) => laws_eqIntS_n8 x14467 x14468) (fun e => some ((fun (t : Bool) => t) e)))

@[irreducible] def laws_eqIntS (x14467 : List Int) (x14468 : List Int) : Option (Bool) :=
  laws_eqIntS_n9 x14467 x14468

def laws_FnExactMovesFor_n1 (x14384 : List Int) : Option (Bool) :=
  cond (decide ((((List.length x14384 : Nat) : Int)) > 1048576)) (some true) ((laws_toIntS x14384).bind fun (v14519 : List Int) => (spec_MovesFor v14519).bind fun (v14520 : ByteArray × Bool) => (laws_toIntS x14384).bind fun (v14523 : List Int) => (impl_MovesFor v14523).bind fun (v14524 : ByteArray × Bool) => cond (!(seqs (v14524.1) (v14520.1))) (some false) (cond ((v14524.2) != (v14520.2)) (some false) ((laws_toIntS x14384).bind fun (v14529 : List Int) => (laws_eqIntS v14523 v14529).bind fun (v14530 : Bool) => cond (!v14530) (some false) (some true))))

@[irreducible] def laws_FnExactMovesFor (x14384 : List Int) : Option (Bool) :=
  laws_FnExactMovesFor_n1 x14384

end Go.Rv
