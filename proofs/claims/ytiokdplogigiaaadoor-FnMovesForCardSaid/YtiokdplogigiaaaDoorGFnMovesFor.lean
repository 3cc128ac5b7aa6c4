/-
  Plain functions, written by program for functions of the checked code. Conditions: none.
-/
import Derived.Test.YtiokdplogigiaaaDoorFB
set_option linter.unusedVariables false
namespace Go.Rv
def spec_l20Open_n1 (x13 : List Int) : Option (((List Int))) :=
  cond (decide ((((List.length x13 : Nat) : Int)) > 2000)) ((inc 2000 (List.length x13)).bind fun (v29 : Nat) => some ((x13.take v29).drop 0)) (some x13)

@[irreducible] def spec_l20Open (x13 : List Int) : Option ((List Int)) :=
  spec_l20Open_n1 x13

def spec_l20Rd_pick_n1 (x35 : Int) (x36 : List Int) (x37 : Int) : Option ((Int × Int)) :=
  cond (decide (x35 < 1)) (some (0, (IntKind.wrap .i64 (x37 + 1)))) (cond ((((List.length x36 : Nat) : Int)) == 0) (some (0, (IntKind.wrap .i64 (x37 + 1)))) (cond (decide ((IntKind.wrap .i64 ((IntKind.wrap .i64 (x37 + 1)) - 1)) < (((List.length x36 : Nat) : Int)))) ((idx x36 (IntKind.wrap .i64 ((IntKind.wrap .i64 (x37 + 1)) - 1))).bind fun (v165 : Int) => (rem (IntKind.wrap .i64 v165) x35).bind fun (v167 : Int) => some (v167, (IntKind.wrap .i64 (x37 + 1)))) ((rem (IntKind.wrap .i64 ((IntKind.wrap .i64 (x37 + 1)) - 1)) (((List.length x36 : Nat) : Int))).bind fun (v169 : Int) => (idx x36 v169).bind fun (v170 : Int) => (rem (IntKind.wrap .i64 ((IntKind.wrap .i64 ((IntKind.wrap .i64 ((IntKind.wrap .i64 (x37 + 1)) - 1)) * 7)) + 3)) (((List.length x36 : Nat) : Int))).bind fun (v176 : Int) => (idx x36 v176).bind fun (v177 : Int) => (quo .i64 (IntKind.wrap .i64 ((IntKind.wrap .i64 (x37 + 1)) - 1)) (((List.length x36 : Nat) : Int))).bind fun (v184 : Int) => (quo .i64 (IntKind.wrap .i64 ((IntKind.wrap .i64 ((IntKind.wrap .i64 ((IntKind.wrap .i64 ((IntKind.wrap .i64 v170) * 131)) + (IntKind.wrap .i64 ((IntKind.wrap .i64 v177) * 1117)))) + (IntKind.wrap .i64 ((IntKind.wrap .i64 ((IntKind.wrap .i64 (x37 + 1)) - 1)) * 29)))) + (IntKind.wrap .i64 (v184 * 53)))) 64).bind fun (v187 : Int) => (rem (ixor .i64 (IntKind.wrap .i64 ((IntKind.wrap .i64 ((IntKind.wrap .i64 ((IntKind.wrap .i64 ((IntKind.wrap .i64 v170) * 131)) + (IntKind.wrap .i64 ((IntKind.wrap .i64 v177) * 1117)))) + (IntKind.wrap .i64 ((IntKind.wrap .i64 ((IntKind.wrap .i64 (x37 + 1)) - 1)) * 29)))) + (IntKind.wrap .i64 (v184 * 53)))) v187) x35).bind fun (v189 : Int) => some (v189, (IntKind.wrap .i64 (x37 + 1))))))

@[irreducible] def spec_l20Rd_pick (x35 : Int) (x36 : List Int) (x37 : Int) : Option (Int × Int) :=
  spec_l20Rd_pick_n1 x35 x36 x37

def spec_l20Rd_odd_n1 (x352 : Int) (x353 : List Int) (x354 : Int) : Option ((Bool × Int)) :=
  cond (decide (x352 > 0)) ((spec_l20Rd_pick x352 x353 x354).bind fun (v362 : Int × Int) => some (((v362.1) == (IntKind.wrap .i64 (x352 - 1))), (v362.2))) (some (false, x354))

@[irreducible] def spec_l20Rd_odd (x352 : Int) (x353 : List Int) (x354 : Int) : Option (Bool × Int) :=
  spec_l20Rd_odd_n1 x352 x353 x354

def impl_newStackMachine_n1 (x911 : Int) : Option (((List Int))) :=
  (mk x911 x911).bind fun (v914 : Nat) => some (List.replicate v914 (0 : Int))

@[irreducible] def impl_newStackMachine (x911 : Int) : Option ((List Int)) :=
  impl_newStackMachine_n1 x911

@[irreducible] def impl_stackMoves : Option (Unit) :=
  some ()

def impl_stackMachine_putNext_n1 (x1204 : Int) (x1205 : Int) (x1206 : List Int) (x1207 : List Int) : Option ((Bool × Int × Int × (List Int))) :=
  cond (x1204 == (((List.length x1206 : Nat) : Int))) (some (false, x1204, x1205, x1207)) ((room ((List.length x1207) + List.length ([(IntKind.wrap .i64 (x1204 + 1))]))).bind fun (v1243 : Unit) => some (true, (IntKind.wrap .i64 (x1204 + 1)), (imax x1205 (((List.length (x1207 ++ ([(IntKind.wrap .i64 (x1204 + 1))])) : Nat) : Int))), (x1207 ++ ([(IntKind.wrap .i64 (x1204 + 1))]))))

@[irreducible] def impl_stackMachine_putNext (x1204 : Int) (x1205 : Int) (x1206 : List Int) (x1207 : List Int) : Option (Bool × Int × Int × (List Int)) :=
  impl_stackMachine_putNext_n1 x1204 x1205 x1206 x1207

def impl_stackMachine_upperTwo_n1 (x1051 : List Int) : Option ((Int × Int × Bool)) :=
  cond (decide ((((List.length x1051 : Nat) : Int)) < 2)) (some (0, 0, false)) ((inb (IntKind.wrap .i64 ((((List.length x1051 : Nat) : Int)) - 2)) (List.length x1051)).bind fun (v1066 : Nat) => (x1051[v1066]?).bind fun (v1067 : Int) => (inb (IntKind.wrap .i64 ((((List.length x1051 : Nat) : Int)) - 1)) (List.length x1051)).bind fun (v1069 : Nat) => (x1051[v1069]?).bind fun (v1070 : Int) => some (v1067, v1070, true))

@[irreducible] def impl_stackMachine_upperTwo (x1048 : Int) (x1049 : Int) (x1050 : List Int) (x1051 : List Int) : Option (Int × Int × Bool) :=
  impl_stackMachine_upperTwo_n1 x1051

def impl_stackMachine_join_n1 (x1082 : Int) (x1083 : Int) (x1086 : List Int) (x1087 : List Int) : Option (((List Int) × (List Int))) :=
  (inb (IntKind.wrap .i64 (x1082 - 1)) (List.length x1086)).bind fun (v1092 : Nat) => (inc (IntKind.wrap .i64 ((((List.length x1087 : Nat) : Int)) - 2)) (List.length x1087)).bind fun (v1097 : Nat) => (room ((v1097 - 0) + List.length ([x1083]))).bind fun (v1101 : Unit) => some ((x1086.set v1092 x1083), (((x1087.drop 0).take (v1097 - 0)) ++ ([x1083])))

@[irreducible] def impl_stackMachine_join (x1082 : Int) (x1083 : Int) (x1084 : Int) (x1085 : Int) (x1086 : List Int) (x1087 : List Int) : Option ((List Int) × (List Int)) :=
  (impl_stackMachine_join_n1 x1082 x1083 x1086 x1087).map (fun (t : (List Int) × (List Int)) => (t.1, t.2))

def impl_stackMachine_takeBelow_n1 (x1258 : Int) (x1259 : Int) (x1260 : List Int) (x1261 : List Int) : Option ((Bool × (List Int) × (List Int))) :=
  (impl_stackMachine_upperTwo x1258 x1259 x1260 x1261).bind fun (v1280 : Int × Int × Bool) => cond (v1280.2.2) ((impl_stackMachine_join (v1280.1) (v1280.2.1) x1258 x1259 x1260 x1261).bind fun (v1284 : (List Int) × (List Int)) => some ((v1280.2.2), (v1284.1), (v1284.2))) (some ((v1280.2.2), x1260, x1261))

@[irreducible] def impl_stackMachine_takeBelow (x1258 : Int) (x1259 : Int) (x1260 : List Int) (x1261 : List Int) : Option (Bool × (List Int) × (List Int)) :=
  impl_stackMachine_takeBelow_n1 x1258 x1259 x1260 x1261

def impl_stackMachine_takeUpper_n1 (x1295 : Int) (x1296 : Int) (x1297 : List Int) (x1298 : List Int) : Option ((Bool × (List Int) × (List Int))) :=
  (impl_stackMachine_upperTwo x1295 x1296 x1297 x1298).bind fun (v1317 : Int × Int × Bool) => cond (v1317.2.2) ((impl_stackMachine_join (v1317.2.1) (v1317.1) x1295 x1296 x1297 x1298).bind fun (v1321 : (List Int) × (List Int)) => some ((v1317.2.2), (v1321.1), (v1321.2))) (some ((v1317.2.2), x1297, x1298))

@[irreducible] def impl_stackMachine_takeUpper (x1295 : Int) (x1296 : Int) (x1297 : List Int) (x1298 : List Int) : Option (Bool × (List Int) × (List Int)) :=
  impl_stackMachine_takeUpper_n1 x1295 x1296 x1297 x1298

def impl_allDone_impl_stackMachine_n1 : Option (Unit) :=
  some ()

def impl_allDone_impl_stackMachine_n2 (x921 : ByteArray) : Option (Int) :=
  some (((ByteArray.size x921 : Nat) : Int))

def impl_allDone_impl_stackMachine_n3 (x921 : ByteArray) (x1198 : Int) (x1360 : Int) (x1361 : Int) (x1362 : Int) (x1363 : List Int) (x1364 : List Int) : Option ((Int × Int × Int × (List Int) × (List Int)) ⊕ (Bool × Int × Int × (List Int) × (List Int)) ⊕ (Int × Int × (List Int) × (List Int))) :=
  cond (decide (x1360 < x1198)) ((bidx x921 x1360).bind fun (v1389 : Int) => cond (v1389 == 83) ((impl_stackMachine_putNext x1361 x1362 x1363 x1364).bind fun (v1391 : Bool × Int × Int × (List Int)) => cond (!(v1391.1)) (some (Sum.inr (Sum.inl (false, (v1391.2.1), (v1391.2.2.1), x1363, (v1391.2.2.2))))) (some (Sum.inl ((IntKind.wrap .i64 (x1360 + 1)), (v1391.2.1), (v1391.2.2.1), x1363, (v1391.2.2.2))))) (cond (v1389 == 76) ((impl_stackMachine_takeBelow x1361 x1362 x1363 x1364).bind fun (v1399 : Bool × (List Int) × (List Int)) => cond (!(v1399.1)) (some (Sum.inr (Sum.inl (false, x1361, x1362, (v1399.2.1), (v1399.2.2))))) (some (Sum.inl ((IntKind.wrap .i64 (x1360 + 1)), x1361, x1362, (v1399.2.1), (v1399.2.2))))) (cond (v1389 == 82) ((impl_stackMachine_takeUpper x1361 x1362 x1363 x1364).bind fun (v1406 : Bool × (List Int) × (List Int)) => cond (!(v1406.1)) (some (Sum.inr (Sum.inl (false, x1361, x1362, (v1406.2.1), (v1406.2.2))))) (some (Sum.inl ((IntKind.wrap .i64 (x1360 + 1)), x1361, x1362, (v1406.2.1), (v1406.2.2))))) (some (Sum.inr (Sum.inl (false, x1361, x1362, x1363, x1364))))))) (some (Sum.inr (Sum.inr (x1361, x1362, x1363, x1364))))

def impl_allDone_impl_stackMachine_n4 (x921 : ByteArray) (x1198 : Int) (x922 : Int) (x923 : Int) (x924 : List Int) : Option ((Bool × Int × Int × (List Int) × (List Int)) ⊕ (Int × Int × (List Int) × (List Int))) :=
  nloop (fun (s : Int × Int × Int × (List Int) × (List Int)) => ((impl_allDone_impl_stackMachine_n3 x921 x1198 s.1 s.2.1 s.2.2.1 s.2.2.2.1 s.2.2.2.2).map (Sum.elim (fun (t : Int × Int × Int × (List Int) × (List Int)) => Sum.inl (t.1, t.2.1, t.2.2.1, t.2.2.2.1, t.2.2.2.2)) (Sum.elim (fun (t : Bool × Int × Int × (List Int) × (List Int)) => Sum.inr (Sum.inl t)) (fun (t : Int × Int × (List Int) × (List Int)) => Sum.inr (Sum.inr t)))) : Option ((Int × Int × Int × (List Int) × (List Int)) ⊕ ((Bool × Int × Int × (List Int) × (List Int)) ⊕ (Int × Int × (List Int) × (List Int)))))) LL (0, x922, x923, x924, ([] : List Int))

def impl_allDone_impl_stackMachine_n5 (x921 : ByteArray) (x1198 : Int) (x922 : Int) (x923 : Int) (x924 : List Int) : Option ((Int × Int × (List Int) × (List Int)) ⊕ (Bool × Int × Int × (List Int) × (List Int))) :=
  (impl_allDone_impl_stackMachine_n4 x921 x1198 x922 x923 x924).map (Sum.elim (fun (t : Bool × Int × Int × (List Int) × (List Int)) => (Sum.inr t)) (fun (t : Int × Int × (List Int) × (List Int)) => (Sum.inl (t.1, t.2.1, t.2.2.1, t.2.2.2))))

def impl_allDone_impl_stackMachine_n6 (x921 : ByteArray) (x922 : Int) (x923 : Int) (x924 : List Int) : Option ((Int × Int × (List Int) × (List Int)) ⊕ (Bool × Int × Int × (List Int) × (List Int))) :=
  (impl_allDone_impl_stackMachine_n2 x921).bind (fun (t : Int) => impl_allDone_impl_stackMachine_n5 x921 t x922 x923 x924)

def impl_allDone_impl_stackMachine_n7 (x1361 : Int) (x1362 : Int) (x1363 : List Int) (x1364 : List Int) : Option ((Bool × Int × Int × (List Int) × (List Int))) :=
  some (true, x1361, x1362, x1363, x1364)

def impl_allDone_impl_stackMachine_n8 (x921 : ByteArray) (x922 : Int) (x923 : Int) (x924 : List Int) : Option ((Bool × Int × Int × (List Int) × (List Int))) :=
  (impl_allDone_impl_stackMachine_n6 x921 x922 x923 x924).bind (Sum.elim (fun (t : Int × Int × (List Int) × (List Int)) => impl_allDone_impl_stackMachine_n7 t.1 t.2.1 t.2.2.1 t.2.2.2) (fun e => some ((fun (t : Bool × Int × Int × (List Int) × (List Int)) => t) e)))

def impl_allDone_impl_stackMachine_n9 (x921 : ByteArray) (x922 : Int) (x923 : Int) (x924 : List Int) : Option ((Bool × Int × Int × (List Int) × (List Int))) :=
  (impl_allDone_impl_stackMachine_n1).bind (fun (t : Unit) => impl_allDone_impl_stackMachine_n8 x921 x922 x923 x924)

@[irreducible] def impl_allDone_impl_stackMachine (x921 : ByteArray) (x922 : Int) (x923 : Int) (x924 : List Int) : Option (Bool × Int × Int × (List Int) × (List Int)) :=
  impl_allDone_impl_stackMachine_n9 x921 x922 x923 x924

def impl_stackMachine_ended_n1 (x1429 : Int) (x1431 : List Int) (x1432 : List Int) : Option (Bool) :=
  cond (x1429 == (((List.length x1431 : Nat) : Int))) (some ((((List.length x1432 : Nat) : Int)) == 1)) (some false)

@[irreducible] def impl_stackMachine_ended (x1429 : Int) (x1430 : Int) (x1431 : List Int) (x1432 : List Int) : Option (Bool) :=
  impl_stackMachine_ended_n1 x1429 x1431 x1432

def impl_afterMoves_n1 (x905 : Int) (x906 : ByteArray) : Option ((Int × Int × (List Int) × (List Int)) ⊕ Unit) :=
  cond (decide (x905 < 1)) (some (Sum.inr ())) (cond (decide (x905 > 8)) (some (Sum.inr ())) ((impl_newStackMachine x905).bind fun (v1503 : List Int) => (impl_stackMoves).bind fun (v1504 : Unit) => (impl_allDone_impl_stackMachine x906 0 0 v1503).bind fun (v1505 : Bool × Int × Int × (List Int) × (List Int)) => cond (!(v1505.1)) (some (Sum.inr ())) ((impl_stackMachine_ended (v1505.2.1) (v1505.2.2.1) (v1505.2.2.2.1) (v1505.2.2.2.2)).bind fun (v1512 : Bool) => cond (!v1512) (some (Sum.inr ())) (some (Sum.inl ((v1505.2.1), (v1505.2.2.1), (v1505.2.2.2.1), (v1505.2.2.2.2)))))))

@[irreducible] def impl_afterMoves (x905 : Int) (x906 : ByteArray) : Option (Bool × Int × Int × (List Int) × (List Int)) :=
  (impl_afterMoves_n1 x905 x906).map (Sum.elim (fun (t : Int × Int × (List Int) × (List Int)) => (true, t.1, t.2.1, t.2.2.1, t.2.2.2)) (fun (t : Unit) => (false, 0, 0, [], [])))

def impl_RunStack_n1 (x902 : Int) (x903 : ByteArray) : Option ((Bool × (List Int))) :=
  (impl_afterMoves x902 x903).bind fun (v1533 : Bool × Int × Int × (List Int) × (List Int)) => cond (v1533.1) (some (true, (v1533.2.2.2.1))) (some (false, ([] : List Int)))

@[irreducible] def impl_RunStack (x902 : Int) (x903 : ByteArray) : Option (Bool × (List Int)) :=
  impl_RunStack_n1 x902 x903

def spec_l1In_n1 (x1554 : Int) (x1555 : Int) (x1556 : Int) : Option (Bool) :=
  cond (decide (x1554 ≥ x1555)) (some (decide (x1554 ≤ x1556))) (some false)

@[irreducible] def spec_l1In (x1554 : Int) (x1555 : Int) (x1556 : Int) : Option (Bool) :=
  spec_l1In_n1 x1554 x1555 x1556

def laws_sameInts_n1 (x3120 : List Int) (x3121 : List Int) : Option (Unit ⊕ Bool) :=
  cond ((((List.length x3120 : Nat) : Int)) != (((List.length x3121 : Nat) : Int))) (some (Sum.inr false)) (some (Sum.inl ()))

def laws_sameInts_n2 : Option (Unit) :=
  some ()

def laws_sameInts_n3 (x3120 : List Int) (x3121 : List Int) (x3138 : Int) : Option (Int ⊕ Bool ⊕ Unit) :=
  cond (decide (x3138 < (((List.length x3120 : Nat) : Int)))) ((idx x3120 x3138).bind fun (v3148 : Int) => (idx x3121 x3138).bind fun (v3149 : Int) => cond (v3148 != v3149) (some (Sum.inr (Sum.inl false))) (some (Sum.inl (IntKind.wrap .i64 (x3138 + 1))))) (some (Sum.inr (Sum.inr ())))

def laws_sameInts_n4 (x3120 : List Int) (x3121 : List Int) : Option (Bool ⊕ Unit) :=
  nloop (fun (s : Int) => ((laws_sameInts_n3 x3120 x3121 s).map (Sum.elim (fun (t : Int) => Sum.inl t) (Sum.elim (fun (t : Bool) => Sum.inr (Sum.inl t)) (fun (t : Unit) => Sum.inr (Sum.inr t)))) : Option ((Int) ⊕ (Bool ⊕ Unit)))) LL 0

def laws_sameInts_n5 (x3120 : List Int) (x3121 : List Int) : Option (Unit ⊕ Bool) :=
  (laws_sameInts_n4 x3120 x3121).map (Sum.elim (fun (t : Bool) => (Sum.inr t)) (fun (t : Unit) => (Sum.inl ())))

def laws_sameInts_n6 (x3120 : List Int) (x3121 : List Int) : Option (Unit ⊕ Bool) :=
  (laws_sameInts_n2).bind (fun (t : Unit) => laws_sameInts_n5 x3120 x3121)

def laws_sameInts_n7 : Option (Bool) :=
  some true

def laws_sameInts_n8 (x3120 : List Int) (x3121 : List Int) : Option (Bool) :=
  (laws_sameInts_n6 x3120 x3121).bind (Sum.elim (fun (t : Unit) => laws_sameInts_n7) (fun e => some ((fun (t : Bool) => t) e)))

def laws_sameInts_n9 (x3120 : List Int) (x3121 : List Int) : Option (Bool) :=
  (laws_sameInts_n1 x3120 x3121).bind (Sum.elim (fun (t : Unit) => laws_sameInts_n8 x3120 x3121) (fun e => some ((fun (t : Bool) => t) e)))

@[irreducible] def laws_sameInts (x3120 : List Int) (x3121 : List Int) : Option (Bool) :=
  laws_sameInts_n9 x3120 x3121

def impl_oneRoot_n1 : Option (Unit) :=
  some ()

def impl_oneRoot_n2 (x3179 : List Int) : Option (Int) :=
  some (((List.length x3179 : Nat) : Int))

def impl_oneRoot_n3 (x3179 : List Int) (x3201 : Int) (x3180 : Int) (x3202 : Int) : Option ((Int × Int) ⊕ Bool ⊕ Int) :=
  cond (decide (x3202 < x3180)) ((idx x3179 x3202).bind fun (v3213 : Int) => cond (decide (v3213 < 0)) (some (Sum.inr (Sum.inl false))) (cond (decide (v3213 > (((List.length x3179 : Nat) : Int)))) (some (Sum.inr (Sum.inl false))) (cond (v3213 == 0) (some (Sum.inl ((IntKind.wrap .i64 (x3201 + 1)), (IntKind.wrap .i64 (x3202 + 1))))) (some (Sum.inl (x3201, (IntKind.wrap .i64 (x3202 + 1)))))))) (some (Sum.inr (Sum.inr x3201)))

def impl_oneRoot_n4 (x3179 : List Int) (x3180 : Int) : Option (Bool ⊕ Int) :=
  nloop (fun (s : Int × Int) => ((impl_oneRoot_n3 x3179 s.1 x3180 s.2).map (Sum.elim (fun (t : Int × Int) => Sum.inl (t.1, t.2)) (Sum.elim (fun (t : Bool) => Sum.inr (Sum.inl t)) (fun (t : Int) => Sum.inr (Sum.inr t)))) : Option ((Int × Int) ⊕ (Bool ⊕ Int)))) LL (0, 0)

def impl_oneRoot_n5 (x3179 : List Int) (x3180 : Int) : Option (Int ⊕ Bool) :=
  (impl_oneRoot_n4 x3179 x3180).map (Sum.elim (fun (t : Bool) => (Sum.inr t)) (fun (t : Int) => (Sum.inl t)))

def impl_oneRoot_n6 (x3179 : List Int) : Option (Int ⊕ Bool) :=
  (impl_oneRoot_n2 x3179).bind (fun (t : Int) => impl_oneRoot_n5 x3179 t)

def impl_oneRoot_n7 (x3201 : Int) : Option (Bool) :=
  some (x3201 == 1)

def impl_oneRoot_n8 (x3179 : List Int) : Option (Bool) :=
  (impl_oneRoot_n6 x3179).bind (Sum.elim (fun (t : Int) => impl_oneRoot_n7 t) (fun e => some ((fun (t : Bool) => t) e)))

def impl_oneRoot_n9 (x3179 : List Int) : Option (Bool) :=
  (impl_oneRoot_n1).bind (fun (t : Unit) => impl_oneRoot_n8 x3179)

@[irreducible] def impl_oneRoot (x3179 : List Int) : Option (Bool) :=
  impl_oneRoot_n9 x3179

def impl_walker_up_n1 (x3235 : List Int) (x3236 : Int) (x3237 : Int) : Option ((Bool × Int × Int)) :=
  (idx x3235 (IntKind.wrap .i64 (x3236 - 1))).bind fun (v3255 : Int) => cond (v3255 == 0) (some (false, x3236, x3237)) (some (true, v3255, (IntKind.wrap .i64 (x3237 + 1))))

@[irreducible] def impl_walker_up (x3235 : List Int) (x3236 : Int) (x3237 : Int) : Option (Bool × Int × Int) :=
  impl_walker_up_n1 x3235 x3236 x3237

def impl_stepsToRoot_n1 : Option (Unit) :=
  some ()

def impl_stepsToRoot_n2 (x3233 : List Int) (x3271 : Int) (x3272 : Int) : Option ((Int × Int) ⊕ (Int × Bool) ⊕ (Int × Int)) :=
  (impl_walker_up x3233 x3271 x3272).bind fun (v3277 : Bool × Int × Int) => cond (v3277.1) (cond (decide ((v3277.2.2) ≥ (((List.length x3233 : Nat) : Int)))) (some (Sum.inr (Sum.inl (0, false)))) (some (Sum.inl ((v3277.2.1), (v3277.2.2))))) (some (Sum.inr (Sum.inr ((v3277.2.1), (v3277.2.2)))))

def impl_stepsToRoot_n3 (x3233 : List Int) (x3234 : Int) : Option ((Int × Bool) ⊕ (Int × Int)) :=
  nloop (fun (s : Int × Int) => ((impl_stepsToRoot_n2 x3233 s.1 s.2).map (Sum.elim (fun (t : Int × Int) => Sum.inl (t.1, t.2)) (Sum.elim (fun (t : Int × Bool) => Sum.inr (Sum.inl t)) (fun (t : Int × Int) => Sum.inr (Sum.inr t)))) : Option ((Int × Int) ⊕ ((Int × Bool) ⊕ (Int × Int))))) LL (x3234, 0)

def impl_stepsToRoot_n4 (x3233 : List Int) (x3234 : Int) : Option ((Int × Int) ⊕ (Int × Bool)) :=
  (impl_stepsToRoot_n3 x3233 x3234).map (Sum.elim (fun (t : Int × Bool) => (Sum.inr t)) (fun (t : Int × Int) => (Sum.inl (t.1, t.2))))

def impl_stepsToRoot_n5 (x3280 : Int) : Option ((Int × Bool)) :=
  some (x3280, true)

def impl_stepsToRoot_n6 (x3233 : List Int) (x3234 : Int) : Option ((Int × Bool)) :=
  (impl_stepsToRoot_n4 x3233 x3234).bind (Sum.elim (fun (t : Int × Int) => impl_stepsToRoot_n5 t.2) (fun e => some ((fun (t : Int × Bool) => t) e)))

def impl_stepsToRoot_n7 (x3233 : List Int) (x3234 : Int) : Option ((Int × Bool)) :=
  (impl_stepsToRoot_n1).bind (fun (t : Unit) => impl_stepsToRoot_n6 x3233 x3234)

@[irreducible] def impl_stepsToRoot (x3233 : List Int) (x3234 : Int) : Option (Int × Bool) :=
  impl_stepsToRoot_n7 x3233 x3234

def impl_TreeOk_n1 (x3174 : List Int) : Option (Unit ⊕ Bool) :=
  cond (decide ((((List.length x3174 : Nat) : Int)) < 1)) (some (Sum.inr false)) (cond (decide ((((List.length x3174 : Nat) : Int)) > 8)) (some (Sum.inr false)) ((impl_oneRoot x3174).bind fun (v3226 : Bool) => cond (!v3226) (some (Sum.inr false)) (some (Sum.inl ()))))

def impl_TreeOk_n2 (x3174 : List Int) : Option (Int) :=
  some (((List.length x3174 : Nat) : Int))

def impl_TreeOk_n3 (x3174 : List Int) (x3228 : Int) (x3296 : Int) : Option (Int ⊕ Bool ⊕ Unit) :=
  cond (decide (x3296 < x3228)) ((impl_stepsToRoot x3174 (IntKind.wrap .i64 (x3296 + 1))).bind fun (v3307 : Int × Bool) => cond (!(v3307.2)) (some (Sum.inr (Sum.inl false))) (some (Sum.inl (IntKind.wrap .i64 (x3296 + 1))))) (some (Sum.inr (Sum.inr ())))

def impl_TreeOk_n4 (x3174 : List Int) (x3228 : Int) : Option (Bool ⊕ Unit) :=
  nloop (fun (s : Int) => ((impl_TreeOk_n3 x3174 x3228 s).map (Sum.elim (fun (t : Int) => Sum.inl t) (Sum.elim (fun (t : Bool) => Sum.inr (Sum.inl t)) (fun (t : Unit) => Sum.inr (Sum.inr t)))) : Option ((Int) ⊕ (Bool ⊕ Unit)))) LL 0

def impl_TreeOk_n5 (x3174 : List Int) (x3228 : Int) : Option (Unit ⊕ Bool) :=
  (impl_TreeOk_n4 x3174 x3228).map (Sum.elim (fun (t : Bool) => (Sum.inr t)) (fun (t : Unit) => (Sum.inl ())))

def impl_TreeOk_n6 (x3174 : List Int) : Option (Unit ⊕ Bool) :=
  (impl_TreeOk_n2 x3174).bind (fun (t : Int) => impl_TreeOk_n5 x3174 t)

def impl_TreeOk_n7 : Option (Bool) :=
  some true

def impl_TreeOk_n8 (x3174 : List Int) : Option (Bool) :=
  (impl_TreeOk_n6 x3174).bind (Sum.elim (fun (t : Unit) => impl_TreeOk_n7) (fun e => some ((fun (t : Bool) => t) e)))

def impl_TreeOk_n9 (x3174 : List Int) : Option (Bool) :=
  (impl_TreeOk_n1 x3174).bind (Sum.elim (fun (t : Unit) => impl_TreeOk_n8 x3174) (fun e => some ((fun (t : Bool) => t) e)))

@[irreducible] def impl_TreeOk (x3174 : List Int) : Option (Bool) :=
  impl_TreeOk_n9 x3174

def laws_alive_n1 : Option (Bool) :=
  (impl_TreeOk ([0])).bind fun (v3318 : Bool) => cond v3318 ((impl_TreeOk ([1])).bind fun (v3320 : Bool) => some (!v3320)) (some false)

@[irreducible] def laws_alive : Option (Bool) :=
  laws_alive_n1

def impl_RootOf_n1 (x3353 : List Int) : Option (Unit ⊕ Int) :=
  (impl_TreeOk x3353).bind fun (v3357 : Bool) => cond (!v3357) (some (Sum.inr (-1))) (some (Sum.inl ()))

def impl_RootOf_n2 (x3353 : List Int) (x3367 : Int) (x3368 : Int) : Option ((Int × Int) ⊕ (Int × Int)) :=
  (impl_walker_up x3353 x3367 x3368).bind fun (v3373 : Bool × Int × Int) => cond (v3373.1) (some (Sum.inl ((v3373.2.1), (v3373.2.2)))) (some (Sum.inr ((v3373.2.1), (v3373.2.2))))

def impl_RootOf_n3 (x3353 : List Int) : Option ((Int × Int)) :=
  nloop (fun (s : Int × Int) => ((impl_RootOf_n2 x3353 s.1 s.2).map (Sum.elim (fun (t : Int × Int) => Sum.inl (t.1, t.2)) (fun (t : Int × Int) => Sum.inr t)) : Option ((Int × Int) ⊕ ((Int × Int))))) LL (1, 0)

def impl_RootOf_n4 (x3353 : List Int) : Option ((Int × Int)) :=
  (impl_RootOf_n3 x3353).map (fun (t : Int × Int) => (t.1, t.2))

def impl_RootOf_n5 (x3375 : Int) : Option (Int) :=
  some x3375

def impl_RootOf_n6 (x3353 : List Int) : Option (Int) :=
  (impl_RootOf_n4 x3353).bind (fun (t : Int × Int) => impl_RootOf_n5 t.1)

def impl_RootOf_n7 (x3353 : List Int) : Option (Int) :=
  (impl_RootOf_n1 x3353).bind (Sum.elim (fun (t : Unit) => impl_RootOf_n6 x3353) (fun e => some ((fun (t : Int) => t) e)))

@[irreducible] def impl_RootOf (x3353 : List Int) : Option (Int) :=
  impl_RootOf_n7 x3353

def impl_only_n1 (x3382 : Int) : Option (Int) :=
  (shl .u64 1 (IntKind.wrap .i64 (x3382 - 1))).bind fun (v3386 : Int) => some v3386

@[irreducible] def impl_only (x3382 : Int) : Option (Int) :=
  impl_only_n1 x3382

def impl_dependents_n1 : Option (Unit) :=
  some ()

def impl_dependents_n2 (x3388 : List Int) : Option (Int) :=
  some (((List.length x3388 : Nat) : Int))

def impl_dependents_n3 (x3388 : List Int) (x3389 : Int) (x3409 : Int) (x3390 : Int) (x3410 : Int) : Option ((Int × Int) ⊕ Int) :=
  cond (decide (x3410 < x3390)) ((idx x3388 x3410).bind fun (v3420 : Int) => cond (v3420 == x3389) ((impl_only (IntKind.wrap .i64 (x3410 + 1))).bind fun (v3423 : Int) => some (Sum.inl ((ior .u64 x3409 v3423), (IntKind.wrap .i64 (x3410 + 1))))) (some (Sum.inl (x3409, (IntKind.wrap .i64 (x3410 + 1)))))) (some (Sum.inr x3409))

def impl_dependents_n4 (x3388 : List Int) (x3389 : Int) (x3390 : Int) : Option (Int) :=
  nloop (fun (s : Int × Int) => ((impl_dependents_n3 x3388 x3389 s.1 x3390 s.2).map (Sum.elim (fun (t : Int × Int) => Sum.inl (t.1, t.2)) (fun (t : Int) => Sum.inr t)) : Option ((Int × Int) ⊕ (Int)))) LL (0, 0)

def impl_dependents_n5 (x3388 : List Int) (x3389 : Int) (x3390 : Int) : Option (Int) :=
  (impl_dependents_n4 x3388 x3389 x3390).map (fun (t : Int) => t)

def impl_dependents_n6 (x3388 : List Int) (x3389 : Int) : Option (Int) :=
  (impl_dependents_n2 x3388).bind (fun (t : Int) => impl_dependents_n5 x3388 x3389 t)

def impl_dependents_n7 (x3409 : Int) : Option (Int) :=
  some x3409

def impl_dependents_n8 (x3388 : List Int) (x3389 : Int) : Option (Int) :=
  (impl_dependents_n6 x3388 x3389).bind (fun (t : Int) => impl_dependents_n7 t)

def impl_dependents_n9 (x3388 : List Int) (x3389 : Int) : Option (Int) :=
  (impl_dependents_n1).bind (fun (t : Unit) => impl_dependents_n8 x3388 x3389)

@[irreducible] def impl_dependents (x3388 : List Int) (x3389 : Int) : Option (Int) :=
  impl_dependents_n9 x3388 x3389

def math_bits_OnesCount64_n1 (x3433 : Int) : Option (Int) :=
  (shr .u64 x3433 1).bind fun (v3434 : Int) => some (IntKind.wrap .u64 ((iand .u64 v3434 6148914691236517205) + (iand .u64 x3433 6148914691236517205)))

def math_bits_OnesCount64_n2 (x3438 : Int) : Option (Int) :=
  (shr .u64 x3438 2).bind fun (v3452 : Int) => some (IntKind.wrap .u64 ((iand .u64 v3452 3689348814741910323) + (iand .u64 x3438 3689348814741910323)))

def math_bits_OnesCount64_n3 (x3455 : Int) : Option (Int) :=
  (shr .u64 x3455 4).bind fun (v3460 : Int) => some (iand .u64 (IntKind.wrap .u64 (v3460 + x3455)) 1085102592571150095)

def math_bits_OnesCount64_n4 (x3462 : Int) : Option (Int) :=
  (shr .u64 x3462 8).bind fun (v3465 : Int) => some (IntKind.wrap .u64 (x3462 + v3465))

def math_bits_OnesCount64_n5 (x3466 : Int) : Option (Int) :=
  (shr .u64 x3466 16).bind fun (v3470 : Int) => some (IntKind.wrap .u64 (x3466 + v3470))

def math_bits_OnesCount64_n6 (x3471 : Int) : Option (Int) :=
  (shr .u64 x3471 32).bind fun (v3475 : Int) => some (IntKind.wrap .u64 (x3471 + v3475))

def math_bits_OnesCount64_n7 (x3476 : Int) : Option (Int) :=
  some (iand .i64 (IntKind.wrap .i64 x3476) 127)

def math_bits_OnesCount64_n8 (x3481 : Int) : Option (Int) :=
  some x3481

def math_bits_OnesCount64_n9 (x3476 : Int) : Option (Int) :=
  (math_bits_OnesCount64_n7 x3476).bind (fun (t : Int) => math_bits_OnesCount64_n8 t)

def math_bits_OnesCount64_n10 (x3471 : Int) : Option (Int) :=
  (math_bits_OnesCount64_n6 x3471).bind (fun (t : Int) => math_bits_OnesCount64_n9 t)

def math_bits_OnesCount64_n11 (x3466 : Int) : Option (Int) :=
  (math_bits_OnesCount64_n5 x3466).bind (fun (t : Int) => math_bits_OnesCount64_n10 t)

def math_bits_OnesCount64_n12 (x3462 : Int) : Option (Int) :=
  (math_bits_OnesCount64_n4 x3462).bind (fun (t : Int) => math_bits_OnesCount64_n11 t)

def math_bits_OnesCount64_n13 (x3455 : Int) : Option (Int) :=
  (math_bits_OnesCount64_n3 x3455).bind (fun (t : Int) => math_bits_OnesCount64_n12 t)

def math_bits_OnesCount64_n14 (x3438 : Int) : Option (Int) :=
  (math_bits_OnesCount64_n2 x3438).bind (fun (t : Int) => math_bits_OnesCount64_n13 t)

def math_bits_OnesCount64_n15 (x3433 : Int) : Option (Int) :=
  (math_bits_OnesCount64_n1 x3433).bind (fun (t : Int) => math_bits_OnesCount64_n14 t)

@[irreducible] def math_bits_OnesCount64 (x3433 : Int) : Option (Int) :=
  math_bits_OnesCount64_n15 x3433

def math_bits_OnesCount_n1 (x3432 : Int) : Option (Int) :=
  (math_bits_OnesCount64 x3432).bind fun (v3483 : Int) => some v3483

@[irreducible] def math_bits_OnesCount (x3432 : Int) : Option (Int) :=
  math_bits_OnesCount_n1 x3432

def impl_wordSet_count_n1 (x3431 : Int) : Option (Int) :=
  (math_bits_OnesCount x3431).bind fun (v3485 : Int) => some v3485

@[irreducible] def impl_wordSet_count (x3431 : Int) : Option (Int) :=
  impl_wordSet_count_n1 x3431

def math_bits_TrailingZeros64_n1 (x3492 : Int) : Option (Int) :=
  cond (x3492 == 0) (some 64) ((shr .u64 (IntKind.wrap .u64 ((iand .u64 x3492 (IntKind.wrap .u64 (0 - x3492))) * 285870213051353865)) 58).bind fun (v3509 : Int) => (same (List.length tab1) 64).bind fun (v3510 : Unit) => (idx tab1 v3509).bind fun (v3511 : Int) => some (IntKind.wrap .i64 v3511))

@[irreducible] def math_bits_TrailingZeros64 (x3492 : Int) : Option (Int) :=
  math_bits_TrailingZeros64_n1 x3492

def math_bits_TrailingZeros_n1 (x3491 : Int) : Option (Int) :=
  (math_bits_TrailingZeros64 x3491).bind fun (v3515 : Int) => some v3515

@[irreducible] def math_bits_TrailingZeros (x3491 : Int) : Option (Int) :=
  math_bits_TrailingZeros_n1 x3491

def impl_wordSet_list_n1 (x3430 : Int) : Option (((List Int))) :=
  (impl_wordSet_count x3430).bind fun (v3486 : Int) => (mk 0 v3486).bind fun (v3487 : Nat) => some (List.replicate v3487 (0 : Int))

def impl_wordSet_list_n2 : Option (Unit) :=
  some ()

def impl_wordSet_list_n3 (x3531 : Int) (x3532 : List Int) : Option ((Int × (List Int)) ⊕ ((List Int))) :=
  cond (x3531 != 0) ((math_bits_TrailingZeros x3531).bind fun (v3542 : Int) => (room ((List.length x3532) + List.length ([(IntKind.wrap .i64 (v3542 + 1))]))).bind fun (v3546 : Unit) => some (Sum.inl ((iand .u64 x3531 (IntKind.wrap .u64 (x3531 - 1))), (x3532 ++ ([(IntKind.wrap .i64 (v3542 + 1))]))))) (some (Sum.inr x3532))

def impl_wordSet_list_n4 (x3430 : Int) (x3488 : List Int) : Option (((List Int))) :=
  nloop (fun (s : Int × (List Int)) => ((impl_wordSet_list_n3 s.1 s.2).map (Sum.elim (fun (t : Int × (List Int)) => Sum.inl (t.1, t.2)) (fun (t : (List Int)) => Sum.inr t)) : Option ((Int × (List Int)) ⊕ (((List Int)))))) LL (x3430, x3488)

def impl_wordSet_list_n5 (x3430 : Int) (x3488 : List Int) : Option (((List Int))) :=
  (impl_wordSet_list_n4 x3430 x3488).map (fun (t : (List Int)) => t)

def impl_wordSet_list_n6 (x3430 : Int) (x3488 : List Int) : Option (((List Int))) :=
  (impl_wordSet_list_n2).bind (fun (t : Unit) => impl_wordSet_list_n5 x3430 x3488)

def impl_wordSet_list_n7 (x3532 : List Int) : Option (((List Int))) :=
  some x3532

def impl_wordSet_list_n8 (x3430 : Int) (x3488 : List Int) : Option (((List Int))) :=
  (impl_wordSet_list_n6 x3430 x3488).bind (fun (t : (List Int)) => impl_wordSet_list_n7 t)

def impl_wordSet_list_n9 (x3430 : Int) : Option (((List Int))) :=
  (impl_wordSet_list_n1 x3430).bind (fun (t : (List Int)) => impl_wordSet_list_n8 x3430 t)

@[irreducible] def impl_wordSet_list (x3430 : Int) : Option ((List Int)) :=
  impl_wordSet_list_n9 x3430

def impl_fillYields_n1 (R0 : (List Int) → Int → (List Int) → Option (Int × (List Int))) (x3380 : Int) : Option (Int) :=
  (impl_only x3380).bind fun (v3566 : Int) => some v3566

def impl_fillYields_n2 (R0 : (List Int) → Int → (List Int) → Option (Int × (List Int))) (x3379 : List Int) (x3380 : Int) : Option ((Int × (List Int))) :=
  (impl_dependents x3379 x3380).bind fun (v3567 : Int) => (impl_wordSet_list v3567).bind fun (v3568 : List Int) => some ((((List.length v3568 : Nat) : Int)), v3568)

def impl_fillYields_n3 (R0 : (List Int) → Int → (List Int) → Option (Int × (List Int))) (x3379 : List Int) (x3587 : Int) (x3569 : Int) (x3588 : Int) (x3589 : List Int) (x3568 : List Int) : Option ((Int × Int × (List Int)) ⊕ (Int × (List Int))) :=
  cond (decide (x3588 < x3569)) ((inb x3588 (List.length x3568)).bind fun (v3600 : Nat) => (x3568[v3600]?).bind fun (v3601 : Int) => (R0 x3379 v3601 x3589).bind fun (v3602 : Int × (List Int)) => some (Sum.inl ((ior .u64 x3587 (v3602.1)), (IntKind.wrap .i64 (x3588 + 1)), (v3602.2)))) (some (Sum.inr (x3587, x3589)))

def impl_fillYields_n4 (R0 : (List Int) → Int → (List Int) → Option (Int × (List Int))) (x3379 : List Int) (x3566 : Int) (x3569 : Int) (x3381 : List Int) (x3568 : List Int) : Option ((Int × (List Int))) :=
  nloop (fun (s : Int × Int × (List Int)) => ((impl_fillYields_n3 R0 x3379 s.1 x3569 s.2.1 s.2.2 x3568).map (Sum.elim (fun (t : Int × Int × (List Int)) => Sum.inl (t.1, t.2.1, t.2.2)) (fun (t : Int × (List Int)) => Sum.inr t)) : Option ((Int × Int × (List Int)) ⊕ ((Int × (List Int)))))) LL (x3566, 0, x3381)

def impl_fillYields_n5 (R0 : (List Int) → Int → (List Int) → Option (Int × (List Int))) (x3379 : List Int) (x3566 : Int) (x3569 : Int) (x3381 : List Int) (x3568 : List Int) : Option ((Int × (List Int))) :=
  (impl_fillYields_n4 R0 x3379 x3566 x3569 x3381 x3568).map (fun (t : Int × (List Int)) => (t.1, t.2))

def impl_fillYields_n6 (R0 : (List Int) → Int → (List Int) → Option (Int × (List Int))) (x3379 : List Int) (x3380 : Int) (x3566 : Int) (x3381 : List Int) : Option ((Int × (List Int))) :=
  (impl_fillYields_n2 R0 x3379 x3380).bind (fun (t : Int × (List Int)) => impl_fillYields_n5 R0 x3379 x3566 t.1 x3381 t.2)

def impl_fillYields_n7 (R0 : (List Int) → Int → (List Int) → Option (Int × (List Int))) (x3380 : Int) (x3587 : Int) (x3589 : List Int) : Option ((Int × (List Int))) :=
  (inb (IntKind.wrap .i64 (x3380 - 1)) (List.length x3589)).bind fun (v3614 : Nat) => some (x3587, (x3589.set v3614 x3587))

def impl_fillYields_n8 (R0 : (List Int) → Int → (List Int) → Option (Int × (List Int))) (x3379 : List Int) (x3380 : Int) (x3566 : Int) (x3381 : List Int) : Option ((Int × (List Int))) :=
  (impl_fillYields_n6 R0 x3379 x3380 x3566 x3381).bind (fun (t : Int × (List Int)) => impl_fillYields_n7 R0 x3380 t.1 t.2)

def impl_fillYields_n9 (R0 : (List Int) → Int → (List Int) → Option (Int × (List Int))) (x3379 : List Int) (x3380 : Int) (x3381 : List Int) : Option ((Int × (List Int))) :=
  (impl_fillYields_n1 R0 x3380).bind (fun (t : Int) => impl_fillYields_n8 R0 x3379 x3380 t x3381)

def impl_fillYields_one (R0 : (List Int) → Int → (List Int) → Option (Int × (List Int))) (x3379 : List Int) (x3380 : Int) (x3381 : List Int) : Option (Int × (List Int)) :=
  impl_fillYields_n9 R0 x3379 x3380 x3381

def impl_fillYields_knot : Nat → ((List Int) → Int → (List Int) → Option (Int × (List Int)))
  | 0 => (fun _ _ _ => none)
  | n + 1 => (fun y0 y1 y2 => impl_fillYields_one (impl_fillYields_knot n) y0 y1 y2)

def impl_fillYields_fuel (n : Nat) : (List Int) → Int → (List Int) → Option (Int × (List Int)) := (impl_fillYields_knot n)

@[irreducible] def impl_fillYields (x3379 : List Int) (x3380 : Int) (x3381 : List Int) : Option (Int × (List Int)) := impl_fillYields_fuel RR x3379 x3380 x3381

def impl_yieldsOf_n1 (x3346 : List Int) : Option (((List Int))) :=
  (mk (((List.length x3346 : Nat) : Int)) (((List.length x3346 : Nat) : Int))).bind fun (v3627 : Nat) => (impl_RootOf x3346).bind fun (v3629 : Int) => (impl_fillYields x3346 v3629 (List.replicate v3627 (0 : Int))).bind fun (v3630 : Int × (List Int)) => some (v3630.2)

@[irreducible] def impl_yieldsOf (x3346 : List Int) : Option ((List Int)) :=
  impl_yieldsOf_n1 x3346

def impl_wordSet_isRow_n1 (x3640 : Int) : Option (Bool) :=
  some ((iand .u64 x3640 (IntKind.wrap .u64 (x3640 + (iand .u64 x3640 (IntKind.wrap .u64 (0 - x3640)))))) == 0)

@[irreducible] def impl_wordSet_isRow (x3640 : Int) : Option (Bool) :=
  impl_wordSet_isRow_n1 x3640

def impl_FlatOk_n1 (x3343 : List Int) : Option (Unit ⊕ Bool) :=
  (impl_TreeOk x3343).bind fun (v3344 : Bool) => cond (!v3344) (some (Sum.inr false)) (some (Sum.inl ()))

def impl_FlatOk_n2 (x3343 : List Int) : Option ((Int × (List Int))) :=
  (impl_yieldsOf x3343).bind fun (v3633 : List Int) => some ((((List.length v3633 : Nat) : Int)), v3633)

def impl_FlatOk_n3 (x3634 : Int) (x3661 : Int) (x3633 : List Int) : Option (Int ⊕ Bool ⊕ Unit) :=
  cond (decide (x3661 < x3634)) ((inb x3661 (List.length x3633)).bind fun (v3670 : Nat) => (x3633[v3670]?).bind fun (v3671 : Int) => (impl_wordSet_isRow v3671).bind fun (v3672 : Bool) => cond (!v3672) (some (Sum.inr (Sum.inl false))) (some (Sum.inl (IntKind.wrap .i64 (x3661 + 1))))) (some (Sum.inr (Sum.inr ())))

def impl_FlatOk_n4 (x3634 : Int) (x3633 : List Int) : Option (Bool ⊕ Unit) :=
  nloop (fun (s : Int) => ((impl_FlatOk_n3 x3634 s x3633).map (Sum.elim (fun (t : Int) => Sum.inl t) (Sum.elim (fun (t : Bool) => Sum.inr (Sum.inl t)) (fun (t : Unit) => Sum.inr (Sum.inr t)))) : Option ((Int) ⊕ (Bool ⊕ Unit)))) LL 0

def impl_FlatOk_n5 (x3634 : Int) (x3633 : List Int) : Option (Unit ⊕ Bool) :=
  (impl_FlatOk_n4 x3634 x3633).map (Sum.elim (fun (t : Bool) => (Sum.inr t)) (fun (t : Unit) => (Sum.inl ())))

def impl_FlatOk_n6 (x3343 : List Int) : Option (Unit ⊕ Bool) :=
  (impl_FlatOk_n2 x3343).bind (fun (t : Int × (List Int)) => impl_FlatOk_n5 t.1 t.2)

def impl_FlatOk_n7 : Option (Bool) :=
  some true

def impl_FlatOk_n8 (x3343 : List Int) : Option (Bool) :=
  (impl_FlatOk_n6 x3343).bind (Sum.elim (fun (t : Unit) => impl_FlatOk_n7) (fun e => some ((fun (t : Bool) => t) e)))

def impl_FlatOk_n9 (x3343 : List Int) : Option (Bool) :=
  (impl_FlatOk_n1 x3343).bind (Sum.elim (fun (t : Unit) => impl_FlatOk_n8 x3343) (fun e => some ((fun (t : Bool) => t) e)))

@[irreducible] def impl_FlatOk (x3343 : List Int) : Option (Bool) :=
  impl_FlatOk_n9 x3343

def impl_stackMachine_ruleFor_n1 : Option (Unit) :=
  some ()

@[irreducible] def impl_stackMachine_ruleFor (x3688 : List Int) (x3689 : Int) (x3690 : Int) (x3691 : List Int) : Option (Unit) :=
  impl_stackMachine_ruleFor_n1

def impl_stackMachine_ruleFor_1_n1 (x3723 : Int) (x3724 : Int) (x3725 : List Int) (x3728 : List Int) : Option (Bool) :=
  (idx x3725 (IntKind.wrap .i64 (x3723 - 1))).bind fun (v3737 : Int) => cond (v3737 == x3724) ((impl_dependents x3725 x3723).bind fun (v3739 : Int) => (impl_dependents x3728 x3723).bind fun (v3740 : Int) => some (v3739 == v3740)) (some false)

@[irreducible] def impl_stackMachine_ruleFor_1 (x3723 : Int) (x3724 : Int) (x3725 : List Int) (x3726 : Int) (x3727 : Int) (x3728 : List Int) (x3729 : List Int) : Option (Bool) :=
  impl_stackMachine_ruleFor_1_n1 x3723 x3724 x3725 x3728

def impl_stackMachine_ruleFor_2_n1 (x3854 : Int) (x3855 : Int) (x3856 : List Int) (x3857 : List Int) (x3858 : List Int) : Option (Int) :=
  (impl_stackMachine_upperTwo x3854 x3855 x3857 x3858).bind fun (v3877 : Int × Int × Bool) => cond (v3877.2.2) ((impl_stackMachine_ruleFor_1 (v3877.1) (v3877.2.1) x3856 x3854 x3855 x3857 x3858).bind fun (v3881 : Bool) => cond v3881 (some 76) (cond (v3877.2.2) ((impl_stackMachine_ruleFor_1 (v3877.2.1) (v3877.1) x3856 x3854 x3855 x3857 x3858).bind fun (v3882 : Bool) => cond v3882 (some 82) (some 83)) (some 83))) (cond (v3877.2.2) ((impl_stackMachine_ruleFor_1 (v3877.2.1) (v3877.1) x3856 x3854 x3855 x3857 x3858).bind fun (v3883 : Bool) => cond v3883 (some 82) (some 83)) (some 83))

@[irreducible] def impl_stackMachine_ruleFor_2 (x3854 : Int) (x3855 : Int) (x3856 : List Int) (x3857 : List Int) (x3858 : List Int) : Option (Int) :=
  impl_stackMachine_ruleFor_2_n1 x3854 x3855 x3856 x3857 x3858

def impl_MovesFor_n1 (x3342 : List Int) : Option (((List Int)) ⊕ (ByteArray × Bool)) :=
  (impl_FlatOk x3342).bind fun (v4043 : Bool) => cond (!v4043) (some (Sum.inr (ByteArray.empty, false))) ((impl_newStackMachine (((List.length x3342 : Nat) : Int))).bind fun (v4046 : List Int) => (impl_stackMoves).bind fun (v4047 : Unit) => (impl_stackMachine_ruleFor x3342 0 0 v4046).bind fun (v4048 : Unit) => some (Sum.inl v4046))

def impl_MovesFor_n2 (x3342 : List Int) : Option (Int) :=
  some (IntKind.wrap .i64 ((IntKind.wrap .i64 (2 * (((List.length x3342 : Nat) : Int)))) - 1))

def impl_MovesFor_n3 (x4051 : Int) (x4123 : Int) (x4124 : Int) (x4125 : Int) (x4126 : List Int) (x4127 : List Int) (x4128 : List Int) (x3342 : List Int) : Option ((Int × Int × Int × (List Int) × (List Int) × (List Int)) ⊕ ((List Int))) :=
  cond (decide (x4123 < x4051)) ((impl_stackMachine_ruleFor_2 x4124 x4125 x3342 x4127 x4128).bind fun (v4162 : Int) => cond (v4162 == 83) ((impl_stackMachine_putNext x4124 x4125 x4127 x4128).bind fun (v4164 : Bool × Int × Int × (List Int)) => (room ((List.length x4126) + List.length ([v4162]))).bind fun (v4171 : Unit) => some (Sum.inl ((IntKind.wrap .i64 (x4123 + 1)), (v4164.2.1), (v4164.2.2.1), (x4126 ++ ([v4162])), x4127, (v4164.2.2.2)))) (cond (v4162 == 76) ((impl_stackMachine_takeBelow x4124 x4125 x4127 x4128).bind fun (v4175 : Bool × (List Int) × (List Int)) => (room ((List.length x4126) + List.length ([v4162]))).bind fun (v4181 : Unit) => some (Sum.inl ((IntKind.wrap .i64 (x4123 + 1)), x4124, x4125, (x4126 ++ ([v4162])), (v4175.2.1), (v4175.2.2)))) (cond (v4162 == 82) ((impl_stackMachine_takeUpper x4124 x4125 x4127 x4128).bind fun (v4185 : Bool × (List Int) × (List Int)) => (room ((List.length x4126) + List.length ([v4162]))).bind fun (v4191 : Unit) => some (Sum.inl ((IntKind.wrap .i64 (x4123 + 1)), x4124, x4125, (x4126 ++ ([v4162])), (v4185.2.1), (v4185.2.2)))) (none)))) (some (Sum.inr x4126))

def impl_MovesFor_n4 (x4051 : Int) (x4046 : List Int) (x3342 : List Int) : Option (((List Int))) :=
  nloop (fun (s : Int × Int × Int × (List Int) × (List Int) × (List Int)) => ((impl_MovesFor_n3 x4051 s.1 s.2.1 s.2.2.1 s.2.2.2.1 s.2.2.2.2.1 s.2.2.2.2.2 x3342).map (Sum.elim (fun (t : Int × Int × Int × (List Int) × (List Int) × (List Int)) => Sum.inl (t.1, t.2.1, t.2.2.1, t.2.2.2.1, t.2.2.2.2.1, t.2.2.2.2.2)) (fun (t : (List Int)) => Sum.inr t)) : Option ((Int × Int × Int × (List Int) × (List Int) × (List Int)) ⊕ (((List Int)))))) LL (0, 0, 0, ([] : List Int), x4046, ([] : List Int))

def impl_MovesFor_n5 (x4051 : Int) (x4046 : List Int) (x3342 : List Int) : Option (((List Int))) :=
  (impl_MovesFor_n4 x4051 x4046 x3342).map (fun (t : (List Int)) => t)

def impl_MovesFor_n6 (x3342 : List Int) (x4046 : List Int) : Option (((List Int))) :=
  (impl_MovesFor_n2 x3342).bind (fun (t : Int) => impl_MovesFor_n5 t x4046 x3342)

def impl_MovesFor_n7 (x4126 : List Int) : Option ((ByteArray × Bool)) :=
  some ((bytesOf x4126), true)

def impl_MovesFor_n8 (x3342 : List Int) (x4046 : List Int) : Option ((ByteArray × Bool)) :=
  (impl_MovesFor_n6 x3342 x4046).bind (fun (t : (List Int)) => impl_MovesFor_n7 t)

def impl_MovesFor_n9 (x3342 : List Int) : Option ((ByteArray × Bool)) :=
  (impl_MovesFor_n1 x3342).bind (Sum.elim (fun (t : (List Int)) => impl_MovesFor_n8 x3342 t) (fun e => some ((fun (t : ByteArray × Bool) => t) e)))

@[irreducible] def impl_MovesFor (x3342 : List Int) : Option (ByteArray × Bool) :=
  impl_MovesFor_n9 x3342

def spec_l20Order_n1 (x4320 : List Int) (x4321 : Int) : Option ((Int × Int)) :=
  (spec_l20Rd_pick 2 x4320 x4321).bind fun (v4322 : Int × Int) => some ((v4322.1), (v4322.2))

def spec_l20Order_n2 : Option (Unit) :=
  some ()

def spec_l20Order_n3 (x4319 : Int) (x4323 : Int) (x4466 : Int) (x4320 : List Int) (x4467 : Int) (x4468 : List Int) : Option ((Int × Int × (List Int)) ⊕ (Int × (List Int))) :=
  cond (decide (x4466 ≤ x4319)) (cond (x4323 == 0) ((spec_l20Rd_pick x4466 x4320 x4467).bind fun (v4540 : Int × Int) => (inc (v4540.1) (List.length x4468)).bind fun (v4544 : Nat) => (room ((List.length ([] : List Int)) + List.length ((x4468.drop 0).take (v4544 - 0)))).bind fun (v4548 : Unit) => (room ((List.length (([] : List Int) ++ ((x4468.drop 0).take (v4544 - 0)))) + List.length ([x4466]))).bind fun (v4552 : Unit) => (inc (v4540.1) (List.length x4468)).bind fun (v4555 : Nat) => (room ((List.length ((([] : List Int) ++ ((x4468.drop 0).take (v4544 - 0))) ++ ([x4466]))) + List.length ((x4468.drop v4555).take ((List.length x4468) - v4555)))).bind fun (v4559 : Unit) => some (Sum.inl ((IntKind.wrap .i64 (x4466 + 1)), (v4540.2), (((([] : List Int) ++ ((x4468.drop 0).take (v4544 - 0))) ++ ([x4466])) ++ ((x4468.drop v4555).take ((List.length x4468) - v4555)))))) ((spec_l20Rd_pick 3 x4320 x4467).bind fun (v4562 : Int × Int) => cond ((v4562.1) == 0) ((spec_l20Rd_pick x4466 x4320 (v4562.2)).bind fun (v4566 : Int × Int) => (inc (v4566.1) (List.length x4468)).bind fun (v4570 : Nat) => (room ((List.length ([] : List Int)) + List.length ((x4468.drop 0).take (v4570 - 0)))).bind fun (v4574 : Unit) => (room ((List.length (([] : List Int) ++ ((x4468.drop 0).take (v4570 - 0)))) + List.length ([x4466]))).bind fun (v4578 : Unit) => (inc (v4566.1) (List.length x4468)).bind fun (v4581 : Nat) => (room ((List.length ((([] : List Int) ++ ((x4468.drop 0).take (v4570 - 0))) ++ ([x4466]))) + List.length ((x4468.drop v4581).take ((List.length x4468) - v4581)))).bind fun (v4585 : Unit) => some (Sum.inl ((IntKind.wrap .i64 (x4466 + 1)), (v4566.2), (((([] : List Int) ++ ((x4468.drop 0).take (v4570 - 0))) ++ ([x4466])) ++ ((x4468.drop v4581).take ((List.length x4468) - v4581)))))) ((inc (((List.length x4468 : Nat) : Int)) (List.length x4468)).bind fun (v4589 : Nat) => (room ((List.length ([] : List Int)) + List.length ((x4468.drop 0).take (v4589 - 0)))).bind fun (v4593 : Unit) => (room ((List.length (([] : List Int) ++ ((x4468.drop 0).take (v4589 - 0)))) + List.length ([x4466]))).bind fun (v4597 : Unit) => (inc (((List.length x4468 : Nat) : Int)) (List.length x4468)).bind fun (v4600 : Nat) => (room ((List.length ((([] : List Int) ++ ((x4468.drop 0).take (v4589 - 0))) ++ ([x4466]))) + List.length ((x4468.drop v4600).take ((List.length x4468) - v4600)))).bind fun (v4604 : Unit) => some (Sum.inl ((IntKind.wrap .i64 (x4466 + 1)), (v4562.2), (((([] : List Int) ++ ((x4468.drop 0).take (v4589 - 0))) ++ ([x4466])) ++ ((x4468.drop v4600).take ((List.length x4468) - v4600)))))))) (some (Sum.inr (x4467, x4468)))

def spec_l20Order_n4 (x4319 : Int) (x4323 : Int) (x4320 : List Int) (x4324 : Int) : Option ((Int × (List Int))) :=
  nloop (fun (s : Int × Int × (List Int)) => ((spec_l20Order_n3 x4319 x4323 s.1 x4320 s.2.1 s.2.2).map (Sum.elim (fun (t : Int × Int × (List Int)) => Sum.inl (t.1, t.2.1, t.2.2)) (fun (t : Int × (List Int)) => Sum.inr t)) : Option ((Int × Int × (List Int)) ⊕ ((Int × (List Int)))))) LL (1, x4324, ([] : List Int))

def spec_l20Order_n5 (x4319 : Int) (x4323 : Int) (x4320 : List Int) (x4324 : Int) : Option ((Int × (List Int))) :=
  (spec_l20Order_n4 x4319 x4323 x4320 x4324).map (fun (t : Int × (List Int)) => (t.1, t.2))

def spec_l20Order_n6 (x4319 : Int) (x4323 : Int) (x4320 : List Int) (x4324 : Int) : Option ((Int × (List Int))) :=
  (spec_l20Order_n2).bind (fun (t : Unit) => spec_l20Order_n5 x4319 x4323 x4320 x4324)

def spec_l20Order_n7 (x4467 : Int) (x4468 : List Int) : Option ((Int × (List Int))) :=
  some (x4467, x4468)

def spec_l20Order_n8 (x4319 : Int) (x4323 : Int) (x4320 : List Int) (x4324 : Int) : Option ((Int × (List Int))) :=
  (spec_l20Order_n6 x4319 x4323 x4320 x4324).bind (fun (t : Int × (List Int)) => spec_l20Order_n7 t.1 t.2)

def spec_l20Order_n9 (x4319 : Int) (x4320 : List Int) (x4321 : Int) : Option ((Int × (List Int))) :=
  (spec_l20Order_n1 x4320 x4321).bind (fun (t : Int × Int) => spec_l20Order_n8 x4319 t.1 x4320 t.2)

@[irreducible] def spec_l20Order (x4319 : Int) (x4320 : List Int) (x4321 : Int) : Option (Int × (List Int)) :=
  spec_l20Order_n9 x4319 x4320 x4321

def spec_l20Tree_n1 (x4309 : List Int) (x4310 : Int) : Option ((Int × Int × Int × (List Int) × (List Int))) :=
  (spec_l20Rd_pick 7 x4309 x4310).bind fun (v4622 : Int × Int) => (spec_l20Order (IntKind.wrap .i64 (1 + (v4622.1))) x4309 (v4622.2)).bind fun (v4626 : Int × (List Int)) => (mk (IntKind.wrap .i64 (1 + (v4622.1))) (IntKind.wrap .i64 (1 + (v4622.1)))).bind fun (v4629 : Nat) => (spec_l20Rd_pick 2 x4309 (v4626.1)).bind fun (v4631 : Int × Int) => some ((IntKind.wrap .i64 (1 + (v4622.1))), (v4631.1), (v4631.2), (v4626.2), (List.replicate v4629 (0 : Int)))

def spec_l20Tree_n2 : Option (Unit) :=
  some ()

def spec_l20Tree_n3 (x4625 : Int) (x4632 : Int) (x4703 : Int) (x4309 : List Int) (x4704 : Int) (x4628 : List Int) (x4705 : List Int) : Option ((Int × Int × (List Int)) ⊕ (Int × (List Int))) :=
  cond (decide (x4703 < x4625)) ((spec_l20Rd_pick x4703 x4309 x4704).bind fun (v4739 : Int × Int) => cond (x4632 == 1) ((spec_l20Rd_pick 2 x4309 (v4739.2)).bind fun (v4743 : Int × Int) => cond ((v4743.1) == 0) ((inb x4703 (List.length x4628)).bind fun (v4748 : Nat) => (x4628[v4748]?).bind fun (v4749 : Int) => (inb (IntKind.wrap .i64 (x4703 - 1)) (List.length x4628)).bind fun (v4751 : Nat) => (x4628[v4751]?).bind fun (v4752 : Int) => (inb (IntKind.wrap .i64 (v4749 - 1)) (List.length x4705)).bind fun (v4753 : Nat) => some (Sum.inl ((IntKind.wrap .i64 (x4703 + 1)), (v4743.2), (x4705.set v4753 v4752)))) ((inb x4703 (List.length x4628)).bind fun (v4756 : Nat) => (x4628[v4756]?).bind fun (v4757 : Int) => (inb (v4739.1) (List.length x4628)).bind fun (v4759 : Nat) => (x4628[v4759]?).bind fun (v4760 : Int) => (inb (IntKind.wrap .i64 (v4757 - 1)) (List.length x4705)).bind fun (v4761 : Nat) => some (Sum.inl ((IntKind.wrap .i64 (x4703 + 1)), (v4743.2), (x4705.set v4761 v4760))))) ((inb x4703 (List.length x4628)).bind fun (v4764 : Nat) => (x4628[v4764]?).bind fun (v4765 : Int) => (inb (v4739.1) (List.length x4628)).bind fun (v4767 : Nat) => (x4628[v4767]?).bind fun (v4768 : Int) => (inb (IntKind.wrap .i64 (v4765 - 1)) (List.length x4705)).bind fun (v4769 : Nat) => some (Sum.inl ((IntKind.wrap .i64 (x4703 + 1)), (v4739.2), (x4705.set v4769 v4768))))) (some (Sum.inr (x4704, x4705)))

def spec_l20Tree_n4 (x4625 : Int) (x4632 : Int) (x4309 : List Int) (x4633 : Int) (x4628 : List Int) (x4630 : List Int) : Option ((Int × (List Int))) :=
  nloop (fun (s : Int × Int × (List Int)) => ((spec_l20Tree_n3 x4625 x4632 s.1 x4309 s.2.1 x4628 s.2.2).map (Sum.elim (fun (t : Int × Int × (List Int)) => Sum.inl (t.1, t.2.1, t.2.2)) (fun (t : Int × (List Int)) => Sum.inr t)) : Option ((Int × Int × (List Int)) ⊕ ((Int × (List Int)))))) LL (1, x4633, x4630)

def spec_l20Tree_n5 (x4625 : Int) (x4632 : Int) (x4309 : List Int) (x4633 : Int) (x4628 : List Int) (x4630 : List Int) : Option ((Int × (List Int))) :=
  (spec_l20Tree_n4 x4625 x4632 x4309 x4633 x4628 x4630).map (fun (t : Int × (List Int)) => (t.1, t.2))

def spec_l20Tree_n6 (x4625 : Int) (x4632 : Int) (x4309 : List Int) (x4633 : Int) (x4628 : List Int) (x4630 : List Int) : Option ((Int × (List Int))) :=
  (spec_l20Tree_n2).bind (fun (t : Unit) => spec_l20Tree_n5 x4625 x4632 x4309 x4633 x4628 x4630)

def spec_l20Tree_n7 (x4308 : Int) (x4625 : Int) (x4309 : List Int) (x4704 : Int) (x4705 : List Int) : Option ((Int × (List Int))) :=
  (spec_l20Rd_odd x4308 x4309 x4704).bind fun (v4831 : Bool × Int) => cond (v4831.1) ((spec_l20Rd_pick 4 x4309 (v4831.2)).bind fun (v4834 : Int × Int) => cond ((v4834.1) == 0) (some ((v4834.2), ([] : List Int))) (cond ((v4834.1) == 1) (some ((v4834.2), ([2, 1, 0]))) (cond ((v4834.1) == 2) ((spec_l20Rd_pick x4625 x4309 (v4834.2)).bind fun (v4841 : Int × Int) => (inb (v4841.1) (List.length x4705)).bind fun (v4844 : Nat) => (room ((List.length (x4705.set v4844 0)) + List.length ([0]))).bind fun (v4848 : Unit) => some ((v4841.2), ((x4705.set v4844 0) ++ ([0])))) ((spec_l20Rd_pick 3 x4309 (v4834.2)).bind fun (v4852 : Int × Int) => (inb (v4852.1) (List.length ([1, (IntKind.wrap .i64 (x4625 + 1)), (-1)]))).bind fun (v4855 : Nat) => (([1, (IntKind.wrap .i64 (x4625 + 1)), (-1)])[v4855]?).bind fun (v4856 : Int) => (inb 0 (List.length x4705)).bind fun (v4857 : Nat) => some ((v4852.2), (x4705.set v4857 v4856)))))) (some ((v4831.2), x4705))

def spec_l20Tree_n8 (x4308 : Int) (x4625 : Int) (x4632 : Int) (x4309 : List Int) (x4633 : Int) (x4628 : List Int) (x4630 : List Int) : Option ((Int × (List Int))) :=
  (spec_l20Tree_n6 x4625 x4632 x4309 x4633 x4628 x4630).bind (fun (t : Int × (List Int)) => spec_l20Tree_n7 x4308 x4625 x4309 t.1 t.2)

def spec_l20Tree_n9 (x4308 : Int) (x4309 : List Int) (x4310 : Int) : Option ((Int × (List Int))) :=
  (spec_l20Tree_n1 x4309 x4310).bind (fun (t : Int × Int × Int × (List Int) × (List Int)) => spec_l20Tree_n8 x4308 t.1 t.2.1 x4309 t.2.2.1 t.2.2.2.1 t.2.2.2.2)

@[irreducible] def spec_l20Tree (x4308 : Int) (x4309 : List Int) (x4310 : Int) : Option (Int × (List Int)) :=
  spec_l20Tree_n9 x4308 x4309 x4310

def spec_l20Fill_n1 (R0 : Int → Int → Int → (List Int) → Int → (List Int) → Option (Int × (List Int))) (x4901 : Int) (x4902 : Int) (x4903 : Int) (x4904 : List Int) (x4905 : Int) (x4906 : List Int) : Option ((Int × Int × (List Int)) ⊕ (Int × (List Int))) :=
  cond (decide (x4901 > x4902)) (some (Sum.inr (x4905, x4906))) ((spec_l20Rd_pick (IntKind.wrap .i64 ((IntKind.wrap .i64 (x4902 - x4901)) + 1)) x4904 x4905).bind fun (v4974 : Int × Int) => (inb (IntKind.wrap .i64 ((IntKind.wrap .i64 (x4901 + (v4974.1))) - 1)) (List.length x4906)).bind fun (v4979 : Nat) => some (Sum.inl ((IntKind.wrap .i64 (x4901 + (v4974.1))), (v4974.2), (x4906.set v4979 x4903))))

def spec_l20Fill_n2 (R0 : Int → Int → Int → (List Int) → Int → (List Int) → Option (Int × (List Int))) (x4977 : Int) (x4992 : Int) (x4904 : List Int) (x4993 : Int) (x4994 : List Int) : Option ((Int × Int × (List Int)) ⊕ (Int × (List Int))) :=
  cond (decide (x4992 < x4977)) ((spec_l20Rd_pick (IntKind.wrap .i64 (x4977 - x4992)) x4904 x4993).bind fun (v4998 : Int × Int) => (R0 x4992 (IntKind.wrap .i64 (x4992 + (v4998.1))) x4977 x4904 (v4998.2) x4994).bind fun (v5002 : Int × (List Int)) => some (Sum.inl ((IntKind.wrap .i64 ((IntKind.wrap .i64 (x4992 + (v4998.1))) + 1)), (v5002.1), (v5002.2)))) (some (Sum.inr (x4993, x4994)))

def spec_l20Fill_n3 (R0 : Int → Int → Int → (List Int) → Int → (List Int) → Option (Int × (List Int))) (x4977 : Int) (x4901 : Int) (x4904 : List Int) (x4976 : Int) (x4980 : List Int) : Option ((Int × (List Int))) :=
  nloop (fun (s : Int × Int × (List Int)) => ((spec_l20Fill_n2 R0 x4977 s.1 x4904 s.2.1 s.2.2).map (Sum.elim (fun (t : Int × Int × (List Int)) => Sum.inl (t.1, t.2.1, t.2.2)) (fun (t : Int × (List Int)) => Sum.inr t)) : Option ((Int × Int × (List Int)) ⊕ ((Int × (List Int)))))) LL (x4901, x4976, x4980)

def spec_l20Fill_n4 (R0 : Int → Int → Int → (List Int) → Int → (List Int) → Option (Int × (List Int))) (x4977 : Int) (x4901 : Int) (x4904 : List Int) (x4976 : Int) (x4980 : List Int) : Option ((Int × (List Int))) :=
  (spec_l20Fill_n3 R0 x4977 x4901 x4904 x4976 x4980).map (fun (t : Int × (List Int)) => (t.1, t.2))

def spec_l20Fill_n5 (R0 : Int → Int → Int → (List Int) → Int → (List Int) → Option (Int × (List Int))) (x4977 : Int) : Option (Int) :=
  some (IntKind.wrap .i64 (x4977 + 1))

def spec_l20Fill_n6 (R0 : Int → Int → Int → (List Int) → Int → (List Int) → Option (Int × (List Int))) (x4902 : Int) (x4977 : Int) (x5019 : Int) (x4904 : List Int) (x5020 : Int) (x5021 : List Int) : Option ((Int × Int × (List Int)) ⊕ (Int × (List Int))) :=
  cond (decide (x5019 ≤ x4902)) ((spec_l20Rd_pick (IntKind.wrap .i64 ((IntKind.wrap .i64 (x4902 - x5019)) + 1)) x4904 x5020).bind fun (v5026 : Int × Int) => (R0 x5019 (IntKind.wrap .i64 (x5019 + (v5026.1))) x4977 x4904 (v5026.2) x5021).bind fun (v5030 : Int × (List Int)) => some (Sum.inl ((IntKind.wrap .i64 ((IntKind.wrap .i64 (x5019 + (v5026.1))) + 1)), (v5030.1), (v5030.2)))) (some (Sum.inr (x5020, x5021)))

def spec_l20Fill_n7 (R0 : Int → Int → Int → (List Int) → Int → (List Int) → Option (Int × (List Int))) (x4902 : Int) (x4977 : Int) (x5006 : Int) (x4904 : List Int) (x4993 : Int) (x4994 : List Int) : Option ((Int × (List Int))) :=
  nloop (fun (s : Int × Int × (List Int)) => ((spec_l20Fill_n6 R0 x4902 x4977 s.1 x4904 s.2.1 s.2.2).map (Sum.elim (fun (t : Int × Int × (List Int)) => Sum.inl (t.1, t.2.1, t.2.2)) (fun (t : Int × (List Int)) => Sum.inr t)) : Option ((Int × Int × (List Int)) ⊕ ((Int × (List Int)))))) LL (x5006, x4993, x4994)

def spec_l20Fill_n8 (R0 : Int → Int → Int → (List Int) → Int → (List Int) → Option (Int × (List Int))) (x4902 : Int) (x4977 : Int) (x5006 : Int) (x4904 : List Int) (x4993 : Int) (x4994 : List Int) : Option ((Int × (List Int))) :=
  (spec_l20Fill_n7 R0 x4902 x4977 x5006 x4904 x4993 x4994).map (fun (t : Int × (List Int)) => (t.1, t.2))

def spec_l20Fill_n9 (R0 : Int → Int → Int → (List Int) → Int → (List Int) → Option (Int × (List Int))) (x4902 : Int) (x4977 : Int) (x4904 : List Int) (x4993 : Int) (x4994 : List Int) : Option ((Int × (List Int))) :=
  (spec_l20Fill_n5 R0 x4977).bind (fun (t : Int) => spec_l20Fill_n8 R0 x4902 x4977 t x4904 x4993 x4994)

def spec_l20Fill_n10 (R0 : Int → Int → Int → (List Int) → Int → (List Int) → Option (Int × (List Int))) (x4902 : Int) (x4977 : Int) (x4901 : Int) (x4904 : List Int) (x4976 : Int) (x4980 : List Int) : Option ((Int × (List Int))) :=
  (spec_l20Fill_n4 R0 x4977 x4901 x4904 x4976 x4980).bind (fun (t : Int × (List Int)) => spec_l20Fill_n9 R0 x4902 x4977 x4904 t.1 t.2)

def spec_l20Fill_n11 (R0 : Int → Int → Int → (List Int) → Int → (List Int) → Option (Int × (List Int))) (x4901 : Int) (x4902 : Int) (x4903 : Int) (x4904 : List Int) (x4905 : Int) (x4906 : List Int) : Option ((Int × (List Int)) ⊕ (Int × (List Int))) :=
  (spec_l20Fill_n1 R0 x4901 x4902 x4903 x4904 x4905 x4906).bind (Sum.elim (fun (t : Int × Int × (List Int)) => (spec_l20Fill_n10 R0 x4902 t.1 x4901 x4904 t.2.1 t.2.2).map (fun (u : Int × (List Int)) => (Sum.inl (u.1, u.2)))) (fun e => some ((fun (t : Int × (List Int)) => (Sum.inr t)) e)))

def spec_l20Fill_one (R0 : Int → Int → Int → (List Int) → Int → (List Int) → Option (Int × (List Int))) (x4901 : Int) (x4902 : Int) (x4903 : Int) (x4904 : List Int) (x4905 : Int) (x4906 : List Int) : Option (Int × (List Int)) :=
  (spec_l20Fill_n11 R0 x4901 x4902 x4903 x4904 x4905 x4906).map (Sum.elim (fun (t : Int × (List Int)) => (t.1, t.2)) (fun (t : Int × (List Int)) => t))

def spec_l20Fill_knot : Nat → (Int → Int → Int → (List Int) → Int → (List Int) → Option (Int × (List Int)))
  | 0 => (fun _ _ _ _ _ _ => none)
  | n + 1 => (fun y0 y1 y2 y3 y4 y5 => spec_l20Fill_one (spec_l20Fill_knot n) y0 y1 y2 y3 y4 y5)

def spec_l20Fill_fuel (n : Nat) : Int → Int → Int → (List Int) → Int → (List Int) → Option (Int × (List Int)) := (spec_l20Fill_knot n)

@[irreducible] def spec_l20Fill (x4901 : Int) (x4902 : Int) (x4903 : Int) (x4904 : List Int) (x4905 : Int) (x4906 : List Int) : Option (Int × (List Int)) := spec_l20Fill_fuel RR x4901 x4902 x4903 x4904 x4905 x4906

def spec_l20Flat_n1 (x4301 : Int) (x4302 : List Int) (x4303 : Int) : Option ((Int × (List Int))) :=
  (spec_l20Rd_pick 3 x4302 x4303).bind fun (v5055 : Int × Int) => cond ((v5055.1) == 0) ((spec_l20Tree x4301 x4302 (v5055.2)).bind fun (v5059 : Int × (List Int)) => some ((v5059.1), (v5059.2))) ((spec_l20Rd_pick 7 x4302 (v5055.2)).bind fun (v5062 : Int × Int) => (mk (IntKind.wrap .i64 (1 + (v5062.1))) (IntKind.wrap .i64 (1 + (v5062.1)))).bind fun (v5066 : Nat) => (spec_l20Fill 1 (IntKind.wrap .i64 (1 + (v5062.1))) 0 x4302 (v5062.2) (List.replicate v5066 (0 : Int))).bind fun (v5068 : Int × (List Int)) => some ((v5068.1), (v5068.2)))

@[irreducible] def spec_l20Flat (x4301 : Int) (x4302 : List Int) (x4303 : Int) : Option (Int × (List Int)) :=
  spec_l20Flat_n1 x4301 x4302 x4303

def spec_DrawMovesFor_n1 (x4298 : List Int) : Option (((List Int))) :=
  (spec_l20Open x4298).bind fun (v5076 : List Int) => (spec_l20Flat 9 v5076 0).bind fun (v5077 : Int × (List Int)) => some (v5077.2)

@[irreducible] def spec_DrawMovesFor (x4298 : List Int) : Option ((List Int)) :=
  spec_DrawMovesFor_n1 x4298

def spec_TreeOk_n1 (x5097 : List Int) : Option (Int ⊕ Bool) :=
  (spec_l1In (((List.length x5097 : Nat) : Int)) 1 8).bind fun (v5103 : Bool) => cond (!v5103) (some (Sum.inr false)) (some (Sum.inl (((List.length x5097 : Nat) : Int))))

def spec_TreeOk_n2 : Option (Unit) :=
  some ()

def spec_TreeOk_n3 (x5102 : Int) (x5169 : Int) (x5170 : Int) : Option (Unit ⊕ Int) :=
  cond (decide (x5170 < x5102)) (some (Sum.inl ())) (some (Sum.inr x5169))

def spec_TreeOk_n4 (x5097 : List Int) (x5102 : Int) (x5169 : Int) (x5170 : Int) : Option ((Int × Int) ⊕ Bool) :=
  (idx x5097 x5170).bind fun (v5187 : Int) => (spec_l1In v5187 0 x5102).bind fun (v5188 : Bool) => cond (!v5188) (some (Sum.inr false)) ((idx x5097 x5170).bind fun (v5190 : Int) => cond (v5190 == (IntKind.wrap .i64 (x5170 + 1))) (some (Sum.inr false)) ((idx x5097 x5170).bind fun (v5193 : Int) => cond (v5193 == 0) (some (Sum.inl ((IntKind.wrap .i64 (x5169 + 1)), (IntKind.wrap .i64 (x5170 + 1))))) (some (Sum.inl (x5169, (IntKind.wrap .i64 (x5170 + 1)))))))

def spec_TreeOk_n5 : Option (Unit) :=
  some ()

def spec_TreeOk_n6 (x5097 : List Int) (x5102 : Int) (x5215 : Int) (x5216 : Int) : Option ((Int × Int) ⊕ Bool ⊕ Int) :=
  cond (decide (x5215 > 0)) (cond (decide (x5216 < x5102)) ((idx x5097 (IntKind.wrap .i64 (x5215 - 1))).bind fun (v5228 : Int) => (spec_l1In v5228 0 x5102).bind fun (v5229 : Bool) => cond (!v5229) (some (Sum.inr (Sum.inl false))) (some (Sum.inl (v5228, (IntKind.wrap .i64 (x5216 + 1)))))) (some (Sum.inr (Sum.inr x5215)))) (some (Sum.inr (Sum.inr x5215)))

def spec_TreeOk_n7 (x5097 : List Int) (x5102 : Int) (x5199 : Int) : Option (Bool ⊕ Int) :=
  nloop (fun (s : Int × Int) => ((spec_TreeOk_n6 x5097 x5102 s.1 s.2).map (Sum.elim (fun (t : Int × Int) => Sum.inl (t.1, t.2)) (Sum.elim (fun (t : Bool) => Sum.inr (Sum.inl t)) (fun (t : Int) => Sum.inr (Sum.inr t)))) : Option ((Int × Int) ⊕ (Bool ⊕ Int)))) LL (x5199, 0)

def spec_TreeOk_n8 (x5097 : List Int) (x5102 : Int) (x5199 : Int) : Option (Int ⊕ Bool) :=
  (spec_TreeOk_n7 x5097 x5102 x5199).map (Sum.elim (fun (t : Bool) => (Sum.inr t)) (fun (t : Int) => (Sum.inl t)))

def spec_TreeOk_n9 (x5097 : List Int) (x5102 : Int) (x5199 : Int) : Option (Int ⊕ Bool) :=
  (spec_TreeOk_n5).bind (fun (t : Unit) => spec_TreeOk_n8 x5097 x5102 x5199)

def spec_TreeOk_n10 (x5215 : Int) : Option (Unit ⊕ Bool) :=
  cond (decide (x5215 > 0)) (some (Sum.inr false)) (some (Sum.inl ()))

def spec_TreeOk_n11 (x5097 : List Int) (x5102 : Int) (x5199 : Int) : Option (Unit ⊕ Bool) :=
  (spec_TreeOk_n9 x5097 x5102 x5199).bind (Sum.elim (fun (t : Int) => spec_TreeOk_n10 t) (fun e => some ((fun (t : Bool) => (Sum.inr t)) e)))

def spec_TreeOk_n12 (x5097 : List Int) (x5102 : Int) (x5169 : Int) (x5170 : Int) : Option (Int ⊕ Bool) :=
  (spec_TreeOk_n4 x5097 x5102 x5169 x5170).bind (Sum.elim (fun (t : Int × Int) => (spec_TreeOk_n11 x5097 x5102 t.2).map (Sum.elim (fun (u : Unit) => (Sum.inl t.1)) (fun (u : Bool) => (Sum.inr u)))) (fun e => some ((fun (t : Bool) => (Sum.inr t)) e)))

def spec_TreeOk_n13 (x5097 : List Int) (x5102 : Int) (x5169 : Int) (x5170 : Int) : Option (Int ⊕ Bool) :=
  (spec_TreeOk_n12 x5097 x5102 x5169 x5170).map (Sum.elim (fun (t : Int) => (Sum.inl t)) (fun (t : Bool) => (Sum.inr t)))

def spec_TreeOk_n14 (x5170 : Int) : Option (Int) :=
  some (IntKind.wrap .i64 (x5170 + 1))

def spec_TreeOk_n15 (x5097 : List Int) (x5102 : Int) (x5169 : Int) (x5170 : Int) : Option ((Int × Int) ⊕ Bool) :=
  (spec_TreeOk_n13 x5097 x5102 x5169 x5170).bind (Sum.elim (fun (t : Int) => (spec_TreeOk_n14 x5170).map (fun (u : Int) => (Sum.inl (t, u)))) (fun e => some ((fun (t : Bool) => (Sum.inr t)) e)))

def spec_TreeOk_n16 (x5097 : List Int) (x5102 : Int) (x5169 : Int) (x5170 : Int) : Option ((Int × Int) ⊕ Bool ⊕ Int) :=
  (spec_TreeOk_n3 x5102 x5169 x5170).bind (Sum.elim (fun (t : Unit) => (spec_TreeOk_n15 x5097 x5102 x5169 x5170).map (Sum.elim (fun (t : Int × Int) => (Sum.inl (t.1, t.2))) (fun (t : Bool) => (Sum.inr (Sum.inl t))))) (fun e => some ((fun (t : Int) => (Sum.inr (Sum.inr t))) e)))

def spec_TreeOk_n17 (x5097 : List Int) (x5102 : Int) : Option (Bool ⊕ Int) :=
  nloop (fun (s : Int × Int) => ((spec_TreeOk_n16 x5097 x5102 s.1 s.2).map (Sum.elim (fun (t : Int × Int) => Sum.inl (t.1, t.2)) (Sum.elim (fun (t : Bool) => Sum.inr (Sum.inl t)) (fun (t : Int) => Sum.inr (Sum.inr t)))) : Option ((Int × Int) ⊕ (Bool ⊕ Int)))) LL (0, 0)

def spec_TreeOk_n18 (x5097 : List Int) (x5102 : Int) : Option (Int ⊕ Bool) :=
  (spec_TreeOk_n17 x5097 x5102).map (Sum.elim (fun (t : Bool) => (Sum.inr t)) (fun (t : Int) => (Sum.inl t)))

def spec_TreeOk_n19 (x5097 : List Int) (x5102 : Int) : Option (Int ⊕ Bool) :=
  (spec_TreeOk_n2).bind (fun (t : Unit) => spec_TreeOk_n18 x5097 x5102)

def spec_TreeOk_n20 (x5169 : Int) : Option (Bool) :=
  some (x5169 == 1)

def spec_TreeOk_n21 (x5097 : List Int) (x5102 : Int) : Option (Bool) :=
  (spec_TreeOk_n19 x5097 x5102).bind (Sum.elim (fun (t : Int) => spec_TreeOk_n20 t) (fun e => some ((fun (t : Bool) => t) e)))

def spec_TreeOk_n22 (x5097 : List Int) : Option (Bool) :=
  (spec_TreeOk_n1 x5097).bind (Sum.elim (fun (t : Int) => spec_TreeOk_n21 x5097 t) (fun e => some ((fun (t : Bool) => t) e)))

@[irreducible] def spec_TreeOk (x5097 : List Int) : Option (Bool) :=
  spec_TreeOk_n22 x5097

def spec_l2Yield_n1 (R0 : (List Int) → Int → Option Int) (x5243 : Int) : Option (Int) :=
  (shl .i64 1 (IntKind.wrap .i64 (x5243 - 1))).bind fun (v5274 : Int) => some v5274

def spec_l2Yield_n2 (R0 : (List Int) → Int → Option Int) : Option (Unit) :=
  some ()

def spec_l2Yield_n3 (R0 : (List Int) → Int → Option Int) (x5242 : List Int) (x5243 : Int) (x5295 : Int) (x5296 : Int) : Option ((Int × Int) ⊕ Int) :=
  cond (decide (x5296 < (((List.length x5242 : Nat) : Int)))) ((idx x5242 x5296).bind fun (v5308 : Int) => cond (v5308 == x5243) ((R0 x5242 (IntKind.wrap .i64 (x5296 + 1))).bind fun (v5311 : Int) => some (Sum.inl ((ior .i64 x5295 v5311), (IntKind.wrap .i64 (x5296 + 1))))) (some (Sum.inl (x5295, (IntKind.wrap .i64 (x5296 + 1)))))) (some (Sum.inr x5295))

def spec_l2Yield_n4 (R0 : (List Int) → Int → Option Int) (x5242 : List Int) (x5243 : Int) (x5274 : Int) : Option (Int) :=
  nloop (fun (s : Int × Int) => ((spec_l2Yield_n3 R0 x5242 x5243 s.1 s.2).map (Sum.elim (fun (t : Int × Int) => Sum.inl (t.1, t.2)) (fun (t : Int) => Sum.inr t)) : Option ((Int × Int) ⊕ (Int)))) LL (x5274, 0)

def spec_l2Yield_n5 (R0 : (List Int) → Int → Option Int) (x5242 : List Int) (x5243 : Int) (x5274 : Int) : Option (Int) :=
  (spec_l2Yield_n4 R0 x5242 x5243 x5274).map (fun (t : Int) => t)

def spec_l2Yield_n6 (R0 : (List Int) → Int → Option Int) (x5242 : List Int) (x5243 : Int) (x5274 : Int) : Option (Int) :=
  (spec_l2Yield_n2 R0).bind (fun (t : Unit) => spec_l2Yield_n5 R0 x5242 x5243 x5274)

def spec_l2Yield_n7 (R0 : (List Int) → Int → Option Int) (x5295 : Int) : Option (Int) :=
  some x5295

def spec_l2Yield_n8 (R0 : (List Int) → Int → Option Int) (x5242 : List Int) (x5243 : Int) (x5274 : Int) : Option (Int) :=
  (spec_l2Yield_n6 R0 x5242 x5243 x5274).bind (fun (t : Int) => spec_l2Yield_n7 R0 t)

def spec_l2Yield_n9 (R0 : (List Int) → Int → Option Int) (x5242 : List Int) (x5243 : Int) : Option (Int) :=
  (spec_l2Yield_n1 R0 x5243).bind (fun (t : Int) => spec_l2Yield_n8 R0 x5242 x5243 t)

def spec_l2Yield_one (R0 : (List Int) → Int → Option Int) (x5242 : List Int) (x5243 : Int) : Option (Int) :=
  spec_l2Yield_n9 R0 x5242 x5243

def spec_l2Yield_knot : Nat → ((List Int) → Int → Option Int)
  | 0 => (fun _ _ => none)
  | n + 1 => (fun y0 y1 => spec_l2Yield_one (spec_l2Yield_knot n) y0 y1)

def spec_l2Yield_fuel (n : Nat) : (List Int) → Int → Option Int := (spec_l2Yield_knot n)

@[irreducible] def spec_l2Yield (x5242 : List Int) (x5243 : Int) : Option (Int) := spec_l2Yield_fuel RR x5242 x5243

def spec_l3Row_n1 : Option (Unit) :=
  some ()

def spec_l3Row_n2 (x5324 : Int) : Option (Int ⊕ Int) :=
  (rem x5324 2).bind fun (v5327 : Int) => cond (v5327 == 0) ((quo .i64 x5324 2).bind fun (v5329 : Int) => some (Sum.inl v5329)) (some (Sum.inr x5324))

def spec_l3Row_n3 (x5318 : Int) : Option (Int) :=
  nloop (fun (s : Int) => ((spec_l3Row_n2 s).map (Sum.elim (fun (t : Int) => Sum.inl t) (fun (t : Int) => Sum.inr t)) : Option ((Int) ⊕ (Int)))) LL x5318

def spec_l3Row_n4 (x5318 : Int) : Option (Int) :=
  (spec_l3Row_n3 x5318).map (fun (t : Int) => t)

def spec_l3Row_n5 (x5324 : Int) : Option (Bool) :=
  some ((iand .i64 x5324 (IntKind.wrap .i64 (x5324 + 1))) == 0)

def spec_l3Row_n6 (x5318 : Int) : Option (Bool) :=
  (spec_l3Row_n4 x5318).bind (fun (t : Int) => spec_l3Row_n5 t)

def spec_l3Row_n7 (x5318 : Int) : Option (Bool) :=
  (spec_l3Row_n1).bind (fun (t : Unit) => spec_l3Row_n6 x5318)

@[irreducible] def spec_l3Row (x5318 : Int) : Option (Bool) :=
  spec_l3Row_n7 x5318

def spec_FlatOk_n1 : Option (Unit) :=
  some ()

def spec_FlatOk_n2 : Option (Unit) :=
  some ()

def spec_FlatOk_n3 (x5094 : List Int) (x5345 : Int) : Option (Int ⊕ Bool ⊕ Unit) :=
  cond (decide (x5345 ≤ (((List.length x5094 : Nat) : Int)))) ((spec_TreeOk x5094).bind fun (v5357 : Bool) => cond v5357 ((spec_l2Yield x5094 x5345).bind fun (v5358 : Int) => (spec_l3Row v5358).bind fun (v5359 : Bool) => cond (!v5359) (some (Sum.inr (Sum.inl false))) (some (Sum.inl (IntKind.wrap .i64 (x5345 + 1))))) (some (Sum.inr (Sum.inr ())))) (some (Sum.inr (Sum.inr ())))

def spec_FlatOk_n4 (x5094 : List Int) : Option (Bool ⊕ Unit) :=
  nloop (fun (s : Int) => ((spec_FlatOk_n3 x5094 s).map (Sum.elim (fun (t : Int) => Sum.inl t) (Sum.elim (fun (t : Bool) => Sum.inr (Sum.inl t)) (fun (t : Unit) => Sum.inr (Sum.inr t)))) : Option ((Int) ⊕ (Bool ⊕ Unit)))) LL 1

def spec_FlatOk_n5 (x5094 : List Int) : Option (Unit ⊕ Bool) :=
  (spec_FlatOk_n4 x5094).map (Sum.elim (fun (t : Bool) => (Sum.inr t)) (fun (t : Unit) => (Sum.inl ())))

def spec_FlatOk_n6 (x5094 : List Int) : Option (Unit ⊕ Bool) :=
  (spec_FlatOk_n2).bind (fun (t : Unit) => spec_FlatOk_n5 x5094)

def spec_FlatOk_n7 (x5094 : List Int) : Option (Bool) :=
  (spec_TreeOk x5094).bind fun (v5363 : Bool) => some v5363

def spec_FlatOk_n8 (x5094 : List Int) : Option (Bool) :=
  (spec_FlatOk_n6 x5094).bind (Sum.elim (fun (t : Unit) => spec_FlatOk_n7 x5094) (fun e => some ((fun (t : Bool) => t) e)))

def spec_FlatOk_n9 (x5094 : List Int) : Option (Bool) :=
  (spec_FlatOk_n1).bind (fun (t : Unit) => spec_FlatOk_n8 x5094)

@[irreducible] def spec_FlatOk (x5094 : List Int) : Option (Bool) :=
  spec_FlatOk_n9 x5094

def spec_l6Free_n1 : Option (Unit) :=
  some ()

def spec_l6Free_n2 : Option (Unit) :=
  some ()

def spec_l6Free_n3 (x5407 : List Int) (x5408 : Int) (x5409 : List Bool) (x5427 : Int) : Option (Int ⊕ Bool ⊕ Unit) :=
  cond (decide (x5427 < (((List.length x5407 : Nat) : Int)))) ((idx x5407 x5427).bind fun (v5438 : Int) => cond (v5438 == x5408) ((idx x5409 x5427).bind fun (v5440 : Bool) => cond (!v5440) (some (Sum.inr (Sum.inl false))) (some (Sum.inl (IntKind.wrap .i64 (x5427 + 1))))) (some (Sum.inl (IntKind.wrap .i64 (x5427 + 1))))) (some (Sum.inr (Sum.inr ())))

def spec_l6Free_n4 (x5407 : List Int) (x5408 : Int) (x5409 : List Bool) : Option (Bool ⊕ Unit) :=
  nloop (fun (s : Int) => ((spec_l6Free_n3 x5407 x5408 x5409 s).map (Sum.elim (fun (t : Int) => Sum.inl t) (Sum.elim (fun (t : Bool) => Sum.inr (Sum.inl t)) (fun (t : Unit) => Sum.inr (Sum.inr t)))) : Option ((Int) ⊕ (Bool ⊕ Unit)))) LL 0

def spec_l6Free_n5 (x5407 : List Int) (x5408 : Int) (x5409 : List Bool) : Option (Unit ⊕ Bool) :=
  (spec_l6Free_n4 x5407 x5408 x5409).map (Sum.elim (fun (t : Bool) => (Sum.inr t)) (fun (t : Unit) => (Sum.inl ())))

def spec_l6Free_n6 (x5407 : List Int) (x5408 : Int) (x5409 : List Bool) : Option (Unit ⊕ Bool) :=
  (spec_l6Free_n2).bind (fun (t : Unit) => spec_l6Free_n5 x5407 x5408 x5409)

def spec_l6Free_n7 : Option (Bool) :=
  some true

def spec_l6Free_n8 (x5407 : List Int) (x5408 : Int) (x5409 : List Bool) : Option (Bool) :=
  (spec_l6Free_n6 x5407 x5408 x5409).bind (Sum.elim (fun (t : Unit) => spec_l6Free_n7) (fun e => some ((fun (t : Bool) => t) e)))

def spec_l6Free_n9 (x5407 : List Int) (x5408 : Int) (x5409 : List Bool) : Option (Bool) :=
  (spec_l6Free_n1).bind (fun (t : Unit) => spec_l6Free_n8 x5407 x5408 x5409)

@[irreducible] def spec_l6Free (x5407 : List Int) (x5408 : Int) (x5409 : List Bool) : Option (Bool) :=
  spec_l6Free_n9 x5407 x5408 x5409

def spec_MovesFor_n1 (x5093 : List Int) : Option (((List Bool)) ⊕ (ByteArray × Bool)) :=
  (spec_FlatOk x5093).bind fun (v5525 : Bool) => cond (!v5525) (some (Sum.inr (ByteArray.empty, false))) ((mk (((List.length x5093 : Nat) : Int)) (((List.length x5093 : Nat) : Int))).bind fun (v5528 : Nat) => some (Sum.inl (List.replicate v5528 false)))

def spec_MovesFor_n2 (x5093 : List Int) (x5927 : ByteArray) (x5928 : Int) (x5930 : List Int) : Option (Unit ⊕ ByteArray) :=
  cond (decide (x5928 ≤ (((List.length x5093 : Nat) : Int)))) (some (Sum.inl ())) (cond (decide ((((List.length x5930 : Nat) : Int)) > 1)) (some (Sum.inl ())) (some (Sum.inr x5927)))

def spec_MovesFor_n3 (x5093 : List Int) (x5927 : ByteArray) (x5928 : Int) (x5929 : List Bool) (x5930 : List Int) : Option ((ByteArray × Int × (List Bool) × (List Int))) :=
  cond (decide ((IntKind.wrap .i64 ((((List.length x5930 : Nat) : Int)) - 1)) ≥ 1)) ((inb (IntKind.wrap .i64 ((IntKind.wrap .i64 ((((List.length x5930 : Nat) : Int)) - 1)) - 1)) (List.length x5930)).bind fun (v6165 : Nat) => (x5930[v6165]?).bind fun (v6166 : Int) => (idx x5093 (IntKind.wrap .i64 (v6166 - 1))).bind fun (v6168 : Int) => (inb (IntKind.wrap .i64 ((((List.length x5930 : Nat) : Int)) - 1)) (List.length x5930)).bind fun (v6169 : Nat) => (x5930[v6169]?).bind fun (v6170 : Int) => cond (v6168 == v6170) ((inb (IntKind.wrap .i64 ((IntKind.wrap .i64 ((((List.length x5930 : Nat) : Int)) - 1)) - 1)) (List.length x5930)).bind fun (v6173 : Nat) => (x5930[v6173]?).bind fun (v6174 : Int) => (spec_l6Free x5093 v6174 x5929).bind fun (v6175 : Bool) => cond v6175 ((cat x5927 (ByteArray.mk #[76])).bind fun (v6176 : ByteArray) => (inb (IntKind.wrap .i64 ((IntKind.wrap .i64 ((((List.length x5930 : Nat) : Int)) - 1)) - 1)) (List.length x5930)).bind fun (v6178 : Nat) => (x5930[v6178]?).bind fun (v6179 : Int) => (inb (IntKind.wrap .i64 (v6179 - 1)) (List.length x5929)).bind fun (v6181 : Nat) => (inc (IntKind.wrap .i64 ((IntKind.wrap .i64 ((((List.length x5930 : Nat) : Int)) - 1)) - 1)) (List.length x5930)).bind fun (v6185 : Nat) => (inb (IntKind.wrap .i64 ((((List.length x5930 : Nat) : Int)) - 1)) (List.length x5930)).bind fun (v6187 : Nat) => (x5930[v6187]?).bind fun (v6188 : Int) => (room (List.length ((x5930.drop 0).take (v6185 - 0)))).bind fun (v6191 : Unit) => (room ((List.length ((x5930.drop 0).take (v6185 - 0))) + List.length ([v6188]))).bind fun (v6193 : Unit) => some (v6176, x5928, (x5929.set v6181 true), (((x5930.drop 0).take (v6185 - 0)) ++ ([v6188])))) (cond (decide ((IntKind.wrap .i64 ((((List.length x5930 : Nat) : Int)) - 1)) ≥ 1)) ((inb (IntKind.wrap .i64 ((((List.length x5930 : Nat) : Int)) - 1)) (List.length x5930)).bind fun (v6196 : Nat) => (x5930[v6196]?).bind fun (v6197 : Int) => (idx x5093 (IntKind.wrap .i64 (v6197 - 1))).bind fun (v6199 : Int) => (inb (IntKind.wrap .i64 ((IntKind.wrap .i64 ((((List.length x5930 : Nat) : Int)) - 1)) - 1)) (List.length x5930)).bind fun (v6201 : Nat) => (x5930[v6201]?).bind fun (v6202 : Int) => cond (v6199 == v6202) ((inb (IntKind.wrap .i64 ((((List.length x5930 : Nat) : Int)) - 1)) (List.length x5930)).bind fun (v6204 : Nat) => (x5930[v6204]?).bind fun (v6205 : Int) => (spec_l6Free x5093 v6205 x5929).bind fun (v6206 : Bool) => cond v6206 ((cat x5927 (ByteArray.mk #[82])).bind fun (v6207 : ByteArray) => (inb (IntKind.wrap .i64 ((((List.length x5930 : Nat) : Int)) - 1)) (List.length x5930)).bind fun (v6208 : Nat) => (x5930[v6208]?).bind fun (v6209 : Int) => (inb (IntKind.wrap .i64 (v6209 - 1)) (List.length x5929)).bind fun (v6211 : Nat) => (inc (IntKind.wrap .i64 ((((List.length x5930 : Nat) : Int)) - 1)) (List.length x5930)).bind fun (v6214 : Nat) => (room ((List.length ([] : List Int)) + List.length ((x5930.drop 0).take (v6214 - 0)))).bind fun (v6218 : Unit) => some (v6207, x5928, (x5929.set v6211 true), (([] : List Int) ++ ((x5930.drop 0).take (v6214 - 0))))) ((cat x5927 (ByteArray.mk #[83])).bind fun (v6220 : ByteArray) => (room ((List.length x5930) + List.length ([x5928]))).bind fun (v6223 : Unit) => some (v6220, (IntKind.wrap .i64 (x5928 + 1)), x5929, (x5930 ++ ([x5928]))))) ((cat x5927 (ByteArray.mk #[83])).bind fun (v6226 : ByteArray) => (room ((List.length x5930) + List.length ([x5928]))).bind fun (v6229 : Unit) => some (v6226, (IntKind.wrap .i64 (x5928 + 1)), x5929, (x5930 ++ ([x5928]))))) ((cat x5927 (ByteArray.mk #[83])).bind fun (v6232 : ByteArray) => (room ((List.length x5930) + List.length ([x5928]))).bind fun (v6235 : Unit) => some (v6232, (IntKind.wrap .i64 (x5928 + 1)), x5929, (x5930 ++ ([x5928])))))) (cond (decide ((IntKind.wrap .i64 ((((List.length x5930 : Nat) : Int)) - 1)) ≥ 1)) ((inb (IntKind.wrap .i64 ((((List.length x5930 : Nat) : Int)) - 1)) (List.length x5930)).bind fun (v6239 : Nat) => (x5930[v6239]?).bind fun (v6240 : Int) => (idx x5093 (IntKind.wrap .i64 (v6240 - 1))).bind fun (v6242 : Int) => (inb (IntKind.wrap .i64 ((IntKind.wrap .i64 ((((List.length x5930 : Nat) : Int)) - 1)) - 1)) (List.length x5930)).bind fun (v6244 : Nat) => (x5930[v6244]?).bind fun (v6245 : Int) => cond (v6242 == v6245) ((inb (IntKind.wrap .i64 ((((List.length x5930 : Nat) : Int)) - 1)) (List.length x5930)).bind fun (v6247 : Nat) => (x5930[v6247]?).bind fun (v6248 : Int) => (spec_l6Free x5093 v6248 x5929).bind fun (v6249 : Bool) => cond v6249 ((cat x5927 (ByteArray.mk #[82])).bind fun (v6250 : ByteArray) => (inb (IntKind.wrap .i64 ((((List.length x5930 : Nat) : Int)) - 1)) (List.length x5930)).bind fun (v6251 : Nat) => (x5930[v6251]?).bind fun (v6252 : Int) => (inb (IntKind.wrap .i64 (v6252 - 1)) (List.length x5929)).bind fun (v6254 : Nat) => (inc (IntKind.wrap .i64 ((((List.length x5930 : Nat) : Int)) - 1)) (List.length x5930)).bind fun (v6257 : Nat) => (room ((List.length ([] : List Int)) + List.length ((x5930.drop 0).take (v6257 - 0)))).bind fun (v6261 : Unit) => some (v6250, x5928, (x5929.set v6254 true), (([] : List Int) ++ ((x5930.drop 0).take (v6257 - 0))))) ((cat x5927 (ByteArray.mk #[83])).bind fun (v6263 : ByteArray) => (room ((List.length x5930) + List.length ([x5928]))).bind fun (v6266 : Unit) => some (v6263, (IntKind.wrap .i64 (x5928 + 1)), x5929, (x5930 ++ ([x5928]))))) ((cat x5927 (ByteArray.mk #[83])).bind fun (v6269 : ByteArray) => (room ((List.length x5930) + List.length ([x5928]))).bind fun (v6272 : Unit) => some (v6269, (IntKind.wrap .i64 (x5928 + 1)), x5929, (x5930 ++ ([x5928]))))) ((cat x5927 (ByteArray.mk #[83])).bind fun (v6275 : ByteArray) => (room ((List.length x5930) + List.length ([x5928]))).bind fun (v6278 : Unit) => some (v6275, (IntKind.wrap .i64 (x5928 + 1)), x5929, (x5930 ++ ([x5928])))))) (cond (decide ((IntKind.wrap .i64 ((((List.length x5930 : Nat) : Int)) - 1)) ≥ 1)) ((inb (IntKind.wrap .i64 ((((List.length x5930 : Nat) : Int)) - 1)) (List.length x5930)).bind fun (v6282 : Nat) => (x5930[v6282]?).bind fun (v6283 : Int) => (idx x5093 (IntKind.wrap .i64 (v6283 - 1))).bind fun (v6285 : Int) => (inb (IntKind.wrap .i64 ((IntKind.wrap .i64 ((((List.length x5930 : Nat) : Int)) - 1)) - 1)) (List.length x5930)).bind fun (v6287 : Nat) => (x5930[v6287]?).bind fun (v6288 : Int) => cond (v6285 == v6288) ((inb (IntKind.wrap .i64 ((((List.length x5930 : Nat) : Int)) - 1)) (List.length x5930)).bind fun (v6290 : Nat) => (x5930[v6290]?).bind fun (v6291 : Int) => (spec_l6Free x5093 v6291 x5929).bind fun (v6292 : Bool) => cond v6292 ((cat x5927 (ByteArray.mk #[82])).bind fun (v6293 : ByteArray) => (inb (IntKind.wrap .i64 ((((List.length x5930 : Nat) : Int)) - 1)) (List.length x5930)).bind fun (v6294 : Nat) => (x5930[v6294]?).bind fun (v6295 : Int) => (inb (IntKind.wrap .i64 (v6295 - 1)) (List.length x5929)).bind fun (v6297 : Nat) => (inc (IntKind.wrap .i64 ((((List.length x5930 : Nat) : Int)) - 1)) (List.length x5930)).bind fun (v6300 : Nat) => (room ((List.length ([] : List Int)) + List.length ((x5930.drop 0).take (v6300 - 0)))).bind fun (v6304 : Unit) => some (v6293, x5928, (x5929.set v6297 true), (([] : List Int) ++ ((x5930.drop 0).take (v6300 - 0))))) ((cat x5927 (ByteArray.mk #[83])).bind fun (v6306 : ByteArray) => (room ((List.length x5930) + List.length ([x5928]))).bind fun (v6309 : Unit) => some (v6306, (IntKind.wrap .i64 (x5928 + 1)), x5929, (x5930 ++ ([x5928]))))) ((cat x5927 (ByteArray.mk #[83])).bind fun (v6312 : ByteArray) => (room ((List.length x5930) + List.length ([x5928]))).bind fun (v6315 : Unit) => some (v6312, (IntKind.wrap .i64 (x5928 + 1)), x5929, (x5930 ++ ([x5928]))))) ((cat x5927 (ByteArray.mk #[83])).bind fun (v6318 : ByteArray) => (room ((List.length x5930) + List.length ([x5928]))).bind fun (v6321 : Unit) => some (v6318, (IntKind.wrap .i64 (x5928 + 1)), x5929, (x5930 ++ ([x5928])))))

def spec_MovesFor_n4 (x5093 : List Int) (x5927 : ByteArray) (x5928 : Int) (x5929 : List Bool) (x5930 : List Int) : Option ((ByteArray × Int × (List Bool) × (List Int)) ⊕ ByteArray) :=
  (spec_MovesFor_n2 x5093 x5927 x5928 x5930).bind (Sum.elim (fun (t : Unit) => (spec_MovesFor_n3 x5093 x5927 x5928 x5929 x5930).map (fun (t : ByteArray × Int × (List Bool) × (List Int)) => (Sum.inl (t.1, t.2.1, t.2.2.1, t.2.2.2)))) (fun e => some ((fun (t : ByteArray) => (Sum.inr t)) e)))

def spec_MovesFor_n5 (x5093 : List Int) (x5529 : List Bool) : Option (ByteArray) :=
  nloop (fun (s : ByteArray × Int × (List Bool) × (List Int)) => ((spec_MovesFor_n4 x5093 s.1 s.2.1 s.2.2.1 s.2.2.2).map (Sum.elim (fun (t : ByteArray × Int × (List Bool) × (List Int)) => Sum.inl (t.1, t.2.1, t.2.2.1, t.2.2.2)) (fun (t : ByteArray) => Sum.inr t)) : Option ((ByteArray × Int × (List Bool) × (List Int)) ⊕ (ByteArray)))) LL (ByteArray.empty, 1, x5529, ([] : List Int))

def spec_MovesFor_n6 (x5093 : List Int) (x5529 : List Bool) : Option (ByteArray) :=
  (spec_MovesFor_n5 x5093 x5529).map (fun (t : ByteArray) => t)

def spec_MovesFor_n7 (x5927 : ByteArray) : Option ((ByteArray × Bool)) :=
  some (x5927, true)

def spec_MovesFor_n8 (x5093 : List Int) (x5529 : List Bool) : Option ((ByteArray × Bool)) :=
  (spec_MovesFor_n6 x5093 x5529).bind (fun (t : ByteArray) => spec_MovesFor_n7 t)

def spec_MovesFor_n9 (x5093 : List Int) : Option ((ByteArray × Bool)) :=
  (spec_MovesFor_n1 x5093).bind (Sum.elim (fun (t : (List Bool)) => spec_MovesFor_n8 x5093 t) (fun e => some ((fun (t : ByteArray × Bool) => t) e)))

@[irreducible] def spec_MovesFor (x5093 : List Int) : Option (ByteArray × Bool) :=
  spec_MovesFor_n9 x5093

def laws_FnMovesFor_n1 (x4293 : List Int) : Option ((ByteArray × (List Int)) ⊕ Bool) :=
  cond (decide ((((List.length x4293 : Nat) : Int)) > 1048576)) (some (Sum.inr true)) ((spec_DrawMovesFor x4293).bind fun (v6378 : List Int) => (impl_MovesFor v6378).bind fun (v6379 : ByteArray × Bool) => (spec_MovesFor v6378).bind fun (v6382 : ByteArray × Bool) => cond (!(seqs (v6379.1) (v6382.1))) (some (Sum.inr false)) (cond ((v6379.2) != (v6382.2)) (some (Sum.inr false)) (cond (!(v6379.2)) (cond (seqs (v6379.1) ByteArray.empty) ((impl_FlatOk v6378).bind fun (v6389 : Bool) => cond (!v6389) ((laws_alive).bind fun (v6391 : Bool) => some (Sum.inr v6391)) (some (Sum.inr false))) (some (Sum.inr false))) (some (Sum.inl ((v6379.1), v6378))))))

def laws_FnMovesFor_n2 : Option (Unit) :=
  some ()

def laws_FnMovesFor_n3 (x6380 : ByteArray) (x6423 : Int) (x6424 : Int) (x6425 : Int) : Option ((Int × Int × Int) ⊕ (Int × Int)) :=
  cond (decide (x6425 < (((ByteArray.size x6380 : Nat) : Int)))) ((bidx x6380 x6425).bind fun (v6441 : Int) => cond (v6441 == 83) ((bidx x6380 x6425).bind fun (v6444 : Int) => cond (v6444 == 76) (some (Sum.inl ((IntKind.wrap .i64 (x6423 + 1)), (IntKind.wrap .i64 (x6424 + 1)), (IntKind.wrap .i64 (x6425 + 1))))) (some (Sum.inl ((IntKind.wrap .i64 (x6423 + 1)), x6424, (IntKind.wrap .i64 (x6425 + 1)))))) ((bidx x6380 x6425).bind fun (v6449 : Int) => cond (v6449 == 76) (some (Sum.inl (x6423, (IntKind.wrap .i64 (x6424 + 1)), (IntKind.wrap .i64 (x6425 + 1))))) (some (Sum.inl (x6423, x6424, (IntKind.wrap .i64 (x6425 + 1))))))) (some (Sum.inr (x6423, x6424)))

def laws_FnMovesFor_n4 (x6380 : ByteArray) : Option ((Int × Int)) :=
  nloop (fun (s : Int × Int × Int) => ((laws_FnMovesFor_n3 x6380 s.1 s.2.1 s.2.2).map (Sum.elim (fun (t : Int × Int × Int) => Sum.inl (t.1, t.2.1, t.2.2)) (fun (t : Int × Int) => Sum.inr t)) : Option ((Int × Int × Int) ⊕ ((Int × Int))))) LL (0, 0, 0)

def laws_FnMovesFor_n5 (x6380 : ByteArray) : Option ((Int × Int)) :=
  (laws_FnMovesFor_n4 x6380).map (fun (t : Int × Int) => (t.1, t.2))

def laws_FnMovesFor_n6 (x6380 : ByteArray) : Option ((Int × Int)) :=
  (laws_FnMovesFor_n2).bind (fun (t : Unit) => laws_FnMovesFor_n5 x6380)

def laws_FnMovesFor_n7 : Option (Unit) :=
  some ()

def laws_FnMovesFor_n8 : Option (Unit) :=
  some ()

def laws_FnMovesFor_n9 (x6477 : Int) (x6478 : Int) (x6378 : List Int) : Option ((Int × Int) ⊕ Int) :=
  cond (decide (x6478 < (((List.length x6378 : Nat) : Int)))) ((inb x6478 (List.length x6378)).bind fun (v6490 : Nat) => (x6378[v6490]?).bind fun (v6491 : Int) => cond (decide (v6491 > (IntKind.wrap .i64 (x6478 + 1)))) (some (Sum.inl ((IntKind.wrap .i64 (x6477 + 1)), (IntKind.wrap .i64 (x6478 + 1))))) (some (Sum.inl (x6477, (IntKind.wrap .i64 (x6478 + 1)))))) (some (Sum.inr x6477))

def laws_FnMovesFor_n10 (x6378 : List Int) : Option (Int) :=
  nloop (fun (s : Int × Int) => ((laws_FnMovesFor_n9 s.1 s.2 x6378).map (Sum.elim (fun (t : Int × Int) => Sum.inl (t.1, t.2)) (fun (t : Int) => Sum.inr t)) : Option ((Int × Int) ⊕ (Int)))) LL (0, 0)

def laws_FnMovesFor_n11 (x6378 : List Int) : Option (Int) :=
  (laws_FnMovesFor_n10 x6378).map (fun (t : Int) => t)

def laws_FnMovesFor_n12 (x6378 : List Int) : Option (Int) :=
  (laws_FnMovesFor_n8).bind (fun (t : Unit) => laws_FnMovesFor_n11 x6378)

def laws_FnMovesFor_n13 (x6380 : ByteArray) (x6423 : Int) (x6424 : Int) (x6477 : Int) (x6378 : List Int) : Option (Bool) :=
  (impl_RunStack (((List.length x6378 : Nat) : Int)) x6380).bind fun (v6517 : Bool × (List Int)) => cond (v6517.1) ((laws_sameInts (v6517.2) x6378).bind fun (v6520 : Bool) => cond v6520 (cond (x6423 == (((List.length x6378 : Nat) : Int))) (cond (x6424 == x6477) (some ((((ByteArray.size x6380 : Nat) : Int)) == (IntKind.wrap .i64 ((IntKind.wrap .i64 (2 * (((List.length x6378 : Nat) : Int)))) - 1)))) (some false)) (some false)) (some false)) (some false)

def laws_FnMovesFor_n14 (x6380 : ByteArray) (x6423 : Int) (x6424 : Int) (x6378 : List Int) : Option (Bool) :=
  (laws_FnMovesFor_n12 x6378).bind (fun (t : Int) => laws_FnMovesFor_n13 x6380 x6423 x6424 t x6378)

def laws_FnMovesFor_n15 (x6380 : ByteArray) (x6423 : Int) (x6424 : Int) (x6378 : List Int) : Option (Bool) :=
  (laws_FnMovesFor_n7).bind (fun (t : Unit) => laws_FnMovesFor_n14 x6380 x6423 x6424 x6378)

def laws_FnMovesFor_n16 (x6380 : ByteArray) (x6378 : List Int) : Option (Bool) :=
  (laws_FnMovesFor_n6 x6380).bind (fun (t : Int × Int) => laws_FnMovesFor_n15 x6380 t.1 t.2 x6378)

def laws_FnMovesFor_n17 (x4293 : List Int) : Option (Bool) :=
  (laws_FnMovesFor_n1 x4293).bind (Sum.elim (fun (t : ByteArray × (List Int)) => laws_FnMovesFor_n16 t.1 t.2) (fun e => some ((fun (t : Bool) => t) e)))

@[irreducible] def laws_FnMovesFor (x4293 : List Int) : Option (Bool) :=
  laws_FnMovesFor_n17 x4293

end Go.Rv
