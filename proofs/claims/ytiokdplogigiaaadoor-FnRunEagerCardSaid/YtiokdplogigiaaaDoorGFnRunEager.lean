/-
  Plain functions, written by program for functions of the checked code. Conditions: none.
-/
import Derived.Test.YtiokdplogigiaaaDoorFB
set_option linter.unusedVariables false
namespace Go.Rv
def spec_l20Open_n1 (x13 : List Int) : Option (((List Int))) :=
  cond (decide ((((List.length x13 : Nat) : Int)) > 2000)) ((inc 2000 (List.length x13)).bind fun (v29 : Nat) => some ((x13.take v29).drop 0)) (some x13)

@[irreducible] def spec_l20Open (x13 : List Int) : Option ((List Int)) :=
  spec_l20Open_n1 x13

def spec_l20Rd_pick_n1 (x35 : Int) (x36 : List Int) (x37 : Int) : Option ((Int × Int)) :=
  cond (decide (x35 < 1)) (some (0, (IntKind.wrap .i64 (x37 + 1)))) (cond ((((List.length x36 : Nat) : Int)) == 0) (some (0, (IntKind.wrap .i64 (x37 + 1)))) (cond (decide ((IntKind.wrap .i64 ((IntKind.wrap .i64 (x37 + 1)) - 1)) < (((List.length x36 : Nat) : Int)))) ((idx x36 (IntKind.wrap .i64 ((IntKind.wrap .i64 (x37 + 1)) - 1))).bind fun (v165 : Int) => (rem (IntKind.wrap .i64 v165) x35).bind fun (v167 : Int) => some (v167, (IntKind.wrap .i64 (x37 + 1)))) ((rem (IntKind.wrap .i64 ((IntKind.wrap .i64 (x37 + 1)) - 1)) (((List.length x36 : Nat) : Int))).bind fun (v169 : Int) => (idx x36 v169).bind fun (v170 : Int) => (rem (IntKind.wrap .i64 ((IntKind.wrap .i64 ((IntKind.wrap .i64 ((IntKind.wrap .i64 (x37 + 1)) - 1)) * 7)) + 3)) (((List.length x36 : Nat) : Int))).bind fun (v176 : Int) => (idx x36 v176).bind fun (v177 : Int) => (quo .i64 (IntKind.wrap .i64 ((IntKind.wrap .i64 (x37 + 1)) - 1)) (((List.length x36 : Nat) : Int))).bind fun (v184 : Int) => (quo .i64 (IntKind.wrap .i64 ((IntKind.wrap .i64 ((IntKind.wrap .i64 ((IntKind.wrap .i64 ((IntKind.wrap .i64 v170) * 131)) + (IntKind.wrap .i64 ((IntKind.wrap .i64 v177) * 1117)))) + (IntKind.wrap .i64 ((IntKind.wrap .i64 ((IntKind.wrap .i64 (x37 + 1)) - 1)) * 29)))) + (IntKind.wrap .i64 (v184 * 53)))) 64).bind fun (v187 : Int) => (rem (ixor .i64 (IntKind.wrap .i64 ((IntKind.wrap .i64 ((IntKind.wrap .i64 ((IntKind.wrap .i64 ((IntKind.wrap .i64 v170) * 131)) + (IntKind.wrap .i64 ((IntKind.wrap .i64 v177) * 1117)))) + (IntKind.wrap .i64 ((IntKind.wrap .i64 ((IntKind.wrap .i64 (x37 + 1)) - 1)) * 29)))) + (IntKind.wrap .i64 (v184 * 53)))) v187) x35).bind fun (v189 : Int) => some (v189, (IntKind.wrap .i64 (x37 + 1))))))

@[irreducible] def spec_l20Rd_pick (x35 : Int) (x36 : List Int) (x37 : Int) : Option (Int × Int) :=
  spec_l20Rd_pick_n1 x35 x36 x37

def spec_l20Rd_odd_n1 (x352 : Int) (x353 : List Int) (x354 : Int) : Option ((Bool × Int)) :=
  cond (decide (x352 > 0)) ((spec_l20Rd_pick x352 x353 x354).bind fun (v362 : Int × Int) => some (((v362.1) == (IntKind.wrap .i64 (x352 - 1))), (v362.2))) (some (false, x354))

@[irreducible] def spec_l20Rd_odd (x352 : Int) (x353 : List Int) (x354 : Int) : Option (Bool × Int) :=
  spec_l20Rd_odd_n1 x352 x353 x354

def impl_newStackMachine_n1 (x911 : Int) : Option (((List Int))) :=
  (mk x911 x911).bind fun (v914 : Nat) => some (List.replicate v914 (0 : Int))

@[irreducible] def impl_newStackMachine (x911 : Int) : Option ((List Int)) :=
  impl_newStackMachine_n1 x911

@[irreducible] def impl_stackMoves : Option (Unit) :=
  some ()

def impl_stackMachine_putNext_n1 (x1204 : Int) (x1205 : Int) (x1206 : List Int) (x1207 : List Int) : Option ((Bool × Int × Int × (List Int))) :=
  cond (x1204 == (((List.length x1206 : Nat) : Int))) (some (false, x1204, x1205, x1207)) ((room ((List.length x1207) + List.length ([(IntKind.wrap .i64 (x1204 + 1))]))).bind fun (v1243 : Unit) => some (true, (IntKind.wrap .i64 (x1204 + 1)), (imax x1205 (((List.length (x1207 ++ ([(IntKind.wrap .i64 (x1204 + 1))])) : Nat) : Int))), (x1207 ++ ([(IntKind.wrap .i64 (x1204 + 1))]))))

@[irreducible] def impl_stackMachine_putNext (x1204 : Int) (x1205 : Int) (x1206 : List Int) (x1207 : List Int) : Option (Bool × Int × Int × (List Int)) :=
  impl_stackMachine_putNext_n1 x1204 x1205 x1206 x1207

def impl_stackMachine_upperTwo_n1 (x1051 : List Int) : Option ((Int × Int × Bool)) :=
  cond (decide ((((List.length x1051 : Nat) : Int)) < 2)) (some (0, 0, false)) ((inb (IntKind.wrap .i64 ((((List.length x1051 : Nat) : Int)) - 2)) (List.length x1051)).bind fun (v1066 : Nat) => (x1051[v1066]?).bind fun (v1067 : Int) => (inb (IntKind.wrap .i64 ((((List.length x1051 : Nat) : Int)) - 1)) (List.length x1051)).bind fun (v1069 : Nat) => (x1051[v1069]?).bind fun (v1070 : Int) => some (v1067, v1070, true))

@[irreducible] def impl_stackMachine_upperTwo (x1048 : Int) (x1049 : Int) (x1050 : List Int) (x1051 : List Int) : Option (Int × Int × Bool) :=
  impl_stackMachine_upperTwo_n1 x1051

def impl_stackMachine_join_n1 (x1082 : Int) (x1083 : Int) (x1086 : List Int) (x1087 : List Int) : Option (((List Int) × (List Int))) :=
  (inb (IntKind.wrap .i64 (x1082 - 1)) (List.length x1086)).bind fun (v1092 : Nat) => (inc (IntKind.wrap .i64 ((((List.length x1087 : Nat) : Int)) - 2)) (List.length x1087)).bind fun (v1097 : Nat) => (room ((v1097 - 0) + List.length ([x1083]))).bind fun (v1101 : Unit) => some ((x1086.set v1092 x1083), (((x1087.drop 0).take (v1097 - 0)) ++ ([x1083])))

@[irreducible] def impl_stackMachine_join (x1082 : Int) (x1083 : Int) (x1084 : Int) (x1085 : Int) (x1086 : List Int) (x1087 : List Int) : Option ((List Int) × (List Int)) :=
  (impl_stackMachine_join_n1 x1082 x1083 x1086 x1087).map (fun (t : (List Int) × (List Int)) => (t.1, t.2))

def impl_stackMachine_takeBelow_n1 (x1258 : Int) (x1259 : Int) (x1260 : List Int) (x1261 : List Int) : Option ((Bool × (List Int) × (List Int))) :=
  (impl_stackMachine_upperTwo x1258 x1259 x1260 x1261).bind fun (v1280 : Int × Int × Bool) => cond (v1280.2.2) ((impl_stackMachine_join (v1280.1) (v1280.2.1) x1258 x1259 x1260 x1261).bind fun (v1284 : (List Int) × (List Int)) => some ((v1280.2.2), (v1284.1), (v1284.2))) (some ((v1280.2.2), x1260, x1261))

@[irreducible] def impl_stackMachine_takeBelow (x1258 : Int) (x1259 : Int) (x1260 : List Int) (x1261 : List Int) : Option (Bool × (List Int) × (List Int)) :=
  impl_stackMachine_takeBelow_n1 x1258 x1259 x1260 x1261

def impl_stackMachine_takeUpper_n1 (x1295 : Int) (x1296 : Int) (x1297 : List Int) (x1298 : List Int) : Option ((Bool × (List Int) × (List Int))) :=
  (impl_stackMachine_upperTwo x1295 x1296 x1297 x1298).bind fun (v1317 : Int × Int × Bool) => cond (v1317.2.2) ((impl_stackMachine_join (v1317.2.1) (v1317.1) x1295 x1296 x1297 x1298).bind fun (v1321 : (List Int) × (List Int)) => some ((v1317.2.2), (v1321.1), (v1321.2))) (some ((v1317.2.2), x1297, x1298))

@[irreducible] def impl_stackMachine_takeUpper (x1295 : Int) (x1296 : Int) (x1297 : List Int) (x1298 : List Int) : Option (Bool × (List Int) × (List Int)) :=
  impl_stackMachine_takeUpper_n1 x1295 x1296 x1297 x1298

def impl_allDone_impl_stackMachine_n1 : Option (Unit) :=
  some ()

def impl_allDone_impl_stackMachine_n2 (x921 : ByteArray) : Option (Int) :=
  some (((ByteArray.size x921 : Nat) : Int))

def impl_allDone_impl_stackMachine_n3 (x921 : ByteArray) (x1198 : Int) (x1360 : Int) (x1361 : Int) (x1362 : Int) (x1363 : List Int) (x1364 : List Int) : Option ((Int × Int × Int × (List Int) × (List Int)) ⊕ (Bool × Int × Int × (List Int) × (List Int)) ⊕ (Int × Int × (List Int) × (List Int))) :=
  cond (decide (x1360 < x1198)) ((bidx x921 x1360).bind fun (v1389 : Int) => cond (v1389 == 83) ((impl_stackMachine_putNext x1361 x1362 x1363 x1364).bind fun (v1391 : Bool × Int × Int × (List Int)) => cond (!(v1391.1)) (some (Sum.inr (Sum.inl (false, (v1391.2.1), (v1391.2.2.1), x1363, (v1391.2.2.2))))) (some (Sum.inl ((IntKind.wrap .i64 (x1360 + 1)), (v1391.2.1), (v1391.2.2.1), x1363, (v1391.2.2.2))))) (cond (v1389 == 76) ((impl_stackMachine_takeBelow x1361 x1362 x1363 x1364).bind fun (v1399 : Bool × (List Int) × (List Int)) => cond (!(v1399.1)) (some (Sum.inr (Sum.inl (false, x1361, x1362, (v1399.2.1), (v1399.2.2))))) (some (Sum.inl ((IntKind.wrap .i64 (x1360 + 1)), x1361, x1362, (v1399.2.1), (v1399.2.2))))) (cond (v1389 == 82) ((impl_stackMachine_takeUpper x1361 x1362 x1363 x1364).bind fun (v1406 : Bool × (List Int) × (List Int)) => cond (!(v1406.1)) (some (Sum.inr (Sum.inl (false, x1361, x1362, (v1406.2.1), (v1406.2.2))))) (some (Sum.inl ((IntKind.wrap .i64 (x1360 + 1)), x1361, x1362, (v1406.2.1), (v1406.2.2))))) (some (Sum.inr (Sum.inl (false, x1361, x1362, x1363, x1364))))))) (some (Sum.inr (Sum.inr (x1361, x1362, x1363, x1364))))

def impl_allDone_impl_stackMachine_n4 (x921 : ByteArray) (x1198 : Int) (x922 : Int) (x923 : Int) (x924 : List Int) : Option ((Bool × Int × Int × (List Int) × (List Int)) ⊕ (Int × Int × (List Int) × (List Int))) :=
  nloop (fun (s : Int × Int × Int × (List Int) × (List Int)) => ((impl_allDone_impl_stackMachine_n3 x921 x1198 s.1 s.2.1 s.2.2.1 s.2.2.2.1 s.2.2.2.2).map (Sum.elim (fun (t : Int × Int × Int × (List Int) × (List Int)) => Sum.inl (t.1, t.2.1, t.2.2.1, t.2.2.2.1, t.2.2.2.2)) (Sum.elim (fun (t : Bool × Int × Int × (List Int) × (List Int)) => Sum.inr (Sum.inl t)) (fun (t : Int × Int × (List Int) × (List Int)) => Sum.inr (Sum.inr t)))) : Option ((Int × Int × Int × (List Int) × (List Int)) ⊕ ((Bool × Int × Int × (List Int) × (List Int)) ⊕ (Int × Int × (List Int) × (List Int)))))) LL (0, x922, x923, x924, ([] : List Int))

def impl_allDone_impl_stackMachine_n5 (x921 : ByteArray) (x1198 : Int) (x922 : Int) (x923 : Int) (x924 : List Int) : Option ((Int × Int × (List Int) × (List Int)) ⊕ (Bool × Int × Int × (List Int) × (List Int))) :=
  (impl_allDone_impl_stackMachine_n4 x921 x1198 x922 x923 x924).map (Sum.elim (fun (t : Bool × Int × Int × (List Int) × (List Int)) => (Sum.inr t)) (fun (t : Int × Int × (List Int) × (List Int)) => (Sum.inl (t.1, t.2.1, t.2.2.1, t.2.2.2))))

def impl_allDone_impl_stackMachine_n6 (x921 : ByteArray) (x922 : Int) (x923 : Int) (x924 : List Int) : Option ((Int × Int × (List Int) × (List Int)) ⊕ (Bool × Int × Int × (List Int) × (List Int))) :=
  (impl_allDone_impl_stackMachine_n2 x921).bind (fun (t : Int) => impl_allDone_impl_stackMachine_n5 x921 t x922 x923 x924)

def impl_allDone_impl_stackMachine_n7 (x1361 : Int) (x1362 : Int) (x1363 : List Int) (x1364 : List Int) : Option ((Bool × Int × Int × (List Int) × (List Int))) :=
  some (true, x1361, x1362, x1363, x1364)

def impl_allDone_impl_stackMachine_n8 (x921 : ByteArray) (x922 : Int) (x923 : Int) (x924 : List Int) : Option ((Bool × Int × Int × (List Int) × (List Int))) :=
  (impl_allDone_impl_stackMachine_n6 x921 x922 x923 x924).bind (Sum.elim (fun (t : Int × Int × (List Int) × (List Int)) => impl_allDone_impl_stackMachine_n7 t.1 t.2.1 t.2.2.1 t.2.2.2) (fun e => some ((fun (t : Bool × Int × Int × (List Int) × (List Int)) => t) e)))

def impl_allDone_impl_stackMachine_n9 (x921 : ByteArray) (x922 : Int) (x923 : Int) (x924 : List Int) : Option ((Bool × Int × Int × (List Int) × (List Int))) :=
  (impl_allDone_impl_stackMachine_n1).bind (fun (t : Unit) => impl_allDone_impl_stackMachine_n8 x921 x922 x923 x924)

@[irreducible] def impl_allDone_impl_stackMachine (x921 : ByteArray) (x922 : Int) (x923 : Int) (x924 : List Int) : Option (Bool × Int × Int × (List Int) × (List Int)) :=
  impl_allDone_impl_stackMachine_n9 x921 x922 x923 x924

def impl_stackMachine_ended_n1 (x1429 : Int) (x1431 : List Int) (x1432 : List Int) : Option (Bool) :=
  cond (x1429 == (((List.length x1431 : Nat) : Int))) (some ((((List.length x1432 : Nat) : Int)) == 1)) (some false)

@[irreducible] def impl_stackMachine_ended (x1429 : Int) (x1430 : Int) (x1431 : List Int) (x1432 : List Int) : Option (Bool) :=
  impl_stackMachine_ended_n1 x1429 x1431 x1432

def impl_afterMoves_n1 (x905 : Int) (x906 : ByteArray) : Option ((Int × Int × (List Int) × (List Int)) ⊕ Unit) :=
  cond (decide (x905 < 1)) (some (Sum.inr ())) (cond (decide (x905 > 8)) (some (Sum.inr ())) ((impl_newStackMachine x905).bind fun (v1503 : List Int) => (impl_stackMoves).bind fun (v1504 : Unit) => (impl_allDone_impl_stackMachine x906 0 0 v1503).bind fun (v1505 : Bool × Int × Int × (List Int) × (List Int)) => cond (!(v1505.1)) (some (Sum.inr ())) ((impl_stackMachine_ended (v1505.2.1) (v1505.2.2.1) (v1505.2.2.2.1) (v1505.2.2.2.2)).bind fun (v1512 : Bool) => cond (!v1512) (some (Sum.inr ())) (some (Sum.inl ((v1505.2.1), (v1505.2.2.1), (v1505.2.2.2.1), (v1505.2.2.2.2)))))))

@[irreducible] def impl_afterMoves (x905 : Int) (x906 : ByteArray) : Option (Bool × Int × Int × (List Int) × (List Int)) :=
  (impl_afterMoves_n1 x905 x906).map (Sum.elim (fun (t : Int × Int × (List Int) × (List Int)) => (true, t.1, t.2.1, t.2.2.1, t.2.2.2)) (fun (t : Unit) => (false, 0, 0, [], [])))

def impl_RunStack_n1 (x902 : Int) (x903 : ByteArray) : Option ((Bool × (List Int))) :=
  (impl_afterMoves x902 x903).bind fun (v1533 : Bool × Int × Int × (List Int) × (List Int)) => cond (v1533.1) (some (true, (v1533.2.2.2.1))) (some (false, ([] : List Int)))

@[irreducible] def impl_RunStack (x902 : Int) (x903 : ByteArray) : Option (Bool × (List Int)) :=
  impl_RunStack_n1 x902 x903

def spec_l1In_n1 (x1554 : Int) (x1555 : Int) (x1556 : Int) : Option (Bool) :=
  cond (decide (x1554 ≥ x1555)) (some (decide (x1554 ≤ x1556))) (some false)

@[irreducible] def spec_l1In (x1554 : Int) (x1555 : Int) (x1556 : Int) : Option (Bool) :=
  spec_l1In_n1 x1554 x1555 x1556

def laws_sameInts_n1 (x3120 : List Int) (x3121 : List Int) : Option (Unit ⊕ Bool) :=
  cond ((((List.length x3120 : Nat) : Int)) != (((List.length x3121 : Nat) : Int))) (some (Sum.inr false)) (some (Sum.inl ()))

def laws_sameInts_n2 : Option (Unit) :=
  some ()

def laws_sameInts_n3 (x3120 : List Int) (x3121 : List Int) (x3138 : Int) : Option (Int ⊕ Bool ⊕ Unit) :=
  cond (decide (x3138 < (((List.length x3120 : Nat) : Int)))) ((idx x3120 x3138).bind fun (v3148 : Int) => (idx x3121 x3138).bind fun (v3149 : Int) => cond (v3148 != v3149) (some (Sum.inr (Sum.inl false))) (some (Sum.inl (IntKind.wrap .i64 (x3138 + 1))))) (some (Sum.inr (Sum.inr ())))

def laws_sameInts_n4 (x3120 : List Int) (x3121 : List Int) : Option (Bool ⊕ Unit) :=
  nloop (fun (s : Int) => ((laws_sameInts_n3 x3120 x3121 s).map (Sum.elim (fun (t : Int) => Sum.inl t) (Sum.elim (fun (t : Bool) => Sum.inr (Sum.inl t)) (fun (t : Unit) => Sum.inr (Sum.inr t)))) : Option ((Int) ⊕ (Bool ⊕ Unit)))) LL 0

def laws_sameInts_n5 (x3120 : List Int) (x3121 : List Int) : Option (Unit ⊕ Bool) :=
  (laws_sameInts_n4 x3120 x3121).map (Sum.elim (fun (t : Bool) => (Sum.inr t)) (fun (t : Unit) => (Sum.inl ())))

def laws_sameInts_n6 (x3120 : List Int) (x3121 : List Int) : Option (Unit ⊕ Bool) :=
  (laws_sameInts_n2).bind (fun (t : Unit) => laws_sameInts_n5 x3120 x3121)

def laws_sameInts_n7 : Option (Bool) :=
  some true

def laws_sameInts_n8 (x3120 : List Int) (x3121 : List Int) : Option (Bool) :=
  (laws_sameInts_n6 x3120 x3121).bind (Sum.elim (fun (t : Unit) => laws_sameInts_n7) (fun e => some ((fun (t : Bool) => t) e)))

def laws_sameInts_n9 (x3120 : List Int) (x3121 : List Int) : Option (Bool) :=
  (laws_sameInts_n1 x3120 x3121).bind (Sum.elim (fun (t : Unit) => laws_sameInts_n8 x3120 x3121) (fun e => some ((fun (t : Bool) => t) e)))

@[irreducible] def laws_sameInts (x3120 : List Int) (x3121 : List Int) : Option (Bool) :=
  laws_sameInts_n9 x3120 x3121

def impl_oneRoot_n1 : Option (Unit) :=
  some ()

def impl_oneRoot_n2 (x3179 : List Int) : Option (Int) :=
  some (((List.length x3179 : Nat) : Int))

def impl_oneRoot_n3 (x3179 : List Int) (x3201 : Int) (x3180 : Int) (x3202 : Int) : Option ((Int × Int) ⊕ Bool ⊕ Int) :=
  cond (decide (x3202 < x3180)) ((idx x3179 x3202).bind fun (v3213 : Int) => cond (decide (v3213 < 0)) (some (Sum.inr (Sum.inl false))) (cond (decide (v3213 > (((List.length x3179 : Nat) : Int)))) (some (Sum.inr (Sum.inl false))) (cond (v3213 == 0) (some (Sum.inl ((IntKind.wrap .i64 (x3201 + 1)), (IntKind.wrap .i64 (x3202 + 1))))) (some (Sum.inl (x3201, (IntKind.wrap .i64 (x3202 + 1)))))))) (some (Sum.inr (Sum.inr x3201)))

def impl_oneRoot_n4 (x3179 : List Int) (x3180 : Int) : Option (Bool ⊕ Int) :=
  nloop (fun (s : Int × Int) => ((impl_oneRoot_n3 x3179 s.1 x3180 s.2).map (Sum.elim (fun (t : Int × Int) => Sum.inl (t.1, t.2)) (Sum.elim (fun (t : Bool) => Sum.inr (Sum.inl t)) (fun (t : Int) => Sum.inr (Sum.inr t)))) : Option ((Int × Int) ⊕ (Bool ⊕ Int)))) LL (0, 0)

def impl_oneRoot_n5 (x3179 : List Int) (x3180 : Int) : Option (Int ⊕ Bool) :=
  (impl_oneRoot_n4 x3179 x3180).map (Sum.elim (fun (t : Bool) => (Sum.inr t)) (fun (t : Int) => (Sum.inl t)))

def impl_oneRoot_n6 (x3179 : List Int) : Option (Int ⊕ Bool) :=
  (impl_oneRoot_n2 x3179).bind (fun (t : Int) => impl_oneRoot_n5 x3179 t)

def impl_oneRoot_n7 (x3201 : Int) : Option (Bool) :=
  some (x3201 == 1)

def impl_oneRoot_n8 (x3179 : List Int) : Option (Bool) :=
  (impl_oneRoot_n6 x3179).bind (Sum.elim (fun (t : Int) => impl_oneRoot_n7 t) (fun e => some ((fun (t : Bool) => t) e)))

def impl_oneRoot_n9 (x3179 : List Int) : Option (Bool) :=
  (impl_oneRoot_n1).bind (fun (t : Unit) => impl_oneRoot_n8 x3179)

@[irreducible] def impl_oneRoot (x3179 : List Int) : Option (Bool) :=
  impl_oneRoot_n9 x3179

def impl_walker_up_n1 (x3235 : List Int) (x3236 : Int) (x3237 : Int) : Option ((Bool × Int × Int)) :=
  (idx x3235 (IntKind.wrap .i64 (x3236 - 1))).bind fun (v3255 : Int) => cond (v3255 == 0) (some (false, x3236, x3237)) (some (true, v3255, (IntKind.wrap .i64 (x3237 + 1))))

@[irreducible] def impl_walker_up (x3235 : List Int) (x3236 : Int) (x3237 : Int) : Option (Bool × Int × Int) :=
  impl_walker_up_n1 x3235 x3236 x3237

def impl_stepsToRoot_n1 : Option (Unit) :=
  some ()

def impl_stepsToRoot_n2 (x3233 : List Int) (x3271 : Int) (x3272 : Int) : Option ((Int × Int) ⊕ (Int × Bool) ⊕ (Int × Int)) :=
  (impl_walker_up x3233 x3271 x3272).bind fun (v3277 : Bool × Int × Int) => cond (v3277.1) (cond (decide ((v3277.2.2) ≥ (((List.length x3233 : Nat) : Int)))) (some (Sum.inr (Sum.inl (0, false)))) (some (Sum.inl ((v3277.2.1), (v3277.2.2))))) (some (Sum.inr (Sum.inr ((v3277.2.1), (v3277.2.2)))))

def impl_stepsToRoot_n3 (x3233 : List Int) (x3234 : Int) : Option ((Int × Bool) ⊕ (Int × Int)) :=
  nloop (fun (s : Int × Int) => ((impl_stepsToRoot_n2 x3233 s.1 s.2).map (Sum.elim (fun (t : Int × Int) => Sum.inl (t.1, t.2)) (Sum.elim (fun (t : Int × Bool) => Sum.inr (Sum.inl t)) (fun (t : Int × Int) => Sum.inr (Sum.inr t)))) : Option ((Int × Int) ⊕ ((Int × Bool) ⊕ (Int × Int))))) LL (x3234, 0)

def impl_stepsToRoot_n4 (x3233 : List Int) (x3234 : Int) : Option ((Int × Int) ⊕ (Int × Bool)) :=
  (impl_stepsToRoot_n3 x3233 x3234).map (Sum.elim (fun (t : Int × Bool) => (Sum.inr t)) (fun (t : Int × Int) => (Sum.inl (t.1, t.2))))

def impl_stepsToRoot_n5 (x3280 : Int) : Option ((Int × Bool)) :=
  some (x3280, true)

def impl_stepsToRoot_n6 (x3233 : List Int) (x3234 : Int) : Option ((Int × Bool)) :=
  (impl_stepsToRoot_n4 x3233 x3234).bind (Sum.elim (fun (t : Int × Int) => impl_stepsToRoot_n5 t.2) (fun e => some ((fun (t : Int × Bool) => t) e)))

def impl_stepsToRoot_n7 (x3233 : List Int) (x3234 : Int) : Option ((Int × Bool)) :=
  (impl_stepsToRoot_n1).bind (fun (t : Unit) => impl_stepsToRoot_n6 x3233 x3234)

@[irreducible] def impl_stepsToRoot (x3233 : List Int) (x3234 : Int) : Option (Int × Bool) :=
  impl_stepsToRoot_n7 x3233 x3234

def impl_TreeOk_n1 (x3174 : List Int) : Option (Unit ⊕ Bool) :=
  cond (decide ((((List.length x3174 : Nat) : Int)) < 1)) (some (Sum.inr false)) (cond (decide ((((List.length x3174 : Nat) : Int)) > 8)) (some (Sum.inr false)) ((impl_oneRoot x3174).bind fun (v3226 : Bool) => cond (!v3226) (some (Sum.inr false)) (some (Sum.inl ()))))

def impl_TreeOk_n2 (x3174 : List Int) : Option (Int) :=
  some (((List.length x3174 : Nat) : Int))

def impl_TreeOk_n3 (x3174 : List Int) (x3228 : Int) (x3296 : Int) : Option (Int ⊕ Bool ⊕ Unit) :=
  cond (decide (x3296 < x3228)) ((impl_stepsToRoot x3174 (IntKind.wrap .i64 (x3296 + 1))).bind fun (v3307 : Int × Bool) => cond (!(v3307.2)) (some (Sum.inr (Sum.inl false))) (some (Sum.inl (IntKind.wrap .i64 (x3296 + 1))))) (some (Sum.inr (Sum.inr ())))

def impl_TreeOk_n4 (x3174 : List Int) (x3228 : Int) : Option (Bool ⊕ Unit) :=
  nloop (fun (s : Int) => ((impl_TreeOk_n3 x3174 x3228 s).map (Sum.elim (fun (t : Int) => Sum.inl t) (Sum.elim (fun (t : Bool) => Sum.inr (Sum.inl t)) (fun (t : Unit) => Sum.inr (Sum.inr t)))) : Option ((Int) ⊕ (Bool ⊕ Unit)))) LL 0

def impl_TreeOk_n5 (x3174 : List Int) (x3228 : Int) : Option (Unit ⊕ Bool) :=
  (impl_TreeOk_n4 x3174 x3228).map (Sum.elim (fun (t : Bool) => (Sum.inr t)) (fun (t : Unit) => (Sum.inl ())))

def impl_TreeOk_n6 (x3174 : List Int) : Option (Unit ⊕ Bool) :=
  (impl_TreeOk_n2 x3174).bind (fun (t : Int) => impl_TreeOk_n5 x3174 t)

def impl_TreeOk_n7 : Option (Bool) :=
  some true

def impl_TreeOk_n8 (x3174 : List Int) : Option (Bool) :=
  (impl_TreeOk_n6 x3174).bind (Sum.elim (fun (t : Unit) => impl_TreeOk_n7) (fun e => some ((fun (t : Bool) => t) e)))

def impl_TreeOk_n9 (x3174 : List Int) : Option (Bool) :=
  (impl_TreeOk_n1 x3174).bind (Sum.elim (fun (t : Unit) => impl_TreeOk_n8 x3174) (fun e => some ((fun (t : Bool) => t) e)))

@[irreducible] def impl_TreeOk (x3174 : List Int) : Option (Bool) :=
  impl_TreeOk_n9 x3174

def laws_alive_n1 : Option (Bool) :=
  (impl_TreeOk ([0])).bind fun (v3318 : Bool) => cond v3318 ((impl_TreeOk ([1])).bind fun (v3320 : Bool) => some (!v3320)) (some false)

@[irreducible] def laws_alive : Option (Bool) :=
  laws_alive_n1

def impl_RootOf_n1 (x3353 : List Int) : Option (Unit ⊕ Int) :=
  (impl_TreeOk x3353).bind fun (v3357 : Bool) => cond (!v3357) (some (Sum.inr (-1))) (some (Sum.inl ()))

def impl_RootOf_n2 (x3353 : List Int) (x3367 : Int) (x3368 : Int) : Option ((Int × Int) ⊕ (Int × Int)) :=
  (impl_walker_up x3353 x3367 x3368).bind fun (v3373 : Bool × Int × Int) => cond (v3373.1) (some (Sum.inl ((v3373.2.1), (v3373.2.2)))) (some (Sum.inr ((v3373.2.1), (v3373.2.2))))

def impl_RootOf_n3 (x3353 : List Int) : Option ((Int × Int)) :=
  nloop (fun (s : Int × Int) => ((impl_RootOf_n2 x3353 s.1 s.2).map (Sum.elim (fun (t : Int × Int) => Sum.inl (t.1, t.2)) (fun (t : Int × Int) => Sum.inr t)) : Option ((Int × Int) ⊕ ((Int × Int))))) LL (1, 0)

def impl_RootOf_n4 (x3353 : List Int) : Option ((Int × Int)) :=
  (impl_RootOf_n3 x3353).map (fun (t : Int × Int) => (t.1, t.2))

def impl_RootOf_n5 (x3375 : Int) : Option (Int) :=
  some x3375

def impl_RootOf_n6 (x3353 : List Int) : Option (Int) :=
  (impl_RootOf_n4 x3353).bind (fun (t : Int × Int) => impl_RootOf_n5 t.1)

def impl_RootOf_n7 (x3353 : List Int) : Option (Int) :=
  (impl_RootOf_n1 x3353).bind (Sum.elim (fun (t : Unit) => impl_RootOf_n6 x3353) (fun e => some ((fun (t : Int) => t) e)))

@[irreducible] def impl_RootOf (x3353 : List Int) : Option (Int) :=
  impl_RootOf_n7 x3353

def impl_only_n1 (x3382 : Int) : Option (Int) :=
  (shl .u64 1 (IntKind.wrap .i64 (x3382 - 1))).bind fun (v3386 : Int) => some v3386

@[irreducible] def impl_only (x3382 : Int) : Option (Int) :=
  impl_only_n1 x3382

def impl_dependents_n1 : Option (Unit) :=
  some ()

def impl_dependents_n2 (x3388 : List Int) : Option (Int) :=
  some (((List.length x3388 : Nat) : Int))

def impl_dependents_n3 (x3388 : List Int) (x3389 : Int) (x3409 : Int) (x3390 : Int) (x3410 : Int) : Option ((Int × Int) ⊕ Int) :=
  cond (decide (x3410 < x3390)) ((idx x3388 x3410).bind fun (v3420 : Int) => cond (v3420 == x3389) ((impl_only (IntKind.wrap .i64 (x3410 + 1))).bind fun (v3423 : Int) => some (Sum.inl ((ior .u64 x3409 v3423), (IntKind.wrap .i64 (x3410 + 1))))) (some (Sum.inl (x3409, (IntKind.wrap .i64 (x3410 + 1)))))) (some (Sum.inr x3409))

def impl_dependents_n4 (x3388 : List Int) (x3389 : Int) (x3390 : Int) : Option (Int) :=
  nloop (fun (s : Int × Int) => ((impl_dependents_n3 x3388 x3389 s.1 x3390 s.2).map (Sum.elim (fun (t : Int × Int) => Sum.inl (t.1, t.2)) (fun (t : Int) => Sum.inr t)) : Option ((Int × Int) ⊕ (Int)))) LL (0, 0)

def impl_dependents_n5 (x3388 : List Int) (x3389 : Int) (x3390 : Int) : Option (Int) :=
  (impl_dependents_n4 x3388 x3389 x3390).map (fun (t : Int) => t)

def impl_dependents_n6 (x3388 : List Int) (x3389 : Int) : Option (Int) :=
  (impl_dependents_n2 x3388).bind (fun (t : Int) => impl_dependents_n5 x3388 x3389 t)

def impl_dependents_n7 (x3409 : Int) : Option (Int) :=
  some x3409

def impl_dependents_n8 (x3388 : List Int) (x3389 : Int) : Option (Int) :=
  (impl_dependents_n6 x3388 x3389).bind (fun (t : Int) => impl_dependents_n7 t)

def impl_dependents_n9 (x3388 : List Int) (x3389 : Int) : Option (Int) :=
  (impl_dependents_n1).bind (fun (t : Unit) => impl_dependents_n8 x3388 x3389)

@[irreducible] def impl_dependents (x3388 : List Int) (x3389 : Int) : Option (Int) :=
  impl_dependents_n9 x3388 x3389

def math_bits_OnesCount64_n1 (x3433 : Int) : Option (Int) :=
  (shr .u64 x3433 1).bind fun (v3434 : Int) => some (IntKind.wrap .u64 ((iand .u64 v3434 6148914691236517205) + (iand .u64 x3433 6148914691236517205)))

def math_bits_OnesCount64_n2 (x3438 : Int) : Option (Int) :=
  (shr .u64 x3438 2).bind fun (v3452 : Int) => some (IntKind.wrap .u64 ((iand .u64 v3452 3689348814741910323) + (iand .u64 x3438 3689348814741910323)))

def math_bits_OnesCount64_n3 (x3455 : Int) : Option (Int) :=
  (shr .u64 x3455 4).bind fun (v3460 : Int) => some (iand .u64 (IntKind.wrap .u64 (v3460 + x3455)) 1085102592571150095)

def math_bits_OnesCount64_n4 (x3462 : Int) : Option (Int) :=
  (shr .u64 x3462 8).bind fun (v3465 : Int) => some (IntKind.wrap .u64 (x3462 + v3465))

def math_bits_OnesCount64_n5 (x3466 : Int) : Option (Int) :=
  (shr .u64 x3466 16).bind fun (v3470 : Int) => some (IntKind.wrap .u64 (x3466 + v3470))

def math_bits_OnesCount64_n6 (x3471 : Int) : Option (Int) :=
  (shr .u64 x3471 32).bind fun (v3475 : Int) => some (IntKind.wrap .u64 (x3471 + v3475))

def math_bits_OnesCount64_n7 (x3476 : Int) : Option (Int) :=
  some (iand .i64 (IntKind.wrap .i64 x3476) 127)

def math_bits_OnesCount64_n8 (x3481 : Int) : Option (Int) :=
  some x3481

def math_bits_OnesCount64_n9 (x3476 : Int) : Option (Int) :=
  (math_bits_OnesCount64_n7 x3476).bind (fun (t : Int) => math_bits_OnesCount64_n8 t)

def math_bits_OnesCount64_n10 (x3471 : Int) : Option (Int) :=
  (math_bits_OnesCount64_n6 x3471).bind (fun (t : Int) => math_bits_OnesCount64_n9 t)

def math_bits_OnesCount64_n11 (x3466 : Int) : Option (Int) :=
  (math_bits_OnesCount64_n5 x3466).bind (fun (t : Int) => math_bits_OnesCount64_n10 t)

def math_bits_OnesCount64_n12 (x3462 : Int) : Option (Int) :=
  (math_bits_OnesCount64_n4 x3462).bind (fun (t : Int) => math_bits_OnesCount64_n11 t)

def math_bits_OnesCount64_n13 (x3455 : Int) : Option (Int) :=
  (math_bits_OnesCount64_n3 x3455).bind (fun (t : Int) => math_bits_OnesCount64_n12 t)

def math_bits_OnesCount64_n14 (x3438 : Int) : Option (Int) :=
  (math_bits_OnesCount64_n2 x3438).bind (fun (t : Int) => math_bits_OnesCount64_n13 t)

def math_bits_OnesCount64_n15 (x3433 : Int) : Option (Int) :=
  (math_bits_OnesCount64_n1 x3433).bind (fun (t : Int) => math_bits_OnesCount64_n14 t)

@[irreducible] def math_bits_OnesCount64 (x3433 : Int) : Option (Int) :=
  math_bits_OnesCount64_n15 x3433

def math_bits_OnesCount_n1 (x3432 : Int) : Option (Int) :=
  (math_bits_OnesCount64 x3432).bind fun (v3483 : Int) => some v3483

@[irreducible] def math_bits_OnesCount (x3432 : Int) : Option (Int) :=
  math_bits_OnesCount_n1 x3432

def impl_wordSet_count_n1 (x3431 : Int) : Option (Int) :=
  (math_bits_OnesCount x3431).bind fun (v3485 : Int) => some v3485

@[irreducible] def impl_wordSet_count (x3431 : Int) : Option (Int) :=
  impl_wordSet_count_n1 x3431

def math_bits_TrailingZeros64_n1 (x3492 : Int) : Option (Int) :=
  cond (x3492 == 0) (some 64) ((shr .u64 (IntKind.wrap .u64 ((iand .u64 x3492 (IntKind.wrap .u64 (0 - x3492))) * 285870213051353865)) 58).bind fun (v3509 : Int) => (same (List.length tab1) 64).bind fun (v3510 : Unit) => (idx tab1 v3509).bind fun (v3511 : Int) => some (IntKind.wrap .i64 v3511))

@[irreducible] def math_bits_TrailingZeros64 (x3492 : Int) : Option (Int) :=
  math_bits_TrailingZeros64_n1 x3492

def math_bits_TrailingZeros_n1 (x3491 : Int) : Option (Int) :=
  (math_bits_TrailingZeros64 x3491).bind fun (v3515 : Int) => some v3515

@[irreducible] def math_bits_TrailingZeros (x3491 : Int) : Option (Int) :=
  math_bits_TrailingZeros_n1 x3491

def impl_wordSet_list_n1 (x3430 : Int) : Option (((List Int))) :=
  (impl_wordSet_count x3430).bind fun (v3486 : Int) => (mk 0 v3486).bind fun (v3487 : Nat) => some (List.replicate v3487 (0 : Int))

def impl_wordSet_list_n2 : Option (Unit) :=
  some ()

def impl_wordSet_list_n3 (x3531 : Int) (x3532 : List Int) : Option ((Int × (List Int)) ⊕ ((List Int))) :=
  cond (x3531 != 0) ((math_bits_TrailingZeros x3531).bind fun (v3542 : Int) => (room ((List.length x3532) + List.length ([(IntKind.wrap .i64 (v3542 + 1))]))).bind fun (v3546 : Unit) => some (Sum.inl ((iand .u64 x3531 (IntKind.wrap .u64 (x3531 - 1))), (x3532 ++ ([(IntKind.wrap .i64 (v3542 + 1))]))))) (some (Sum.inr x3532))

def impl_wordSet_list_n4 (x3430 : Int) (x3488 : List Int) : Option (((List Int))) :=
  nloop (fun (s : Int × (List Int)) => ((impl_wordSet_list_n3 s.1 s.2).map (Sum.elim (fun (t : Int × (List Int)) => Sum.inl (t.1, t.2)) (fun (t : (List Int)) => Sum.inr t)) : Option ((Int × (List Int)) ⊕ (((List Int)))))) LL (x3430, x3488)

def impl_wordSet_list_n5 (x3430 : Int) (x3488 : List Int) : Option (((List Int))) :=
  (impl_wordSet_list_n4 x3430 x3488).map (fun (t : (List Int)) => t)

def impl_wordSet_list_n6 (x3430 : Int) (x3488 : List Int) : Option (((List Int))) :=
  (impl_wordSet_list_n2).bind (fun (t : Unit) => impl_wordSet_list_n5 x3430 x3488)

def impl_wordSet_list_n7 (x3532 : List Int) : Option (((List Int))) :=
  some x3532

def impl_wordSet_list_n8 (x3430 : Int) (x3488 : List Int) : Option (((List Int))) :=
  (impl_wordSet_list_n6 x3430 x3488).bind (fun (t : (List Int)) => impl_wordSet_list_n7 t)

def impl_wordSet_list_n9 (x3430 : Int) : Option (((List Int))) :=
  (impl_wordSet_list_n1 x3430).bind (fun (t : (List Int)) => impl_wordSet_list_n8 x3430 t)

@[irreducible] def impl_wordSet_list (x3430 : Int) : Option ((List Int)) :=
  impl_wordSet_list_n9 x3430

def impl_fillYields_n1 (R0 : (List Int) → Int → (List Int) → Option (Int × (List Int))) (x3380 : Int) : Option (Int) :=
  (impl_only x3380).bind fun (v3566 : Int) => some v3566

def impl_fillYields_n2 (R0 : (List Int) → Int → (List Int) → Option (Int × (List Int))) (x3379 : List Int) (x3380 : Int) : Option ((Int × (List Int))) :=
  (impl_dependents x3379 x3380).bind fun (v3567 : Int) => (impl_wordSet_list v3567).bind fun (v3568 : List Int) => some ((((List.length v3568 : Nat) : Int)), v3568)

def impl_fillYields_n3 (R0 : (List Int) → Int → (List Int) → Option (Int × (List Int))) (x3379 : List Int) (x3587 : Int) (x3569 : Int) (x3588 : Int) (x3589 : List Int) (x3568 : List Int) : Option ((Int × Int × (List Int)) ⊕ (Int × (List Int))) :=
  cond (decide (x3588 < x3569)) ((inb x3588 (List.length x3568)).bind fun (v3600 : Nat) => (x3568[v3600]?).bind fun (v3601 : Int) => (R0 x3379 v3601 x3589).bind fun (v3602 : Int × (List Int)) => some (Sum.inl ((ior .u64 x3587 (v3602.1)), (IntKind.wrap .i64 (x3588 + 1)), (v3602.2)))) (some (Sum.inr (x3587, x3589)))

def impl_fillYields_n4 (R0 : (List Int) → Int → (List Int) → Option (Int × (List Int))) (x3379 : List Int) (x3566 : Int) (x3569 : Int) (x3381 : List Int) (x3568 : List Int) : Option ((Int × (List Int))) :=
  nloop (fun (s : Int × Int × (List Int)) => ((impl_fillYields_n3 R0 x3379 s.1 x3569 s.2.1 s.2.2 x3568).map (Sum.elim (fun (t : Int × Int × (List Int)) => Sum.inl (t.1, t.2.1, t.2.2)) (fun (t : Int × (List Int)) => Sum.inr t)) : Option ((Int × Int × (List Int)) ⊕ ((Int × (List Int)))))) LL (x3566, 0, x3381)

def impl_fillYields_n5 (R0 : (List Int) → Int → (List Int) → Option (Int × (List Int))) (x3379 : List Int) (x3566 : Int) (x3569 : Int) (x3381 : List Int) (x3568 : List Int) : Option ((Int × (List Int))) :=
  (impl_fillYields_n4 R0 x3379 x3566 x3569 x3381 x3568).map (fun (t : Int × (List Int)) => (t.1, t.2))

def impl_fillYields_n6 (R0 : (List Int) → Int → (List Int) → Option (Int × (List Int))) (x3379 : List Int) (x3380 : Int) (x3566 : Int) (x3381 : List Int) : Option ((Int × (List Int))) :=
  (impl_fillYields_n2 R0 x3379 x3380).bind (fun (t : Int × (List Int)) => impl_fillYields_n5 R0 x3379 x3566 t.1 x3381 t.2)

def impl_fillYields_n7 (R0 : (List Int) → Int → (List Int) → Option (Int × (List Int))) (x3380 : Int) (x3587 : Int) (x3589 : List Int) : Option ((Int × (List Int))) :=
  (inb (IntKind.wrap .i64 (x3380 - 1)) (List.length x3589)).bind fun (v3614 : Nat) => some (x3587, (x3589.set v3614 x3587))

def impl_fillYields_n8 (R0 : (List Int) → Int → (List Int) → Option (Int × (List Int))) (x3379 : List Int) (x3380 : Int) (x3566 : Int) (x3381 : List Int) : Option ((Int × (List Int))) :=
  (impl_fillYields_n6 R0 x3379 x3380 x3566 x3381).bind (fun (t : Int × (List Int)) => impl_fillYields_n7 R0 x3380 t.1 t.2)

def impl_fillYields_n9 (R0 : (List Int) → Int → (List Int) → Option (Int × (List Int))) (x3379 : List Int) (x3380 : Int) (x3381 : List Int) : Option ((Int × (List Int))) :=
  (impl_fillYields_n1 R0 x3380).bind (fun (t : Int) => impl_fillYields_n8 R0 x3379 x3380 t x3381)

def impl_fillYields_one (R0 : (List Int) → Int → (List Int) → Option (Int × (List Int))) (x3379 : List Int) (x3380 : Int) (x3381 : List Int) : Option (Int × (List Int)) :=
  impl_fillYields_n9 R0 x3379 x3380 x3381

def impl_fillYields_knot : Nat → ((List Int) → Int → (List Int) → Option (Int × (List Int)))
  | 0 => (fun _ _ _ => none)
  | n + 1 => (fun y0 y1 y2 => impl_fillYields_one (impl_fillYields_knot n) y0 y1 y2)

def impl_fillYields_fuel (n : Nat) : (List Int) → Int → (List Int) → Option (Int × (List Int)) := (impl_fillYields_knot n)

@[irreducible] def impl_fillYields (x3379 : List Int) (x3380 : Int) (x3381 : List Int) : Option (Int × (List Int)) := impl_fillYields_fuel RR x3379 x3380 x3381

def impl_yieldsOf_n1 (x3346 : List Int) : Option (((List Int))) :=
  (mk (((List.length x3346 : Nat) : Int)) (((List.length x3346 : Nat) : Int))).bind fun (v3627 : Nat) => (impl_RootOf x3346).bind fun (v3629 : Int) => (impl_fillYields x3346 v3629 (List.replicate v3627 (0 : Int))).bind fun (v3630 : Int × (List Int)) => some (v3630.2)

@[irreducible] def impl_yieldsOf (x3346 : List Int) : Option ((List Int)) :=
  impl_yieldsOf_n1 x3346

def impl_wordSet_isRow_n1 (x3640 : Int) : Option (Bool) :=
  some ((iand .u64 x3640 (IntKind.wrap .u64 (x3640 + (iand .u64 x3640 (IntKind.wrap .u64 (0 - x3640)))))) == 0)

@[irreducible] def impl_wordSet_isRow (x3640 : Int) : Option (Bool) :=
  impl_wordSet_isRow_n1 x3640

def impl_FlatOk_n1 (x3343 : List Int) : Option (Unit ⊕ Bool) :=
  (impl_TreeOk x3343).bind fun (v3344 : Bool) => cond (!v3344) (some (Sum.inr false)) (some (Sum.inl ()))

def impl_FlatOk_n2 (x3343 : List Int) : Option ((Int × (List Int))) :=
  (impl_yieldsOf x3343).bind fun (v3633 : List Int) => some ((((List.length v3633 : Nat) : Int)), v3633)

def impl_FlatOk_n3 (x3634 : Int) (x3661 : Int) (x3633 : List Int) : Option (Int ⊕ Bool ⊕ Unit) :=
  cond (decide (x3661 < x3634)) ((inb x3661 (List.length x3633)).bind fun (v3670 : Nat) => (x3633[v3670]?).bind fun (v3671 : Int) => (impl_wordSet_isRow v3671).bind fun (v3672 : Bool) => cond (!v3672) (some (Sum.inr (Sum.inl false))) (some (Sum.inl (IntKind.wrap .i64 (x3661 + 1))))) (some (Sum.inr (Sum.inr ())))

def impl_FlatOk_n4 (x3634 : Int) (x3633 : List Int) : Option (Bool ⊕ Unit) :=
  nloop (fun (s : Int) => ((impl_FlatOk_n3 x3634 s x3633).map (Sum.elim (fun (t : Int) => Sum.inl t) (Sum.elim (fun (t : Bool) => Sum.inr (Sum.inl t)) (fun (t : Unit) => Sum.inr (Sum.inr t)))) : Option ((Int) ⊕ (Bool ⊕ Unit)))) LL 0

def impl_FlatOk_n5 (x3634 : Int) (x3633 : List Int) : Option (Unit ⊕ Bool) :=
  (impl_FlatOk_n4 x3634 x3633).map (Sum.elim (fun (t : Bool) => (Sum.inr t)) (fun (t : Unit) => (Sum.inl ())))

def impl_FlatOk_n6 (x3343 : List Int) : Option (Unit ⊕ Bool) :=
  (impl_FlatOk_n2 x3343).bind (fun (t : Int × (List Int)) => impl_FlatOk_n5 t.1 t.2)

def impl_FlatOk_n7 : Option (Bool) :=
  some true

def impl_FlatOk_n8 (x3343 : List Int) : Option (Bool) :=
  (impl_FlatOk_n6 x3343).bind (Sum.elim (fun (t : Unit) => impl_FlatOk_n7) (fun e => some ((fun (t : Bool) => t) e)))

def impl_FlatOk_n9 (x3343 : List Int) : Option (Bool) :=
  (impl_FlatOk_n1 x3343).bind (Sum.elim (fun (t : Unit) => impl_FlatOk_n8 x3343) (fun e => some ((fun (t : Bool) => t) e)))

@[irreducible] def impl_FlatOk (x3343 : List Int) : Option (Bool) :=
  impl_FlatOk_n9 x3343

def impl_stackMachine_ruleFor_n1 : Option (Unit) :=
  some ()

@[irreducible] def impl_stackMachine_ruleFor (x3688 : List Int) (x3689 : Int) (x3690 : Int) (x3691 : List Int) : Option (Unit) :=
  impl_stackMachine_ruleFor_n1

def impl_stackMachine_ruleFor_1_n1 (x3723 : Int) (x3724 : Int) (x3725 : List Int) (x3728 : List Int) : Option (Bool) :=
  (idx x3725 (IntKind.wrap .i64 (x3723 - 1))).bind fun (v3737 : Int) => cond (v3737 == x3724) ((impl_dependents x3725 x3723).bind fun (v3739 : Int) => (impl_dependents x3728 x3723).bind fun (v3740 : Int) => some (v3739 == v3740)) (some false)

@[irreducible] def impl_stackMachine_ruleFor_1 (x3723 : Int) (x3724 : Int) (x3725 : List Int) (x3726 : Int) (x3727 : Int) (x3728 : List Int) (x3729 : List Int) : Option (Bool) :=
  impl_stackMachine_ruleFor_1_n1 x3723 x3724 x3725 x3728

def impl_stackMachine_ruleFor_2_n1 (x3854 : Int) (x3855 : Int) (x3856 : List Int) (x3857 : List Int) (x3858 : List Int) : Option (Int) :=
  (impl_stackMachine_upperTwo x3854 x3855 x3857 x3858).bind fun (v3877 : Int × Int × Bool) => cond (v3877.2.2) ((impl_stackMachine_ruleFor_1 (v3877.1) (v3877.2.1) x3856 x3854 x3855 x3857 x3858).bind fun (v3881 : Bool) => cond v3881 (some 76) (cond (v3877.2.2) ((impl_stackMachine_ruleFor_1 (v3877.2.1) (v3877.1) x3856 x3854 x3855 x3857 x3858).bind fun (v3882 : Bool) => cond v3882 (some 82) (some 83)) (some 83))) (cond (v3877.2.2) ((impl_stackMachine_ruleFor_1 (v3877.2.1) (v3877.1) x3856 x3854 x3855 x3857 x3858).bind fun (v3883 : Bool) => cond v3883 (some 82) (some 83)) (some 83))

@[irreducible] def impl_stackMachine_ruleFor_2 (x3854 : Int) (x3855 : Int) (x3856 : List Int) (x3857 : List Int) (x3858 : List Int) : Option (Int) :=
  impl_stackMachine_ruleFor_2_n1 x3854 x3855 x3856 x3857 x3858

def impl_MovesFor_n1 (x3342 : List Int) : Option (((List Int)) ⊕ (ByteArray × Bool)) :=
  (impl_FlatOk x3342).bind fun (v4043 : Bool) => cond (!v4043) (some (Sum.inr (ByteArray.empty, false))) ((impl_newStackMachine (((List.length x3342 : Nat) : Int))).bind fun (v4046 : List Int) => (impl_stackMoves).bind fun (v4047 : Unit) => (impl_stackMachine_ruleFor x3342 0 0 v4046).bind fun (v4048 : Unit) => some (Sum.inl v4046))

def impl_MovesFor_n2 (x3342 : List Int) : Option (Int) :=
  some (IntKind.wrap .i64 ((IntKind.wrap .i64 (2 * (((List.length x3342 : Nat) : Int)))) - 1))

def impl_MovesFor_n3 (x4051 : Int) (x4123 : Int) (x4124 : Int) (x4125 : Int) (x4126 : List Int) (x4127 : List Int) (x4128 : List Int) (x3342 : List Int) : Option ((Int × Int × Int × (List Int) × (List Int) × (List Int)) ⊕ ((List Int))) :=
  cond (decide (x4123 < x4051)) ((impl_stackMachine_ruleFor_2 x4124 x4125 x3342 x4127 x4128).bind fun (v4162 : Int) => cond (v4162 == 83) ((impl_stackMachine_putNext x4124 x4125 x4127 x4128).bind fun (v4164 : Bool × Int × Int × (List Int)) => (room ((List.length x4126) + List.length ([v4162]))).bind fun (v4171 : Unit) => some (Sum.inl ((IntKind.wrap .i64 (x4123 + 1)), (v4164.2.1), (v4164.2.2.1), (x4126 ++ ([v4162])), x4127, (v4164.2.2.2)))) (cond (v4162 == 76) ((impl_stackMachine_takeBelow x4124 x4125 x4127 x4128).bind fun (v4175 : Bool × (List Int) × (List Int)) => (room ((List.length x4126) + List.length ([v4162]))).bind fun (v4181 : Unit) => some (Sum.inl ((IntKind.wrap .i64 (x4123 + 1)), x4124, x4125, (x4126 ++ ([v4162])), (v4175.2.1), (v4175.2.2)))) (cond (v4162 == 82) ((impl_stackMachine_takeUpper x4124 x4125 x4127 x4128).bind fun (v4185 : Bool × (List Int) × (List Int)) => (room ((List.length x4126) + List.length ([v4162]))).bind fun (v4191 : Unit) => some (Sum.inl ((IntKind.wrap .i64 (x4123 + 1)), x4124, x4125, (x4126 ++ ([v4162])), (v4185.2.1), (v4185.2.2)))) (none)))) (some (Sum.inr x4126))

def impl_MovesFor_n4 (x4051 : Int) (x4046 : List Int) (x3342 : List Int) : Option (((List Int))) :=
  nloop (fun (s : Int × Int × Int × (List Int) × (List Int) × (List Int)) => ((impl_MovesFor_n3 x4051 s.1 s.2.1 s.2.2.1 s.2.2.2.1 s.2.2.2.2.1 s.2.2.2.2.2 x3342).map (Sum.elim (fun (t : Int × Int × Int × (List Int) × (List Int) × (List Int)) => Sum.inl (t.1, t.2.1, t.2.2.1, t.2.2.2.1, t.2.2.2.2.1, t.2.2.2.2.2)) (fun (t : (List Int)) => Sum.inr t)) : Option ((Int × Int × Int × (List Int) × (List Int) × (List Int)) ⊕ (((List Int)))))) LL (0, 0, 0, ([] : List Int), x4046, ([] : List Int))

def impl_MovesFor_n5 (x4051 : Int) (x4046 : List Int) (x3342 : List Int) : Option (((List Int))) :=
  (impl_MovesFor_n4 x4051 x4046 x3342).map (fun (t : (List Int)) => t)

def impl_MovesFor_n6 (x3342 : List Int) (x4046 : List Int) : Option (((List Int))) :=
  (impl_MovesFor_n2 x3342).bind (fun (t : Int) => impl_MovesFor_n5 t x4046 x3342)

def impl_MovesFor_n7 (x4126 : List Int) : Option ((ByteArray × Bool)) :=
  some ((bytesOf x4126), true)

def impl_MovesFor_n8 (x3342 : List Int) (x4046 : List Int) : Option ((ByteArray × Bool)) :=
  (impl_MovesFor_n6 x3342 x4046).bind (fun (t : (List Int)) => impl_MovesFor_n7 t)

def impl_MovesFor_n9 (x3342 : List Int) : Option ((ByteArray × Bool)) :=
  (impl_MovesFor_n1 x3342).bind (Sum.elim (fun (t : (List Int)) => impl_MovesFor_n8 x3342 t) (fun e => some ((fun (t : ByteArray × Bool) => t) e)))

@[irreducible] def impl_MovesFor (x3342 : List Int) : Option (ByteArray × Bool) :=
  impl_MovesFor_n9 x3342

def impl_stackMachine_putNext_v2_n1 (x12324 : Nat) (x12325 : Nat) (x12326 : Int) (x12327 : Int) (x12329 : List Int) (x12330 : List Int) : Option ((Bool × Nat × Nat × Int × Int × (List Int))) :=
  cond (x12326 == (((List.length x12329 : Nat) : Int))) (some (false, x12324, x12325, x12326, x12327, x12330)) ((room (x12325 + List.length ([(IntKind.wrap .i64 (x12326 + 1))]))).bind fun (v12444 : Unit) => some (true, 0, (List.length (((x12330.drop x12324).take x12325) ++ ([(IntKind.wrap .i64 (x12326 + 1))]))), (IntKind.wrap .i64 (x12326 + 1)), (imax x12327 (((List.length (((x12330.drop x12324).take x12325) ++ ([(IntKind.wrap .i64 (x12326 + 1))])) : Nat) : Int))), (((x12330.drop x12324).take x12325) ++ ([(IntKind.wrap .i64 (x12326 + 1))]))))

@[irreducible] def impl_stackMachine_putNext_v2 (x12324 : Nat) (x12325 : Nat) (x12326 : Int) (x12327 : Int) (x12328 : Int) (x12329 : List Int) (x12330 : List Int) : Option (Bool × Nat × Nat × Int × Int × (List Int)) :=
  impl_stackMachine_putNext_v2_n1 x12324 x12325 x12326 x12327 x12329 x12330

def spec_l20Order_n1 (x4320 : List Int) (x4321 : Int) : Option ((Int × Int)) :=
  (spec_l20Rd_pick 2 x4320 x4321).bind fun (v4322 : Int × Int) => some ((v4322.1), (v4322.2))

def spec_l20Order_n2 : Option (Unit) :=
  some ()

def spec_l20Order_n3 (x4319 : Int) (x4323 : Int) (x4466 : Int) (x4320 : List Int) (x4467 : Int) (x4468 : List Int) : Option ((Int × Int × (List Int)) ⊕ (Int × (List Int))) :=
  cond (decide (x4466 ≤ x4319)) (cond (x4323 == 0) ((spec_l20Rd_pick x4466 x4320 x4467).bind fun (v4540 : Int × Int) => (inc (v4540.1) (List.length x4468)).bind fun (v4544 : Nat) => (room ((List.length ([] : List Int)) + List.length ((x4468.drop 0).take (v4544 - 0)))).bind fun (v4548 : Unit) => (room ((List.length (([] : List Int) ++ ((x4468.drop 0).take (v4544 - 0)))) + List.length ([x4466]))).bind fun (v4552 : Unit) => (inc (v4540.1) (List.length x4468)).bind fun (v4555 : Nat) => (room ((List.length ((([] : List Int) ++ ((x4468.drop 0).take (v4544 - 0))) ++ ([x4466]))) + List.length ((x4468.drop v4555).take ((List.length x4468) - v4555)))).bind fun (v4559 : Unit) => some (Sum.inl ((IntKind.wrap .i64 (x4466 + 1)), (v4540.2), (((([] : List Int) ++ ((x4468.drop 0).take (v4544 - 0))) ++ ([x4466])) ++ ((x4468.drop v4555).take ((List.length x4468) - v4555)))))) ((spec_l20Rd_pick 3 x4320 x4467).bind fun (v4562 : Int × Int) => cond ((v4562.1) == 0) ((spec_l20Rd_pick x4466 x4320 (v4562.2)).bind fun (v4566 : Int × Int) => (inc (v4566.1) (List.length x4468)).bind fun (v4570 : Nat) => (room ((List.length ([] : List Int)) + List.length ((x4468.drop 0).take (v4570 - 0)))).bind fun (v4574 : Unit) => (room ((List.length (([] : List Int) ++ ((x4468.drop 0).take (v4570 - 0)))) + List.length ([x4466]))).bind fun (v4578 : Unit) => (inc (v4566.1) (List.length x4468)).bind fun (v4581 : Nat) => (room ((List.length ((([] : List Int) ++ ((x4468.drop 0).take (v4570 - 0))) ++ ([x4466]))) + List.length ((x4468.drop v4581).take ((List.length x4468) - v4581)))).bind fun (v4585 : Unit) => some (Sum.inl ((IntKind.wrap .i64 (x4466 + 1)), (v4566.2), (((([] : List Int) ++ ((x4468.drop 0).take (v4570 - 0))) ++ ([x4466])) ++ ((x4468.drop v4581).take ((List.length x4468) - v4581)))))) ((inc (((List.length x4468 : Nat) : Int)) (List.length x4468)).bind fun (v4589 : Nat) => (room ((List.length ([] : List Int)) + List.length ((x4468.drop 0).take (v4589 - 0)))).bind fun (v4593 : Unit) => (room ((List.length (([] : List Int) ++ ((x4468.drop 0).take (v4589 - 0)))) + List.length ([x4466]))).bind fun (v4597 : Unit) => (inc (((List.length x4468 : Nat) : Int)) (List.length x4468)).bind fun (v4600 : Nat) => (room ((List.length ((([] : List Int) ++ ((x4468.drop 0).take (v4589 - 0))) ++ ([x4466]))) + List.length ((x4468.drop v4600).take ((List.length x4468) - v4600)))).bind fun (v4604 : Unit) => some (Sum.inl ((IntKind.wrap .i64 (x4466 + 1)), (v4562.2), (((([] : List Int) ++ ((x4468.drop 0).take (v4589 - 0))) ++ ([x4466])) ++ ((x4468.drop v4600).take ((List.length x4468) - v4600)))))))) (some (Sum.inr (x4467, x4468)))

def spec_l20Order_n4 (x4319 : Int) (x4323 : Int) (x4320 : List Int) (x4324 : Int) : Option ((Int × (List Int))) :=
  nloop (fun (s : Int × Int × (List Int)) => ((spec_l20Order_n3 x4319 x4323 s.1 x4320 s.2.1 s.2.2).map (Sum.elim (fun (t : Int × Int × (List Int)) => Sum.inl (t.1, t.2.1, t.2.2)) (fun (t : Int × (List Int)) => Sum.inr t)) : Option ((Int × Int × (List Int)) ⊕ ((Int × (List Int)))))) LL (1, x4324, ([] : List Int))

def spec_l20Order_n5 (x4319 : Int) (x4323 : Int) (x4320 : List Int) (x4324 : Int) : Option ((Int × (List Int))) :=
  (spec_l20Order_n4 x4319 x4323 x4320 x4324).map (fun (t : Int × (List Int)) => (t.1, t.2))

def spec_l20Order_n6 (x4319 : Int) (x4323 : Int) (x4320 : List Int) (x4324 : Int) : Option ((Int × (List Int))) :=
  (spec_l20Order_n2).bind (fun (t : Unit) => spec_l20Order_n5 x4319 x4323 x4320 x4324)

def spec_l20Order_n7 (x4467 : Int) (x4468 : List Int) : Option ((Int × (List Int))) :=
  some (x4467, x4468)

def spec_l20Order_n8 (x4319 : Int) (x4323 : Int) (x4320 : List Int) (x4324 : Int) : Option ((Int × (List Int))) :=
  (spec_l20Order_n6 x4319 x4323 x4320 x4324).bind (fun (t : Int × (List Int)) => spec_l20Order_n7 t.1 t.2)

def spec_l20Order_n9 (x4319 : Int) (x4320 : List Int) (x4321 : Int) : Option ((Int × (List Int))) :=
  (spec_l20Order_n1 x4320 x4321).bind (fun (t : Int × Int) => spec_l20Order_n8 x4319 t.1 x4320 t.2)

@[irreducible] def spec_l20Order (x4319 : Int) (x4320 : List Int) (x4321 : Int) : Option (Int × (List Int)) :=
  spec_l20Order_n9 x4319 x4320 x4321

def spec_l20Tree_n1 (x4309 : List Int) (x4310 : Int) : Option ((Int × Int × Int × (List Int) × (List Int))) :=
  (spec_l20Rd_pick 7 x4309 x4310).bind fun (v4622 : Int × Int) => (spec_l20Order (IntKind.wrap .i64 (1 + (v4622.1))) x4309 (v4622.2)).bind fun (v4626 : Int × (List Int)) => (mk (IntKind.wrap .i64 (1 + (v4622.1))) (IntKind.wrap .i64 (1 + (v4622.1)))).bind fun (v4629 : Nat) => (spec_l20Rd_pick 2 x4309 (v4626.1)).bind fun (v4631 : Int × Int) => some ((IntKind.wrap .i64 (1 + (v4622.1))), (v4631.1), (v4631.2), (v4626.2), (List.replicate v4629 (0 : Int)))

def spec_l20Tree_n2 : Option (Unit) :=
  some ()

def spec_l20Tree_n3 (x4625 : Int) (x4632 : Int) (x4703 : Int) (x4309 : List Int) (x4704 : Int) (x4628 : List Int) (x4705 : List Int) : Option ((Int × Int × (List Int)) ⊕ (Int × (List Int))) :=
  cond (decide (x4703 < x4625)) ((spec_l20Rd_pick x4703 x4309 x4704).bind fun (v4739 : Int × Int) => cond (x4632 == 1) ((spec_l20Rd_pick 2 x4309 (v4739.2)).bind fun (v4743 : Int × Int) => cond ((v4743.1) == 0) ((inb x4703 (List.length x4628)).bind fun (v4748 : Nat) => (x4628[v4748]?).bind fun (v4749 : Int) => (inb (IntKind.wrap .i64 (x4703 - 1)) (List.length x4628)).bind fun (v4751 : Nat) => (x4628[v4751]?).bind fun (v4752 : Int) => (inb (IntKind.wrap .i64 (v4749 - 1)) (List.length x4705)).bind fun (v4753 : Nat) => some (Sum.inl ((IntKind.wrap .i64 (x4703 + 1)), (v4743.2), (x4705.set v4753 v4752)))) ((inb x4703 (List.length x4628)).bind fun (v4756 : Nat) => (x4628[v4756]?).bind fun (v4757 : Int) => (inb (v4739.1) (List.length x4628)).bind fun (v4759 : Nat) => (x4628[v4759]?).bind fun (v4760 : Int) => (inb (IntKind.wrap .i64 (v4757 - 1)) (List.length x4705)).bind fun (v4761 : Nat) => some (Sum.inl ((IntKind.wrap .i64 (x4703 + 1)), (v4743.2), (x4705.set v4761 v4760))))) ((inb x4703 (List.length x4628)).bind fun (v4764 : Nat) => (x4628[v4764]?).bind fun (v4765 : Int) => (inb (v4739.1) (List.length x4628)).bind fun (v4767 : Nat) => (x4628[v4767]?).bind fun (v4768 : Int) => (inb (IntKind.wrap .i64 (v4765 - 1)) (List.length x4705)).bind fun (v4769 : Nat) => some (Sum.inl ((IntKind.wrap .i64 (x4703 + 1)), (v4739.2), (x4705.set v4769 v4768))))) (some (Sum.inr (x4704, x4705)))

def spec_l20Tree_n4 (x4625 : Int) (x4632 : Int) (x4309 : List Int) (x4633 : Int) (x4628 : List Int) (x4630 : List Int) : Option ((Int × (List Int))) :=
  nloop (fun (s : Int × Int × (List Int)) => ((spec_l20Tree_n3 x4625 x4632 s.1 x4309 s.2.1 x4628 s.2.2).map (Sum.elim (fun (t : Int × Int × (List Int)) => Sum.inl (t.1, t.2.1, t.2.2)) (fun (t : Int × (List Int)) => Sum.inr t)) : Option ((Int × Int × (List Int)) ⊕ ((Int × (List Int)))))) LL (1, x4633, x4630)

def spec_l20Tree_n5 (x4625 : Int) (x4632 : Int) (x4309 : List Int) (x4633 : Int) (x4628 : List Int) (x4630 : List Int) : Option ((Int × (List Int))) :=
  (spec_l20Tree_n4 x4625 x4632 x4309 x4633 x4628 x4630).map (fun (t : Int × (List Int)) => (t.1, t.2))

def spec_l20Tree_n6 (x4625 : Int) (x4632 : Int) (x4309 : List Int) (x4633 : Int) (x4628 : List Int) (x4630 : List Int) : Option ((Int × (List Int))) :=
  (spec_l20Tree_n2).bind (fun (t : Unit) => spec_l20Tree_n5 x4625 x4632 x4309 x4633 x4628 x4630)

def spec_l20Tree_n7 (x4308 : Int) (x4625 : Int) (x4309 : List Int) (x4704 : Int) (x4705 : List Int) : Option ((Int × (List Int))) :=
  (spec_l20Rd_odd x4308 x4309 x4704).bind fun (v4831 : Bool × Int) => cond (v4831.1) ((spec_l20Rd_pick 4 x4309 (v4831.2)).bind fun (v4834 : Int × Int) => cond ((v4834.1) == 0) (some ((v4834.2), ([] : List Int))) (cond ((v4834.1) == 1) (some ((v4834.2), ([2, 1, 0]))) (cond ((v4834.1) == 2) ((spec_l20Rd_pick x4625 x4309 (v4834.2)).bind fun (v4841 : Int × Int) => (inb (v4841.1) (List.length x4705)).bind fun (v4844 : Nat) => (room ((List.length (x4705.set v4844 0)) + List.length ([0]))).bind fun (v4848 : Unit) => some ((v4841.2), ((x4705.set v4844 0) ++ ([0])))) ((spec_l20Rd_pick 3 x4309 (v4834.2)).bind fun (v4852 : Int × Int) => (inb (v4852.1) (List.length ([1, (IntKind.wrap .i64 (x4625 + 1)), (-1)]))).bind fun (v4855 : Nat) => (([1, (IntKind.wrap .i64 (x4625 + 1)), (-1)])[v4855]?).bind fun (v4856 : Int) => (inb 0 (List.length x4705)).bind fun (v4857 : Nat) => some ((v4852.2), (x4705.set v4857 v4856)))))) (some ((v4831.2), x4705))

def spec_l20Tree_n8 (x4308 : Int) (x4625 : Int) (x4632 : Int) (x4309 : List Int) (x4633 : Int) (x4628 : List Int) (x4630 : List Int) : Option ((Int × (List Int))) :=
  (spec_l20Tree_n6 x4625 x4632 x4309 x4633 x4628 x4630).bind (fun (t : Int × (List Int)) => spec_l20Tree_n7 x4308 x4625 x4309 t.1 t.2)

def spec_l20Tree_n9 (x4308 : Int) (x4309 : List Int) (x4310 : Int) : Option ((Int × (List Int))) :=
  (spec_l20Tree_n1 x4309 x4310).bind (fun (t : Int × Int × Int × (List Int) × (List Int)) => spec_l20Tree_n8 x4308 t.1 t.2.1 x4309 t.2.2.1 t.2.2.2.1 t.2.2.2.2)

@[irreducible] def spec_l20Tree (x4308 : Int) (x4309 : List Int) (x4310 : Int) : Option (Int × (List Int)) :=
  spec_l20Tree_n9 x4308 x4309 x4310

def spec_l20Fill_n1 (R0 : Int → Int → Int → (List Int) → Int → (List Int) → Option (Int × (List Int))) (x4901 : Int) (x4902 : Int) (x4903 : Int) (x4904 : List Int) (x4905 : Int) (x4906 : List Int) : Option ((Int × Int × (List Int)) ⊕ (Int × (List Int))) :=
  cond (decide (x4901 > x4902)) (some (Sum.inr (x4905, x4906))) ((spec_l20Rd_pick (IntKind.wrap .i64 ((IntKind.wrap .i64 (x4902 - x4901)) + 1)) x4904 x4905).bind fun (v4974 : Int × Int) => (inb (IntKind.wrap .i64 ((IntKind.wrap .i64 (x4901 + (v4974.1))) - 1)) (List.length x4906)).bind fun (v4979 : Nat) => some (Sum.inl ((IntKind.wrap .i64 (x4901 + (v4974.1))), (v4974.2), (x4906.set v4979 x4903))))

def spec_l20Fill_n2 (R0 : Int → Int → Int → (List Int) → Int → (List Int) → Option (Int × (List Int))) (x4977 : Int) (x4992 : Int) (x4904 : List Int) (x4993 : Int) (x4994 : List Int) : Option ((Int × Int × (List Int)) ⊕ (Int × (List Int))) :=
  cond (decide (x4992 < x4977)) ((spec_l20Rd_pick (IntKind.wrap .i64 (x4977 - x4992)) x4904 x4993).bind fun (v4998 : Int × Int) => (R0 x4992 (IntKind.wrap .i64 (x4992 + (v4998.1))) x4977 x4904 (v4998.2) x4994).bind fun (v5002 : Int × (List Int)) => some (Sum.inl ((IntKind.wrap .i64 ((IntKind.wrap .i64 (x4992 + (v4998.1))) + 1)), (v5002.1), (v5002.2)))) (some (Sum.inr (x4993, x4994)))

def spec_l20Fill_n3 (R0 : Int → Int → Int → (List Int) → Int → (List Int) → Option (Int × (List Int))) (x4977 : Int) (x4901 : Int) (x4904 : List Int) (x4976 : Int) (x4980 : List Int) : Option ((Int × (List Int))) :=
  nloop (fun (s : Int × Int × (List Int)) => ((spec_l20Fill_n2 R0 x4977 s.1 x4904 s.2.1 s.2.2).map (Sum.elim (fun (t : Int × Int × (List Int)) => Sum.inl (t.1, t.2.1, t.2.2)) (fun (t : Int × (List Int)) => Sum.inr t)) : Option ((Int × Int × (List Int)) ⊕ ((Int × (List Int)))))) LL (x4901, x4976, x4980)

def spec_l20Fill_n4 (R0 : Int → Int → Int → (List Int) → Int → (List Int) → Option (Int × (List Int))) (x4977 : Int) (x4901 : Int) (x4904 : List Int) (x4976 : Int) (x4980 : List Int) : Option ((Int × (List Int))) :=
  (spec_l20Fill_n3 R0 x4977 x4901 x4904 x4976 x4980).map (fun (t : Int × (List Int)) => (t.1, t.2))

def spec_l20Fill_n5 (R0 : Int → Int → Int → (List Int) → Int → (List Int) → Option (Int × (List Int))) (x4977 : Int) : Option (Int) :=
  some (IntKind.wrap .i64 (x4977 + 1))

def spec_l20Fill_n6 (R0 : Int → Int → Int → (List Int) → Int → (List Int) → Option (Int × (List Int))) (x4902 : Int) (x4977 : Int) (x5019 : Int) (x4904 : List Int) (x5020 : Int) (x5021 : List Int) : Option ((Int × Int × (List Int)) ⊕ (Int × (List Int))) :=
  cond (decide (x5019 ≤ x4902)) ((spec_l20Rd_pick (IntKind.wrap .i64 ((IntKind.wrap .i64 (x4902 - x5019)) + 1)) x4904 x5020).bind fun (v5026 : Int × Int) => (R0 x5019 (IntKind.wrap .i64 (x5019 + (v5026.1))) x4977 x4904 (v5026.2) x5021).bind fun (v5030 : Int × (List Int)) => some (Sum.inl ((IntKind.wrap .i64 ((IntKind.wrap .i64 (x5019 + (v5026.1))) + 1)), (v5030.1), (v5030.2)))) (some (Sum.inr (x5020, x5021)))

def spec_l20Fill_n7 (R0 : Int → Int → Int → (List Int) → Int → (List Int) → Option (Int × (List Int))) (x4902 : Int) (x4977 : Int) (x5006 : Int) (x4904 : List Int) (x4993 : Int) (x4994 : List Int) : Option ((Int × (List Int))) :=
  nloop (fun (s : Int × Int × (List Int)) => ((spec_l20Fill_n6 R0 x4902 x4977 s.1 x4904 s.2.1 s.2.2).map (Sum.elim (fun (t : Int × Int × (List Int)) => Sum.inl (t.1, t.2.1, t.2.2)) (fun (t : Int × (List Int)) => Sum.inr t)) : Option ((Int × Int × (List Int)) ⊕ ((Int × (List Int)))))) LL (x5006, x4993, x4994)

def spec_l20Fill_n8 (R0 : Int → Int → Int → (List Int) → Int → (List Int) → Option (Int × (List Int))) (x4902 : Int) (x4977 : Int) (x5006 : Int) (x4904 : List Int) (x4993 : Int) (x4994 : List Int) : Option ((Int × (List Int))) :=
  (spec_l20Fill_n7 R0 x4902 x4977 x5006 x4904 x4993 x4994).map (fun (t : Int × (List Int)) => (t.1, t.2))

def spec_l20Fill_n9 (R0 : Int → Int → Int → (List Int) → Int → (List Int) → Option (Int × (List Int))) (x4902 : Int) (x4977 : Int) (x4904 : List Int) (x4993 : Int) (x4994 : List Int) : Option ((Int × (List Int))) :=
  (spec_l20Fill_n5 R0 x4977).bind (fun (t : Int) => spec_l20Fill_n8 R0 x4902 x4977 t x4904 x4993 x4994)

def spec_l20Fill_n10 (R0 : Int → Int → Int → (List Int) → Int → (List Int) → Option (Int × (List Int))) (x4902 : Int) (x4977 : Int) (x4901 : Int) (x4904 : List Int) (x4976 : Int) (x4980 : List Int) : Option ((Int × (List Int))) :=
  (spec_l20Fill_n4 R0 x4977 x4901 x4904 x4976 x4980).bind (fun (t : Int × (List Int)) => spec_l20Fill_n9 R0 x4902 x4977 x4904 t.1 t.2)

def spec_l20Fill_n11 (R0 : Int → Int → Int → (List Int) → Int → (List Int) → Option (Int × (List Int))) (x4901 : Int) (x4902 : Int) (x4903 : Int) (x4904 : List Int) (x4905 : Int) (x4906 : List Int) : Option ((Int × (List Int)) ⊕ (Int × (List Int))) :=
  (spec_l20Fill_n1 R0 x4901 x4902 x4903 x4904 x4905 x4906).bind (Sum.elim (fun (t : Int × Int × (List Int)) => (spec_l20Fill_n10 R0 x4902 t.1 x4901 x4904 t.2.1 t.2.2).map (fun (u : Int × (List Int)) => (Sum.inl (u.1, u.2)))) (fun e => some ((fun (t : Int × (List Int)) => (Sum.inr t)) e)))

def spec_l20Fill_one (R0 : Int → Int → Int → (List Int) → Int → (List Int) → Option (Int × (List Int))) (x4901 : Int) (x4902 : Int) (x4903 : Int) (x4904 : List Int) (x4905 : Int) (x4906 : List Int) : Option (Int × (List Int)) :=
  (spec_l20Fill_n11 R0 x4901 x4902 x4903 x4904 x4905 x4906).map (Sum.elim (fun (t : Int × (List Int)) => (t.1, t.2)) (fun (t : Int × (List Int)) => t))

def spec_l20Fill_knot : Nat → (Int → Int → Int → (List Int) → Int → (List Int) → Option (Int × (List Int)))
  | 0 => (fun _ _ _ _ _ _ => none)
  | n + 1 => (fun y0 y1 y2 y3 y4 y5 => spec_l20Fill_one (spec_l20Fill_knot n) y0 y1 y2 y3 y4 y5)

def spec_l20Fill_fuel (n : Nat) : Int → Int → Int → (List Int) → Int → (List Int) → Option (Int × (List Int)) := (spec_l20Fill_knot n)

@[irreducible] def spec_l20Fill (x4901 : Int) (x4902 : Int) (x4903 : Int) (x4904 : List Int) (x4905 : Int) (x4906 : List Int) : Option (Int × (List Int)) := spec_l20Fill_fuel RR x4901 x4902 x4903 x4904 x4905 x4906

def spec_l20Flat_n1 (x4301 : Int) (x4302 : List Int) (x4303 : Int) : Option ((Int × (List Int))) :=
  (spec_l20Rd_pick 3 x4302 x4303).bind fun (v5055 : Int × Int) => cond ((v5055.1) == 0) ((spec_l20Tree x4301 x4302 (v5055.2)).bind fun (v5059 : Int × (List Int)) => some ((v5059.1), (v5059.2))) ((spec_l20Rd_pick 7 x4302 (v5055.2)).bind fun (v5062 : Int × Int) => (mk (IntKind.wrap .i64 (1 + (v5062.1))) (IntKind.wrap .i64 (1 + (v5062.1)))).bind fun (v5066 : Nat) => (spec_l20Fill 1 (IntKind.wrap .i64 (1 + (v5062.1))) 0 x4302 (v5062.2) (List.replicate v5066 (0 : Int))).bind fun (v5068 : Int × (List Int)) => some ((v5068.1), (v5068.2)))

@[irreducible] def spec_l20Flat (x4301 : Int) (x4302 : List Int) (x4303 : Int) : Option (Int × (List Int)) :=
  spec_l20Flat_n1 x4301 x4302 x4303

def spec_TreeOk_n1 (x5097 : List Int) : Option (Int ⊕ Bool) :=
  (spec_l1In (((List.length x5097 : Nat) : Int)) 1 8).bind fun (v5103 : Bool) => cond (!v5103) (some (Sum.inr false)) (some (Sum.inl (((List.length x5097 : Nat) : Int))))

def spec_TreeOk_n2 : Option (Unit) :=
  some ()

def spec_TreeOk_n3 (x5102 : Int) (x5169 : Int) (x5170 : Int) : Option (Unit ⊕ Int) :=
  cond (decide (x5170 < x5102)) (some (Sum.inl ())) (some (Sum.inr x5169))

def spec_TreeOk_n4 (x5097 : List Int) (x5102 : Int) (x5169 : Int) (x5170 : Int) : Option ((Int × Int) ⊕ Bool) :=
  (idx x5097 x5170).bind fun (v5187 : Int) => (spec_l1In v5187 0 x5102).bind fun (v5188 : Bool) => cond (!v5188) (some (Sum.inr false)) ((idx x5097 x5170).bind fun (v5190 : Int) => cond (v5190 == (IntKind.wrap .i64 (x5170 + 1))) (some (Sum.inr false)) ((idx x5097 x5170).bind fun (v5193 : Int) => cond (v5193 == 0) (some (Sum.inl ((IntKind.wrap .i64 (x5169 + 1)), (IntKind.wrap .i64 (x5170 + 1))))) (some (Sum.inl (x5169, (IntKind.wrap .i64 (x5170 + 1)))))))

def spec_TreeOk_n5 : Option (Unit) :=
  some ()

def spec_TreeOk_n6 (x5097 : List Int) (x5102 : Int) (x5215 : Int) (x5216 : Int) : Option ((Int × Int) ⊕ Bool ⊕ Int) :=
  cond (decide (x5215 > 0)) (cond (decide (x5216 < x5102)) ((idx x5097 (IntKind.wrap .i64 (x5215 - 1))).bind fun (v5228 : Int) => (spec_l1In v5228 0 x5102).bind fun (v5229 : Bool) => cond (!v5229) (some (Sum.inr (Sum.inl false))) (some (Sum.inl (v5228, (IntKind.wrap .i64 (x5216 + 1)))))) (some (Sum.inr (Sum.inr x5215)))) (some (Sum.inr (Sum.inr x5215)))

def spec_TreeOk_n7 (x5097 : List Int) (x5102 : Int) (x5199 : Int) : Option (Bool ⊕ Int) :=
  nloop (fun (s : Int × Int) => ((spec_TreeOk_n6 x5097 x5102 s.1 s.2).map (Sum.elim (fun (t : Int × Int) => Sum.inl (t.1, t.2)) (Sum.elim (fun (t : Bool) => Sum.inr (Sum.inl t)) (fun (t : Int) => Sum.inr (Sum.inr t)))) : Option ((Int × Int) ⊕ (Bool ⊕ Int)))) LL (x5199, 0)

def spec_TreeOk_n8 (x5097 : List Int) (x5102 : Int) (x5199 : Int) : Option (Int ⊕ Bool) :=
  (spec_TreeOk_n7 x5097 x5102 x5199).map (Sum.elim (fun (t : Bool) => (Sum.inr t)) (fun (t : Int) => (Sum.inl t)))

def spec_TreeOk_n9 (x5097 : List Int) (x5102 : Int) (x5199 : Int) : Option (Int ⊕ Bool) :=
  (spec_TreeOk_n5).bind (fun (t : Unit) => spec_TreeOk_n8 x5097 x5102 x5199)

def spec_TreeOk_n10 (x5215 : Int) : Option (Unit ⊕ Bool) :=
  cond (decide (x5215 > 0)) (some (Sum.inr false)) (some (Sum.inl ()))

def spec_TreeOk_n11 (x5097 : List Int) (x5102 : Int) (x5199 : Int) : Option (Unit ⊕ Bool) :=
  (spec_TreeOk_n9 x5097 x5102 x5199).bind (Sum.elim (fun (t : Int) => spec_TreeOk_n10 t) (fun e => some ((fun (t : Bool) => (Sum.inr t)) e)))

def spec_TreeOk_n12 (x5097 : List Int) (x5102 : Int) (x5169 : Int) (x5170 : Int) : Option (Int ⊕ Bool) :=
  (spec_TreeOk_n4 x5097 x5102 x5169 x5170).bind (Sum.elim (fun (t : Int × Int) => (spec_TreeOk_n11 x5097 x5102 t.2).map (Sum.elim (fun (u : Unit) => (Sum.inl t.1)) (fun (u : Bool) => (Sum.inr u)))) (fun e => some ((fun (t : Bool) => (Sum.inr t)) e)))

def spec_TreeOk_n13 (x5097 : List Int) (x5102 : Int) (x5169 : Int) (x5170 : Int) : Option (Int ⊕ Bool) :=
  (spec_TreeOk_n12 x5097 x5102 x5169 x5170).map (Sum.elim (fun (t : Int) => (Sum.inl t)) (fun (t : Bool) => (Sum.inr t)))

def spec_TreeOk_n14 (x5170 : Int) : Option (Int) :=
  some (IntKind.wrap .i64 (x5170 + 1))

def spec_TreeOk_n15 (x5097 : List Int) (x5102 : Int) (x5169 : Int) (x5170 : Int) : Option ((Int × Int) ⊕ Bool) :=
  (spec_TreeOk_n13 x5097 x5102 x5169 x5170).bind (Sum.elim (fun (t : Int) => (spec_TreeOk_n14 x5170).map (fun (u : Int) => (Sum.inl (t, u)))) (fun e => some ((fun (t : Bool) => (Sum.inr t)) e)))

def spec_TreeOk_n16 (x5097 : List Int) (x5102 : Int) (x5169 : Int) (x5170 : Int) : Option ((Int × Int) ⊕ Bool ⊕ Int) :=
  (spec_TreeOk_n3 x5102 x5169 x5170).bind (Sum.elim (fun (t : Unit) => (spec_TreeOk_n15 x5097 x5102 x5169 x5170).map (Sum.elim (fun (t : Int × Int) => (Sum.inl (t.1, t.2))) (fun (t : Bool) => (Sum.inr (Sum.inl t))))) (fun e => some ((fun (t : Int) => (Sum.inr (Sum.inr t))) e)))

def spec_TreeOk_n17 (x5097 : List Int) (x5102 : Int) : Option (Bool ⊕ Int) :=
  nloop (fun (s : Int × Int) => ((spec_TreeOk_n16 x5097 x5102 s.1 s.2).map (Sum.elim (fun (t : Int × Int) => Sum.inl (t.1, t.2)) (Sum.elim (fun (t : Bool) => Sum.inr (Sum.inl t)) (fun (t : Int) => Sum.inr (Sum.inr t)))) : Option ((Int × Int) ⊕ (Bool ⊕ Int)))) LL (0, 0)

def spec_TreeOk_n18 (x5097 : List Int) (x5102 : Int) : Option (Int ⊕ Bool) :=
  (spec_TreeOk_n17 x5097 x5102).map (Sum.elim (fun (t : Bool) => (Sum.inr t)) (fun (t : Int) => (Sum.inl t)))

def spec_TreeOk_n19 (x5097 : List Int) (x5102 : Int) : Option (Int ⊕ Bool) :=
  (spec_TreeOk_n2).bind (fun (t : Unit) => spec_TreeOk_n18 x5097 x5102)

def spec_TreeOk_n20 (x5169 : Int) : Option (Bool) :=
  some (x5169 == 1)

def spec_TreeOk_n21 (x5097 : List Int) (x5102 : Int) : Option (Bool) :=
  (spec_TreeOk_n19 x5097 x5102).bind (Sum.elim (fun (t : Int) => spec_TreeOk_n20 t) (fun e => some ((fun (t : Bool) => t) e)))

def spec_TreeOk_n22 (x5097 : List Int) : Option (Bool) :=
  (spec_TreeOk_n1 x5097).bind (Sum.elim (fun (t : Int) => spec_TreeOk_n21 x5097 t) (fun e => some ((fun (t : Bool) => t) e)))

@[irreducible] def spec_TreeOk (x5097 : List Int) : Option (Bool) :=
  spec_TreeOk_n22 x5097

def spec_l2Yield_n1 (R0 : (List Int) → Int → Option Int) (x5243 : Int) : Option (Int) :=
  (shl .i64 1 (IntKind.wrap .i64 (x5243 - 1))).bind fun (v5274 : Int) => some v5274

def spec_l2Yield_n2 (R0 : (List Int) → Int → Option Int) : Option (Unit) :=
  some ()

def spec_l2Yield_n3 (R0 : (List Int) → Int → Option Int) (x5242 : List Int) (x5243 : Int) (x5295 : Int) (x5296 : Int) : Option ((Int × Int) ⊕ Int) :=
  cond (decide (x5296 < (((List.length x5242 : Nat) : Int)))) ((idx x5242 x5296).bind fun (v5308 : Int) => cond (v5308 == x5243) ((R0 x5242 (IntKind.wrap .i64 (x5296 + 1))).bind fun (v5311 : Int) => some (Sum.inl ((ior .i64 x5295 v5311), (IntKind.wrap .i64 (x5296 + 1))))) (some (Sum.inl (x5295, (IntKind.wrap .i64 (x5296 + 1)))))) (some (Sum.inr x5295))

def spec_l2Yield_n4 (R0 : (List Int) → Int → Option Int) (x5242 : List Int) (x5243 : Int) (x5274 : Int) : Option (Int) :=
  nloop (fun (s : Int × Int) => ((spec_l2Yield_n3 R0 x5242 x5243 s.1 s.2).map (Sum.elim (fun (t : Int × Int) => Sum.inl (t.1, t.2)) (fun (t : Int) => Sum.inr t)) : Option ((Int × Int) ⊕ (Int)))) LL (x5274, 0)

def spec_l2Yield_n5 (R0 : (List Int) → Int → Option Int) (x5242 : List Int) (x5243 : Int) (x5274 : Int) : Option (Int) :=
  (spec_l2Yield_n4 R0 x5242 x5243 x5274).map (fun (t : Int) => t)

def spec_l2Yield_n6 (R0 : (List Int) → Int → Option Int) (x5242 : List Int) (x5243 : Int) (x5274 : Int) : Option (Int) :=
  (spec_l2Yield_n2 R0).bind (fun (t : Unit) => spec_l2Yield_n5 R0 x5242 x5243 x5274)

def spec_l2Yield_n7 (R0 : (List Int) → Int → Option Int) (x5295 : Int) : Option (Int) :=
  some x5295

def spec_l2Yield_n8 (R0 : (List Int) → Int → Option Int) (x5242 : List Int) (x5243 : Int) (x5274 : Int) : Option (Int) :=
  (spec_l2Yield_n6 R0 x5242 x5243 x5274).bind (fun (t : Int) => spec_l2Yield_n7 R0 t)

def spec_l2Yield_n9 (R0 : (List Int) → Int → Option Int) (x5242 : List Int) (x5243 : Int) : Option (Int) :=
  (spec_l2Yield_n1 R0 x5243).bind (fun (t : Int) => spec_l2Yield_n8 R0 x5242 x5243 t)

def spec_l2Yield_one (R0 : (List Int) → Int → Option Int) (x5242 : List Int) (x5243 : Int) : Option (Int) :=
  spec_l2Yield_n9 R0 x5242 x5243

def spec_l2Yield_knot : Nat → ((List Int) → Int → Option Int)
  | 0 => (fun _ _ => none)
  | n + 1 => (fun y0 y1 => spec_l2Yield_one (spec_l2Yield_knot n) y0 y1)

def spec_l2Yield_fuel (n : Nat) : (List Int) → Int → Option Int := (spec_l2Yield_knot n)

@[irreducible] def spec_l2Yield (x5242 : List Int) (x5243 : Int) : Option (Int) := spec_l2Yield_fuel RR x5242 x5243

def spec_l3Row_n1 : Option (Unit) :=
  some ()

def spec_l3Row_n2 (x5324 : Int) : Option (Int ⊕ Int) :=
  (rem x5324 2).bind fun (v5327 : Int) => cond (v5327 == 0) ((quo .i64 x5324 2).bind fun (v5329 : Int) => some (Sum.inl v5329)) (some (Sum.inr x5324))

def spec_l3Row_n3 (x5318 : Int) : Option (Int) :=
  nloop (fun (s : Int) => ((spec_l3Row_n2 s).map (Sum.elim (fun (t : Int) => Sum.inl t) (fun (t : Int) => Sum.inr t)) : Option ((Int) ⊕ (Int)))) LL x5318

def spec_l3Row_n4 (x5318 : Int) : Option (Int) :=
  (spec_l3Row_n3 x5318).map (fun (t : Int) => t)

def spec_l3Row_n5 (x5324 : Int) : Option (Bool) :=
  some ((iand .i64 x5324 (IntKind.wrap .i64 (x5324 + 1))) == 0)

def spec_l3Row_n6 (x5318 : Int) : Option (Bool) :=
  (spec_l3Row_n4 x5318).bind (fun (t : Int) => spec_l3Row_n5 t)

def spec_l3Row_n7 (x5318 : Int) : Option (Bool) :=
  (spec_l3Row_n1).bind (fun (t : Unit) => spec_l3Row_n6 x5318)

@[irreducible] def spec_l3Row (x5318 : Int) : Option (Bool) :=
  spec_l3Row_n7 x5318

def spec_FlatOk_n1 : Option (Unit) :=
  some ()

def spec_FlatOk_n2 : Option (Unit) :=
  some ()

def spec_FlatOk_n3 (x5094 : List Int) (x5345 : Int) : Option (Int ⊕ Bool ⊕ Unit) :=
  cond (decide (x5345 ≤ (((List.length x5094 : Nat) : Int)))) ((spec_TreeOk x5094).bind fun (v5357 : Bool) => cond v5357 ((spec_l2Yield x5094 x5345).bind fun (v5358 : Int) => (spec_l3Row v5358).bind fun (v5359 : Bool) => cond (!v5359) (some (Sum.inr (Sum.inl false))) (some (Sum.inl (IntKind.wrap .i64 (x5345 + 1))))) (some (Sum.inr (Sum.inr ())))) (some (Sum.inr (Sum.inr ())))

def spec_FlatOk_n4 (x5094 : List Int) : Option (Bool ⊕ Unit) :=
  nloop (fun (s : Int) => ((spec_FlatOk_n3 x5094 s).map (Sum.elim (fun (t : Int) => Sum.inl t) (Sum.elim (fun (t : Bool) => Sum.inr (Sum.inl t)) (fun (t : Unit) => Sum.inr (Sum.inr t)))) : Option ((Int) ⊕ (Bool ⊕ Unit)))) LL 1

def spec_FlatOk_n5 (x5094 : List Int) : Option (Unit ⊕ Bool) :=
  (spec_FlatOk_n4 x5094).map (Sum.elim (fun (t : Bool) => (Sum.inr t)) (fun (t : Unit) => (Sum.inl ())))

def spec_FlatOk_n6 (x5094 : List Int) : Option (Unit ⊕ Bool) :=
  (spec_FlatOk_n2).bind (fun (t : Unit) => spec_FlatOk_n5 x5094)

def spec_FlatOk_n7 (x5094 : List Int) : Option (Bool) :=
  (spec_TreeOk x5094).bind fun (v5363 : Bool) => some v5363

def spec_FlatOk_n8 (x5094 : List Int) : Option (Bool) :=
  (spec_FlatOk_n6 x5094).bind (Sum.elim (fun (t : Unit) => spec_FlatOk_n7 x5094) (fun e => some ((fun (t : Bool) => t) e)))

def spec_FlatOk_n9 (x5094 : List Int) : Option (Bool) :=
  (spec_FlatOk_n1).bind (fun (t : Unit) => spec_FlatOk_n8 x5094)

@[irreducible] def spec_FlatOk (x5094 : List Int) : Option (Bool) :=
  spec_FlatOk_n9 x5094

def spec_l6Free_n1 : Option (Unit) :=
  some ()

def spec_l6Free_n2 : Option (Unit) :=
  some ()

def spec_l6Free_n3 (x5407 : List Int) (x5408 : Int) (x5409 : List Bool) (x5427 : Int) : Option (Int ⊕ Bool ⊕ Unit) :=
  cond (decide (x5427 < (((List.length x5407 : Nat) : Int)))) ((idx x5407 x5427).bind fun (v5438 : Int) => cond (v5438 == x5408) ((idx x5409 x5427).bind fun (v5440 : Bool) => cond (!v5440) (some (Sum.inr (Sum.inl false))) (some (Sum.inl (IntKind.wrap .i64 (x5427 + 1))))) (some (Sum.inl (IntKind.wrap .i64 (x5427 + 1))))) (some (Sum.inr (Sum.inr ())))

def spec_l6Free_n4 (x5407 : List Int) (x5408 : Int) (x5409 : List Bool) : Option (Bool ⊕ Unit) :=
  nloop (fun (s : Int) => ((spec_l6Free_n3 x5407 x5408 x5409 s).map (Sum.elim (fun (t : Int) => Sum.inl t) (Sum.elim (fun (t : Bool) => Sum.inr (Sum.inl t)) (fun (t : Unit) => Sum.inr (Sum.inr t)))) : Option ((Int) ⊕ (Bool ⊕ Unit)))) LL 0

def spec_l6Free_n5 (x5407 : List Int) (x5408 : Int) (x5409 : List Bool) : Option (Unit ⊕ Bool) :=
  (spec_l6Free_n4 x5407 x5408 x5409).map (Sum.elim (fun (t : Bool) => (Sum.inr t)) (fun (t : Unit) => (Sum.inl ())))

def spec_l6Free_n6 (x5407 : List Int) (x5408 : Int) (x5409 : List Bool) : Option (Unit ⊕ Bool) :=
  (spec_l6Free_n2).bind (fun (t : Unit) => spec_l6Free_n5 x5407 x5408 x5409)

def spec_l6Free_n7 : Option (Bool) :=
  some true

def spec_l6Free_n8 (x5407 : List Int) (x5408 : Int) (x5409 : List Bool) : Option (Bool) :=
  (spec_l6Free_n6 x5407 x5408 x5409).bind (Sum.elim (fun (t : Unit) => spec_l6Free_n7) (fun e => some ((fun (t : Bool) => t) e)))

def spec_l6Free_n9 (x5407 : List Int) (x5408 : Int) (x5409 : List Bool) : Option (Bool) :=
  (spec_l6Free_n1).bind (fun (t : Unit) => spec_l6Free_n8 x5407 x5408 x5409)

@[irreducible] def spec_l6Free (x5407 : List Int) (x5408 : Int) (x5409 : List Bool) : Option (Bool) :=
  spec_l6Free_n9 x5407 x5408 x5409

def spec_MovesFor_n1 (x5093 : List Int) : Option (((List Bool)) ⊕ (ByteArray × Bool)) :=
  (spec_FlatOk x5093).bind fun (v5525 : Bool) => cond (!v5525) (some (Sum.inr (ByteArray.empty, false))) ((mk (((List.length x5093 : Nat) : Int)) (((List.length x5093 : Nat) : Int))).bind fun (v5528 : Nat) => some (Sum.inl (List.replicate v5528 false)))

def spec_MovesFor_n2 (x5093 : List Int) (x5927 : ByteArray) (x5928 : Int) (x5930 : List Int) : Option (Unit ⊕ ByteArray) :=
  cond (decide (x5928 ≤ (((List.length x5093 : Nat) : Int)))) (some (Sum.inl ())) (cond (decide ((((List.length x5930 : Nat) : Int)) > 1)) (some (Sum.inl ())) (some (Sum.inr x5927)))

def spec_MovesFor_n3 (x5093 : List Int) (x5927 : ByteArray) (x5928 : Int) (x5929 : List Bool) (x5930 : List Int) : Option ((ByteArray × Int × (List Bool) × (List Int))) :=
  cond (decide ((IntKind.wrap .i64 ((((List.length x5930 : Nat) : Int)) - 1)) ≥ 1)) ((inb (IntKind.wrap .i64 ((IntKind.wrap .i64 ((((List.length x5930 : Nat) : Int)) - 1)) - 1)) (List.length x5930)).bind fun (v6165 : Nat) => (x5930[v6165]?).bind fun (v6166 : Int) => (idx x5093 (IntKind.wrap .i64 (v6166 - 1))).bind fun (v6168 : Int) => (inb (IntKind.wrap .i64 ((((List.length x5930 : Nat) : Int)) - 1)) (List.length x5930)).bind fun (v6169 : Nat) => (x5930[v6169]?).bind fun (v6170 : Int) => cond (v6168 == v6170) ((inb (IntKind.wrap .i64 ((IntKind.wrap .i64 ((((List.length x5930 : Nat) : Int)) - 1)) - 1)) (List.length x5930)).bind fun (v6173 : Nat) => (x5930[v6173]?).bind fun (v6174 : Int) => (spec_l6Free x5093 v6174 x5929).bind fun (v6175 : Bool) => cond v6175 ((cat x5927 (ByteArray.mk #[76])).bind fun (v6176 : ByteArray) => (inb (IntKind.wrap .i64 ((IntKind.wrap .i64 ((((List.length x5930 : Nat) : Int)) - 1)) - 1)) (List.length x5930)).bind fun (v6178 : Nat) => (x5930[v6178]?).bind fun (v6179 : Int) => (inb (IntKind.wrap .i64 (v6179 - 1)) (List.length x5929)).bind fun (v6181 : Nat) => (inc (IntKind.wrap .i64 ((IntKind.wrap .i64 ((((List.length x5930 : Nat) : Int)) - 1)) - 1)) (List.length x5930)).bind fun (v6185 : Nat) => (inb (IntKind.wrap .i64 ((((List.length x5930 : Nat) : Int)) - 1)) (List.length x5930)).bind fun (v6187 : Nat) => (x5930[v6187]?).bind fun (v6188 : Int) => (room (List.length ((x5930.drop 0).take (v6185 - 0)))).bind fun (v6191 : Unit) => (room ((List.length ((x5930.drop 0).take (v6185 - 0))) + List.length ([v6188]))).bind fun (v6193 : Unit) => some (v6176, x5928, (x5929.set v6181 true), (((x5930.drop 0).take (v6185 - 0)) ++ ([v6188])))) (cond (decide ((IntKind.wrap .i64 ((((List.length x5930 : Nat) : Int)) - 1)) ≥ 1)) ((inb (IntKind.wrap .i64 ((((List.length x5930 : Nat) : Int)) - 1)) (List.length x5930)).bind fun (v6196 : Nat) => (x5930[v6196]?).bind fun (v6197 : Int) => (idx x5093 (IntKind.wrap .i64 (v6197 - 1))).bind fun (v6199 : Int) => (inb (IntKind.wrap .i64 ((IntKind.wrap .i64 ((((List.length x5930 : Nat) : Int)) - 1)) - 1)) (List.length x5930)).bind fun (v6201 : Nat) => (x5930[v6201]?).bind fun (v6202 : Int) => cond (v6199 == v6202) ((inb (IntKind.wrap .i64 ((((List.length x5930 : Nat) : Int)) - 1)) (List.length x5930)).bind fun (v6204 : Nat) => (x5930[v6204]?).bind fun (v6205 : Int) => (spec_l6Free x5093 v6205 x5929).bind fun (v6206 : Bool) => cond v6206 ((cat x5927 (ByteArray.mk #[82])).bind fun (v6207 : ByteArray) => (inb (IntKind.wrap .i64 ((((List.length x5930 : Nat) : Int)) - 1)) (List.length x5930)).bind fun (v6208 : Nat) => (x5930[v6208]?).bind fun (v6209 : Int) => (inb (IntKind.wrap .i64 (v6209 - 1)) (List.length x5929)).bind fun (v6211 : Nat) => (inc (IntKind.wrap .i64 ((((List.length x5930 : Nat) : Int)) - 1)) (List.length x5930)).bind fun (v6214 : Nat) => (room ((List.length ([] : List Int)) + List.length ((x5930.drop 0).take (v6214 - 0)))).bind fun (v6218 : Unit) => some (v6207, x5928, (x5929.set v6211 true), (([] : List Int) ++ ((x5930.drop 0).take (v6214 - 0))))) ((cat x5927 (ByteArray.mk #[83])).bind fun (v6220 : ByteArray) => (room ((List.length x5930) + List.length ([x5928]))).bind fun (v6223 : Unit) => some (v6220, (IntKind.wrap .i64 (x5928 + 1)), x5929, (x5930 ++ ([x5928]))))) ((cat x5927 (ByteArray.mk #[83])).bind fun (v6226 : ByteArray) => (room ((List.length x5930) + List.length ([x5928]))).bind fun (v6229 : Unit) => some (v6226, (IntKind.wrap .i64 (x5928 + 1)), x5929, (x5930 ++ ([x5928]))))) ((cat x5927 (ByteArray.mk #[83])).bind fun (v6232 : ByteArray) => (room ((List.length x5930) + List.length ([x5928]))).bind fun (v6235 : Unit) => some (v6232, (IntKind.wrap .i64 (x5928 + 1)), x5929, (x5930 ++ ([x5928])))))) (cond (decide ((IntKind.wrap .i64 ((((List.length x5930 : Nat) : Int)) - 1)) ≥ 1)) ((inb (IntKind.wrap .i64 ((((List.length x5930 : Nat) : Int)) - 1)) (List.length x5930)).bind fun (v6239 : Nat) => (x5930[v6239]?).bind fun (v6240 : Int) => (idx x5093 (IntKind.wrap .i64 (v6240 - 1))).bind fun (v6242 : Int) => (inb (IntKind.wrap .i64 ((IntKind.wrap .i64 ((((List.length x5930 : Nat) : Int)) - 1)) - 1)) (List.length x5930)).bind fun (v6244 : Nat) => (x5930[v6244]?).bind fun (v6245 : Int) => cond (v6242 == v6245) ((inb (IntKind.wrap .i64 ((((List.length x5930 : Nat) : Int)) - 1)) (List.length x5930)).bind fun (v6247 : Nat) => (x5930[v6247]?).bind fun (v6248 : Int) => (spec_l6Free x5093 v6248 x5929).bind fun (v6249 : Bool) => cond v6249 ((cat x5927 (ByteArray.mk #[82])).bind fun (v6250 : ByteArray) => (inb (IntKind.wrap .i64 ((((List.length x5930 : Nat) : Int)) - 1)) (List.length x5930)).bind fun (v6251 : Nat) => (x5930[v6251]?).bind fun (v6252 : Int) => (inb (IntKind.wrap .i64 (v6252 - 1)) (List.length x5929)).bind fun (v6254 : Nat) => (inc (IntKind.wrap .i64 ((((List.length x5930 : Nat) : Int)) - 1)) (List.length x5930)).bind fun (v6257 : Nat) => (room ((List.length ([] : List Int)) + List.length ((x5930.drop 0).take (v6257 - 0)))).bind fun (v6261 : Unit) => some (v6250, x5928, (x5929.set v6254 true), (([] : List Int) ++ ((x5930.drop 0).take (v6257 - 0))))) ((cat x5927 (ByteArray.mk #[83])).bind fun (v6263 : ByteArray) => (room ((List.length x5930) + List.length ([x5928]))).bind fun (v6266 : Unit) => some (v6263, (IntKind.wrap .i64 (x5928 + 1)), x5929, (x5930 ++ ([x5928]))))) ((cat x5927 (ByteArray.mk #[83])).bind fun (v6269 : ByteArray) => (room ((List.length x5930) + List.length ([x5928]))).bind fun (v6272 : Unit) => some (v6269, (IntKind.wrap .i64 (x5928 + 1)), x5929, (x5930 ++ ([x5928]))))) ((cat x5927 (ByteArray.mk #[83])).bind fun (v6275 : ByteArray) => (room ((List.length x5930) + List.length ([x5928]))).bind fun (v6278 : Unit) => some (v6275, (IntKind.wrap .i64 (x5928 + 1)), x5929, (x5930 ++ ([x5928])))))) (cond (decide ((IntKind.wrap .i64 ((((List.length x5930 : Nat) : Int)) - 1)) ≥ 1)) ((inb (IntKind.wrap .i64 ((((List.length x5930 : Nat) : Int)) - 1)) (List.length x5930)).bind fun (v6282 : Nat) => (x5930[v6282]?).bind fun (v6283 : Int) => (idx x5093 (IntKind.wrap .i64 (v6283 - 1))).bind fun (v6285 : Int) => (inb (IntKind.wrap .i64 ((IntKind.wrap .i64 ((((List.length x5930 : Nat) : Int)) - 1)) - 1)) (List.length x5930)).bind fun (v6287 : Nat) => (x5930[v6287]?).bind fun (v6288 : Int) => cond (v6285 == v6288) ((inb (IntKind.wrap .i64 ((((List.length x5930 : Nat) : Int)) - 1)) (List.length x5930)).bind fun (v6290 : Nat) => (x5930[v6290]?).bind fun (v6291 : Int) => (spec_l6Free x5093 v6291 x5929).bind fun (v6292 : Bool) => cond v6292 ((cat x5927 (ByteArray.mk #[82])).bind fun (v6293 : ByteArray) => (inb (IntKind.wrap .i64 ((((List.length x5930 : Nat) : Int)) - 1)) (List.length x5930)).bind fun (v6294 : Nat) => (x5930[v6294]?).bind fun (v6295 : Int) => (inb (IntKind.wrap .i64 (v6295 - 1)) (List.length x5929)).bind fun (v6297 : Nat) => (inc (IntKind.wrap .i64 ((((List.length x5930 : Nat) : Int)) - 1)) (List.length x5930)).bind fun (v6300 : Nat) => (room ((List.length ([] : List Int)) + List.length ((x5930.drop 0).take (v6300 - 0)))).bind fun (v6304 : Unit) => some (v6293, x5928, (x5929.set v6297 true), (([] : List Int) ++ ((x5930.drop 0).take (v6300 - 0))))) ((cat x5927 (ByteArray.mk #[83])).bind fun (v6306 : ByteArray) => (room ((List.length x5930) + List.length ([x5928]))).bind fun (v6309 : Unit) => some (v6306, (IntKind.wrap .i64 (x5928 + 1)), x5929, (x5930 ++ ([x5928]))))) ((cat x5927 (ByteArray.mk #[83])).bind fun (v6312 : ByteArray) => (room ((List.length x5930) + List.length ([x5928]))).bind fun (v6315 : Unit) => some (v6312, (IntKind.wrap .i64 (x5928 + 1)), x5929, (x5930 ++ ([x5928]))))) ((cat x5927 (ByteArray.mk #[83])).bind fun (v6318 : ByteArray) => (room ((List.length x5930) + List.length ([x5928]))).bind fun (v6321 : Unit) => some (v6318, (IntKind.wrap .i64 (x5928 + 1)), x5929, (x5930 ++ ([x5928])))))

def spec_MovesFor_n4 (x5093 : List Int) (x5927 : ByteArray) (x5928 : Int) (x5929 : List Bool) (x5930 : List Int) : Option ((ByteArray × Int × (List Bool) × (List Int)) ⊕ ByteArray) :=
  (spec_MovesFor_n2 x5093 x5927 x5928 x5930).bind (Sum.elim (fun (t : Unit) => (spec_MovesFor_n3 x5093 x5927 x5928 x5929 x5930).map (fun (t : ByteArray × Int × (List Bool) × (List Int)) => (Sum.inl (t.1, t.2.1, t.2.2.1, t.2.2.2)))) (fun e => some ((fun (t : ByteArray) => (Sum.inr t)) e)))

def spec_MovesFor_n5 (x5093 : List Int) (x5529 : List Bool) : Option (ByteArray) :=
  nloop (fun (s : ByteArray × Int × (List Bool) × (List Int)) => ((spec_MovesFor_n4 x5093 s.1 s.2.1 s.2.2.1 s.2.2.2).map (Sum.elim (fun (t : ByteArray × Int × (List Bool) × (List Int)) => Sum.inl (t.1, t.2.1, t.2.2.1, t.2.2.2)) (fun (t : ByteArray) => Sum.inr t)) : Option ((ByteArray × Int × (List Bool) × (List Int)) ⊕ (ByteArray)))) LL (ByteArray.empty, 1, x5529, ([] : List Int))

def spec_MovesFor_n6 (x5093 : List Int) (x5529 : List Bool) : Option (ByteArray) :=
  (spec_MovesFor_n5 x5093 x5529).map (fun (t : ByteArray) => t)

def spec_MovesFor_n7 (x5927 : ByteArray) : Option ((ByteArray × Bool)) :=
  some (x5927, true)

def spec_MovesFor_n8 (x5093 : List Int) (x5529 : List Bool) : Option ((ByteArray × Bool)) :=
  (spec_MovesFor_n6 x5093 x5529).bind (fun (t : ByteArray) => spec_MovesFor_n7 t)

def spec_MovesFor_n9 (x5093 : List Int) : Option ((ByteArray × Bool)) :=
  (spec_MovesFor_n1 x5093).bind (Sum.elim (fun (t : (List Bool)) => spec_MovesFor_n8 x5093 t) (fun e => some ((fun (t : ByteArray × Bool) => t) e)))

@[irreducible] def spec_MovesFor (x5093 : List Int) : Option (ByteArray × Bool) :=
  spec_MovesFor_n9 x5093

def spec_l7Rule_n1 (x6596 : List Int) (x6597 : List Int) (x6598 : Int) : Option (Int ⊕ ByteArray) :=
  cond (decide ((IntKind.wrap .i64 ((((List.length x6597 : Nat) : Int)) - 1)) < 0)) (some (Sum.inr (ByteArray.mk #[83]))) ((idx x6597 (IntKind.wrap .i64 ((((List.length x6597 : Nat) : Int)) - 1))).bind fun (v6611 : Int) => (idx x6596 (IntKind.wrap .i64 (v6611 - 1))).bind fun (v6613 : Int) => cond (v6613 == x6598) (some (Sum.inr (ByteArray.mk #[76]))) ((idx x6596 (IntKind.wrap .i64 (x6598 - 1))).bind fun (v6616 : Int) => cond (v6616 == v6611) (some (Sum.inr (ByteArray.mk #[82]))) (some (Sum.inl (IntKind.wrap .i64 ((((List.length x6597 : Nat) : Int)) - 1))))))

def spec_l7Rule_n2 : Option (Unit) :=
  some ()

def spec_l7Rule_n3 (x6596 : List Int) (x6597 : List Int) (x6598 : Int) (x6609 : Int) (x6639 : Int) : Option (Int ⊕ ByteArray ⊕ Unit) :=
  cond (decide (x6639 < x6609)) ((idx x6596 (IntKind.wrap .i64 (x6598 - 1))).bind fun (v6652 : Int) => (idx x6597 x6639).bind fun (v6653 : Int) => cond (v6652 == v6653) (some (Sum.inr (Sum.inl (ByteArray.mk #[68])))) ((idx x6597 x6639).bind fun (v6655 : Int) => (idx x6596 (IntKind.wrap .i64 (v6655 - 1))).bind fun (v6657 : Int) => cond (v6657 == x6598) (some (Sum.inr (Sum.inl (ByteArray.mk #[68])))) (some (Sum.inl (IntKind.wrap .i64 (x6639 + 1)))))) (some (Sum.inr (Sum.inr ())))

def spec_l7Rule_n4 (x6596 : List Int) (x6597 : List Int) (x6598 : Int) (x6609 : Int) : Option (ByteArray ⊕ Unit) :=
  nloop (fun (s : Int) => ((spec_l7Rule_n3 x6596 x6597 x6598 x6609 s).map (Sum.elim (fun (t : Int) => Sum.inl t) (Sum.elim (fun (t : ByteArray) => Sum.inr (Sum.inl t)) (fun (t : Unit) => Sum.inr (Sum.inr t)))) : Option ((Int) ⊕ (ByteArray ⊕ Unit)))) LL 0

def spec_l7Rule_n5 (x6596 : List Int) (x6597 : List Int) (x6598 : Int) (x6609 : Int) : Option (Unit ⊕ ByteArray) :=
  (spec_l7Rule_n4 x6596 x6597 x6598 x6609).map (Sum.elim (fun (t : ByteArray) => (Sum.inr t)) (fun (t : Unit) => (Sum.inl ())))

def spec_l7Rule_n6 (x6596 : List Int) (x6597 : List Int) (x6598 : Int) (x6609 : Int) : Option (Unit ⊕ ByteArray) :=
  (spec_l7Rule_n2).bind (fun (t : Unit) => spec_l7Rule_n5 x6596 x6597 x6598 x6609)

def spec_l7Rule_n7 : Option (ByteArray) :=
  some (ByteArray.mk #[83])

def spec_l7Rule_n8 (x6596 : List Int) (x6597 : List Int) (x6598 : Int) (x6609 : Int) : Option (ByteArray) :=
  (spec_l7Rule_n6 x6596 x6597 x6598 x6609).bind (Sum.elim (fun (t : Unit) => spec_l7Rule_n7) (fun e => some ((fun (t : ByteArray) => t) e)))

def spec_l7Rule_n9 (x6596 : List Int) (x6597 : List Int) (x6598 : Int) : Option (ByteArray) :=
  (spec_l7Rule_n1 x6596 x6597 x6598).bind (Sum.elim (fun (t : Int) => spec_l7Rule_n8 x6596 x6597 x6598 t) (fun e => some ((fun (t : ByteArray) => t) e)))

@[irreducible] def spec_l7Rule (x6596 : List Int) (x6597 : List Int) (x6598 : Int) : Option (ByteArray) :=
  spec_l7Rule_n9 x6596 x6597 x6598

def spec_l7Step_n1 (x6663 : List Int) : Option (Int) :=
  some (IntKind.wrap .i64 ((((List.length x6663 : Nat) : Int)) - 1))

def spec_l7Step_n2 (x6664 : Int) (x6665 : Int) (x6666 : List Int) : Option (Bool) :=
  cond (x6665 == 83) (some (decide (x6664 ≤ (((List.length x6666 : Nat) : Int))))) (some false)

def spec_l7Step_n3 (x6663 : List Int) (x6664 : Int) (x6666 : List Int) : Option (((List Int) × Int × Bool × (List Int))) :=
  (room ((List.length ([] : List Int)) + List.length x6663)).bind fun (v7548 : Unit) => (room ((List.length (([] : List Int) ++ x6663)) + List.length ([x6664]))).bind fun (v7552 : Unit) => some (((([] : List Int) ++ x6663) ++ ([x6664])), (IntKind.wrap .i64 (x6664 + 1)), true, x6666)

def spec_l7Step_n4 (x6663 : List Int) (x6664 : Int) (x6665 : Int) (x7195 : Int) (x6666 : List Int) : Option (Bool) :=
  cond (x6665 == 76) (cond (decide (x6664 ≤ (((List.length x6666 : Nat) : Int)))) (cond (decide (x7195 ≥ 0)) ((idx x6663 x7195).bind fun (v7559 : Int) => (inb (IntKind.wrap .i64 (v7559 - 1)) (List.length x6666)).bind fun (v7561 : Nat) => (x6666[v7561]?).bind fun (v7562 : Int) => some (decide (v7562 < 0))) (some false)) (some false)) (some false)

def spec_l7Step_n5 (x6663 : List Int) (x6664 : Int) (x6665 : Int) (x7195 : Int) (x7654 : Bool) (x6666 : List Int) : Option (Unit ⊕ ((List Int) × Int × Bool × (List Int))) :=
  cond x7654 ((idx x6663 x7195).bind fun (v7655 : Int) => (inb (IntKind.wrap .i64 (v7655 - 1)) (List.length x6666)).bind fun (v7657 : Nat) => (inc x7195 (List.length x6663)).bind fun (v7660 : Nat) => (room ((List.length ([] : List Int)) + List.length ((x6663.take v7660).drop 0))).bind fun (v7663 : Unit) => some (Sum.inr ((([] : List Int) ++ ((x6663.take v7660).drop 0)), x6664, true, (x6666.set v7657 x6664)))) (cond (x6665 == 82) (cond (decide (x6664 ≤ (((List.length x6666 : Nat) : Int)))) (cond (decide (x7195 ≥ 0)) ((idx x6663 x7195).bind fun (v7670 : Int) => (inb (IntKind.wrap .i64 (x6664 - 1)) (List.length x6666)).bind fun (v7671 : Nat) => (room ((List.length ([] : List Int)) + List.length x6663)).bind fun (v7674 : Unit) => (room ((List.length (([] : List Int) ++ x6663)) + List.length ([x6664]))).bind fun (v7678 : Unit) => some (Sum.inr (((([] : List Int) ++ x6663) ++ ([x6664])), (IntKind.wrap .i64 (x6664 + 1)), true, (x6666.set v7671 v7670)))) (cond (x6665 == 68) (cond (decide (x7195 ≥ 0)) ((idx x6663 x7195).bind fun (v7683 : Int) => (inb (IntKind.wrap .i64 (v7683 - 1)) (List.length x6666)).bind fun (v7685 : Nat) => (x6666[v7685]?).bind fun (v7686 : Int) => cond (decide (v7686 > 0)) ((inc x7195 (List.length x6663)).bind fun (v7689 : Nat) => (room ((List.length ([] : List Int)) + List.length ((x6663.take v7689).drop 0))).bind fun (v7692 : Unit) => some (Sum.inr ((([] : List Int) ++ ((x6663.take v7689).drop 0)), x6664, true, x6666))) (some (Sum.inl ()))) (some (Sum.inl ()))) (some (Sum.inl ())))) (cond (x6665 == 68) (cond (decide (x7195 ≥ 0)) ((idx x6663 x7195).bind fun (v7696 : Int) => (inb (IntKind.wrap .i64 (v7696 - 1)) (List.length x6666)).bind fun (v7698 : Nat) => (x6666[v7698]?).bind fun (v7699 : Int) => cond (decide (v7699 > 0)) ((inc x7195 (List.length x6663)).bind fun (v7702 : Nat) => (room ((List.length ([] : List Int)) + List.length ((x6663.take v7702).drop 0))).bind fun (v7705 : Unit) => some (Sum.inr ((([] : List Int) ++ ((x6663.take v7702).drop 0)), x6664, true, x6666))) (some (Sum.inl ()))) (some (Sum.inl ()))) (some (Sum.inl ())))) (cond (x6665 == 68) (cond (decide (x7195 ≥ 0)) ((idx x6663 x7195).bind fun (v7709 : Int) => (inb (IntKind.wrap .i64 (v7709 - 1)) (List.length x6666)).bind fun (v7711 : Nat) => (x6666[v7711]?).bind fun (v7712 : Int) => cond (decide (v7712 > 0)) ((inc x7195 (List.length x6663)).bind fun (v7715 : Nat) => (room ((List.length ([] : List Int)) + List.length ((x6663.take v7715).drop 0))).bind fun (v7718 : Unit) => some (Sum.inr ((([] : List Int) ++ ((x6663.take v7715).drop 0)), x6664, true, x6666))) (some (Sum.inl ()))) (some (Sum.inl ()))) (some (Sum.inl ()))))

def spec_l7Step_n6 (x6663 : List Int) (x6664 : Int) (x6665 : Int) (x7195 : Int) (x6666 : List Int) : Option (Unit ⊕ ((List Int) × Int × Bool × (List Int))) :=
  (spec_l7Step_n4 x6663 x6664 x6665 x7195 x6666).bind (fun (t : Bool) => spec_l7Step_n5 x6663 x6664 x6665 x7195 t x6666)

def spec_l7Step_n7 (x6663 : List Int) (x6664 : Int) (x6665 : Int) (x7195 : Int) (x7456 : Bool) (x6666 : List Int) : Option (Unit ⊕ ((List Int) × Int × Bool × (List Int))) :=
  cond x7456 ((spec_l7Step_n3 x6663 x6664 x6666).map (fun (t : (List Int) × Int × Bool × (List Int)) => (Sum.inr t))) (spec_l7Step_n6 x6663 x6664 x6665 x7195 x6666)

def spec_l7Step_n8 (x6663 : List Int) (x6664 : Int) (x6665 : Int) (x7195 : Int) (x6666 : List Int) : Option (Unit ⊕ ((List Int) × Int × Bool × (List Int))) :=
  (spec_l7Step_n2 x6664 x6665 x6666).bind (fun (t : Bool) => spec_l7Step_n7 x6663 x6664 x6665 x7195 t x6666)

def spec_l7Step_n9 (x6663 : List Int) (x6664 : Int) (x6665 : Int) (x7195 : Int) (x6666 : List Int) : Option (Unit ⊕ ((List Int) × Int × Bool × (List Int))) :=
  (spec_l7Step_n8 x6663 x6664 x6665 x7195 x6666).map (Sum.elim (fun (t : Unit) => (Sum.inl ())) (fun (t : (List Int) × Int × Bool × (List Int)) => (Sum.inr t)))

def spec_l7Step_n10 (x6663 : List Int) (x6664 : Int) (x6666 : List Int) : Option (((List Int) × Int × Bool × (List Int))) :=
  some (x6663, x6664, false, x6666)

def spec_l7Step_n11 (x6663 : List Int) (x6664 : Int) (x6665 : Int) (x7195 : Int) (x6666 : List Int) : Option (((List Int) × Int × Bool × (List Int))) :=
  (spec_l7Step_n9 x6663 x6664 x6665 x7195 x6666).bind (Sum.elim (fun (t : Unit) => spec_l7Step_n10 x6663 x6664 x6666) (fun e => some ((fun (t : (List Int) × Int × Bool × (List Int)) => t) e)))

def spec_l7Step_n12 (x6663 : List Int) (x6664 : Int) (x6665 : Int) (x6666 : List Int) : Option (((List Int) × Int × Bool × (List Int))) :=
  (spec_l7Step_n1 x6663).bind (fun (t : Int) => spec_l7Step_n11 x6663 x6664 x6665 t x6666)

@[irreducible] def spec_l7Step (x6663 : List Int) (x6664 : Int) (x6665 : Int) (x6666 : List Int) : Option ((List Int) × Int × Bool × (List Int)) :=
  spec_l7Step_n12 x6663 x6664 x6665 x6666

def spec_EagerFor_n1 (x6555 : List Int) : Option (Unit ⊕ (ByteArray × Bool)) :=
  (spec_FlatOk x6555).bind fun (v7775 : Bool) => cond (!v7775) (some (Sum.inr (ByteArray.empty, false))) (some (Sum.inl ()))

def spec_EagerFor_n2 : Option (Unit) :=
  some ()

def spec_EagerFor_n3 (x6555 : List Int) (x7792 : Int) (x7793 : List Int) : Option ((Int × (List Int)) ⊕ ((List Int))) :=
  cond (decide (x7792 < (((List.length x6555 : Nat) : Int)))) ((room ((List.length x7793) + List.length ([(-1)]))).bind fun (v7806 : Unit) => some (Sum.inl ((IntKind.wrap .i64 (x7792 + 1)), (x7793 ++ ([(-1)]))))) (some (Sum.inr x7793))

def spec_EagerFor_n4 (x6555 : List Int) : Option (((List Int))) :=
  nloop (fun (s : Int × (List Int)) => ((spec_EagerFor_n3 x6555 s.1 s.2).map (Sum.elim (fun (t : Int × (List Int)) => Sum.inl (t.1, t.2)) (fun (t : (List Int)) => Sum.inr t)) : Option ((Int × (List Int)) ⊕ (((List Int)))))) LL (0, ([] : List Int))

def spec_EagerFor_n5 (x6555 : List Int) : Option (((List Int))) :=
  (spec_EagerFor_n4 x6555).map (fun (t : (List Int)) => t)

def spec_EagerFor_n6 (x6555 : List Int) : Option (((List Int))) :=
  (spec_EagerFor_n2).bind (fun (t : Unit) => spec_EagerFor_n5 x6555)

def spec_EagerFor_n7 : Option (Unit) :=
  some ()

def spec_EagerFor_n8 (x6555 : List Int) (x7822 : List Int) (x7823 : ByteArray) (x7824 : Int) (x7825 : List Int) : Option (((List Int) × ByteArray × Int × (List Int)) ⊕ (ByteArray × Bool) ⊕ ByteArray) :=
  cond (decide (x7824 ≤ (((List.length x6555 : Nat) : Int)))) ((spec_l7Rule x6555 x7822 x7824).bind fun (v7830 : ByteArray) => (bidx v7830 0).bind fun (v7831 : Int) => (spec_l7Step x7822 x7824 v7831 x7825).bind fun (v7832 : (List Int) × Int × Bool × (List Int)) => cond (!(v7832.2.2.1)) (some (Sum.inr (Sum.inl (ByteArray.empty, false)))) ((cat x7823 v7830).bind fun (v7838 : ByteArray) => some (Sum.inl ((v7832.1), v7838, (v7832.2.1), (v7832.2.2.2))))) (some (Sum.inr (Sum.inr x7823)))

def spec_EagerFor_n9 (x6555 : List Int) (x7793 : List Int) : Option ((ByteArray × Bool) ⊕ ByteArray) :=
  nloop (fun (s : (List Int) × ByteArray × Int × (List Int)) => ((spec_EagerFor_n8 x6555 s.1 s.2.1 s.2.2.1 s.2.2.2).map (Sum.elim (fun (t : (List Int) × ByteArray × Int × (List Int)) => Sum.inl (t.1, t.2.1, t.2.2.1, t.2.2.2)) (Sum.elim (fun (t : ByteArray × Bool) => Sum.inr (Sum.inl t)) (fun (t : ByteArray) => Sum.inr (Sum.inr t)))) : Option (((List Int) × ByteArray × Int × (List Int)) ⊕ ((ByteArray × Bool) ⊕ ByteArray)))) LL (([] : List Int), ByteArray.empty, 1, x7793)

def spec_EagerFor_n10 (x6555 : List Int) (x7793 : List Int) : Option (ByteArray ⊕ (ByteArray × Bool)) :=
  (spec_EagerFor_n9 x6555 x7793).map (Sum.elim (fun (t : ByteArray × Bool) => (Sum.inr t)) (fun (t : ByteArray) => (Sum.inl t)))

def spec_EagerFor_n11 (x7823 : ByteArray) : Option ((ByteArray × Bool)) :=
  some (x7823, true)

def spec_EagerFor_n12 (x6555 : List Int) (x7793 : List Int) : Option ((ByteArray × Bool)) :=
  (spec_EagerFor_n10 x6555 x7793).bind (Sum.elim (fun (t : ByteArray) => spec_EagerFor_n11 t) (fun e => some ((fun (t : ByteArray × Bool) => t) e)))

def spec_EagerFor_n13 (x6555 : List Int) (x7793 : List Int) : Option ((ByteArray × Bool)) :=
  (spec_EagerFor_n7).bind (fun (t : Unit) => spec_EagerFor_n12 x6555 x7793)

def spec_EagerFor_n14 (x6555 : List Int) : Option ((ByteArray × Bool)) :=
  (spec_EagerFor_n6 x6555).bind (fun (t : (List Int)) => spec_EagerFor_n13 x6555 t)

def spec_EagerFor_n15 (x6555 : List Int) : Option ((ByteArray × Bool)) :=
  (spec_EagerFor_n1 x6555).bind (Sum.elim (fun (t : Unit) => spec_EagerFor_n14 x6555) (fun e => some ((fun (t : ByteArray × Bool) => t) e)))

@[irreducible] def spec_EagerFor (x6555 : List Int) : Option (ByteArray × Bool) :=
  spec_EagerFor_n15 x6555

def spec_l20Eager_n1 : Option (Unit) :=
  some ()

def spec_l20Eager_n2 : Option (Unit) :=
  some ()

def spec_l20Eager_n3 (x7866 : Int) (x10438 : Int) (x10439 : List Int) : Option ((Int × (List Int)) ⊕ ((List Int))) :=
  cond (decide (x10438 < x7866)) ((room ((List.length x10439) + List.length ([(-1)]))).bind fun (v10449 : Unit) => some (Sum.inl ((IntKind.wrap .i64 (x10438 + 1)), (x10439 ++ ([(-1)]))))) (some (Sum.inr x10439))

def spec_l20Eager_n4 (x7866 : Int) : Option (((List Int))) :=
  nloop (fun (s : Int × (List Int)) => ((spec_l20Eager_n3 x7866 s.1 s.2).map (Sum.elim (fun (t : Int × (List Int)) => Sum.inl (t.1, t.2)) (fun (t : (List Int)) => Sum.inr t)) : Option ((Int × (List Int)) ⊕ (((List Int)))))) LL (0, ([] : List Int))

def spec_l20Eager_n5 (x7866 : Int) : Option (((List Int))) :=
  (spec_l20Eager_n4 x7866).map (fun (t : (List Int)) => t)

def spec_l20Eager_n6 (x7866 : Int) : Option (((List Int))) :=
  (spec_l20Eager_n2).bind (fun (t : Unit) => spec_l20Eager_n5 x7866)

def spec_l20Eager_n7 : Option (Unit) :=
  some ()

def spec_l20Eager_n8 : Option (Unit) :=
  some ()

def spec_l20Eager_n9 (x7866 : Int) (x10789 : ByteArray) (x10790 : Int) (x10791 : Int) (x10792 : Int) : Option (Unit ⊕ (ByteArray × Int)) :=
  cond (decide (x10791 < 30)) (cond (decide (x10790 ≤ x7866)) (some (Sum.inl ())) (some (Sum.inr (x10789, x10792)))) (some (Sum.inr (x10789, x10792)))

def spec_l20Eager_n10 (x10788 : List Int) (x10791 : Int) (x7867 : List Int) (x10792 : Int) : Option ((ByteArray × Int)) :=
  (spec_l20Rd_pick 6 x7867 x10792).bind fun (v10970 : Int × Int) => (inb (v10970.1) (List.length ([(ByteArray.mk #[83]), (ByteArray.mk #[76]), (ByteArray.mk #[82]), (ByteArray.mk #[68]), (ByteArray.mk #[82]), (ByteArray.mk #[76])]))).bind fun (v10973 : Nat) => (([(ByteArray.mk #[83]), (ByteArray.mk #[76]), (ByteArray.mk #[82]), (ByteArray.mk #[68]), (ByteArray.mk #[82]), (ByteArray.mk #[76])])[v10973]?).bind fun (v10974 : ByteArray) => cond (decide (x10791 > 20)) (cond ((((List.length x10788 : Nat) : Int)) == 0) (some ((ByteArray.mk #[83]), (v10970.2))) (some ((ByteArray.mk #[82]), (v10970.2)))) (cond ((((List.length x10788 : Nat) : Int)) == 0) (some ((ByteArray.mk #[83]), (v10970.2))) (some (v10974, (v10970.2))))

def spec_l20Eager_n11 (x10788 : List Int) (x10789 : ByteArray) (x10790 : Int) (x11019 : ByteArray) (x7867 : List Int) (x10972 : Int) (x10793 : List Int) : Option (((List Int) × ByteArray × Int × Int × (List Int))) :=
  cond (seqs x11019 (ByteArray.mk #[83])) (cond (decide ((((List.length x10788 : Nat) : Int)) > 0)) ((spec_l20Rd_pick 2 x7867 x10972).bind fun (v11092 : Int × Int) => cond ((v11092.1) == 0) ((bidx (ByteArray.mk #[82]) 0).bind fun (v11096 : Int) => (spec_l7Step x10788 x10790 v11096 x10793).bind fun (v11097 : (List Int) × Int × Bool × (List Int)) => cond (v11097.2.2.1) ((cat x10789 (ByteArray.mk #[82])).bind fun (v11102 : ByteArray) => some ((v11097.1), v11102, (v11097.2.1), (v11092.2), (v11097.2.2.2))) (some (x10788, x10789, x10790, (v11092.2), (v11097.2.2.2)))) ((bidx x11019 0).bind fun (v11103 : Int) => (spec_l7Step x10788 x10790 v11103 x10793).bind fun (v11104 : (List Int) × Int × Bool × (List Int)) => cond (v11104.2.2.1) ((cat x10789 x11019).bind fun (v11109 : ByteArray) => some ((v11104.1), v11109, (v11104.2.1), (v11092.2), (v11104.2.2.2))) (some (x10788, x10789, x10790, (v11092.2), (v11104.2.2.2))))) ((bidx x11019 0).bind fun (v11110 : Int) => (spec_l7Step x10788 x10790 v11110 x10793).bind fun (v11111 : (List Int) × Int × Bool × (List Int)) => cond (v11111.2.2.1) ((cat x10789 x11019).bind fun (v11116 : ByteArray) => some ((v11111.1), v11116, (v11111.2.1), x10972, (v11111.2.2.2))) (some (x10788, x10789, x10790, x10972, (v11111.2.2.2))))) ((bidx x11019 0).bind fun (v11117 : Int) => (spec_l7Step x10788 x10790 v11117 x10793).bind fun (v11118 : (List Int) × Int × Bool × (List Int)) => cond (v11118.2.2.1) ((cat x10789 x11019).bind fun (v11123 : ByteArray) => some ((v11118.1), v11123, (v11118.2.1), x10972, (v11118.2.2.2))) (some (x10788, x10789, x10790, x10972, (v11118.2.2.2))))

def spec_l20Eager_n12 (x10788 : List Int) (x10789 : ByteArray) (x10790 : Int) (x10791 : Int) (x7867 : List Int) (x10792 : Int) (x10793 : List Int) : Option (((List Int) × ByteArray × Int × Int × (List Int))) :=
  (spec_l20Eager_n10 x10788 x10791 x7867 x10792).bind (fun (t : ByteArray × Int) => spec_l20Eager_n11 x10788 x10789 x10790 t.1 x7867 t.2 x10793)

def spec_l20Eager_n13 (x10788 : List Int) (x10789 : ByteArray) (x10790 : Int) (x10791 : Int) (x7867 : List Int) (x10792 : Int) (x10793 : List Int) : Option (((List Int) × ByteArray × Int × Int × (List Int))) :=
  (spec_l20Eager_n12 x10788 x10789 x10790 x10791 x7867 x10792 x10793).map (fun (t : (List Int) × ByteArray × Int × Int × (List Int)) => (t.1, t.2.1, t.2.2.1, t.2.2.2.1, t.2.2.2.2))

def spec_l20Eager_n14 (x10791 : Int) : Option (Int) :=
  some (IntKind.wrap .i64 (x10791 + 1))

def spec_l20Eager_n15 (x10788 : List Int) (x10789 : ByteArray) (x10790 : Int) (x10791 : Int) (x7867 : List Int) (x10792 : Int) (x10793 : List Int) : Option (((List Int) × ByteArray × Int × Int × Int × (List Int))) :=
  (spec_l20Eager_n13 x10788 x10789 x10790 x10791 x7867 x10792 x10793).bind (fun (t : (List Int) × ByteArray × Int × Int × (List Int)) => (spec_l20Eager_n14 x10791).map (fun (u : Int) => (t.1, t.2.1, t.2.2.1, u, t.2.2.2.1, t.2.2.2.2)))

def spec_l20Eager_n16 (x7866 : Int) (x10788 : List Int) (x10789 : ByteArray) (x10790 : Int) (x10791 : Int) (x7867 : List Int) (x10792 : Int) (x10793 : List Int) : Option (((List Int) × ByteArray × Int × Int × Int × (List Int)) ⊕ (ByteArray × Int)) :=
  (spec_l20Eager_n9 x7866 x10789 x10790 x10791 x10792).bind (Sum.elim (fun (t : Unit) => (spec_l20Eager_n15 x10788 x10789 x10790 x10791 x7867 x10792 x10793).map (fun (t : (List Int) × ByteArray × Int × Int × Int × (List Int)) => (Sum.inl (t.1, t.2.1, t.2.2.1, t.2.2.2.1, t.2.2.2.2.1, t.2.2.2.2.2)))) (fun e => some ((fun (t : ByteArray × Int) => (Sum.inr t)) e)))

def spec_l20Eager_n17 (x7866 : Int) (x7867 : List Int) (x7868 : Int) (x10439 : List Int) : Option ((ByteArray × Int)) :=
  nloop (fun (s : (List Int) × ByteArray × Int × Int × Int × (List Int)) => ((spec_l20Eager_n16 x7866 s.1 s.2.1 s.2.2.1 s.2.2.2.1 x7867 s.2.2.2.2.1 s.2.2.2.2.2).map (Sum.elim (fun (t : (List Int) × ByteArray × Int × Int × Int × (List Int)) => Sum.inl (t.1, t.2.1, t.2.2.1, t.2.2.2.1, t.2.2.2.2.1, t.2.2.2.2.2)) (fun (t : ByteArray × Int) => Sum.inr t)) : Option (((List Int) × ByteArray × Int × Int × Int × (List Int)) ⊕ ((ByteArray × Int))))) LL (([] : List Int), ByteArray.empty, 1, 0, x7868, x10439)

def spec_l20Eager_n18 (x7866 : Int) (x7867 : List Int) (x7868 : Int) (x10439 : List Int) : Option ((ByteArray × Int)) :=
  (spec_l20Eager_n17 x7866 x7867 x7868 x10439).map (fun (t : ByteArray × Int) => (t.1, t.2))

def spec_l20Eager_n19 (x7866 : Int) (x7867 : List Int) (x7868 : Int) (x10439 : List Int) : Option ((ByteArray × Int)) :=
  (spec_l20Eager_n8).bind (fun (t : Unit) => spec_l20Eager_n18 x7866 x7867 x7868 x10439)

def spec_l20Eager_n20 (x10789 : ByteArray) (x7867 : List Int) (x10792 : Int) : Option ((ByteArray × Int)) :=
  (spec_l20Rd_odd 8 x7867 x10792).bind fun (v11176 : Bool × Int) => cond (v11176.1) (cond (decide ((((ByteArray.size x10789 : Nat) : Int)) > 0)) ((spec_l20Rd_pick (((ByteArray.size x10789 : Nat) : Int)) x7867 (v11176.2)).bind fun (v11182 : Int × Int) => (inc (v11182.1) (ByteArray.size x10789)).bind fun (v11186 : Nat) => (inc (IntKind.wrap .i64 ((v11182.1) + 1)) (ByteArray.size x10789)).bind fun (v11191 : Nat) => (spec_l20Rd_pick 4 x7867 (v11182.2)).bind fun (v11193 : Int × Int) => (idx ([ByteArray.empty, (ByteArray.mk #[83]), (ByteArray.mk #[68]), (ByteArray.mk #[120])]) (v11193.1)).bind fun (v11196 : ByteArray) => (cat (x10789.extract 0 v11186) v11196).bind fun (v11197 : ByteArray) => (cat v11197 (x10789.extract v11191 (ByteArray.size x10789))).bind fun (v11198 : ByteArray) => some (v11198, (v11193.2))) (some (x10789, (v11176.2)))) (some (x10789, (v11176.2)))

def spec_l20Eager_n21 (x7866 : Int) (x7867 : List Int) (x7868 : Int) (x10439 : List Int) : Option ((ByteArray × Int)) :=
  (spec_l20Eager_n19 x7866 x7867 x7868 x10439).bind (fun (t : ByteArray × Int) => spec_l20Eager_n20 t.1 x7867 t.2)

def spec_l20Eager_n22 (x7866 : Int) (x7867 : List Int) (x7868 : Int) (x10439 : List Int) : Option ((ByteArray × Int)) :=
  (spec_l20Eager_n7).bind (fun (t : Unit) => spec_l20Eager_n21 x7866 x7867 x7868 x10439)

def spec_l20Eager_n23 (x7866 : Int) (x7867 : List Int) (x7868 : Int) : Option ((ByteArray × Int)) :=
  (spec_l20Eager_n6 x7866).bind (fun (t : (List Int)) => spec_l20Eager_n22 x7866 x7867 x7868 t)

def spec_l20Eager_n24 (x7866 : Int) (x7867 : List Int) (x7868 : Int) : Option ((ByteArray × Int)) :=
  (spec_l20Eager_n1).bind (fun (t : Unit) => spec_l20Eager_n23 x7866 x7867 x7868)

@[irreducible] def spec_l20Eager (x7866 : Int) (x7867 : List Int) (x7868 : Int) : Option (ByteArray × Int) :=
  spec_l20Eager_n24 x7866 x7867 x7868

def spec_DrawRunEager_n1 (x6536 : List Int) : Option ((Int × ByteArray)) :=
  (spec_l20Open x6536).bind fun (v11212 : List Int) => (spec_l20Rd_pick 8 v11212 0).bind fun (v11213 : Int × Int) => (spec_l20Rd_pick 3 v11212 (v11213.2)).bind fun (v11217 : Int × Int) => cond ((v11217.1) == 0) ((spec_l20Flat 0 v11212 (v11217.2)).bind fun (v11221 : Int × (List Int)) => (spec_EagerFor (v11221.2)).bind fun (v11224 : ByteArray × Bool) => cond (v11224.2) (some ((((List.length (v11221.2) : Nat) : Int)), (v11224.1))) ((spec_l20Rd_pick 30 v11212 (v11221.1)).bind fun (v11228 : Int × Int) => (quo .i64 (v11228.1) 29).bind fun (v11231 : Int) => (spec_l20Eager (IntKind.wrap .i64 (1 + (v11213.1))) v11212 (v11228.2)).bind fun (v11233 : ByteArray × Int) => some ((IntKind.wrap .i64 ((IntKind.wrap .i64 (1 + (v11213.1))) + v11231)), (v11233.1)))) ((spec_l20Rd_pick 30 v11212 (v11217.2)).bind fun (v11236 : Int × Int) => (quo .i64 (v11236.1) 29).bind fun (v11239 : Int) => (spec_l20Eager (IntKind.wrap .i64 (1 + (v11213.1))) v11212 (v11236.2)).bind fun (v11241 : ByteArray × Int) => some ((IntKind.wrap .i64 ((IntKind.wrap .i64 (1 + (v11213.1))) + v11239)), (v11241.1)))

@[irreducible] def spec_DrawRunEager (x6536 : List Int) : Option (Int × ByteArray) :=
  spec_DrawRunEager_n1 x6536

def impl_newEagerMachine_n1 (x11260 : Int) : Option (((List Int))) :=
  (impl_newStackMachine x11260).bind fun (v11262 : List Int) => some v11262

@[irreducible] def impl_newEagerMachine (x11260 : Int) : Option ((List Int)) :=
  impl_newEagerMachine_n1 x11260

@[irreducible] def impl_eagerMoves : Option (Unit) :=
  some ()

def impl_eagerMachine_upperAndNext_n1 (x12471 : Nat) (x12472 : Nat) (x12473 : Int) (x12476 : List Int) (x12477 : List Int) : Option ((Int × Int × Bool)) :=
  cond ((((x12472 : Nat) : Int)) == 0) (some (0, 0, false)) (cond (x12473 == (((List.length x12476 : Nat) : Int))) (some (0, 0, false)) ((inb (IntKind.wrap .i64 ((((x12472 : Nat) : Int)) - 1)) x12472).bind fun (v12497 : Nat) => (x12477[(x12471 + v12497)]?).bind fun (v12499 : Int) => some (v12499, (IntKind.wrap .i64 (x12473 + 1)), true)))

@[irreducible] def impl_eagerMachine_upperAndNext (x12471 : Nat) (x12472 : Nat) (x12473 : Int) (x12474 : Int) (x12475 : Int) (x12476 : List Int) (x12477 : List Int) : Option (Int × Int × Bool) :=
  impl_eagerMachine_upperAndNext_n1 x12471 x12472 x12473 x12476 x12477

def impl_wordSet_hasAll_n1 (x11447 : Int) (x11448 : Int) : Option (Bool) :=
  some ((iand .u64 x11447 x11448) == x11448)

@[irreducible] def impl_wordSet_hasAll (x11447 : Int) (x11448 : Int) : Option (Bool) :=
  impl_wordSet_hasAll_n1 x11447 x11448

def impl_eagerMachine_hasHead_n1 (x12513 : Int) (x12518 : Int) : Option (Bool) :=
  (impl_only x12513).bind fun (v12523 : Int) => (impl_wordSet_hasAll x12518 v12523).bind fun (v12524 : Bool) => some v12524

@[irreducible] def impl_eagerMachine_hasHead (x12513 : Int) (x12514 : Nat) (x12515 : Nat) (x12516 : Int) (x12517 : Int) (x12518 : Int) (x12519 : List Int) (x12520 : List Int) : Option (Bool) :=
  impl_eagerMachine_hasHead_n1 x12513 x12518

def impl_eagerMachine_giveHead_n1 (x12532 : Int) (x12533 : Int) (x12538 : Int) (x12539 : List Int) : Option ((Int × (List Int))) :=
  (inb (IntKind.wrap .i64 (x12532 - 1)) (List.length x12539)).bind fun (v12545 : Nat) => (impl_only x12532).bind fun (v12547 : Int) => some ((ior .u64 x12538 v12547), (x12539.set v12545 x12533))

@[irreducible] def impl_eagerMachine_giveHead (x12532 : Int) (x12533 : Int) (x12534 : Nat) (x12535 : Nat) (x12536 : Int) (x12537 : Int) (x12538 : Int) (x12539 : List Int) (x12540 : List Int) : Option (Int × (List Int)) :=
  (impl_eagerMachine_giveHead_n1 x12532 x12533 x12538 x12539).map (fun (t : Int × (List Int)) => (t.1, t.2))

def impl_eagerMachine_takeAway_n1 (x12561 : Nat) (x12562 : Nat) : Option ((Nat × Nat)) :=
  (inc (IntKind.wrap .i64 ((((x12562 : Nat) : Int)) - 1)) x12562).bind fun (v12570 : Nat) => some ((x12561 + 0), (v12570 - 0))

@[irreducible] def impl_eagerMachine_takeAway (x12561 : Nat) (x12562 : Nat) (x12563 : Int) (x12564 : Int) (x12565 : Int) (x12566 : List Int) (x12567 : List Int) : Option (Nat × Nat) :=
  (impl_eagerMachine_takeAway_n1 x12561 x12562).map (fun (t : Nat × Nat) => (t.1, t.2))

def impl_eagerMachine_takeUnderNext_n1 (x12464 : Nat) (x12465 : Nat) (x12466 : Int) (x12467 : Int) (x12468 : Int) (x12469 : List Int) (x12470 : List Int) : Option ((Bool × Nat × Nat × Int × (List Int))) :=
  (impl_eagerMachine_upperAndNext x12464 x12465 x12466 x12467 x12468 x12469 x12470).bind fun (v12588 : Int × Int × Bool) => cond (!(v12588.2.2)) (some (false, x12464, x12465, x12468, x12469)) ((impl_eagerMachine_hasHead (v12588.1) x12464 x12465 x12466 x12467 x12468 x12469 x12470).bind fun (v12593 : Bool) => cond v12593 (some (false, x12464, x12465, x12468, x12469)) ((impl_eagerMachine_giveHead (v12588.1) (v12588.2.1) x12464 x12465 x12466 x12467 x12468 x12469 x12470).bind fun (v12594 : Int × (List Int)) => (impl_eagerMachine_takeAway x12464 x12465 x12466 x12467 (v12594.1) (v12594.2) x12470).bind fun (v12597 : Nat × Nat) => some (true, (v12597.1), (v12597.2), (v12594.1), (v12594.2))))

@[irreducible] def impl_eagerMachine_takeUnderNext (x12464 : Nat) (x12465 : Nat) (x12466 : Int) (x12467 : Int) (x12468 : Int) (x12469 : List Int) (x12470 : List Int) : Option (Bool × Nat × Nat × Int × (List Int)) :=
  impl_eagerMachine_takeUnderNext_n1 x12464 x12465 x12466 x12467 x12468 x12469 x12470

def impl_eagerMachine_putUnderUpper_n1 (x12613 : Nat) (x12614 : Nat) (x12615 : Int) (x12616 : Int) (x12617 : Int) (x12618 : List Int) (x12619 : List Int) : Option ((Bool × Nat × Nat × Int × Int × Int × (List Int) × (List Int))) :=
  (impl_eagerMachine_upperAndNext x12613 x12614 x12615 x12616 x12617 x12618 x12619).bind fun (v12652 : Int × Int × Bool) => cond (!(v12652.2.2)) (some (false, x12613, x12614, x12615, x12616, x12617, x12618, x12619)) ((impl_eagerMachine_giveHead (v12652.2.1) (v12652.1) x12613 x12614 x12615 x12616 x12617 x12618 x12619).bind fun (v12657 : Int × (List Int)) => (impl_stackMachine_putNext_v2 x12613 x12614 x12615 x12616 (v12657.1) (v12657.2) x12619).bind fun (v12660 : Bool × Nat × Nat × Int × Int × (List Int)) => some ((v12660.1), (v12660.2.1), (v12660.2.2.1), (v12660.2.2.2.1), (v12660.2.2.2.2.1), (v12657.1), (v12657.2), (v12660.2.2.2.2.2)))

@[irreducible] def impl_eagerMachine_putUnderUpper (x12613 : Nat) (x12614 : Nat) (x12615 : Int) (x12616 : Int) (x12617 : Int) (x12618 : List Int) (x12619 : List Int) : Option (Bool × Nat × Nat × Int × Int × Int × (List Int) × (List Int)) :=
  impl_eagerMachine_putUnderUpper_n1 x12613 x12614 x12615 x12616 x12617 x12618 x12619

def impl_eagerMachine_takeHeaded_n1 (x12686 : Nat) (x12687 : Nat) (x12688 : Int) (x12689 : Int) (x12690 : Int) (x12691 : List Int) (x12692 : List Int) : Option ((Bool × Nat × Nat)) :=
  cond ((((x12687 : Nat) : Int)) == 0) (some (false, x12686, x12687)) ((inb (IntKind.wrap .i64 ((((x12687 : Nat) : Int)) - 1)) x12687).bind fun (v12727 : Nat) => (x12692[(x12686 + v12727)]?).bind fun (v12729 : Int) => (impl_eagerMachine_hasHead v12729 x12686 x12687 x12688 x12689 x12690 x12691 x12692).bind fun (v12730 : Bool) => cond (!v12730) (some (false, x12686, x12687)) ((impl_eagerMachine_takeAway x12686 x12687 x12688 x12689 x12690 x12691 x12692).bind fun (v12732 : Nat × Nat) => some (true, (v12732.1), (v12732.2))))

@[irreducible] def impl_eagerMachine_takeHeaded (x12686 : Nat) (x12687 : Nat) (x12688 : Int) (x12689 : Int) (x12690 : Int) (x12691 : List Int) (x12692 : List Int) : Option (Bool × Nat × Nat) :=
  impl_eagerMachine_takeHeaded_n1 x12686 x12687 x12688 x12689 x12690 x12691 x12692

def impl_allDone_impl_eagerMachine_n1 : Option (Unit) :=
  some ()

def impl_allDone_impl_eagerMachine_n2 (x11268 : ByteArray) : Option ((Int × Nat)) :=
  some ((((ByteArray.size x11268 : Nat) : Int)), (List.length ([] : List Int)))

def impl_allDone_impl_eagerMachine_n3 (x11268 : ByteArray) (x12317 : Int) (x12791 : Int) (x12792 : Nat) (x12793 : Nat) (x12794 : Int) (x12795 : Int) (x12796 : Int) (x12797 : List Int) (x12798 : List Int) : Option ((Int × Nat × Nat × Int × Int × Int × (List Int) × (List Int)) ⊕ (Bool × Nat × Nat × Int × Int × Int × (List Int) × (List Int)) ⊕ (Nat × Nat × Int × Int × Int × (List Int) × (List Int))) :=
  cond (decide (x12791 < x12317)) ((bidx x11268 x12791).bind fun (v12838 : Int) => cond (v12838 == 83) ((impl_stackMachine_putNext_v2 x12792 x12793 x12794 x12795 x12796 x12797 x12798).bind fun (v12840 : Bool × Nat × Nat × Int × Int × (List Int)) => cond (!(v12840.1)) (some (Sum.inr (Sum.inl (false, (v12840.2.1), (v12840.2.2.1), (v12840.2.2.2.1), (v12840.2.2.2.2.1), x12796, x12797, (v12840.2.2.2.2.2))))) (some (Sum.inl ((IntKind.wrap .i64 (x12791 + 1)), (v12840.2.1), (v12840.2.2.1), (v12840.2.2.2.1), (v12840.2.2.2.2.1), x12796, x12797, (v12840.2.2.2.2.2))))) (cond (v12838 == 76) ((impl_eagerMachine_takeUnderNext x12792 x12793 x12794 x12795 x12796 x12797 x12798).bind fun (v12850 : Bool × Nat × Nat × Int × (List Int)) => cond (!(v12850.1)) (some (Sum.inr (Sum.inl (false, (v12850.2.1), (v12850.2.2.1), x12794, x12795, (v12850.2.2.2.1), (v12850.2.2.2.2), x12798)))) (some (Sum.inl ((IntKind.wrap .i64 (x12791 + 1)), (v12850.2.1), (v12850.2.2.1), x12794, x12795, (v12850.2.2.2.1), (v12850.2.2.2.2), x12798)))) (cond (v12838 == 82) ((impl_eagerMachine_putUnderUpper x12792 x12793 x12794 x12795 x12796 x12797 x12798).bind fun (v12859 : Bool × Nat × Nat × Int × Int × Int × (List Int) × (List Int)) => cond (!(v12859.1)) (some (Sum.inr (Sum.inl (false, (v12859.2.1), (v12859.2.2.1), (v12859.2.2.2.1), (v12859.2.2.2.2.1), (v12859.2.2.2.2.2.1), (v12859.2.2.2.2.2.2.1), (v12859.2.2.2.2.2.2.2))))) (some (Sum.inl ((IntKind.wrap .i64 (x12791 + 1)), (v12859.2.1), (v12859.2.2.1), (v12859.2.2.2.1), (v12859.2.2.2.2.1), (v12859.2.2.2.2.2.1), (v12859.2.2.2.2.2.2.1), (v12859.2.2.2.2.2.2.2))))) (cond (v12838 == 68) ((impl_eagerMachine_takeHeaded x12792 x12793 x12794 x12795 x12796 x12797 x12798).bind fun (v12871 : Bool × Nat × Nat) => cond (!(v12871.1)) (some (Sum.inr (Sum.inl (false, (v12871.2.1), (v12871.2.2), x12794, x12795, x12796, x12797, x12798)))) (some (Sum.inl ((IntKind.wrap .i64 (x12791 + 1)), (v12871.2.1), (v12871.2.2), x12794, x12795, x12796, x12797, x12798)))) (some (Sum.inr (Sum.inl (false, x12792, x12793, x12794, x12795, x12796, x12797, x12798)))))))) (some (Sum.inr (Sum.inr (x12792, x12793, x12794, x12795, x12796, x12797, x12798))))

def impl_allDone_impl_eagerMachine_n4 (x11268 : ByteArray) (x12317 : Int) (x12318 : Nat) (x11269 : Int) (x11270 : Int) (x11271 : Int) (x11272 : List Int) : Option ((Bool × Nat × Nat × Int × Int × Int × (List Int) × (List Int)) ⊕ (Nat × Nat × Int × Int × Int × (List Int) × (List Int))) :=
  nloop (fun (s : Int × Nat × Nat × Int × Int × Int × (List Int) × (List Int)) => ((impl_allDone_impl_eagerMachine_n3 x11268 x12317 s.1 s.2.1 s.2.2.1 s.2.2.2.1 s.2.2.2.2.1 s.2.2.2.2.2.1 s.2.2.2.2.2.2.1 s.2.2.2.2.2.2.2).map (Sum.elim (fun (t : Int × Nat × Nat × Int × Int × Int × (List Int) × (List Int)) => Sum.inl (t.1, t.2.1, t.2.2.1, t.2.2.2.1, t.2.2.2.2.1, t.2.2.2.2.2.1, t.2.2.2.2.2.2.1, t.2.2.2.2.2.2.2)) (Sum.elim (fun (t : Bool × Nat × Nat × Int × Int × Int × (List Int) × (List Int)) => Sum.inr (Sum.inl t)) (fun (t : Nat × Nat × Int × Int × Int × (List Int) × (List Int)) => Sum.inr (Sum.inr t)))) : Option ((Int × Nat × Nat × Int × Int × Int × (List Int) × (List Int)) ⊕ ((Bool × Nat × Nat × Int × Int × Int × (List Int) × (List Int)) ⊕ (Nat × Nat × Int × Int × Int × (List Int) × (List Int)))))) LL (0, 0, x12318, x11269, x11270, x11271, x11272, ([] : List Int))

def impl_allDone_impl_eagerMachine_n5 (x11268 : ByteArray) (x12317 : Int) (x12318 : Nat) (x11269 : Int) (x11270 : Int) (x11271 : Int) (x11272 : List Int) : Option ((Nat × Nat × Int × Int × Int × (List Int) × (List Int)) ⊕ (Bool × Nat × Nat × Int × Int × Int × (List Int) × (List Int))) :=
  (impl_allDone_impl_eagerMachine_n4 x11268 x12317 x12318 x11269 x11270 x11271 x11272).map (Sum.elim (fun (t : Bool × Nat × Nat × Int × Int × Int × (List Int) × (List Int)) => (Sum.inr t)) (fun (t : Nat × Nat × Int × Int × Int × (List Int) × (List Int)) => (Sum.inl (t.1, t.2.1, t.2.2.1, t.2.2.2.1, t.2.2.2.2.1, t.2.2.2.2.2.1, t.2.2.2.2.2.2))))

def impl_allDone_impl_eagerMachine_n6 (x11268 : ByteArray) (x11269 : Int) (x11270 : Int) (x11271 : Int) (x11272 : List Int) : Option ((Nat × Nat × Int × Int × Int × (List Int) × (List Int)) ⊕ (Bool × Nat × Nat × Int × Int × Int × (List Int) × (List Int))) :=
  (impl_allDone_impl_eagerMachine_n2 x11268).bind (fun (t : Int × Nat) => impl_allDone_impl_eagerMachine_n5 x11268 t.1 t.2 x11269 x11270 x11271 x11272)

def impl_allDone_impl_eagerMachine_n7 (x12792 : Nat) (x12793 : Nat) (x12794 : Int) (x12795 : Int) (x12796 : Int) (x12797 : List Int) (x12798 : List Int) : Option ((Bool × Nat × Nat × Int × Int × Int × (List Int) × (List Int))) :=
  some (true, x12792, x12793, x12794, x12795, x12796, x12797, x12798)

def impl_allDone_impl_eagerMachine_n8 (x11268 : ByteArray) (x11269 : Int) (x11270 : Int) (x11271 : Int) (x11272 : List Int) : Option ((Bool × Nat × Nat × Int × Int × Int × (List Int) × (List Int))) :=
  (impl_allDone_impl_eagerMachine_n6 x11268 x11269 x11270 x11271 x11272).bind (Sum.elim (fun (t : Nat × Nat × Int × Int × Int × (List Int) × (List Int)) => impl_allDone_impl_eagerMachine_n7 t.1 t.2.1 t.2.2.1 t.2.2.2.1 t.2.2.2.2.1 t.2.2.2.2.2.1 t.2.2.2.2.2.2) (fun e => some ((fun (t : Bool × Nat × Nat × Int × Int × Int × (List Int) × (List Int)) => t) e)))

def impl_allDone_impl_eagerMachine_n9 (x11268 : ByteArray) (x11269 : Int) (x11270 : Int) (x11271 : Int) (x11272 : List Int) : Option ((Bool × Nat × Nat × Int × Int × Int × (List Int) × (List Int))) :=
  (impl_allDone_impl_eagerMachine_n1).bind (fun (t : Unit) => impl_allDone_impl_eagerMachine_n8 x11268 x11269 x11270 x11271 x11272)

@[irreducible] def impl_allDone_impl_eagerMachine (x11268 : ByteArray) (x11269 : Int) (x11270 : Int) (x11271 : Int) (x11272 : List Int) : Option (Bool × Nat × Nat × Int × Int × Int × (List Int) × (List Int)) :=
  impl_allDone_impl_eagerMachine_n9 x11268 x11269 x11270 x11271 x11272

def impl_eagerMachine_ended_n1 (x12905 : Int) (x12907 : Int) (x12908 : List Int) : Option (Bool) :=
  cond (x12905 == (((List.length x12908 : Nat) : Int))) ((impl_wordSet_count x12907).bind fun (v12920 : Int) => some (v12920 == (IntKind.wrap .i64 ((((List.length x12908 : Nat) : Int)) - 1)))) (some false)

@[irreducible] def impl_eagerMachine_ended (x12903 : Nat) (x12904 : Nat) (x12905 : Int) (x12906 : Int) (x12907 : Int) (x12908 : List Int) (x12909 : List Int) : Option (Bool) :=
  impl_eagerMachine_ended_n1 x12905 x12907 x12908

def impl_RunEager_n1 (x11254 : Int) (x11255 : ByteArray) : Option ((Bool × (List Int))) :=
  cond (decide (x11254 < 1)) (some (false, ([] : List Int))) (cond (decide (x11254 > 8)) (some (false, ([] : List Int))) ((impl_newEagerMachine x11254).bind fun (v12943 : List Int) => (impl_eagerMoves).bind fun (v12944 : Unit) => (impl_allDone_impl_eagerMachine x11255 0 0 0 v12943).bind fun (v12945 : Bool × Nat × Nat × Int × Int × Int × (List Int) × (List Int)) => cond (!(v12945.1)) (some (false, ([] : List Int))) ((impl_eagerMachine_ended (v12945.2.1) (v12945.2.2.1) (v12945.2.2.2.1) (v12945.2.2.2.2.1) (v12945.2.2.2.2.2.1) (v12945.2.2.2.2.2.2.1) (v12945.2.2.2.2.2.2.2)).bind fun (v12955 : Bool) => cond (!v12955) (some (false, ([] : List Int))) (some (true, (v12945.2.2.2.2.2.2.1))))))

@[irreducible] def impl_RunEager (x11254 : Int) (x11255 : ByteArray) : Option (Bool × (List Int)) :=
  impl_RunEager_n1 x11254 x11255

def spec_RunEager_n1 (x12970 : Int) : Option (Unit ⊕ (Bool × (List Int))) :=
  (spec_l1In x12970 1 8).bind fun (v13060 : Bool) => cond (!v13060) (some (Sum.inr (false, ([] : List Int)))) (some (Sum.inl ()))

def spec_RunEager_n2 : Option (Unit) :=
  some ()

def spec_RunEager_n3 (x12970 : Int) (x13074 : Int) (x13075 : List Int) : Option ((Int × (List Int)) ⊕ ((List Int))) :=
  cond (decide (x13074 < x12970)) ((room ((List.length x13075) + List.length ([(-1)]))).bind fun (v13085 : Unit) => some (Sum.inl ((IntKind.wrap .i64 (x13074 + 1)), (x13075 ++ ([(-1)]))))) (some (Sum.inr x13075))

def spec_RunEager_n4 (x12970 : Int) : Option (((List Int))) :=
  nloop (fun (s : Int × (List Int)) => ((spec_RunEager_n3 x12970 s.1 s.2).map (Sum.elim (fun (t : Int × (List Int)) => Sum.inl (t.1, t.2)) (fun (t : (List Int)) => Sum.inr t)) : Option ((Int × (List Int)) ⊕ (((List Int)))))) LL (0, ([] : List Int))

def spec_RunEager_n5 (x12970 : Int) : Option (((List Int))) :=
  (spec_RunEager_n4 x12970).map (fun (t : (List Int)) => t)

def spec_RunEager_n6 (x12970 : Int) : Option (((List Int))) :=
  (spec_RunEager_n2).bind (fun (t : Unit) => spec_RunEager_n5 x12970)

def spec_RunEager_n7 : Option (Unit) :=
  some ()

def spec_RunEager_n8 : Option (Unit) :=
  some ()

def spec_RunEager_n9 (x12971 : ByteArray) (x13109 : List Int) (x13110 : Int) (x13111 : Int) (x13112 : List Int) : Option (((List Int) × Int × Int × (List Int)) ⊕ (Bool × (List Int)) ⊕ (Int × (List Int))) :=
  cond (decide (x13111 < (((ByteArray.size x12971 : Nat) : Int)))) ((bidx x12971 x13111).bind fun (v13126 : Int) => (spec_l7Step x13109 x13110 v13126 x13112).bind fun (v13127 : (List Int) × Int × Bool × (List Int)) => cond (!(v13127.2.2.1)) (some (Sum.inr (Sum.inl (false, ([] : List Int))))) (some (Sum.inl ((v13127.1), (v13127.2.1), (IntKind.wrap .i64 (x13111 + 1)), (v13127.2.2.2))))) (some (Sum.inr (Sum.inr (x13110, x13112))))

def spec_RunEager_n10 (x12971 : ByteArray) (x13075 : List Int) : Option ((Bool × (List Int)) ⊕ (Int × (List Int))) :=
  nloop (fun (s : (List Int) × Int × Int × (List Int)) => ((spec_RunEager_n9 x12971 s.1 s.2.1 s.2.2.1 s.2.2.2).map (Sum.elim (fun (t : (List Int) × Int × Int × (List Int)) => Sum.inl (t.1, t.2.1, t.2.2.1, t.2.2.2)) (Sum.elim (fun (t : Bool × (List Int)) => Sum.inr (Sum.inl t)) (fun (t : Int × (List Int)) => Sum.inr (Sum.inr t)))) : Option (((List Int) × Int × Int × (List Int)) ⊕ ((Bool × (List Int)) ⊕ (Int × (List Int)))))) LL (([] : List Int), 1, 0, x13075)

def spec_RunEager_n11 (x12971 : ByteArray) (x13075 : List Int) : Option ((Int × (List Int)) ⊕ (Bool × (List Int))) :=
  (spec_RunEager_n10 x12971 x13075).map (Sum.elim (fun (t : Bool × (List Int)) => (Sum.inr t)) (fun (t : Int × (List Int)) => (Sum.inl (t.1, t.2))))

def spec_RunEager_n12 (x12971 : ByteArray) (x13075 : List Int) : Option ((Int × (List Int)) ⊕ (Bool × (List Int))) :=
  (spec_RunEager_n8).bind (fun (t : Unit) => spec_RunEager_n11 x12971 x13075)

def spec_RunEager_n13 : Option (Unit) :=
  some ()

def spec_RunEager_n14 : Option (Unit) :=
  some ()

def spec_RunEager_n15 (x12970 : Int) (x13154 : Int) (x13155 : Int) (x13156 : List Int) : Option ((Int × Int × (List Int)) ⊕ (Int × (List Int))) :=
  cond (decide (x13155 < x12970)) ((inb x13155 (List.length x13156)).bind fun (v13166 : Nat) => (x13156[v13166]?).bind fun (v13167 : Int) => cond (decide (v13167 < 0)) ((inb x13155 (List.length x13156)).bind fun (v13169 : Nat) => some (Sum.inl ((IntKind.wrap .i64 (x13154 + 1)), (IntKind.wrap .i64 (x13155 + 1)), (x13156.set v13169 0)))) (some (Sum.inl (x13154, (IntKind.wrap .i64 (x13155 + 1)), x13156)))) (some (Sum.inr (x13154, x13156)))

def spec_RunEager_n16 (x12970 : Int) (x13112 : List Int) : Option ((Int × (List Int))) :=
  nloop (fun (s : Int × Int × (List Int)) => ((spec_RunEager_n15 x12970 s.1 s.2.1 s.2.2).map (Sum.elim (fun (t : Int × Int × (List Int)) => Sum.inl (t.1, t.2.1, t.2.2)) (fun (t : Int × (List Int)) => Sum.inr t)) : Option ((Int × Int × (List Int)) ⊕ ((Int × (List Int)))))) LL (0, 0, x13112)

def spec_RunEager_n17 (x12970 : Int) (x13112 : List Int) : Option ((Int × (List Int))) :=
  (spec_RunEager_n16 x12970 x13112).map (fun (t : Int × (List Int)) => (t.1, t.2))

def spec_RunEager_n18 (x12970 : Int) (x13112 : List Int) : Option ((Int × (List Int))) :=
  (spec_RunEager_n14).bind (fun (t : Unit) => spec_RunEager_n17 x12970 x13112)

def spec_RunEager_n19 (x12970 : Int) (x13110 : Int) (x13154 : Int) (x13156 : List Int) : Option ((Bool × (List Int))) :=
  cond (x13154 != 1) (some (false, ([] : List Int))) (cond (decide (x13110 ≤ x12970)) (some (false, ([] : List Int))) (some (true, x13156)))

def spec_RunEager_n20 (x12970 : Int) (x13110 : Int) (x13112 : List Int) : Option ((Bool × (List Int))) :=
  (spec_RunEager_n18 x12970 x13112).bind (fun (t : Int × (List Int)) => spec_RunEager_n19 x12970 x13110 t.1 t.2)

def spec_RunEager_n21 (x12970 : Int) (x13110 : Int) (x13112 : List Int) : Option ((Bool × (List Int))) :=
  (spec_RunEager_n13).bind (fun (t : Unit) => spec_RunEager_n20 x12970 x13110 x13112)

def spec_RunEager_n22 (x12970 : Int) (x12971 : ByteArray) (x13075 : List Int) : Option ((Bool × (List Int))) :=
  (spec_RunEager_n12 x12971 x13075).bind (Sum.elim (fun (t : Int × (List Int)) => spec_RunEager_n21 x12970 t.1 t.2) (fun e => some ((fun (t : Bool × (List Int)) => t) e)))

def spec_RunEager_n23 (x12970 : Int) (x12971 : ByteArray) (x13075 : List Int) : Option ((Bool × (List Int))) :=
  (spec_RunEager_n7).bind (fun (t : Unit) => spec_RunEager_n22 x12970 x12971 x13075)

def spec_RunEager_n24 (x12970 : Int) (x12971 : ByteArray) : Option ((Bool × (List Int))) :=
  (spec_RunEager_n6 x12970).bind (fun (t : (List Int)) => spec_RunEager_n23 x12970 x12971 t)

def spec_RunEager_n25 (x12970 : Int) (x12971 : ByteArray) : Option ((Bool × (List Int))) :=
  (spec_RunEager_n1 x12970).bind (Sum.elim (fun (t : Unit) => spec_RunEager_n24 x12970 x12971) (fun e => some ((fun (t : Bool × (List Int)) => t) e)))

@[irreducible] def spec_RunEager (x12970 : Int) (x12971 : ByteArray) : Option (Bool × (List Int)) :=
  spec_RunEager_n25 x12970 x12971

def impl_eagerMachine_waitsBelow_1_n1 (x13316 : Int) (x13317 : List Int) (x13318 : Int) : Option (Bool) :=
  (idx x13317 (IntKind.wrap .i64 (x13318 - 1))).bind fun (v13326 : Int) => cond (v13326 == x13316) (some true) ((idx x13317 (IntKind.wrap .i64 (x13316 - 1))).bind fun (v13329 : Int) => some (v13329 == x13318))

@[irreducible] def impl_eagerMachine_waitsBelow_1 (x13316 : Int) (x13317 : List Int) (x13318 : Int) : Option (Bool) :=
  impl_eagerMachine_waitsBelow_1_n1 x13316 x13317 x13318

def slices_IndexFunc_int_int_n1 : Option (Unit) :=
  some ()

def slices_IndexFunc_int_int_n2 (x13308 : List Int) : Option (Int) :=
  some (((List.length x13308 : Nat) : Int))

def slices_IndexFunc_int_int_n3 (x13308 : List Int) (x13311 : Int) (x13337 : Int) (x13309 : List Int) (x13310 : Int) : Option (Int ⊕ Int ⊕ Unit) :=
  cond (decide (x13337 < x13311)) ((idx x13308 x13337).bind fun (v13344 : Int) => (impl_eagerMachine_waitsBelow_1 v13344 x13309 x13310).bind fun (v13345 : Bool) => cond v13345 (some (Sum.inr (Sum.inl x13337))) (some (Sum.inl (IntKind.wrap .i64 (x13337 + 1))))) (some (Sum.inr (Sum.inr ())))

def slices_IndexFunc_int_int_n4 (x13308 : List Int) (x13311 : Int) (x13309 : List Int) (x13310 : Int) : Option (Int ⊕ Unit) :=
  nloop (fun (s : Int) => ((slices_IndexFunc_int_int_n3 x13308 x13311 s x13309 x13310).map (Sum.elim (fun (t : Int) => Sum.inl t) (Sum.elim (fun (t : Int) => Sum.inr (Sum.inl t)) (fun (t : Unit) => Sum.inr (Sum.inr t)))) : Option ((Int) ⊕ (Int ⊕ Unit)))) LL 0

def slices_IndexFunc_int_int_n5 (x13308 : List Int) (x13311 : Int) (x13309 : List Int) (x13310 : Int) : Option (Unit ⊕ Int) :=
  (slices_IndexFunc_int_int_n4 x13308 x13311 x13309 x13310).map (Sum.elim (fun (t : Int) => (Sum.inr t)) (fun (t : Unit) => (Sum.inl ())))

def slices_IndexFunc_int_int_n6 (x13308 : List Int) (x13309 : List Int) (x13310 : Int) : Option (Unit ⊕ Int) :=
  (slices_IndexFunc_int_int_n2 x13308).bind (fun (t : Int) => slices_IndexFunc_int_int_n5 x13308 t x13309 x13310)

def slices_IndexFunc_int_int_n7 : Option (Int) :=
  some (-1)

def slices_IndexFunc_int_int_n8 (x13308 : List Int) (x13309 : List Int) (x13310 : Int) : Option (Int) :=
  (slices_IndexFunc_int_int_n6 x13308 x13309 x13310).bind (Sum.elim (fun (t : Unit) => slices_IndexFunc_int_int_n7) (fun e => some ((fun (t : Int) => t) e)))

def slices_IndexFunc_int_int_n9 (x13308 : List Int) (x13309 : List Int) (x13310 : Int) : Option (Int) :=
  (slices_IndexFunc_int_int_n1).bind (fun (t : Unit) => slices_IndexFunc_int_int_n8 x13308 x13309 x13310)

@[irreducible] def slices_IndexFunc_int_int (x13308 : List Int) (x13309 : List Int) (x13310 : Int) : Option (Int) :=
  slices_IndexFunc_int_int_n9 x13308 x13309 x13310

def slices_ContainsFunc_int_int_n1 (x13305 : List Int) (x13306 : List Int) (x13307 : Int) : Option (Bool) :=
  (slices_IndexFunc_int_int x13305 x13306 x13307).bind fun (v13350 : Int) => some (decide (v13350 ≥ 0))

@[irreducible] def slices_ContainsFunc_int_int (x13305 : List Int) (x13306 : List Int) (x13307 : Int) : Option (Bool) :=
  slices_ContainsFunc_int_int_n1 x13305 x13306 x13307

def impl_eagerMachine_waitsBelow_n1 (x13652 : List Int) (x13653 : Int) (x13654 : Nat) (x13655 : Nat) (x13660 : List Int) : Option (Bool) :=
  (inc (IntKind.wrap .i64 ((((x13655 : Nat) : Int)) - 1)) x13655).bind fun (v13676 : Nat) => (slices_ContainsFunc_int_int ((x13660.drop (x13654 + 0)).take (v13676 - 0)) x13652 x13653).bind fun (v13680 : Bool) => some v13680

@[irreducible] def impl_eagerMachine_waitsBelow (x13652 : List Int) (x13653 : Int) (x13654 : Nat) (x13655 : Nat) (x13656 : Int) (x13657 : Int) (x13658 : Int) (x13659 : List Int) (x13660 : List Int) : Option (Bool) :=
  impl_eagerMachine_waitsBelow_n1 x13652 x13653 x13654 x13655 x13660

def impl_eagerMachine_letterFor_n1 (x13629 : List Int) (x13630 : Nat) (x13631 : Nat) (x13632 : Int) (x13633 : Int) (x13634 : Int) (x13635 : List Int) (x13636 : List Int) : Option (Int) :=
  (impl_eagerMachine_upperAndNext x13630 x13631 x13632 x13633 x13634 x13635 x13636).bind fun (v13694 : Int × Int × Bool) => cond (!(v13694.2.2)) (some 83) ((idx x13629 (IntKind.wrap .i64 ((v13694.1) - 1))).bind fun (v13700 : Int) => cond (v13700 == (v13694.2.1)) (some 76) ((idx x13629 (IntKind.wrap .i64 ((v13694.2.1) - 1))).bind fun (v13703 : Int) => cond (v13703 == (v13694.1)) (some 82) ((impl_eagerMachine_waitsBelow x13629 (v13694.2.1) x13630 x13631 x13632 x13633 x13634 x13635 x13636).bind fun (v13705 : Bool) => cond v13705 (some 68) (some 83))))

@[irreducible] def impl_eagerMachine_letterFor (x13629 : List Int) (x13630 : Nat) (x13631 : Nat) (x13632 : Int) (x13633 : Int) (x13634 : Int) (x13635 : List Int) (x13636 : List Int) : Option (Int) :=
  impl_eagerMachine_letterFor_n1 x13629 x13630 x13631 x13632 x13633 x13634 x13635 x13636

def impl_EagerFor_n1 (x13238 : List Int) : Option ((Nat × (List Int)) ⊕ (ByteArray × Bool)) :=
  (impl_FlatOk x13238).bind fun (v13836 : Bool) => cond (!v13836) (some (Sum.inr (ByteArray.empty, false))) ((impl_newEagerMachine (((List.length x13238 : Nat) : Int))).bind fun (v13839 : List Int) => (impl_eagerMoves).bind fun (v13840 : Unit) => some (Sum.inl ((List.length ([] : List Int)), v13839)))

def impl_EagerFor_n2 (x13238 : List Int) (x13901 : Nat) (x13902 : Nat) (x13903 : Int) (x13904 : Int) (x13905 : Int) (x13906 : List Int) (x13907 : List Int) (x13908 : List Int) : Option ((Nat × Nat × Int × Int × Int × (List Int) × (List Int) × (List Int)) ⊕ ((List Int))) :=
  cond (decide (x13903 < (((List.length x13238 : Nat) : Int)))) ((impl_eagerMachine_letterFor x13238 x13901 x13902 x13903 x13904 x13905 x13907 x13908).bind fun (v13913 : Int) => cond (v13913 == 83) ((impl_stackMachine_putNext_v2 x13901 x13902 x13903 x13904 x13905 x13907 x13908).bind fun (v13915 : Bool × Nat × Nat × Int × Int × (List Int)) => (room ((List.length x13906) + List.length ([v13913]))).bind fun (v13924 : Unit) => some (Sum.inl ((v13915.2.1), (v13915.2.2.1), (v13915.2.2.2.1), (v13915.2.2.2.2.1), x13905, (x13906 ++ ([v13913])), x13907, (v13915.2.2.2.2.2)))) (cond (v13913 == 76) ((impl_eagerMachine_takeUnderNext x13901 x13902 x13903 x13904 x13905 x13907 x13908).bind fun (v13927 : Bool × Nat × Nat × Int × (List Int)) => (room ((List.length x13906) + List.length ([v13913]))).bind fun (v13935 : Unit) => some (Sum.inl ((v13927.2.1), (v13927.2.2.1), x13903, x13904, (v13927.2.2.2.1), (x13906 ++ ([v13913])), (v13927.2.2.2.2), x13908))) (cond (v13913 == 82) ((impl_eagerMachine_putUnderUpper x13901 x13902 x13903 x13904 x13905 x13907 x13908).bind fun (v13938 : Bool × Nat × Nat × Int × Int × Int × (List Int) × (List Int)) => (room ((List.length x13906) + List.length ([v13913]))).bind fun (v13949 : Unit) => some (Sum.inl ((v13938.2.1), (v13938.2.2.1), (v13938.2.2.2.1), (v13938.2.2.2.2.1), (v13938.2.2.2.2.2.1), (x13906 ++ ([v13913])), (v13938.2.2.2.2.2.2.1), (v13938.2.2.2.2.2.2.2)))) (cond (v13913 == 68) ((impl_eagerMachine_takeHeaded x13901 x13902 x13903 x13904 x13905 x13907 x13908).bind fun (v13952 : Bool × Nat × Nat) => (room ((List.length x13906) + List.length ([v13913]))).bind fun (v13958 : Unit) => some (Sum.inl ((v13952.2.1), (v13952.2.2), x13903, x13904, x13905, (x13906 ++ ([v13913])), x13907, x13908))) (none))))) (some (Sum.inr x13906))

def impl_EagerFor_n3 (x13238 : List Int) (x13841 : Nat) (x13839 : List Int) : Option (((List Int))) :=
  nloop (fun (s : Nat × Nat × Int × Int × Int × (List Int) × (List Int) × (List Int)) => ((impl_EagerFor_n2 x13238 s.1 s.2.1 s.2.2.1 s.2.2.2.1 s.2.2.2.2.1 s.2.2.2.2.2.1 s.2.2.2.2.2.2.1 s.2.2.2.2.2.2.2).map (Sum.elim (fun (t : Nat × Nat × Int × Int × Int × (List Int) × (List Int) × (List Int)) => Sum.inl (t.1, t.2.1, t.2.2.1, t.2.2.2.1, t.2.2.2.2.1, t.2.2.2.2.2.1, t.2.2.2.2.2.2.1, t.2.2.2.2.2.2.2)) (fun (t : (List Int)) => Sum.inr t)) : Option ((Nat × Nat × Int × Int × Int × (List Int) × (List Int) × (List Int)) ⊕ (((List Int)))))) LL (0, x13841, 0, 0, 0, ([] : List Int), x13839, ([] : List Int))

def impl_EagerFor_n4 (x13238 : List Int) (x13841 : Nat) (x13839 : List Int) : Option (((List Int))) :=
  (impl_EagerFor_n3 x13238 x13841 x13839).map (fun (t : (List Int)) => t)

def impl_EagerFor_n5 (x13906 : List Int) : Option ((ByteArray × Bool)) :=
  some ((bytesOf x13906), true)

def impl_EagerFor_n6 (x13238 : List Int) (x13841 : Nat) (x13839 : List Int) : Option ((ByteArray × Bool)) :=
  (impl_EagerFor_n4 x13238 x13841 x13839).bind (fun (t : (List Int)) => impl_EagerFor_n5 t)

def impl_EagerFor_n7 (x13238 : List Int) : Option ((ByteArray × Bool)) :=
  (impl_EagerFor_n1 x13238).bind (Sum.elim (fun (t : Nat × (List Int)) => impl_EagerFor_n6 x13238 t.1 t.2) (fun e => some ((fun (t : ByteArray × Bool) => t) e)))

@[irreducible] def impl_EagerFor (x13238 : List Int) : Option (ByteArray × Bool) :=
  impl_EagerFor_n7 x13238

def laws_FnRunEager_n1 (x6531 : List Int) : Option (Bool) :=
  cond (decide ((((List.length x6531 : Nat) : Int)) > 1048576)) (some true) ((spec_DrawRunEager x6531).bind fun (v14091 : Int × ByteArray) => (impl_RunEager (v14091.1) (v14091.2)).bind fun (v14094 : Bool × (List Int)) => (spec_RunEager (v14091.1) (v14091.2)).bind fun (v14097 : Bool × (List Int)) => (laws_sameInts (v14094.2) (v14097.2)).bind fun (v14100 : Bool) => cond (!v14100) (some false) (cond ((v14094.1) != (v14097.1)) (some false) (cond (!(v14094.1)) (cond ((((List.length (v14094.2) : Nat) : Int)) == 0) ((laws_alive).bind fun (v14106 : Bool) => some v14106) (some false)) ((impl_EagerFor (v14094.2)).bind fun (v14107 : ByteArray × Bool) => (impl_RunEager (v14091.1) (v14107.1)).bind fun (v14110 : Bool × (List Int)) => (impl_MovesFor (v14094.2)).bind fun (v14113 : ByteArray × Bool) => (impl_RunStack (v14091.1) (v14113.1)).bind fun (v14116 : Bool × (List Int)) => (impl_FlatOk (v14094.2)).bind fun (v14119 : Bool) => cond v14119 (cond (v14107.2) (cond (v14110.1) ((laws_sameInts (v14110.2) (v14094.2)).bind fun (v14120 : Bool) => cond v14120 (cond (v14113.2) (cond (v14116.1) ((laws_sameInts (v14116.2) (v14094.2)).bind fun (v14121 : Bool) => some v14121) (some false)) (some false)) (some false)) (some false)) (some false)) (some false)))))

@[irreducible] def laws_FnRunEager (x6531 : List Int) : Option (Bool) :=
  laws_FnRunEager_n1 x6531

end Go.Rv
