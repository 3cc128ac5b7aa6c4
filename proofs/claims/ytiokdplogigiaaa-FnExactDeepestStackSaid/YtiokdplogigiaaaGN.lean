/-
  Plain functions, written by program for functions of the checked code. Conditions: none.
-/
import Derived.Test.YtiokdplogigiaaaFB
set_option linter.unusedVariables false
namespace Go.Rv
/-! loop.example/headtrees/spec.l20Open -/

def spec_l20Open_n1 (x14 : List Int) : Option (((List Int))) :=
  cond (decide ((((List.length x14 : Nat) : Int)) > 2000)) ((inc 2000 (List.length x14)).bind fun (v30 : Nat) => some ((x14.take v30).drop 0)) (some x14)

@[irreducible] def spec_l20Open (x14 : List Int) : Option ((List Int)) :=
  spec_l20Open_n1 x14

/-! (*loop.example/headtrees/spec.l20Rd).pick -/

def spec_l20Rd_pick_n1 (x36 : Int) (x37 : List Int) (x38 : Int) : Option ((Int × Int)) :=
  cond (decide (x36 < 1)) (some (0, (IntKind.wrap .i64 (x38 + 1)))) (cond ((((List.length x37 : Nat) : Int)) == 0) (some (0, (IntKind.wrap .i64 (x38 + 1)))) (cond (decide ((IntKind.wrap .i64 ((IntKind.wrap .i64 (x38 + 1)) - 1)) < (((List.length x37 : Nat) : Int)))) ((idx x37 (IntKind.wrap .i64 ((IntKind.wrap .i64 (x38 + 1)) - 1))).bind fun (v166 : Int) => (rem (IntKind.wrap .i64 v166) x36).bind fun (v168 : Int) => some (v168, (IntKind.wrap .i64 (x38 + 1)))) ((rem (IntKind.wrap .i64 ((IntKind.wrap .i64 (x38 + 1)) - 1)) (((List.length x37 : Nat) : Int))).bind fun (v170 : Int) => (idx x37 v170).bind fun (v171 : Int) => (rem (IntKind.wrap .i64 ((IntKind.wrap .i64 ((IntKind.wrap .i64 ((IntKind.wrap .i64 (x38 + 1)) - 1)) * 7)) + 3)) (((List.length x37 : Nat) : Int))).bind fun (v177 : Int) => (idx x37 v177).bind fun (v178 : Int) => (quo .i64 (IntKind.wrap .i64 ((IntKind.wrap .i64 (x38 + 1)) - 1)) (((List.length x37 : Nat) : Int))).bind fun (v185 : Int) => (quo .i64 (IntKind.wrap .i64 ((IntKind.wrap .i64 ((IntKind.wrap .i64 ((IntKind.wrap .i64 ((IntKind.wrap .i64 v171) * 131)) + (IntKind.wrap .i64 ((IntKind.wrap .i64 v178) * 1117)))) + (IntKind.wrap .i64 ((IntKind.wrap .i64 ((IntKind.wrap .i64 (x38 + 1)) - 1)) * 29)))) + (IntKind.wrap .i64 (v185 * 53)))) 64).bind fun (v188 : Int) => (rem (ixor .i64 (IntKind.wrap .i64 ((IntKind.wrap .i64 ((IntKind.wrap .i64 ((IntKind.wrap .i64 ((IntKind.wrap .i64 v171) * 131)) + (IntKind.wrap .i64 ((IntKind.wrap .i64 v178) * 1117)))) + (IntKind.wrap .i64 ((IntKind.wrap .i64 ((IntKind.wrap .i64 (x38 + 1)) - 1)) * 29)))) + (IntKind.wrap .i64 (v185 * 53)))) v188) x36).bind fun (v190 : Int) => some (v190, (IntKind.wrap .i64 (x38 + 1))))))

@[irreducible] def spec_l20Rd_pick (x36 : Int) (x37 : List Int) (x38 : Int) : Option (Int × Int) :=
  spec_l20Rd_pick_n1 x36 x37 x38

/-! (*loop.example/headtrees/spec.l20Rd).odd -/

def spec_l20Rd_odd_n1 (x353 : Int) (x354 : List Int) (x355 : Int) : Option ((Bool × Int)) :=
  cond (decide (x353 > 0)) ((spec_l20Rd_pick x353 x354 x355).bind fun (v363 : Int × Int) => some (((v363.1) == (IntKind.wrap .i64 (x353 - 1))), (v363.2))) (some (false, x355))

@[irreducible] def spec_l20Rd_odd (x353 : Int) (x354 : List Int) (x355 : Int) : Option (Bool × Int) :=
  spec_l20Rd_odd_n1 x353 x354 x355

/-! loop.example/headtrees/spec.l20Moves -/

def spec_l20Moves_n1 : Option (Unit) :=
  some ()

def spec_l20Moves_n2 (x735 : ByteArray) (x736 : Int) (x737 : Int) (x215 : List Int) (x738 : Int) : Option ((ByteArray × Int × Int × Int) ⊕ (ByteArray × Int)) :=
  cond (decide (x737 > 0)) (cond (decide (x737 > 0)) (cond (decide (x736 < 2)) ((cat x735 (ByteArray.mk #[83])).bind fun (v744 : ByteArray) => some (Sum.inl (v744, (IntKind.wrap .i64 (x736 + 1)), (IntKind.wrap .i64 (x737 - 1)), x738))) ((spec_l20Rd_pick 2 x215 x738).bind fun (v747 : Int × Int) => cond ((v747.1) == 0) ((cat x735 (ByteArray.mk #[83])).bind fun (v751 : ByteArray) => some (Sum.inl (v751, (IntKind.wrap .i64 (x736 + 1)), (IntKind.wrap .i64 (x737 - 1)), (v747.2)))) ((spec_l20Rd_pick 2 x215 (v747.2)).bind fun (v755 : Int × Int) => (inb (v755.1) (List.length ([(ByteArray.mk #[76]), (ByteArray.mk #[82])]))).bind fun (v758 : Nat) => (([(ByteArray.mk #[76]), (ByteArray.mk #[82])])[v758]?).bind fun (v759 : ByteArray) => (cat x735 v759).bind fun (v760 : ByteArray) => some (Sum.inl (v760, (IntKind.wrap .i64 (x736 - 1)), x737, (v755.2)))))) ((spec_l20Rd_pick 2 x215 x738).bind fun (v763 : Int × Int) => (inb (v763.1) (List.length ([(ByteArray.mk #[76]), (ByteArray.mk #[82])]))).bind fun (v766 : Nat) => (([(ByteArray.mk #[76]), (ByteArray.mk #[82])])[v766]?).bind fun (v767 : ByteArray) => (cat x735 v767).bind fun (v768 : ByteArray) => some (Sum.inl (v768, (IntKind.wrap .i64 (x736 - 1)), x737, (v763.2))))) (cond (decide (x736 > 1)) (cond (decide (x737 > 0)) (cond (decide (x736 < 2)) ((cat x735 (ByteArray.mk #[83])).bind fun (v773 : ByteArray) => some (Sum.inl (v773, (IntKind.wrap .i64 (x736 + 1)), (IntKind.wrap .i64 (x737 - 1)), x738))) ((spec_l20Rd_pick 2 x215 x738).bind fun (v776 : Int × Int) => cond ((v776.1) == 0) ((cat x735 (ByteArray.mk #[83])).bind fun (v780 : ByteArray) => some (Sum.inl (v780, (IntKind.wrap .i64 (x736 + 1)), (IntKind.wrap .i64 (x737 - 1)), (v776.2)))) ((spec_l20Rd_pick 2 x215 (v776.2)).bind fun (v784 : Int × Int) => (inb (v784.1) (List.length ([(ByteArray.mk #[76]), (ByteArray.mk #[82])]))).bind fun (v787 : Nat) => (([(ByteArray.mk #[76]), (ByteArray.mk #[82])])[v787]?).bind fun (v788 : ByteArray) => (cat x735 v788).bind fun (v789 : ByteArray) => some (Sum.inl (v789, (IntKind.wrap .i64 (x736 - 1)), x737, (v784.2)))))) ((spec_l20Rd_pick 2 x215 x738).bind fun (v792 : Int × Int) => (inb (v792.1) (List.length ([(ByteArray.mk #[76]), (ByteArray.mk #[82])]))).bind fun (v795 : Nat) => (([(ByteArray.mk #[76]), (ByteArray.mk #[82])])[v795]?).bind fun (v796 : ByteArray) => (cat x735 v796).bind fun (v797 : ByteArray) => some (Sum.inl (v797, (IntKind.wrap .i64 (x736 - 1)), x737, (v792.2))))) (some (Sum.inr (x735, x738))))

def spec_l20Moves_n3 (x214 : Int) (x215 : List Int) (x216 : Int) : Option ((ByteArray × Int)) :=
  nloop (fun (s : ByteArray × Int × Int × Int) => ((spec_l20Moves_n2 s.1 s.2.1 s.2.2.1 x215 s.2.2.2).map (Sum.elim (fun (t : ByteArray × Int × Int × Int) => Sum.inl (t.1, t.2.1, t.2.2.1, t.2.2.2)) (fun (t : ByteArray × Int) => Sum.inr t)) : Option ((ByteArray × Int × Int × Int) ⊕ ((ByteArray × Int))))) LL (ByteArray.empty, 0, x214, x216)

def spec_l20Moves_n4 (x214 : Int) (x215 : List Int) (x216 : Int) : Option ((ByteArray × Int)) :=
  (spec_l20Moves_n3 x214 x215 x216).map (fun (t : ByteArray × Int) => (t.1, t.2))

def spec_l20Moves_n5 (x735 : ByteArray) (x215 : List Int) (x738 : Int) : Option ((ByteArray × Int)) :=
  (spec_l20Rd_odd 8 x215 x738).bind fun (v849 : Bool × Int) => cond (v849.1) (cond (decide ((((ByteArray.size x735 : Nat) : Int)) > 0)) ((spec_l20Rd_pick (((ByteArray.size x735 : Nat) : Int)) x215 (v849.2)).bind fun (v855 : Int × Int) => (inc (v855.1) (ByteArray.size x735)).bind fun (v859 : Nat) => (inc (IntKind.wrap .i64 ((v855.1) + 1)) (ByteArray.size x735)).bind fun (v864 : Nat) => (spec_l20Rd_pick 4 x215 (v855.2)).bind fun (v866 : Int × Int) => (idx ([ByteArray.empty, (ByteArray.mk #[83]), (ByteArray.mk #[76]), (ByteArray.mk #[120])]) (v866.1)).bind fun (v869 : ByteArray) => (cat (x735.extract 0 v859) v869).bind fun (v870 : ByteArray) => (cat v870 (x735.extract v864 (ByteArray.size x735))).bind fun (v871 : ByteArray) => some (v871, (v866.2))) (some (x735, (v849.2)))) (some (x735, (v849.2)))

def spec_l20Moves_n6 (x214 : Int) (x215 : List Int) (x216 : Int) : Option ((ByteArray × Int)) :=
  (spec_l20Moves_n4 x214 x215 x216).bind (fun (t : ByteArray × Int) => spec_l20Moves_n5 t.1 x215 t.2)

def spec_l20Moves_n7 (x214 : Int) (x215 : List Int) (x216 : Int) : Option ((ByteArray × Int)) :=
  (spec_l20Moves_n1).bind (fun (t : Unit) => spec_l20Moves_n6 x214 x215 x216)

@[irreducible] def spec_l20Moves (x214 : Int) (x215 : List Int) (x216 : Int) : Option (ByteArray × Int) :=
  spec_l20Moves_n7 x214 x215 x216

/-! loop.example/headtrees/spec.DrawRunStack -/

def spec_DrawRunStack_n1 (x13 : List Int) : Option ((Int × ByteArray)) :=
  (spec_l20Open x13).bind fun (v877 : List Int) => (spec_l20Rd_pick 8 v877 0).bind fun (v878 : Int × Int) => (spec_l20Rd_pick 20 v877 (v878.2)).bind fun (v882 : Int × Int) => (quo .i64 (v882.1) 19).bind fun (v885 : Int) => (spec_l20Rd_pick 30 v877 (v882.2)).bind fun (v887 : Int × Int) => (quo .i64 (v887.1) 29).bind fun (v890 : Int) => (spec_l20Moves (IntKind.wrap .i64 (1 + (v878.1))) v877 (v887.2)).bind fun (v892 : ByteArray × Int) => some ((IntKind.wrap .i64 ((IntKind.wrap .i64 ((IntKind.wrap .i64 (1 + (v878.1))) + v885)) - v890)), (v892.1))

@[irreducible] def spec_DrawRunStack (x13 : List Int) : Option (Int × ByteArray) :=
  spec_DrawRunStack_n1 x13

/-! loop.example/headtrees/spec.DrawDeepestStack -/

def spec_DrawDeepestStack_n1 (x10 : List Int) : Option ((Int × ByteArray)) :=
  (spec_DrawRunStack x10).bind fun (v898 : Int × ByteArray) => some ((v898.1), (v898.2))

@[irreducible] def spec_DrawDeepestStack (x10 : List Int) : Option (Int × ByteArray) :=
  spec_DrawDeepestStack_n1 x10

/-! loop.example/headtrees/impl.newStackMachine -/

def impl_newStackMachine_n1 (x917 : Int) : Option (((List Int))) :=
  (mk x917 x917).bind fun (v920 : Nat) => some (List.replicate v920 (0 : Int))

@[irreducible] def impl_newStackMachine (x917 : Int) : Option ((List Int)) :=
  impl_newStackMachine_n1 x917

/-! loop.example/headtrees/impl.stackMoves -/

@[irreducible] def impl_stackMoves : Option (Unit) :=
  some ()

/-! (*loop.example/headtrees/impl.stackMachine).putNext -/

def impl_stackMachine_putNext_n1 (x1211 : Int) (x1212 : Int) (x1213 : List Int) (x1214 : List Int) : Option ((Bool × Int × Int × (List Int))) :=
  cond (x1211 == (((List.length x1213 : Nat) : Int))) (some (false, x1211, x1212, x1214)) ((room ((List.length x1214) + List.length ([(IntKind.wrap .i64 (x1211 + 1))]))).bind fun (v1250 : Unit) => some (true, (IntKind.wrap .i64 (x1211 + 1)), (imax x1212 (((List.length (x1214 ++ ([(IntKind.wrap .i64 (x1211 + 1))])) : Nat) : Int))), (x1214 ++ ([(IntKind.wrap .i64 (x1211 + 1))]))))

@[irreducible] def impl_stackMachine_putNext (x1211 : Int) (x1212 : Int) (x1213 : List Int) (x1214 : List Int) : Option (Bool × Int × Int × (List Int)) :=
  impl_stackMachine_putNext_n1 x1211 x1212 x1213 x1214

/-! (*loop.example/headtrees/impl.stackMachine).upperTwo -/

def impl_stackMachine_upperTwo_n1 (x1058 : List Int) : Option ((Int × Int × Bool)) :=
  cond (decide ((((List.length x1058 : Nat) : Int)) < 2)) (some (0, 0, false)) ((inb (IntKind.wrap .i64 ((((List.length x1058 : Nat) : Int)) - 2)) (List.length x1058)).bind fun (v1073 : Nat) => (x1058[v1073]?).bind fun (v1074 : Int) => (inb (IntKind.wrap .i64 ((((List.length x1058 : Nat) : Int)) - 1)) (List.length x1058)).bind fun (v1076 : Nat) => (x1058[v1076]?).bind fun (v1077 : Int) => some (v1074, v1077, true))

@[irreducible] def impl_stackMachine_upperTwo (x1055 : Int) (x1056 : Int) (x1057 : List Int) (x1058 : List Int) : Option (Int × Int × Bool) :=
  impl_stackMachine_upperTwo_n1 x1058

/-! (*loop.example/headtrees/impl.stackMachine).join -/

def impl_stackMachine_join_n1 (x1089 : Int) (x1090 : Int) (x1093 : List Int) (x1094 : List Int) : Option (((List Int) × (List Int))) :=
  (inb (IntKind.wrap .i64 (x1089 - 1)) (List.length x1093)).bind fun (v1099 : Nat) => (inc (IntKind.wrap .i64 ((((List.length x1094 : Nat) : Int)) - 2)) (List.length x1094)).bind fun (v1104 : Nat) => (room ((v1104 - 0) + List.length ([x1090]))).bind fun (v1108 : Unit) => some ((x1093.set v1099 x1090), (((x1094.drop 0).take (v1104 - 0)) ++ ([x1090])))

@[irreducible] def impl_stackMachine_join (x1089 : Int) (x1090 : Int) (x1091 : Int) (x1092 : Int) (x1093 : List Int) (x1094 : List Int) : Option ((List Int) × (List Int)) :=
  (impl_stackMachine_join_n1 x1089 x1090 x1093 x1094).map (fun (t : (List Int) × (List Int)) => (t.1, t.2))

/-! (*loop.example/headtrees/impl.stackMachine).takeBelow -/

def impl_stackMachine_takeBelow_n1 (x1265 : Int) (x1266 : Int) (x1267 : List Int) (x1268 : List Int) : Option ((Bool × (List Int) × (List Int))) :=
  (impl_stackMachine_upperTwo x1265 x1266 x1267 x1268).bind fun (v1287 : Int × Int × Bool) => cond (v1287.2.2) ((impl_stackMachine_join (v1287.1) (v1287.2.1) x1265 x1266 x1267 x1268).bind fun (v1291 : (List Int) × (List Int)) => some ((v1287.2.2), (v1291.1), (v1291.2))) (some ((v1287.2.2), x1267, x1268))

@[irreducible] def impl_stackMachine_takeBelow (x1265 : Int) (x1266 : Int) (x1267 : List Int) (x1268 : List Int) : Option (Bool × (List Int) × (List Int)) :=
  impl_stackMachine_takeBelow_n1 x1265 x1266 x1267 x1268

/-! (*loop.example/headtrees/impl.stackMachine).takeUpper -/

def impl_stackMachine_takeUpper_n1 (x1302 : Int) (x1303 : Int) (x1304 : List Int) (x1305 : List Int) : Option ((Bool × (List Int) × (List Int))) :=
  (impl_stackMachine_upperTwo x1302 x1303 x1304 x1305).bind fun (v1324 : Int × Int × Bool) => cond (v1324.2.2) ((impl_stackMachine_join (v1324.2.1) (v1324.1) x1302 x1303 x1304 x1305).bind fun (v1328 : (List Int) × (List Int)) => some ((v1324.2.2), (v1328.1), (v1328.2))) (some ((v1324.2.2), x1304, x1305))

@[irreducible] def impl_stackMachine_takeUpper (x1302 : Int) (x1303 : Int) (x1304 : List Int) (x1305 : List Int) : Option (Bool × (List Int) × (List Int)) :=
  impl_stackMachine_takeUpper_n1 x1302 x1303 x1304 x1305

/-! loop.example/headtrees/impl.allDone[*loop.example/headtrees/impl.stackMachine] -/

def impl_allDone_impl_stackMachine_n1 : Option (Unit) :=
  some ()

def impl_allDone_impl_stackMachine_n2 (x927 : ByteArray) : Option (Int) :=
  some (((ByteArray.size x927 : Nat) : Int))

def impl_allDone_impl_stackMachine_n3 (x927 : ByteArray) (x1205 : Int) (x1367 : Int) (x1368 : Int) (x1369 : Int) (x1370 : List Int) (x1371 : List Int) : Option ((Int × Int × Int × (List Int) × (List Int)) ⊕ (Bool × Int × Int × (List Int) × (List Int)) ⊕ (Int × Int × (List Int) × (List Int))) :=
  cond (decide (x1367 < x1205)) ((bidx x927 x1367).bind fun (v1396 : Int) => cond (v1396 == 83) ((impl_stackMachine_putNext x1368 x1369 x1370 x1371).bind fun (v1398 : Bool × Int × Int × (List Int)) => cond (!(v1398.1)) (some (Sum.inr (Sum.inl (false, (v1398.2.1), (v1398.2.2.1), x1370, (v1398.2.2.2))))) (some (Sum.inl ((IntKind.wrap .i64 (x1367 + 1)), (v1398.2.1), (v1398.2.2.1), x1370, (v1398.2.2.2))))) (cond (v1396 == 76) ((impl_stackMachine_takeBelow x1368 x1369 x1370 x1371).bind fun (v1406 : Bool × (List Int) × (List Int)) => cond (!(v1406.1)) (some (Sum.inr (Sum.inl (false, x1368, x1369, (v1406.2.1), (v1406.2.2))))) (some (Sum.inl ((IntKind.wrap .i64 (x1367 + 1)), x1368, x1369, (v1406.2.1), (v1406.2.2))))) (cond (v1396 == 82) ((impl_stackMachine_takeUpper x1368 x1369 x1370 x1371).bind fun (v1413 : Bool × (List Int) × (List Int)) => cond (!(v1413.1)) (some (Sum.inr (Sum.inl (false, x1368, x1369, (v1413.2.1), (v1413.2.2))))) (some (Sum.inl ((IntKind.wrap .i64 (x1367 + 1)), x1368, x1369, (v1413.2.1), (v1413.2.2))))) (some (Sum.inr (Sum.inl (false, x1368, x1369, x1370, x1371))))))) (some (Sum.inr (Sum.inr (x1368, x1369, x1370, x1371))))

def impl_allDone_impl_stackMachine_n4 (x927 : ByteArray) (x1205 : Int) (x928 : Int) (x929 : Int) (x930 : List Int) : Option ((Bool × Int × Int × (List Int) × (List Int)) ⊕ (Int × Int × (List Int) × (List Int))) :=
  nloop (fun (s : Int × Int × Int × (List Int) × (List Int)) => ((impl_allDone_impl_stackMachine_n3 x927 x1205 s.1 s.2.1 s.2.2.1 s.2.2.2.1 s.2.2.2.2).map (Sum.elim (fun (t : Int × Int × Int × (List Int) × (List Int)) => Sum.inl (t.1, t.2.1, t.2.2.1, t.2.2.2.1, t.2.2.2.2)) (Sum.elim (fun (t : Bool × Int × Int × (List Int) × (List Int)) => Sum.inr (Sum.inl t)) (fun (t : Int × Int × (List Int) × (List Int)) => Sum.inr (Sum.inr t)))) : Option ((Int × Int × Int × (List Int) × (List Int)) ⊕ ((Bool × Int × Int × (List Int) × (List Int)) ⊕ (Int × Int × (List Int) × (List Int)))))) LL (0, x928, x929, x930, ([] : List Int))

def impl_allDone_impl_stackMachine_n5 (x927 : ByteArray) (x1205 : Int) (x928 : Int) (x929 : Int) (x930 : List Int) : Option ((Int × Int × (List Int) × (List Int)) ⊕ (Bool × Int × Int × (List Int) × (List Int))) :=
  (impl_allDone_impl_stackMachine_n4 x927 x1205 x928 x929 x930).map (Sum.elim (fun (t : Bool × Int × Int × (List Int) × (List Int)) => (Sum.inr t)) (fun (t : Int × Int × (List Int) × (List Int)) => (Sum.inl (t.1, t.2.1, t.2.2.1, t.2.2.2))))

def impl_allDone_impl_stackMachine_n6 (x927 : ByteArray) (x928 : Int) (x929 : Int) (x930 : List Int) : Option ((Int × Int × (List Int) × (List Int)) ⊕ (Bool × Int × Int × (List Int) × (List Int))) :=
  (impl_allDone_impl_stackMachine_n2 x927).bind (fun (t : Int) => impl_allDone_impl_stackMachine_n5 x927 t x928 x929 x930)

def impl_allDone_impl_stackMachine_n7 (x1368 : Int) (x1369 : Int) (x1370 : List Int) (x1371 : List Int) : Option ((Bool × Int × Int × (List Int) × (List Int))) :=
  some (true, x1368, x1369, x1370, x1371)

def impl_allDone_impl_stackMachine_n8 (x927 : ByteArray) (x928 : Int) (x929 : Int) (x930 : List Int) : Option ((Bool × Int × Int × (List Int) × (List Int))) :=
  (impl_allDone_impl_stackMachine_n6 x927 x928 x929 x930).bind (Sum.elim (fun (t : Int × Int × (List Int) × (List Int)) => impl_allDone_impl_stackMachine_n7 t.1 t.2.1 t.2.2.1 t.2.2.2) (fun e => some ((fun (t : Bool × Int × Int × (List Int) × (List Int)) => t) e)))

def impl_allDone_impl_stackMachine_n9 (x927 : ByteArray) (x928 : Int) (x929 : Int) (x930 : List Int) : Option ((Bool × Int × Int × (List Int) × (List Int))) :=
  (impl_allDone_impl_stackMachine_n1).bind (fun (t : Unit) => impl_allDone_impl_stackMachine_n8 x927 x928 x929 x930)

@[irreducible] def impl_allDone_impl_stackMachine (x927 : ByteArray) (x928 : Int) (x929 : Int) (x930 : List Int) : Option (Bool × Int × Int × (List Int) × (List Int)) :=
  impl_allDone_impl_stackMachine_n9 x927 x928 x929 x930

/-! (*loop.example/headtrees/impl.stackMachine).ended -/

def impl_stackMachine_ended_n1 (x1436 : Int) (x1438 : List Int) (x1439 : List Int) : Option (Bool) :=
  cond (x1436 == (((List.length x1438 : Nat) : Int))) (some ((((List.length x1439 : Nat) : Int)) == 1)) (some false)

@[irreducible] def impl_stackMachine_ended (x1436 : Int) (x1437 : Int) (x1438 : List Int) (x1439 : List Int) : Option (Bool) :=
  impl_stackMachine_ended_n1 x1436 x1438 x1439

/-! loop.example/headtrees/impl.afterMoves -/

def impl_afterMoves_n1 (x911 : Int) (x912 : ByteArray) : Option ((Int × Int × (List Int) × (List Int)) ⊕ Unit) :=
  cond (decide (x911 < 1)) (some (Sum.inr ())) (cond (decide (x911 > 8)) (some (Sum.inr ())) ((impl_newStackMachine x911).bind fun (v1510 : List Int) => (impl_stackMoves).bind fun (v1511 : Unit) => (impl_allDone_impl_stackMachine x912 0 0 v1510).bind fun (v1512 : Bool × Int × Int × (List Int) × (List Int)) => cond (!(v1512.1)) (some (Sum.inr ())) ((impl_stackMachine_ended (v1512.2.1) (v1512.2.2.1) (v1512.2.2.2.1) (v1512.2.2.2.2)).bind fun (v1519 : Bool) => cond (!v1519) (some (Sum.inr ())) (some (Sum.inl ((v1512.2.1), (v1512.2.2.1), (v1512.2.2.2.1), (v1512.2.2.2.2)))))))

@[irreducible] def impl_afterMoves (x911 : Int) (x912 : ByteArray) : Option (Bool × Int × Int × (List Int) × (List Int)) :=
  (impl_afterMoves_n1 x911 x912).map (Sum.elim (fun (t : Int × Int × (List Int) × (List Int)) => (true, t.1, t.2.1, t.2.2.1, t.2.2.2)) (fun (t : Unit) => (false, 0, 0, [], [])))

/-! loop.example/headtrees/impl.DeepestStack -/

def impl_DeepestStack_n1 (x909 : Int) (x910 : ByteArray) : Option (Int) :=
  (impl_afterMoves x909 x910).bind fun (v1541 : Bool × Int × Int × (List Int) × (List Int)) => cond (v1541.1) (some (v1541.2.2.1)) (some (-1))

@[irreducible] def impl_DeepestStack (x909 : Int) (x910 : ByteArray) : Option (Int) :=
  impl_DeepestStack_n1 x909 x910

/-! loop.example/headtrees/spec.l1In -/

def spec_l1In_n1 (x1559 : Int) (x1560 : Int) (x1561 : Int) : Option (Bool) :=
  cond (decide (x1559 ≥ x1560)) (some (decide (x1559 ≤ x1561))) (some false)

@[irreducible] def spec_l1In (x1559 : Int) (x1560 : Int) (x1561 : Int) : Option (Bool) :=
  spec_l1In_n1 x1559 x1560 x1561

/-! loop.example/headtrees/spec.l6Run -/

def spec_l6Run_n1 (x1571 : Int) : Option (((List Int))) :=
  (mk x1571 x1571).bind fun (v1645 : Nat) => some (List.replicate v1645 (0 : Int))

def spec_l6Run_n2 : Option (Unit) :=
  some ()

def spec_l6Run_n3 (x1572 : ByteArray) (x2362 : Int) (x2363 : Int) (x2364 : List Int) (x2365 : List Int) : Option (Unit ⊕ (Int × (List Int) × (List Int))) :=
  cond (decide (x2363 < (((ByteArray.size x1572 : Nat) : Int)))) (some (Sum.inl ())) (some (Sum.inr (x2362, x2364, x2365)))

def spec_l6Run_n4 (x2365 : List Int) : Option (Int) :=
  some (IntKind.wrap .i64 ((((List.length x2365 : Nat) : Int)) - 1))

def spec_l6Run_n5 (x1571 : Int) (x1572 : ByteArray) (x2362 : Int) (x2363 : Int) : Option (Bool) :=
  (bidx x1572 x2363).bind fun (v2882 : Int) => cond (v2882 == 83) (some (decide (x2362 ≤ x1571))) (some false)

def spec_l6Run_n6 (x1572 : ByteArray) (x2362 : Int) (x2363 : Int) (x2627 : Int) (x3011 : Bool) (x2364 : List Int) (x2365 : List Int) : Option ((Int × (List Int) × (List Int)) ⊕ (Bool × (List Int))) :=
  cond x3011 ((room ((List.length x2365) + List.length ([x2362]))).bind fun (v3014 : Unit) => some (Sum.inl ((IntKind.wrap .i64 (x2362 + 1)), x2364, (x2365 ++ ([x2362]))))) ((bidx x1572 x2363).bind fun (v3017 : Int) => cond (v3017 == 76) (cond (decide (x2627 ≥ 1)) ((inb (IntKind.wrap .i64 (x2627 - 1)) (List.length x2365)).bind fun (v3021 : Nat) => (x2365[v3021]?).bind fun (v3022 : Int) => (inb x2627 (List.length x2365)).bind fun (v3024 : Nat) => (x2365[v3024]?).bind fun (v3025 : Int) => (inb (IntKind.wrap .i64 (v3022 - 1)) (List.length x2364)).bind fun (v3026 : Nat) => (inc (IntKind.wrap .i64 (x2627 - 1)) (List.length x2365)).bind fun (v3030 : Nat) => (inb x2627 (List.length x2365)).bind fun (v3032 : Nat) => (x2365[v3032]?).bind fun (v3033 : Int) => (room (List.length ((x2365.drop 0).take (v3030 - 0)))).bind fun (v3036 : Unit) => (room ((List.length ((x2365.drop 0).take (v3030 - 0))) + List.length ([v3033]))).bind fun (v3038 : Unit) => some (Sum.inl (x2362, (x2364.set v3026 v3025), (((x2365.drop 0).take (v3030 - 0)) ++ ([v3033]))))) ((bidx x1572 x2363).bind fun (v3040 : Int) => cond (v3040 == 82) (cond (decide (x2627 ≥ 1)) ((inb x2627 (List.length x2365)).bind fun (v3043 : Nat) => (x2365[v3043]?).bind fun (v3044 : Int) => (inb (IntKind.wrap .i64 (x2627 - 1)) (List.length x2365)).bind fun (v3047 : Nat) => (x2365[v3047]?).bind fun (v3048 : Int) => (inb (IntKind.wrap .i64 (v3044 - 1)) (List.length x2364)).bind fun (v3049 : Nat) => (inc x2627 (List.length x2365)).bind fun (v3052 : Nat) => (room ((List.length ([] : List Int)) + List.length ((x2365.drop 0).take (v3052 - 0)))).bind fun (v3056 : Unit) => some (Sum.inl (x2362, (x2364.set v3049 v3048), (([] : List Int) ++ ((x2365.drop 0).take (v3052 - 0)))))) (some (Sum.inr (false, ([] : List Int))))) (some (Sum.inr (false, ([] : List Int)))))) ((bidx x1572 x2363).bind fun (v3058 : Int) => cond (v3058 == 82) (cond (decide (x2627 ≥ 1)) ((inb x2627 (List.length x2365)).bind fun (v3061 : Nat) => (x2365[v3061]?).bind fun (v3062 : Int) => (inb (IntKind.wrap .i64 (x2627 - 1)) (List.length x2365)).bind fun (v3065 : Nat) => (x2365[v3065]?).bind fun (v3066 : Int) => (inb (IntKind.wrap .i64 (v3062 - 1)) (List.length x2364)).bind fun (v3067 : Nat) => (inc x2627 (List.length x2365)).bind fun (v3070 : Nat) => (room ((List.length ([] : List Int)) + List.length ((x2365.drop 0).take (v3070 - 0)))).bind fun (v3074 : Unit) => some (Sum.inl (x2362, (x2364.set v3067 v3066), (([] : List Int) ++ ((x2365.drop 0).take (v3070 - 0)))))) (some (Sum.inr (false, ([] : List Int))))) (some (Sum.inr (false, ([] : List Int))))))

def spec_l6Run_n7 (x1571 : Int) (x1572 : ByteArray) (x2362 : Int) (x2363 : Int) (x2627 : Int) (x2364 : List Int) (x2365 : List Int) : Option ((Int × (List Int) × (List Int)) ⊕ (Bool × (List Int))) :=
  (spec_l6Run_n5 x1571 x1572 x2362 x2363).bind (fun (t : Bool) => spec_l6Run_n6 x1572 x2362 x2363 x2627 t x2364 x2365)

def spec_l6Run_n8 (x1571 : Int) (x1572 : ByteArray) (x2362 : Int) (x2363 : Int) (x2627 : Int) (x2364 : List Int) (x2365 : List Int) : Option ((Int × (List Int) × (List Int)) ⊕ (Bool × (List Int))) :=
  (spec_l6Run_n7 x1571 x1572 x2362 x2363 x2627 x2364 x2365).map (Sum.elim (fun (t : Int × (List Int) × (List Int)) => (Sum.inl (t.1, t.2.1, t.2.2))) (fun (t : Bool × (List Int)) => (Sum.inr t)))

def spec_l6Run_n9 (x1571 : Int) (x1572 : ByteArray) (x2362 : Int) (x2363 : Int) (x2364 : List Int) (x2365 : List Int) : Option ((Int × (List Int) × (List Int)) ⊕ (Bool × (List Int))) :=
  (spec_l6Run_n4 x2365).bind (fun (t : Int) => spec_l6Run_n8 x1571 x1572 x2362 x2363 t x2364 x2365)

def spec_l6Run_n10 (x1571 : Int) (x1572 : ByteArray) (x2362 : Int) (x2363 : Int) (x2364 : List Int) (x2365 : List Int) : Option ((Int × (List Int) × (List Int)) ⊕ (Bool × (List Int))) :=
  (spec_l6Run_n9 x1571 x1572 x2362 x2363 x2364 x2365).map (Sum.elim (fun (t : Int × (List Int) × (List Int)) => (Sum.inl (t.1, t.2.1, t.2.2))) (fun (t : Bool × (List Int)) => (Sum.inr t)))

def spec_l6Run_n11 (x2363 : Int) : Option (Int) :=
  some (IntKind.wrap .i64 (x2363 + 1))

def spec_l6Run_n12 (x1571 : Int) (x1572 : ByteArray) (x2362 : Int) (x2363 : Int) (x2364 : List Int) (x2365 : List Int) : Option ((Int × Int × (List Int) × (List Int)) ⊕ (Bool × (List Int))) :=
  (spec_l6Run_n10 x1571 x1572 x2362 x2363 x2364 x2365).bind (Sum.elim (fun (t : Int × (List Int) × (List Int)) => (spec_l6Run_n11 x2363).map (fun (u : Int) => (Sum.inl (t.1, u, t.2.1, t.2.2)))) (fun e => some ((fun (t : Bool × (List Int)) => (Sum.inr t)) e)))

def spec_l6Run_n13 (x1571 : Int) (x1572 : ByteArray) (x2362 : Int) (x2363 : Int) (x2364 : List Int) (x2365 : List Int) : Option ((Int × Int × (List Int) × (List Int)) ⊕ (Bool × (List Int)) ⊕ (Int × (List Int) × (List Int))) :=
  (spec_l6Run_n3 x1572 x2362 x2363 x2364 x2365).bind (Sum.elim (fun (t : Unit) => (spec_l6Run_n12 x1571 x1572 x2362 x2363 x2364 x2365).map (Sum.elim (fun (t : Int × Int × (List Int) × (List Int)) => (Sum.inl (t.1, t.2.1, t.2.2.1, t.2.2.2))) (fun (t : Bool × (List Int)) => (Sum.inr (Sum.inl t))))) (fun e => some ((fun (t : Int × (List Int) × (List Int)) => (Sum.inr (Sum.inr t))) e)))

def spec_l6Run_n14 (x1571 : Int) (x1572 : ByteArray) (x1646 : List Int) : Option ((Bool × (List Int)) ⊕ (Int × (List Int) × (List Int))) :=
  nloop (fun (s : Int × Int × (List Int) × (List Int)) => ((spec_l6Run_n13 x1571 x1572 s.1 s.2.1 s.2.2.1 s.2.2.2).map (Sum.elim (fun (t : Int × Int × (List Int) × (List Int)) => Sum.inl (t.1, t.2.1, t.2.2.1, t.2.2.2)) (Sum.elim (fun (t : Bool × (List Int)) => Sum.inr (Sum.inl t)) (fun (t : Int × (List Int) × (List Int)) => Sum.inr (Sum.inr t)))) : Option ((Int × Int × (List Int) × (List Int)) ⊕ ((Bool × (List Int)) ⊕ (Int × (List Int) × (List Int)))))) LL (1, 0, x1646, ([] : List Int))

def spec_l6Run_n15 (x1571 : Int) (x1572 : ByteArray) (x1646 : List Int) : Option ((Int × (List Int) × (List Int)) ⊕ (Bool × (List Int))) :=
  (spec_l6Run_n14 x1571 x1572 x1646).map (Sum.elim (fun (t : Bool × (List Int)) => (Sum.inr t)) (fun (t : Int × (List Int) × (List Int)) => (Sum.inl (t.1, t.2.1, t.2.2))))

def spec_l6Run_n16 (x1571 : Int) (x1572 : ByteArray) (x1646 : List Int) : Option ((Int × (List Int) × (List Int)) ⊕ (Bool × (List Int))) :=
  (spec_l6Run_n2).bind (fun (t : Unit) => spec_l6Run_n15 x1571 x1572 x1646)

def spec_l6Run_n17 (x1571 : Int) (x2362 : Int) (x2364 : List Int) (x2365 : List Int) : Option ((Bool × (List Int))) :=
  cond ((((List.length x2365 : Nat) : Int)) == 1) (some ((decide (x2362 > x1571)), x2364)) (some (false, x2364))

def spec_l6Run_n18 (x1571 : Int) (x1572 : ByteArray) (x1646 : List Int) : Option ((Bool × (List Int))) :=
  (spec_l6Run_n16 x1571 x1572 x1646).bind (Sum.elim (fun (t : Int × (List Int) × (List Int)) => spec_l6Run_n17 x1571 t.1 t.2.1 t.2.2) (fun e => some ((fun (t : Bool × (List Int)) => t) e)))

def spec_l6Run_n19 (x1571 : Int) (x1572 : ByteArray) : Option ((Bool × (List Int))) :=
  (spec_l6Run_n1 x1571).bind (fun (t : (List Int)) => spec_l6Run_n18 x1571 x1572 t)

@[irreducible] def spec_l6Run (x1571 : Int) (x1572 : ByteArray) : Option (Bool × (List Int)) :=
  spec_l6Run_n19 x1571 x1572

/-! loop.example/headtrees/spec.RunStack -/

def spec_RunStack_n1 (x1557 : Int) (x1558 : ByteArray) : Option ((Bool × (List Int))) :=
  (spec_l1In x1557 1 8).bind fun (v3103 : Bool) => cond (!v3103) (some (false, ([] : List Int))) ((spec_l6Run x1557 x1558).bind fun (v3105 : Bool × (List Int)) => cond (!(v3105.1)) (some (false, ([] : List Int))) (some (true, (v3105.2))))

@[irreducible] def spec_RunStack (x1557 : Int) (x1558 : ByteArray) : Option (Bool × (List Int)) :=
  spec_RunStack_n1 x1557 x1558

/-! loop.example/headtrees/spec.DeepestStack -/

def spec_DeepestStack_n1 (x1555 : Int) (x1556 : ByteArray) : Option (Unit ⊕ Int) :=
  (spec_RunStack x1555 x1556).bind fun (v3122 : Bool × (List Int)) => cond (!(v3122.1)) (some (Sum.inr (-1))) (some (Sum.inl ()))

def spec_DeepestStack_n2 : Option (Unit) :=
  some ()

def spec_DeepestStack_n3 (x1556 : ByteArray) (x3149 : Int) (x3150 : Int) (x3151 : Int) : Option ((Int × Int × Int) ⊕ Int) :=
  cond (decide (x3151 < (((ByteArray.size x1556 : Nat) : Int)))) ((bidx x1556 x3151).bind fun (v3164 : Int) => cond (v3164 == 83) (some (Sum.inl ((imax x3149 (IntKind.wrap .i64 (x3150 + 1))), (IntKind.wrap .i64 (x3150 + 1)), (IntKind.wrap .i64 (x3151 + 1))))) (some (Sum.inl ((imax x3149 (IntKind.wrap .i64 (x3150 - 1))), (IntKind.wrap .i64 (x3150 - 1)), (IntKind.wrap .i64 (x3151 + 1)))))) (some (Sum.inr x3149))

def spec_DeepestStack_n4 (x1556 : ByteArray) : Option (Int) :=
  nloop (fun (s : Int × Int × Int) => ((spec_DeepestStack_n3 x1556 s.1 s.2.1 s.2.2).map (Sum.elim (fun (t : Int × Int × Int) => Sum.inl (t.1, t.2.1, t.2.2)) (fun (t : Int) => Sum.inr t)) : Option ((Int × Int × Int) ⊕ (Int)))) LL (0, 0, 0)

def spec_DeepestStack_n5 (x1556 : ByteArray) : Option (Int) :=
  (spec_DeepestStack_n4 x1556).map (fun (t : Int) => t)

def spec_DeepestStack_n6 (x1556 : ByteArray) : Option (Int) :=
  (spec_DeepestStack_n2).bind (fun (t : Unit) => spec_DeepestStack_n5 x1556)

def spec_DeepestStack_n7 (x3149 : Int) : Option (Int) :=
  some x3149

def spec_DeepestStack_n8 (x1556 : ByteArray) : Option (Int) :=
  (spec_DeepestStack_n6 x1556).bind (fun (t : Int) => spec_DeepestStack_n7 t)

def spec_DeepestStack_n9 (x1555 : Int) (x1556 : ByteArray) : Option (Int) :=
  (spec_DeepestStack_n1 x1555 x1556).bind (Sum.elim (fun (t : Unit) => spec_DeepestStack_n8 x1556) (fun e => some ((fun (t : Int) => t) e)))

@[irreducible] def spec_DeepestStack (x1555 : Int) (x1556 : ByteArray) : Option (Int) :=
  spec_DeepestStack_n9 x1555 x1556

/-! loop.example/headtrees/impl.oneRoot -/

def impl_oneRoot_n1 : Option (Unit) :=
  some ()

def impl_oneRoot_n2 (x3194 : List Int) : Option (Int) :=
  some (((List.length x3194 : Nat) : Int))

def impl_oneRoot_n3 (x3194 : List Int) (x3216 : Int) (x3195 : Int) (x3217 : Int) : Option ((Int × Int) ⊕ Bool ⊕ Int) :=
  cond (decide (x3217 < x3195)) ((idx x3194 x3217).bind fun (v3228 : Int) => cond (decide (v3228 < 0)) (some (Sum.inr (Sum.inl false))) (cond (decide (v3228 > (((List.length x3194 : Nat) : Int)))) (some (Sum.inr (Sum.inl false))) (cond (v3228 == 0) (some (Sum.inl ((IntKind.wrap .i64 (x3216 + 1)), (IntKind.wrap .i64 (x3217 + 1))))) (some (Sum.inl (x3216, (IntKind.wrap .i64 (x3217 + 1)))))))) (some (Sum.inr (Sum.inr x3216)))

def impl_oneRoot_n4 (x3194 : List Int) (x3195 : Int) : Option (Bool ⊕ Int) :=
  nloop (fun (s : Int × Int) => ((impl_oneRoot_n3 x3194 s.1 x3195 s.2).map (Sum.elim (fun (t : Int × Int) => Sum.inl (t.1, t.2)) (Sum.elim (fun (t : Bool) => Sum.inr (Sum.inl t)) (fun (t : Int) => Sum.inr (Sum.inr t)))) : Option ((Int × Int) ⊕ (Bool ⊕ Int)))) LL (0, 0)

def impl_oneRoot_n5 (x3194 : List Int) (x3195 : Int) : Option (Int ⊕ Bool) :=
  (impl_oneRoot_n4 x3194 x3195).map (Sum.elim (fun (t : Bool) => (Sum.inr t)) (fun (t : Int) => (Sum.inl t)))

def impl_oneRoot_n6 (x3194 : List Int) : Option (Int ⊕ Bool) :=
  (impl_oneRoot_n2 x3194).bind (fun (t : Int) => impl_oneRoot_n5 x3194 t)

def impl_oneRoot_n7 (x3216 : Int) : Option (Bool) :=
  some (x3216 == 1)

def impl_oneRoot_n8 (x3194 : List Int) : Option (Bool) :=
  (impl_oneRoot_n6 x3194).bind (Sum.elim (fun (t : Int) => impl_oneRoot_n7 t) (fun e => some ((fun (t : Bool) => t) e)))

def impl_oneRoot_n9 (x3194 : List Int) : Option (Bool) :=
  (impl_oneRoot_n1).bind (fun (t : Unit) => impl_oneRoot_n8 x3194)

@[irreducible] def impl_oneRoot (x3194 : List Int) : Option (Bool) :=
  impl_oneRoot_n9 x3194

/-! (*loop.example/headtrees/impl.walker).up -/

def impl_walker_up_n1 (x3250 : List Int) (x3251 : Int) (x3252 : Int) : Option ((Bool × Int × Int)) :=
  (idx x3250 (IntKind.wrap .i64 (x3251 - 1))).bind fun (v3270 : Int) => cond (v3270 == 0) (some (false, x3251, x3252)) (some (true, v3270, (IntKind.wrap .i64 (x3252 + 1))))

@[irreducible] def impl_walker_up (x3250 : List Int) (x3251 : Int) (x3252 : Int) : Option (Bool × Int × Int) :=
  impl_walker_up_n1 x3250 x3251 x3252

/-! loop.example/headtrees/impl.stepsToRoot -/

def impl_stepsToRoot_n1 : Option (Unit) :=
  some ()

def impl_stepsToRoot_n2 (x3248 : List Int) (x3286 : Int) (x3287 : Int) : Option ((Int × Int) ⊕ (Int × Bool) ⊕ (Int × Int)) :=
  (impl_walker_up x3248 x3286 x3287).bind fun (v3292 : Bool × Int × Int) => cond (v3292.1) (cond (decide ((v3292.2.2) ≥ (((List.length x3248 : Nat) : Int)))) (some (Sum.inr (Sum.inl (0, false)))) (some (Sum.inl ((v3292.2.1), (v3292.2.2))))) (some (Sum.inr (Sum.inr ((v3292.2.1), (v3292.2.2)))))

def impl_stepsToRoot_n3 (x3248 : List Int) (x3249 : Int) : Option ((Int × Bool) ⊕ (Int × Int)) :=
  nloop (fun (s : Int × Int) => ((impl_stepsToRoot_n2 x3248 s.1 s.2).map (Sum.elim (fun (t : Int × Int) => Sum.inl (t.1, t.2)) (Sum.elim (fun (t : Int × Bool) => Sum.inr (Sum.inl t)) (fun (t : Int × Int) => Sum.inr (Sum.inr t)))) : Option ((Int × Int) ⊕ ((Int × Bool) ⊕ (Int × Int))))) LL (x3249, 0)

def impl_stepsToRoot_n4 (x3248 : List Int) (x3249 : Int) : Option ((Int × Int) ⊕ (Int × Bool)) :=
  (impl_stepsToRoot_n3 x3248 x3249).map (Sum.elim (fun (t : Int × Bool) => (Sum.inr t)) (fun (t : Int × Int) => (Sum.inl (t.1, t.2))))

def impl_stepsToRoot_n5 (x3295 : Int) : Option ((Int × Bool)) :=
  some (x3295, true)

def impl_stepsToRoot_n6 (x3248 : List Int) (x3249 : Int) : Option ((Int × Bool)) :=
  (impl_stepsToRoot_n4 x3248 x3249).bind (Sum.elim (fun (t : Int × Int) => impl_stepsToRoot_n5 t.2) (fun e => some ((fun (t : Int × Bool) => t) e)))

def impl_stepsToRoot_n7 (x3248 : List Int) (x3249 : Int) : Option ((Int × Bool)) :=
  (impl_stepsToRoot_n1).bind (fun (t : Unit) => impl_stepsToRoot_n6 x3248 x3249)

@[irreducible] def impl_stepsToRoot (x3248 : List Int) (x3249 : Int) : Option (Int × Bool) :=
  impl_stepsToRoot_n7 x3248 x3249

/-! loop.example/headtrees/impl.TreeOk -/

def impl_TreeOk_n1 (x3189 : List Int) : Option (Unit ⊕ Bool) :=
  cond (decide ((((List.length x3189 : Nat) : Int)) < 1)) (some (Sum.inr false)) (cond (decide ((((List.length x3189 : Nat) : Int)) > 8)) (some (Sum.inr false)) ((impl_oneRoot x3189).bind fun (v3241 : Bool) => cond (!v3241) (some (Sum.inr false)) (some (Sum.inl ()))))

def impl_TreeOk_n2 (x3189 : List Int) : Option (Int) :=
  some (((List.length x3189 : Nat) : Int))

def impl_TreeOk_n3 (x3189 : List Int) (x3243 : Int) (x3311 : Int) : Option (Int ⊕ Bool ⊕ Unit) :=
  cond (decide (x3311 < x3243)) ((impl_stepsToRoot x3189 (IntKind.wrap .i64 (x3311 + 1))).bind fun (v3322 : Int × Bool) => cond (!(v3322.2)) (some (Sum.inr (Sum.inl false))) (some (Sum.inl (IntKind.wrap .i64 (x3311 + 1))))) (some (Sum.inr (Sum.inr ())))

def impl_TreeOk_n4 (x3189 : List Int) (x3243 : Int) : Option (Bool ⊕ Unit) :=
  nloop (fun (s : Int) => ((impl_TreeOk_n3 x3189 x3243 s).map (Sum.elim (fun (t : Int) => Sum.inl t) (Sum.elim (fun (t : Bool) => Sum.inr (Sum.inl t)) (fun (t : Unit) => Sum.inr (Sum.inr t)))) : Option ((Int) ⊕ (Bool ⊕ Unit)))) LL 0

def impl_TreeOk_n5 (x3189 : List Int) (x3243 : Int) : Option (Unit ⊕ Bool) :=
  (impl_TreeOk_n4 x3189 x3243).map (Sum.elim (fun (t : Bool) => (Sum.inr t)) (fun (t : Unit) => (Sum.inl ())))

def impl_TreeOk_n6 (x3189 : List Int) : Option (Unit ⊕ Bool) :=
  (impl_TreeOk_n2 x3189).bind (fun (t : Int) => impl_TreeOk_n5 x3189 t)

def impl_TreeOk_n7 : Option (Bool) :=
  some true

def impl_TreeOk_n8 (x3189 : List Int) : Option (Bool) :=
  (impl_TreeOk_n6 x3189).bind (Sum.elim (fun (t : Unit) => impl_TreeOk_n7) (fun e => some ((fun (t : Bool) => t) e)))

def impl_TreeOk_n9 (x3189 : List Int) : Option (Bool) :=
  (impl_TreeOk_n1 x3189).bind (Sum.elim (fun (t : Unit) => impl_TreeOk_n8 x3189) (fun e => some ((fun (t : Bool) => t) e)))

@[irreducible] def impl_TreeOk (x3189 : List Int) : Option (Bool) :=
  impl_TreeOk_n9 x3189

/-! loop.example/headtrees/laws.alive -/

def laws_alive_n1 : Option (Bool) :=
  (impl_TreeOk ([0])).bind fun (v3333 : Bool) => cond v3333 ((impl_TreeOk ([1])).bind fun (v3335 : Bool) => some (!v3335)) (some false)

@[irreducible] def laws_alive : Option (Bool) :=
  laws_alive_n1

/-! loop.example/headtrees/laws.FnDeepestStack -/

def laws_FnDeepestStack_n1 (x2 : List Int) : Option ((Int × ByteArray × Int) ⊕ Bool) :=
  cond (decide ((((List.length x2 : Nat) : Int)) > 1048576)) (some (Sum.inr true)) ((spec_DrawDeepestStack x2).bind fun (v3341 : Int × ByteArray) => (impl_DeepestStack (v3341.1) (v3341.2)).bind fun (v3344 : Int) => (spec_DeepestStack (v3341.1) (v3341.2)).bind fun (v3345 : Int) => cond (v3344 != v3345) (some (Sum.inr false)) (cond (decide (v3344 < 0)) (cond (v3344 == (-1)) ((laws_alive).bind fun (v3349 : Bool) => some (Sum.inr v3349)) (some (Sum.inr false))) (some (Sum.inl ((v3341.1), (v3341.2), v3344)))))

def laws_FnDeepestStack_n2 (x3343 : ByteArray) (x3359 : Int) : Option (Int ⊕ Int) :=
  cond (decide (x3359 < (((ByteArray.size x3343 : Nat) : Int)))) ((bidx x3343 x3359).bind fun (v3366 : Int) => cond (v3366 == 83) (some (Sum.inl (IntKind.wrap .i64 (x3359 + 1)))) (some (Sum.inr x3359))) (some (Sum.inr x3359))

def laws_FnDeepestStack_n3 (x3343 : ByteArray) : Option (Int) :=
  nloop (fun (s : Int) => ((laws_FnDeepestStack_n2 x3343 s).map (Sum.elim (fun (t : Int) => Sum.inl t) (fun (t : Int) => Sum.inr t)) : Option ((Int) ⊕ (Int)))) LL 0

def laws_FnDeepestStack_n4 (x3343 : ByteArray) : Option (Int) :=
  (laws_FnDeepestStack_n3 x3343).map (fun (t : Int) => t)

def laws_FnDeepestStack_n5 (x3342 : Int) (x3344 : Int) (x3359 : Int) : Option (Bool) :=
  cond (decide (x3344 ≥ 1)) (cond (decide (x3344 ≤ x3342)) (cond (decide (x3342 < 2)) (some ((x3344 == x3342) == (x3359 == x3342))) (cond (decide (x3344 ≥ 2)) (some ((x3344 == x3342) == (x3359 == x3342))) (some false))) (some false)) (some false)

def laws_FnDeepestStack_n6 (x3342 : Int) (x3343 : ByteArray) (x3344 : Int) : Option (Bool) :=
  (laws_FnDeepestStack_n4 x3343).bind (fun (t : Int) => laws_FnDeepestStack_n5 x3342 x3344 t)

def laws_FnDeepestStack_n7 (x2 : List Int) : Option (Bool) :=
  (laws_FnDeepestStack_n1 x2).bind (Sum.elim (fun (t : Int × ByteArray × Int) => laws_FnDeepestStack_n6 t.1 t.2.1 t.2.2) (fun e => some ((fun (t : Bool) => t) e)))

@[irreducible] def laws_FnDeepestStack (x2 : List Int) : Option (Bool) :=
  laws_FnDeepestStack_n7 x2

/-! (*loop.example/headtrees/impl.stackMachine).putNext (impl_stackMachine_putNext_v2) -/

def impl_stackMachine_putNext_v2_n1 (x6220 : Nat) (x6221 : Nat) (x6222 : Int) (x6223 : Int) (x6225 : List Int) (x6226 : List Int) : Option ((Bool × Nat × Nat × Int × Int × (List Int))) :=
  cond (x6222 == (((List.length x6225 : Nat) : Int))) (some (false, x6220, x6221, x6222, x6223, x6226)) ((room (x6221 + List.length ([(IntKind.wrap .i64 (x6222 + 1))]))).bind fun (v6340 : Unit) => some (true, 0, (List.length (((x6226.drop x6220).take x6221) ++ ([(IntKind.wrap .i64 (x6222 + 1))]))), (IntKind.wrap .i64 (x6222 + 1)), (imax x6223 (((List.length (((x6226.drop x6220).take x6221) ++ ([(IntKind.wrap .i64 (x6222 + 1))])) : Nat) : Int))), (((x6226.drop x6220).take x6221) ++ ([(IntKind.wrap .i64 (x6222 + 1))]))))

@[irreducible] def impl_stackMachine_putNext_v2 (x6220 : Nat) (x6221 : Nat) (x6222 : Int) (x6223 : Int) (x6224 : Int) (x6225 : List Int) (x6226 : List Int) : Option (Bool × Nat × Nat × Int × Int × (List Int)) :=
  impl_stackMachine_putNext_v2_n1 x6220 x6221 x6222 x6223 x6225 x6226

/-! loop.example/headtrees/impl.RunStack -/

def impl_RunStack_n1 (x3406 : Int) (x3407 : ByteArray) : Option ((Bool × (List Int))) :=
  (impl_afterMoves x3406 x3407).bind fun (v3426 : Bool × Int × Int × (List Int) × (List Int)) => cond (v3426.1) (some (true, (v3426.2.2.2.1))) (some (false, ([] : List Int)))

@[irreducible] def impl_RunStack (x3406 : Int) (x3407 : ByteArray) : Option (Bool × (List Int)) :=
  impl_RunStack_n1 x3406 x3407

/-! loop.example/headtrees/laws.eqIntS -/

def laws_eqIntS_n1 (x3445 : List Int) (x3446 : List Int) : Option (Unit ⊕ Bool) :=
  cond ((((List.length x3445 : Nat) : Int)) != (((List.length x3446 : Nat) : Int))) (some (Sum.inr false)) (some (Sum.inl ()))

def laws_eqIntS_n2 : Option (Unit) :=
  some ()

def laws_eqIntS_n3 (x3445 : List Int) (x3446 : List Int) (x3463 : Int) : Option (Int ⊕ Bool ⊕ Unit) :=
  cond (decide (x3463 < (((List.length x3445 : Nat) : Int)))) ((idx x3445 x3463).bind fun (v3473 : Int) => (idx x3446 x3463).bind fun (v3474 : Int) => cond (v3473 != v3474) (some (Sum.inr (Sum.inl false))) (some (Sum.inl (IntKind.wrap .i64 (x3463 + 1))))) (some (Sum.inr (Sum.inr ())))

def laws_eqIntS_n4 (x3445 : List Int) (x3446 : List Int) : Option (Bool ⊕ Unit) :=
  nloop (fun (s : Int) => ((laws_eqIntS_n3 x3445 x3446 s).map (Sum.elim (fun (t : Int) => Sum.inl t) (Sum.elim (fun (t : Bool) => Sum.inr (Sum.inl t)) (fun (t : Unit) => Sum.inr (Sum.inr t)))) : Option ((Int) ⊕ (Bool ⊕ Unit)))) LL 0

def laws_eqIntS_n5 (x3445 : List Int) (x3446 : List Int) : Option (Unit ⊕ Bool) :=
  (laws_eqIntS_n4 x3445 x3446).map (Sum.elim (fun (t : Bool) => (Sum.inr t)) (fun (t : Unit) => (Sum.inl ())))

def laws_eqIntS_n6 (x3445 : List Int) (x3446 : List Int) : Option (Unit ⊕ Bool) :=
  (laws_eqIntS_n2).bind (fun (t : Unit) => laws_eqIntS_n5 x3445 x3446)

def laws_eqIntS_n7 : Option (Bool) :=
  some true

def laws_eqIntS_n8 (x3445 : List Int) (x3446 : List Int) : Option (Bool) :=
  (laws_eqIntS_n6 x3445 x3446).bind (Sum.elim (fun (t : Unit) => laws_eqIntS_n7) (fun e => some ((fun (t : Bool) => t) e)))

def laws_eqIntS_n9 (x3445 : List Int) (x3446 : List Int) : Option (Bool) :=
  (laws_eqIntS_n1 x3445 x3446).bind (Sum.elim (fun (t : Unit) => laws_eqIntS_n8 x3445 x3446) (fun e => some ((fun (t : Bool) => t) e)))

@[irreducible] def laws_eqIntS (x3445 : List Int) (x3446 : List Int) : Option (Bool) :=
  laws_eqIntS_n9 x3445 x3446

/-! loop.example/headtrees/laws.markIntS -/

def laws_markIntS_n1 : Option (Unit) :=
  some ()

def laws_markIntS_n2 : Option (Unit) :=
  some ()

def laws_markIntS_n3 (x3518 : Int) (x3519 : Int) (x3520 : List Int) : Option ((Int × Int × (List Int)) ⊕ (Int × (List Int))) :=
  cond (decide (x3519 < (((List.length x3520 : Nat) : Int)))) ((inb x3519 (List.length x3520)).bind fun (v3530 : Nat) => some (Sum.inl ((IntKind.wrap .i64 (x3518 + 1)), (IntKind.wrap .i64 (x3519 + 1)), (x3520.set v3530 x3518)))) (some (Sum.inr (x3518, x3520)))

def laws_markIntS_n4 (x3503 : Int) (x3504 : List Int) : Option ((Int × (List Int))) :=
  nloop (fun (s : Int × Int × (List Int)) => ((laws_markIntS_n3 s.1 s.2.1 s.2.2).map (Sum.elim (fun (t : Int × Int × (List Int)) => Sum.inl (t.1, t.2.1, t.2.2)) (fun (t : Int × (List Int)) => Sum.inr t)) : Option ((Int × Int × (List Int)) ⊕ ((Int × (List Int)))))) LL (x3503, 0, x3504)

def laws_markIntS_n5 (x3503 : Int) (x3504 : List Int) : Option ((Int × (List Int))) :=
  (laws_markIntS_n4 x3503 x3504).map (fun (t : Int × (List Int)) => (t.1, t.2))

def laws_markIntS_n6 (x3503 : Int) (x3504 : List Int) : Option ((Int × (List Int))) :=
  (laws_markIntS_n2).bind (fun (t : Unit) => laws_markIntS_n5 x3503 x3504)

def laws_markIntS_n7 (x3518 : Int) (x3520 : List Int) : Option ((Int × (List Int))) :=
  some (x3518, x3520)

def laws_markIntS_n8 (x3503 : Int) (x3504 : List Int) : Option ((Int × (List Int))) :=
  (laws_markIntS_n6 x3503 x3504).bind (fun (t : Int × (List Int)) => laws_markIntS_n7 t.1 t.2)

def laws_markIntS_n9 (x3503 : Int) (x3504 : List Int) : Option ((Int × (List Int))) :=
  (laws_markIntS_n1).bind (fun (t : Unit) => laws_markIntS_n8 x3503 x3504)

@[irreducible] def laws_markIntS (x3503 : Int) (x3504 : List Int) : Option (Int × (List Int)) :=
  laws_markIntS_n9 x3503 x3504

/-! loop.example/headtrees/laws.heldIntS -/

def laws_heldIntS_n1 : Option (Unit) :=
  some ()

def laws_heldIntS_n2 : Option (Unit) :=
  some ()

def laws_heldIntS_n3 (x3565 : List Int) (x3580 : Int) (x3581 : Int) : Option ((Int × Int) ⊕ Int ⊕ Int) :=
  cond (decide (x3581 < (((List.length x3565 : Nat) : Int)))) ((idx x3565 x3581).bind fun (v3591 : Int) => cond (v3591 != x3580) (some (Sum.inr (Sum.inl (-1)))) (some (Sum.inl ((IntKind.wrap .i64 (x3580 + 1)), (IntKind.wrap .i64 (x3581 + 1)))))) (some (Sum.inr (Sum.inr x3580)))

def laws_heldIntS_n4 (x3565 : List Int) (x3566 : Int) : Option (Int ⊕ Int) :=
  nloop (fun (s : Int × Int) => ((laws_heldIntS_n3 x3565 s.1 s.2).map (Sum.elim (fun (t : Int × Int) => Sum.inl (t.1, t.2)) (Sum.elim (fun (t : Int) => Sum.inr (Sum.inl t)) (fun (t : Int) => Sum.inr (Sum.inr t)))) : Option ((Int × Int) ⊕ (Int ⊕ Int)))) LL (x3566, 0)

def laws_heldIntS_n5 (x3565 : List Int) (x3566 : Int) : Option (Int ⊕ Int) :=
  (laws_heldIntS_n4 x3565 x3566).map (Sum.elim (fun (t : Int) => (Sum.inr t)) (fun (t : Int) => (Sum.inl t)))

def laws_heldIntS_n6 (x3565 : List Int) (x3566 : Int) : Option (Int ⊕ Int) :=
  (laws_heldIntS_n2).bind (fun (t : Unit) => laws_heldIntS_n5 x3565 x3566)

def laws_heldIntS_n7 (x3580 : Int) : Option (Int) :=
  some x3580

def laws_heldIntS_n8 (x3565 : List Int) (x3566 : Int) : Option (Int) :=
  (laws_heldIntS_n6 x3565 x3566).bind (Sum.elim (fun (t : Int) => laws_heldIntS_n7 t) (fun e => some ((fun (t : Int) => t) e)))

def laws_heldIntS_n9 (x3565 : List Int) (x3566 : Int) : Option (Int) :=
  (laws_heldIntS_n1).bind (fun (t : Unit) => laws_heldIntS_n8 x3565 x3566)

@[irreducible] def laws_heldIntS (x3565 : List Int) (x3566 : Int) : Option (Int) :=
  laws_heldIntS_n9 x3565 x3566

/-! loop.example/headtrees/laws.FnExactRunStack -/

def laws_FnExactRunStack_n1 (x3392 : Int) (x3393 : ByteArray) : Option (Bool) :=
  cond (decide ((((ByteArray.size x3393 : Nat) : Int)) > 1048576)) (some true) ((spec_RunStack x3392 x3393).bind fun (v3799 : Bool × (List Int)) => (impl_RunStack x3392 x3393).bind fun (v3802 : Bool × (List Int)) => (laws_eqIntS (v3802.2) (v3799.2)).bind fun (v3805 : Bool) => cond (!v3805) (some false) (cond ((v3802.1) != (v3799.1)) (some false) ((laws_markIntS 1 (v3802.2)).bind fun (v3808 : Int × (List Int)) => (laws_heldIntS (v3808.2) 1).bind fun (v3811 : Int) => cond (decide (v3811 < 0)) (some false) (cond (v3811 != (v3808.1)) (some false) ((impl_RunStack x3392 x3393).bind fun (v3814 : Bool × (List Int)) => (laws_eqIntS (v3814.2) (v3799.2)).bind fun (v3817 : Bool) => cond (!v3817) (some false) (cond ((v3814.1) != (v3799.1)) (some false) ((laws_heldIntS (v3808.2) 1).bind fun (v3820 : Int) => cond (decide (v3820 < 0)) (some false) (cond (v3820 != (v3808.1)) (some false) (some true)))))))))

@[irreducible] def laws_FnExactRunStack (x3392 : Int) (x3393 : ByteArray) : Option (Bool) :=
  laws_FnExactRunStack_n1 x3392 x3393

/-! loop.example/headtrees/laws.FnExactDeepestStack -/

def laws_FnExactDeepestStack_n1 (x3826 : Int) (x3827 : ByteArray) : Option (Bool) :=
  cond (decide ((((ByteArray.size x3827 : Nat) : Int)) > 1048576)) (some true) ((spec_DeepestStack x3826 x3827).bind fun (v3849 : Int) => (impl_DeepestStack x3826 x3827).bind fun (v3850 : Int) => cond (v3850 != v3849) (some false) (some true))

@[irreducible] def laws_FnExactDeepestStack (x3826 : Int) (x3827 : ByteArray) : Option (Bool) :=
  laws_FnExactDeepestStack_n1 x3826 x3827

/-! loop.example/headtrees/spec.l7Step -/

def spec_l7Step_n1 (x3898 : List Int) : Option (Int) :=
  some (IntKind.wrap .i64 ((((List.length x3898 : Nat) : Int)) - 1))

def spec_l7Step_n2 (x3899 : Int) (x3900 : Int) (x3901 : List Int) : Option (Bool) :=
  cond (x3900 == 83) (some (decide (x3899 ≤ (((List.length x3901 : Nat) : Int))))) (some false)

def spec_l7Step_n3 (x3898 : List Int) (x3899 : Int) (x3901 : List Int) : Option (((List Int) × Int × Bool × (List Int))) :=
  (room ((List.length ([] : List Int)) + List.length x3898)).bind fun (v4783 : Unit) => (room ((List.length (([] : List Int) ++ x3898)) + List.length ([x3899]))).bind fun (v4787 : Unit) => some (((([] : List Int) ++ x3898) ++ ([x3899])), (IntKind.wrap .i64 (x3899 + 1)), true, x3901)

def spec_l7Step_n4 (x3898 : List Int) (x3899 : Int) (x3900 : Int) (x4430 : Int) (x3901 : List Int) : Option (Bool) :=
  cond (x3900 == 76) (cond (decide (x3899 ≤ (((List.length x3901 : Nat) : Int)))) (cond (decide (x4430 ≥ 0)) ((idx x3898 x4430).bind fun (v4794 : Int) => (inb (IntKind.wrap .i64 (v4794 - 1)) (List.length x3901)).bind fun (v4796 : Nat) => (x3901[v4796]?).bind fun (v4797 : Int) => some (decide (v4797 < 0))) (some false)) (some false)) (some false)

def spec_l7Step_n5 (x3898 : List Int) (x3899 : Int) (x3900 : Int) (x4430 : Int) (x4889 : Bool) (x3901 : List Int) : Option (Unit ⊕ ((List Int) × Int × Bool × (List Int))) :=
  cond x4889 ((idx x3898 x4430).bind fun (v4890 : Int) => (inb (IntKind.wrap .i64 (v4890 - 1)) (List.length x3901)).bind fun (v4892 : Nat) => (inc x4430 (List.length x3898)).bind fun (v4895 : Nat) => (room ((List.length ([] : List Int)) + List.length ((x3898.take v4895).drop 0))).bind fun (v4898 : Unit) => some (Sum.inr ((([] : List Int) ++ ((x3898.take v4895).drop 0)), x3899, true, (x3901.set v4892 x3899)))) (cond (x3900 == 82) (cond (decide (x3899 ≤ (((List.length x3901 : Nat) : Int)))) (cond (decide (x4430 ≥ 0)) ((idx x3898 x4430).bind fun (v4905 : Int) => (inb (IntKind.wrap .i64 (x3899 - 1)) (List.length x3901)).bind fun (v4906 : Nat) => (room ((List.length ([] : List Int)) + List.length x3898)).bind fun (v4909 : Unit) => (room ((List.length (([] : List Int) ++ x3898)) + List.length ([x3899]))).bind fun (v4913 : Unit) => some (Sum.inr (((([] : List Int) ++ x3898) ++ ([x3899])), (IntKind.wrap .i64 (x3899 + 1)), true, (x3901.set v4906 v4905)))) (cond (x3900 == 68) (cond (decide (x4430 ≥ 0)) ((idx x3898 x4430).bind fun (v4918 : Int) => (inb (IntKind.wrap .i64 (v4918 - 1)) (List.length x3901)).bind fun (v4920 : Nat) => (x3901[v4920]?).bind fun (v4921 : Int) => cond (decide (v4921 > 0)) ((inc x4430 (List.length x3898)).bind fun (v4924 : Nat) => (room ((List.length ([] : List Int)) + List.length ((x3898.take v4924).drop 0))).bind fun (v4927 : Unit) => some (Sum.inr ((([] : List Int) ++ ((x3898.take v4924).drop 0)), x3899, true, x3901))) (some (Sum.inl ()))) (some (Sum.inl ()))) (some (Sum.inl ())))) (cond (x3900 == 68) (cond (decide (x4430 ≥ 0)) ((idx x3898 x4430).bind fun (v4931 : Int) => (inb (IntKind.wrap .i64 (v4931 - 1)) (List.length x3901)).bind fun (v4933 : Nat) => (x3901[v4933]?).bind fun (v4934 : Int) => cond (decide (v4934 > 0)) ((inc x4430 (List.length x3898)).bind fun (v4937 : Nat) => (room ((List.length ([] : List Int)) + List.length ((x3898.take v4937).drop 0))).bind fun (v4940 : Unit) => some (Sum.inr ((([] : List Int) ++ ((x3898.take v4937).drop 0)), x3899, true, x3901))) (some (Sum.inl ()))) (some (Sum.inl ()))) (some (Sum.inl ())))) (cond (x3900 == 68) (cond (decide (x4430 ≥ 0)) ((idx x3898 x4430).bind fun (v4944 : Int) => (inb (IntKind.wrap .i64 (v4944 - 1)) (List.length x3901)).bind fun (v4946 : Nat) => (x3901[v4946]?).bind fun (v4947 : Int) => cond (decide (v4947 > 0)) ((inc x4430 (List.length x3898)).bind fun (v4950 : Nat) => (room ((List.length ([] : List Int)) + List.length ((x3898.take v4950).drop 0))).bind fun (v4953 : Unit) => some (Sum.inr ((([] : List Int) ++ ((x3898.take v4950).drop 0)), x3899, true, x3901))) (some (Sum.inl ()))) (some (Sum.inl ()))) (some (Sum.inl ()))))

def spec_l7Step_n6 (x3898 : List Int) (x3899 : Int) (x3900 : Int) (x4430 : Int) (x3901 : List Int) : Option (Unit ⊕ ((List Int) × Int × Bool × (List Int))) :=
  (spec_l7Step_n4 x3898 x3899 x3900 x4430 x3901).bind (fun (t : Bool) => spec_l7Step_n5 x3898 x3899 x3900 x4430 t x3901)

def spec_l7Step_n7 (x3898 : List Int) (x3899 : Int) (x3900 : Int) (x4430 : Int) (x4691 : Bool) (x3901 : List Int) : Option (Unit ⊕ ((List Int) × Int × Bool × (List Int))) :=
  cond x4691 ((spec_l7Step_n3 x3898 x3899 x3901).map (fun (t : (List Int) × Int × Bool × (List Int)) => (Sum.inr t))) (spec_l7Step_n6 x3898 x3899 x3900 x4430 x3901)

def spec_l7Step_n8 (x3898 : List Int) (x3899 : Int) (x3900 : Int) (x4430 : Int) (x3901 : List Int) : Option (Unit ⊕ ((List Int) × Int × Bool × (List Int))) :=
  (spec_l7Step_n2 x3899 x3900 x3901).bind (fun (t : Bool) => spec_l7Step_n7 x3898 x3899 x3900 x4430 t x3901)

def spec_l7Step_n9 (x3898 : List Int) (x3899 : Int) (x3900 : Int) (x4430 : Int) (x3901 : List Int) : Option (Unit ⊕ ((List Int) × Int × Bool × (List Int))) :=
  (spec_l7Step_n8 x3898 x3899 x3900 x4430 x3901).map (Sum.elim (fun (t : Unit) => (Sum.inl ())) (fun (t : (List Int) × Int × Bool × (List Int)) => (Sum.inr t)))

def spec_l7Step_n10 (x3898 : List Int) (x3899 : Int) (x3901 : List Int) : Option (((List Int) × Int × Bool × (List Int))) :=
  some (x3898, x3899, false, x3901)

def spec_l7Step_n11 (x3898 : List Int) (x3899 : Int) (x3900 : Int) (x4430 : Int) (x3901 : List Int) : Option (((List Int) × Int × Bool × (List Int))) :=
  (spec_l7Step_n9 x3898 x3899 x3900 x4430 x3901).bind (Sum.elim (fun (t : Unit) => spec_l7Step_n10 x3898 x3899 x3901) (fun e => some ((fun (t : (List Int) × Int × Bool × (List Int)) => t) e)))

def spec_l7Step_n12 (x3898 : List Int) (x3899 : Int) (x3900 : Int) (x3901 : List Int) : Option (((List Int) × Int × Bool × (List Int))) :=
  (spec_l7Step_n1 x3898).bind (fun (t : Int) => spec_l7Step_n11 x3898 x3899 x3900 t x3901)

@[irreducible] def spec_l7Step (x3898 : List Int) (x3899 : Int) (x3900 : Int) (x3901 : List Int) : Option ((List Int) × Int × Bool × (List Int)) :=
  spec_l7Step_n12 x3898 x3899 x3900 x3901

/-! loop.example/headtrees/spec.RunEager -/

def spec_RunEager_n1 (x3861 : Int) : Option (Unit ⊕ (Bool × (List Int))) :=
  (spec_l1In x3861 1 8).bind fun (v5012 : Bool) => cond (!v5012) (some (Sum.inr (false, ([] : List Int)))) (some (Sum.inl ()))

def spec_RunEager_n2 : Option (Unit) :=
  some ()

def spec_RunEager_n3 (x3861 : Int) (x5026 : Int) (x5027 : List Int) : Option ((Int × (List Int)) ⊕ ((List Int))) :=
  cond (decide (x5026 < x3861)) ((room ((List.length x5027) + List.length ([(-1)]))).bind fun (v5037 : Unit) => some (Sum.inl ((IntKind.wrap .i64 (x5026 + 1)), (x5027 ++ ([(-1)]))))) (some (Sum.inr x5027))

def spec_RunEager_n4 (x3861 : Int) : Option (((List Int))) :=
  nloop (fun (s : Int × (List Int)) => ((spec_RunEager_n3 x3861 s.1 s.2).map (Sum.elim (fun (t : Int × (List Int)) => Sum.inl (t.1, t.2)) (fun (t : (List Int)) => Sum.inr t)) : Option ((Int × (List Int)) ⊕ (((List Int)))))) LL (0, ([] : List Int))

def spec_RunEager_n5 (x3861 : Int) : Option (((List Int))) :=
  (spec_RunEager_n4 x3861).map (fun (t : (List Int)) => t)

def spec_RunEager_n6 (x3861 : Int) : Option (((List Int))) :=
  (spec_RunEager_n2).bind (fun (t : Unit) => spec_RunEager_n5 x3861)

def spec_RunEager_n7 : Option (Unit) :=
  some ()

def spec_RunEager_n8 : Option (Unit) :=
  some ()

def spec_RunEager_n9 (x3862 : ByteArray) (x5061 : List Int) (x5062 : Int) (x5063 : Int) (x5064 : List Int) : Option (((List Int) × Int × Int × (List Int)) ⊕ (Bool × (List Int)) ⊕ (Int × (List Int))) :=
  cond (decide (x5063 < (((ByteArray.size x3862 : Nat) : Int)))) ((bidx x3862 x5063).bind fun (v5078 : Int) => (spec_l7Step x5061 x5062 v5078 x5064).bind fun (v5079 : (List Int) × Int × Bool × (List Int)) => cond (!(v5079.2.2.1)) (some (Sum.inr (Sum.inl (false, ([] : List Int))))) (some (Sum.inl ((v5079.1), (v5079.2.1), (IntKind.wrap .i64 (x5063 + 1)), (v5079.2.2.2))))) (some (Sum.inr (Sum.inr (x5062, x5064))))

def spec_RunEager_n10 (x3862 : ByteArray) (x5027 : List Int) : Option ((Bool × (List Int)) ⊕ (Int × (List Int))) :=
  nloop (fun (s : (List Int) × Int × Int × (List Int)) => ((spec_RunEager_n9 x3862 s.1 s.2.1 s.2.2.1 s.2.2.2).map (Sum.elim (fun (t : (List Int) × Int × Int × (List Int)) => Sum.inl (t.1, t.2.1, t.2.2.1, t.2.2.2)) (Sum.elim (fun (t : Bool × (List Int)) => Sum.inr (Sum.inl t)) (fun (t : Int × (List Int)) => Sum.inr (Sum.inr t)))) : Option (((List Int) × Int × Int × (List Int)) ⊕ ((Bool × (List Int)) ⊕ (Int × (List Int)))))) LL (([] : List Int), 1, 0, x5027)

def spec_RunEager_n11 (x3862 : ByteArray) (x5027 : List Int) : Option ((Int × (List Int)) ⊕ (Bool × (List Int))) :=
  (spec_RunEager_n10 x3862 x5027).map (Sum.elim (fun (t : Bool × (List Int)) => (Sum.inr t)) (fun (t : Int × (List Int)) => (Sum.inl (t.1, t.2))))

def spec_RunEager_n12 (x3862 : ByteArray) (x5027 : List Int) : Option ((Int × (List Int)) ⊕ (Bool × (List Int))) :=
  (spec_RunEager_n8).bind (fun (t : Unit) => spec_RunEager_n11 x3862 x5027)

def spec_RunEager_n13 : Option (Unit) :=
  some ()

def spec_RunEager_n14 : Option (Unit) :=
  some ()

def spec_RunEager_n15 (x3861 : Int) (x5106 : Int) (x5107 : Int) (x5108 : List Int) : Option ((Int × Int × (List Int)) ⊕ (Int × (List Int))) :=
  cond (decide (x5107 < x3861)) ((inb x5107 (List.length x5108)).bind fun (v5118 : Nat) => (x5108[v5118]?).bind fun (v5119 : Int) => cond (decide (v5119 < 0)) ((inb x5107 (List.length x5108)).bind fun (v5121 : Nat) => some (Sum.inl ((IntKind.wrap .i64 (x5106 + 1)), (IntKind.wrap .i64 (x5107 + 1)), (x5108.set v5121 0)))) (some (Sum.inl (x5106, (IntKind.wrap .i64 (x5107 + 1)), x5108)))) (some (Sum.inr (x5106, x5108)))

def spec_RunEager_n16 (x3861 : Int) (x5064 : List Int) : Option ((Int × (List Int))) :=
  nloop (fun (s : Int × Int × (List Int)) => ((spec_RunEager_n15 x3861 s.1 s.2.1 s.2.2).map (Sum.elim (fun (t : Int × Int × (List Int)) => Sum.inl (t.1, t.2.1, t.2.2)) (fun (t : Int × (List Int)) => Sum.inr t)) : Option ((Int × Int × (List Int)) ⊕ ((Int × (List Int)))))) LL (0, 0, x5064)

def spec_RunEager_n17 (x3861 : Int) (x5064 : List Int) : Option ((Int × (List Int))) :=
  (spec_RunEager_n16 x3861 x5064).map (fun (t : Int × (List Int)) => (t.1, t.2))

def spec_RunEager_n18 (x3861 : Int) (x5064 : List Int) : Option ((Int × (List Int))) :=
  (spec_RunEager_n14).bind (fun (t : Unit) => spec_RunEager_n17 x3861 x5064)

def spec_RunEager_n19 (x3861 : Int) (x5062 : Int) (x5106 : Int) (x5108 : List Int) : Option ((Bool × (List Int))) :=
  cond (x5106 != 1) (some (false, ([] : List Int))) (cond (decide (x5062 ≤ x3861)) (some (false, ([] : List Int))) (some (true, x5108)))

def spec_RunEager_n20 (x3861 : Int) (x5062 : Int) (x5064 : List Int) : Option ((Bool × (List Int))) :=
  (spec_RunEager_n18 x3861 x5064).bind (fun (t : Int × (List Int)) => spec_RunEager_n19 x3861 x5062 t.1 t.2)

def spec_RunEager_n21 (x3861 : Int) (x5062 : Int) (x5064 : List Int) : Option ((Bool × (List Int))) :=
  (spec_RunEager_n13).bind (fun (t : Unit) => spec_RunEager_n20 x3861 x5062 x5064)

def spec_RunEager_n22 (x3861 : Int) (x3862 : ByteArray) (x5027 : List Int) : Option ((Bool × (List Int))) :=
  (spec_RunEager_n12 x3862 x5027).bind (Sum.elim (fun (t : Int × (List Int)) => spec_RunEager_n21 x3861 t.1 t.2) (fun e => some ((fun (t : Bool × (List Int)) => t) e)))

def spec_RunEager_n23 (x3861 : Int) (x3862 : ByteArray) (x5027 : List Int) : Option ((Bool × (List Int))) :=
  (spec_RunEager_n7).bind (fun (t : Unit) => spec_RunEager_n22 x3861 x3862 x5027)

def spec_RunEager_n24 (x3861 : Int) (x3862 : ByteArray) : Option ((Bool × (List Int))) :=
  (spec_RunEager_n6 x3861).bind (fun (t : (List Int)) => spec_RunEager_n23 x3861 x3862 t)

def spec_RunEager_n25 (x3861 : Int) (x3862 : ByteArray) : Option ((Bool × (List Int))) :=
  (spec_RunEager_n1 x3861).bind (Sum.elim (fun (t : Unit) => spec_RunEager_n24 x3861 x3862) (fun e => some ((fun (t : Bool × (List Int)) => t) e)))

@[irreducible] def spec_RunEager (x3861 : Int) (x3862 : ByteArray) : Option (Bool × (List Int)) :=
  spec_RunEager_n25 x3861 x3862

/-! loop.example/headtrees/impl.newEagerMachine -/

def impl_newEagerMachine_n1 (x5151 : Int) : Option (((List Int))) :=
  (impl_newStackMachine x5151).bind fun (v5153 : List Int) => some v5153

@[irreducible] def impl_newEagerMachine (x5151 : Int) : Option ((List Int)) :=
  impl_newEagerMachine_n1 x5151

/-! loop.example/headtrees/impl.eagerMoves -/

@[irreducible] def impl_eagerMoves : Option (Unit) :=
  some ()

/-! (*loop.example/headtrees/impl.eagerMachine).upperAndNext -/

def impl_eagerMachine_upperAndNext_n1 (x6367 : Nat) (x6368 : Nat) (x6369 : Int) (x6372 : List Int) (x6373 : List Int) : Option ((Int × Int × Bool)) :=
  cond ((((x6368 : Nat) : Int)) == 0) (some (0, 0, false)) (cond (x6369 == (((List.length x6372 : Nat) : Int))) (some (0, 0, false)) ((inb (IntKind.wrap .i64 ((((x6368 : Nat) : Int)) - 1)) x6368).bind fun (v6393 : Nat) => (x6373[(x6367 + v6393)]?).bind fun (v6395 : Int) => some (v6395, (IntKind.wrap .i64 (x6369 + 1)), true)))

@[irreducible] def impl_eagerMachine_upperAndNext (x6367 : Nat) (x6368 : Nat) (x6369 : Int) (x6370 : Int) (x6371 : Int) (x6372 : List Int) (x6373 : List Int) : Option (Int × Int × Bool) :=
  impl_eagerMachine_upperAndNext_n1 x6367 x6368 x6369 x6372 x6373

/-! loop.example/headtrees/impl.only -/

def impl_only_n1 (x5337 : Int) : Option (Int) :=
  (shl .u64 1 (IntKind.wrap .i64 (x5337 - 1))).bind fun (v5341 : Int) => some v5341

@[irreducible] def impl_only (x5337 : Int) : Option (Int) :=
  impl_only_n1 x5337

/-! (loop.example/headtrees/impl.wordSet).hasAll -/

def impl_wordSet_hasAll_n1 (x5343 : Int) (x5344 : Int) : Option (Bool) :=
  some ((iand .u64 x5343 x5344) == x5344)

@[irreducible] def impl_wordSet_hasAll (x5343 : Int) (x5344 : Int) : Option (Bool) :=
  impl_wordSet_hasAll_n1 x5343 x5344

/-! (*loop.example/headtrees/impl.eagerMachine).hasHead -/

def impl_eagerMachine_hasHead_n1 (x6409 : Int) (x6414 : Int) : Option (Bool) :=
  (impl_only x6409).bind fun (v6419 : Int) => (impl_wordSet_hasAll x6414 v6419).bind fun (v6420 : Bool) => some v6420

@[irreducible] def impl_eagerMachine_hasHead (x6409 : Int) (x6410 : Nat) (x6411 : Nat) (x6412 : Int) (x6413 : Int) (x6414 : Int) (x6415 : List Int) (x6416 : List Int) : Option (Bool) :=
  impl_eagerMachine_hasHead_n1 x6409 x6414

/-! (*loop.example/headtrees/impl.eagerMachine).giveHead -/

def impl_eagerMachine_giveHead_n1 (x6428 : Int) (x6429 : Int) (x6434 : Int) (x6435 : List Int) : Option ((Int × (List Int))) :=
  (inb (IntKind.wrap .i64 (x6428 - 1)) (List.length x6435)).bind fun (v6441 : Nat) => (impl_only x6428).bind fun (v6443 : Int) => some ((ior .u64 x6434 v6443), (x6435.set v6441 x6429))

@[irreducible] def impl_eagerMachine_giveHead (x6428 : Int) (x6429 : Int) (x6430 : Nat) (x6431 : Nat) (x6432 : Int) (x6433 : Int) (x6434 : Int) (x6435 : List Int) (x6436 : List Int) : Option (Int × (List Int)) :=
  (impl_eagerMachine_giveHead_n1 x6428 x6429 x6434 x6435).map (fun (t : Int × (List Int)) => (t.1, t.2))

/-! (*loop.example/headtrees/impl.eagerMachine).takeAway -/

def impl_eagerMachine_takeAway_n1 (x6457 : Nat) (x6458 : Nat) : Option ((Nat × Nat)) :=
  (inc (IntKind.wrap .i64 ((((x6458 : Nat) : Int)) - 1)) x6458).bind fun (v6466 : Nat) => some ((x6457 + 0), (v6466 - 0))

@[irreducible] def impl_eagerMachine_takeAway (x6457 : Nat) (x6458 : Nat) (x6459 : Int) (x6460 : Int) (x6461 : Int) (x6462 : List Int) (x6463 : List Int) : Option (Nat × Nat) :=
  (impl_eagerMachine_takeAway_n1 x6457 x6458).map (fun (t : Nat × Nat) => (t.1, t.2))

/-! (*loop.example/headtrees/impl.eagerMachine).takeUnderNext -/

def impl_eagerMachine_takeUnderNext_n1 (x6360 : Nat) (x6361 : Nat) (x6362 : Int) (x6363 : Int) (x6364 : Int) (x6365 : List Int) (x6366 : List Int) : Option ((Bool × Nat × Nat × Int × (List Int))) :=
  (impl_eagerMachine_upperAndNext x6360 x6361 x6362 x6363 x6364 x6365 x6366).bind fun (v6484 : Int × Int × Bool) => cond (!(v6484.2.2)) (some (false, x6360, x6361, x6364, x6365)) ((impl_eagerMachine_hasHead (v6484.1) x6360 x6361 x6362 x6363 x6364 x6365 x6366).bind fun (v6489 : Bool) => cond v6489 (some (false, x6360, x6361, x6364, x6365)) ((impl_eagerMachine_giveHead (v6484.1) (v6484.2.1) x6360 x6361 x6362 x6363 x6364 x6365 x6366).bind fun (v6490 : Int × (List Int)) => (impl_eagerMachine_takeAway x6360 x6361 x6362 x6363 (v6490.1) (v6490.2) x6366).bind fun (v6493 : Nat × Nat) => some (true, (v6493.1), (v6493.2), (v6490.1), (v6490.2))))

@[irreducible] def impl_eagerMachine_takeUnderNext (x6360 : Nat) (x6361 : Nat) (x6362 : Int) (x6363 : Int) (x6364 : Int) (x6365 : List Int) (x6366 : List Int) : Option (Bool × Nat × Nat × Int × (List Int)) :=
  impl_eagerMachine_takeUnderNext_n1 x6360 x6361 x6362 x6363 x6364 x6365 x6366

/-! (*loop.example/headtrees/impl.eagerMachine).putUnderUpper -/

def impl_eagerMachine_putUnderUpper_n1 (x6509 : Nat) (x6510 : Nat) (x6511 : Int) (x6512 : Int) (x6513 : Int) (x6514 : List Int) (x6515 : List Int) : Option ((Bool × Nat × Nat × Int × Int × Int × (List Int) × (List Int))) :=
  (impl_eagerMachine_upperAndNext x6509 x6510 x6511 x6512 x6513 x6514 x6515).bind fun (v6548 : Int × Int × Bool) => cond (!(v6548.2.2)) (some (false, x6509, x6510, x6511, x6512, x6513, x6514, x6515)) ((impl_eagerMachine_giveHead (v6548.2.1) (v6548.1) x6509 x6510 x6511 x6512 x6513 x6514 x6515).bind fun (v6553 : Int × (List Int)) => (impl_stackMachine_putNext_v2 x6509 x6510 x6511 x6512 (v6553.1) (v6553.2) x6515).bind fun (v6556 : Bool × Nat × Nat × Int × Int × (List Int)) => some ((v6556.1), (v6556.2.1), (v6556.2.2.1), (v6556.2.2.2.1), (v6556.2.2.2.2.1), (v6553.1), (v6553.2), (v6556.2.2.2.2.2)))

@[irreducible] def impl_eagerMachine_putUnderUpper (x6509 : Nat) (x6510 : Nat) (x6511 : Int) (x6512 : Int) (x6513 : Int) (x6514 : List Int) (x6515 : List Int) : Option (Bool × Nat × Nat × Int × Int × Int × (List Int) × (List Int)) :=
  impl_eagerMachine_putUnderUpper_n1 x6509 x6510 x6511 x6512 x6513 x6514 x6515

/-! (*loop.example/headtrees/impl.eagerMachine).takeHeaded -/

def impl_eagerMachine_takeHeaded_n1 (x6582 : Nat) (x6583 : Nat) (x6584 : Int) (x6585 : Int) (x6586 : Int) (x6587 : List Int) (x6588 : List Int) : Option ((Bool × Nat × Nat)) :=
  cond ((((x6583 : Nat) : Int)) == 0) (some (false, x6582, x6583)) ((inb (IntKind.wrap .i64 ((((x6583 : Nat) : Int)) - 1)) x6583).bind fun (v6623 : Nat) => (x6588[(x6582 + v6623)]?).bind fun (v6625 : Int) => (impl_eagerMachine_hasHead v6625 x6582 x6583 x6584 x6585 x6586 x6587 x6588).bind fun (v6626 : Bool) => cond (!v6626) (some (false, x6582, x6583)) ((impl_eagerMachine_takeAway x6582 x6583 x6584 x6585 x6586 x6587 x6588).bind fun (v6628 : Nat × Nat) => some (true, (v6628.1), (v6628.2))))

@[irreducible] def impl_eagerMachine_takeHeaded (x6582 : Nat) (x6583 : Nat) (x6584 : Int) (x6585 : Int) (x6586 : Int) (x6587 : List Int) (x6588 : List Int) : Option (Bool × Nat × Nat) :=
  impl_eagerMachine_takeHeaded_n1 x6582 x6583 x6584 x6585 x6586 x6587 x6588

/-! loop.example/headtrees/impl.allDone[*loop.example/headtrees/impl.eagerMachine] -/

def impl_allDone_impl_eagerMachine_n1 : Option (Unit) :=
  some ()

def impl_allDone_impl_eagerMachine_n2 (x5159 : ByteArray) : Option ((Int × Nat)) :=
  some ((((ByteArray.size x5159 : Nat) : Int)), (List.length ([] : List Int)))

def impl_allDone_impl_eagerMachine_n3 (x5159 : ByteArray) (x6213 : Int) (x6687 : Int) (x6688 : Nat) (x6689 : Nat) (x6690 : Int) (x6691 : Int) (x6692 : Int) (x6693 : List Int) (x6694 : List Int) : Option ((Int × Nat × Nat × Int × Int × Int × (List Int) × (List Int)) ⊕ (Bool × Nat × Nat × Int × Int × Int × (List Int) × (List Int)) ⊕ (Nat × Nat × Int × Int × Int × (List Int) × (List Int))) :=
  cond (decide (x6687 < x6213)) ((bidx x5159 x6687).bind fun (v6734 : Int) => cond (v6734 == 83) ((impl_stackMachine_putNext_v2 x6688 x6689 x6690 x6691 x6692 x6693 x6694).bind fun (v6736 : Bool × Nat × Nat × Int × Int × (List Int)) => cond (!(v6736.1)) (some (Sum.inr (Sum.inl (false, (v6736.2.1), (v6736.2.2.1), (v6736.2.2.2.1), (v6736.2.2.2.2.1), x6692, x6693, (v6736.2.2.2.2.2))))) (some (Sum.inl ((IntKind.wrap .i64 (x6687 + 1)), (v6736.2.1), (v6736.2.2.1), (v6736.2.2.2.1), (v6736.2.2.2.2.1), x6692, x6693, (v6736.2.2.2.2.2))))) (cond (v6734 == 76) ((impl_eagerMachine_takeUnderNext x6688 x6689 x6690 x6691 x6692 x6693 x6694).bind fun (v6746 : Bool × Nat × Nat × Int × (List Int)) => cond (!(v6746.1)) (some (Sum.inr (Sum.inl (false, (v6746.2.1), (v6746.2.2.1), x6690, x6691, (v6746.2.2.2.1), (v6746.2.2.2.2), x6694)))) (some (Sum.inl ((IntKind.wrap .i64 (x6687 + 1)), (v6746.2.1), (v6746.2.2.1), x6690, x6691, (v6746.2.2.2.1), (v6746.2.2.2.2), x6694)))) (cond (v6734 == 82) ((impl_eagerMachine_putUnderUpper x6688 x6689 x6690 x6691 x6692 x6693 x6694).bind fun (v6755 : Bool × Nat × Nat × Int × Int × Int × (List Int) × (List Int)) => cond (!(v6755.1)) (some (Sum.inr (Sum.inl (false, (v6755.2.1), (v6755.2.2.1), (v6755.2.2.2.1), (v6755.2.2.2.2.1), (v6755.2.2.2.2.2.1), (v6755.2.2.2.2.2.2.1), (v6755.2.2.2.2.2.2.2))))) (some (Sum.inl ((IntKind.wrap .i64 (x6687 + 1)), (v6755.2.1), (v6755.2.2.1), (v6755.2.2.2.1), (v6755.2.2.2.2.1), (v6755.2.2.2.2.2.1), (v6755.2.2.2.2.2.2.1), (v6755.2.2.2.2.2.2.2))))) (cond (v6734 == 68) ((impl_eagerMachine_takeHeaded x6688 x6689 x6690 x6691 x6692 x6693 x6694).bind fun (v6767 : Bool × Nat × Nat) => cond (!(v6767.1)) (some (Sum.inr (Sum.inl (false, (v6767.2.1), (v6767.2.2), x6690, x6691, x6692, x6693, x6694)))) (some (Sum.inl ((IntKind.wrap .i64 (x6687 + 1)), (v6767.2.1), (v6767.2.2), x6690, x6691, x6692, x6693, x6694)))) (some (Sum.inr (Sum.inl (false, x6688, x6689, x6690, x6691, x6692, x6693, x6694)))))))) (some (Sum.inr (Sum.inr (x6688, x6689, x6690, x6691, x6692, x6693, x6694))))

def impl_allDone_impl_eagerMachine_n4 (x5159 : ByteArray) (x6213 : Int) (x6214 : Nat) (x5160 : Int) (x5161 : Int) (x5162 : Int) (x5163 : List Int) : Option ((Bool × Nat × Nat × Int × Int × Int × (List Int) × (List Int)) ⊕ (Nat × Nat × Int × Int × Int × (List Int) × (List Int))) :=
  nloop (fun (s : Int × Nat × Nat × Int × Int × Int × (List Int) × (List Int)) => ((impl_allDone_impl_eagerMachine_n3 x5159 x6213 s.1 s.2.1 s.2.2.1 s.2.2.2.1 s.2.2.2.2.1 s.2.2.2.2.2.1 s.2.2.2.2.2.2.1 s.2.2.2.2.2.2.2).map (Sum.elim (fun (t : Int × Nat × Nat × Int × Int × Int × (List Int) × (List Int)) => Sum.inl (t.1, t.2.1, t.2.2.1, t.2.2.2.1, t.2.2.2.2.1, t.2.2.2.2.2.1, t.2.2.2.2.2.2.1, t.2.2.2.2.2.2.2)) (Sum.elim (fun (t : Bool × Nat × Nat × Int × Int × Int × (List Int) × (List Int)) => Sum.inr (Sum.inl t)) (fun (t : Nat × Nat × Int × Int × Int × (List Int) × (List Int)) => Sum.inr (Sum.inr t)))) : Option ((Int × Nat × Nat × Int × Int × Int × (List Int) × (List Int)) ⊕ ((Bool × Nat × Nat × Int × Int × Int × (List Int) × (List Int)) ⊕ (Nat × Nat × Int × Int × Int × (List Int) × (List Int)))))) LL (0, 0, x6214, x5160, x5161, x5162, x5163, ([] : List Int))

def impl_allDone_impl_eagerMachine_n5 (x5159 : ByteArray) (x6213 : Int) (x6214 : Nat) (x5160 : Int) (x5161 : Int) (x5162 : Int) (x5163 : List Int) : Option ((Nat × Nat × Int × Int × Int × (List Int) × (List Int)) ⊕ (Bool × Nat × Nat × Int × Int × Int × (List Int) × (List Int))) :=
  (impl_allDone_impl_eagerMachine_n4 x5159 x6213 x6214 x5160 x5161 x5162 x5163).map (Sum.elim (fun (t : Bool × Nat × Nat × Int × Int × Int × (List Int) × (List Int)) => (Sum.inr t)) (fun (t : Nat × Nat × Int × Int × Int × (List Int) × (List Int)) => (Sum.inl (t.1, t.2.1, t.2.2.1, t.2.2.2.1, t.2.2.2.2.1, t.2.2.2.2.2.1, t.2.2.2.2.2.2))))

def impl_allDone_impl_eagerMachine_n6 (x5159 : ByteArray) (x5160 : Int) (x5161 : Int) (x5162 : Int) (x5163 : List Int) : Option ((Nat × Nat × Int × Int × Int × (List Int) × (List Int)) ⊕ (Bool × Nat × Nat × Int × Int × Int × (List Int) × (List Int))) :=
  (impl_allDone_impl_eagerMachine_n2 x5159).bind (fun (t : Int × Nat) => impl_allDone_impl_eagerMachine_n5 x5159 t.1 t.2 x5160 x5161 x5162 x5163)

def impl_allDone_impl_eagerMachine_n7 (x6688 : Nat) (x6689 : Nat) (x6690 : Int) (x6691 : Int) (x6692 : Int) (x6693 : List Int) (x6694 : List Int) : Option ((Bool × Nat × Nat × Int × Int × Int × (List Int) × (List Int))) :=
  some (true, x6688, x6689, x6690, x6691, x6692, x6693, x6694)

def impl_allDone_impl_eagerMachine_n8 (x5159 : ByteArray) (x5160 : Int) (x5161 : Int) (x5162 : Int) (x5163 : List Int) : Option ((Bool × Nat × Nat × Int × Int × Int × (List Int) × (List Int))) :=
  (impl_allDone_impl_eagerMachine_n6 x5159 x5160 x5161 x5162 x5163).bind (Sum.elim (fun (t : Nat × Nat × Int × Int × Int × (List Int) × (List Int)) => impl_allDone_impl_eagerMachine_n7 t.1 t.2.1 t.2.2.1 t.2.2.2.1 t.2.2.2.2.1 t.2.2.2.2.2.1 t.2.2.2.2.2.2) (fun e => some ((fun (t : Bool × Nat × Nat × Int × Int × Int × (List Int) × (List Int)) => t) e)))

def impl_allDone_impl_eagerMachine_n9 (x5159 : ByteArray) (x5160 : Int) (x5161 : Int) (x5162 : Int) (x5163 : List Int) : Option ((Bool × Nat × Nat × Int × Int × Int × (List Int) × (List Int))) :=
  (impl_allDone_impl_eagerMachine_n1).bind (fun (t : Unit) => impl_allDone_impl_eagerMachine_n8 x5159 x5160 x5161 x5162 x5163)

@[irreducible] def impl_allDone_impl_eagerMachine (x5159 : ByteArray) (x5160 : Int) (x5161 : Int) (x5162 : Int) (x5163 : List Int) : Option (Bool × Nat × Nat × Int × Int × Int × (List Int) × (List Int)) :=
  impl_allDone_impl_eagerMachine_n9 x5159 x5160 x5161 x5162 x5163

/-! math/bits.OnesCount64 -/

def math_bits_OnesCount64_n1 (x6812 : Int) : Option (Int) :=
  (shr .u64 x6812 1).bind fun (v6813 : Int) => some (IntKind.wrap .u64 ((iand .u64 v6813 6148914691236517205) + (iand .u64 x6812 6148914691236517205)))

def math_bits_OnesCount64_n2 (x6817 : Int) : Option (Int) :=
  (shr .u64 x6817 2).bind fun (v6831 : Int) => some (IntKind.wrap .u64 ((iand .u64 v6831 3689348814741910323) + (iand .u64 x6817 3689348814741910323)))

def math_bits_OnesCount64_n3 (x6834 : Int) : Option (Int) :=
  (shr .u64 x6834 4).bind fun (v6839 : Int) => some (iand .u64 (IntKind.wrap .u64 (v6839 + x6834)) 1085102592571150095)

def math_bits_OnesCount64_n4 (x6841 : Int) : Option (Int) :=
  (shr .u64 x6841 8).bind fun (v6844 : Int) => some (IntKind.wrap .u64 (x6841 + v6844))

def math_bits_OnesCount64_n5 (x6845 : Int) : Option (Int) :=
  (shr .u64 x6845 16).bind fun (v6849 : Int) => some (IntKind.wrap .u64 (x6845 + v6849))

def math_bits_OnesCount64_n6 (x6850 : Int) : Option (Int) :=
  (shr .u64 x6850 32).bind fun (v6854 : Int) => some (IntKind.wrap .u64 (x6850 + v6854))

def math_bits_OnesCount64_n7 (x6855 : Int) : Option (Int) :=
  some (iand .i64 (IntKind.wrap .i64 x6855) 127)

def math_bits_OnesCount64_n8 (x6860 : Int) : Option (Int) :=
  some x6860

def math_bits_OnesCount64_n9 (x6855 : Int) : Option (Int) :=
  (math_bits_OnesCount64_n7 x6855).bind (fun (t : Int) => math_bits_OnesCount64_n8 t)

def math_bits_OnesCount64_n10 (x6850 : Int) : Option (Int) :=
  (math_bits_OnesCount64_n6 x6850).bind (fun (t : Int) => math_bits_OnesCount64_n9 t)

def math_bits_OnesCount64_n11 (x6845 : Int) : Option (Int) :=
  (math_bits_OnesCount64_n5 x6845).bind (fun (t : Int) => math_bits_OnesCount64_n10 t)

def math_bits_OnesCount64_n12 (x6841 : Int) : Option (Int) :=
  (math_bits_OnesCount64_n4 x6841).bind (fun (t : Int) => math_bits_OnesCount64_n11 t)

def math_bits_OnesCount64_n13 (x6834 : Int) : Option (Int) :=
  (math_bits_OnesCount64_n3 x6834).bind (fun (t : Int) => math_bits_OnesCount64_n12 t)

def math_bits_OnesCount64_n14 (x6817 : Int) : Option (Int) :=
  (math_bits_OnesCount64_n2 x6817).bind (fun (t : Int) => math_bits_OnesCount64_n13 t)

def math_bits_OnesCount64_n15 (x6812 : Int) : Option (Int) :=
  (math_bits_OnesCount64_n1 x6812).bind (fun (t : Int) => math_bits_OnesCount64_n14 t)

@[irreducible] def math_bits_OnesCount64 (x6812 : Int) : Option (Int) :=
  math_bits_OnesCount64_n15 x6812

/-! math/bits.OnesCount -/

def math_bits_OnesCount_n1 (x6811 : Int) : Option (Int) :=
  (math_bits_OnesCount64 x6811).bind fun (v6862 : Int) => some v6862

@[irreducible] def math_bits_OnesCount (x6811 : Int) : Option (Int) :=
  math_bits_OnesCount_n1 x6811

/-! (loop.example/headtrees/impl.wordSet).count -/

def impl_wordSet_count_n1 (x6810 : Int) : Option (Int) :=
  (math_bits_OnesCount x6810).bind fun (v6864 : Int) => some v6864

@[irreducible] def impl_wordSet_count (x6810 : Int) : Option (Int) :=
  impl_wordSet_count_n1 x6810

/-! (*loop.example/headtrees/impl.eagerMachine).ended -/

def impl_eagerMachine_ended_n1 (x6801 : Int) (x6803 : Int) (x6804 : List Int) : Option (Bool) :=
  cond (x6801 == (((List.length x6804 : Nat) : Int))) ((impl_wordSet_count x6803).bind fun (v6871 : Int) => some (v6871 == (IntKind.wrap .i64 ((((List.length x6804 : Nat) : Int)) - 1)))) (some false)

@[irreducible] def impl_eagerMachine_ended (x6799 : Nat) (x6800 : Nat) (x6801 : Int) (x6802 : Int) (x6803 : Int) (x6804 : List Int) (x6805 : List Int) : Option (Bool) :=
  impl_eagerMachine_ended_n1 x6801 x6803 x6804

/-! loop.example/headtrees/impl.RunEager -/

def impl_RunEager_n1 (x5145 : Int) (x5146 : ByteArray) : Option ((Bool × (List Int))) :=
  cond (decide (x5145 < 1)) (some (false, ([] : List Int))) (cond (decide (x5145 > 8)) (some (false, ([] : List Int))) ((impl_newEagerMachine x5145).bind fun (v6894 : List Int) => (impl_eagerMoves).bind fun (v6895 : Unit) => (impl_allDone_impl_eagerMachine x5146 0 0 0 v6894).bind fun (v6896 : Bool × Nat × Nat × Int × Int × Int × (List Int) × (List Int)) => cond (!(v6896.1)) (some (false, ([] : List Int))) ((impl_eagerMachine_ended (v6896.2.1) (v6896.2.2.1) (v6896.2.2.2.1) (v6896.2.2.2.2.1) (v6896.2.2.2.2.2.1) (v6896.2.2.2.2.2.2.1) (v6896.2.2.2.2.2.2.2)).bind fun (v6906 : Bool) => cond (!v6906) (some (false, ([] : List Int))) (some (true, (v6896.2.2.2.2.2.2.1))))))

@[irreducible] def impl_RunEager (x5145 : Int) (x5146 : ByteArray) : Option (Bool × (List Int)) :=
  impl_RunEager_n1 x5145 x5146

/-! loop.example/headtrees/laws.FnExactRunEager -/

def laws_FnExactRunEager_n1 (x3855 : Int) (x3856 : ByteArray) : Option (Bool) :=
  cond (decide ((((ByteArray.size x3856 : Nat) : Int)) > 1048576)) (some true) ((spec_RunEager x3855 x3856).bind fun (v7180 : Bool × (List Int)) => (impl_RunEager x3855 x3856).bind fun (v7183 : Bool × (List Int)) => (laws_eqIntS (v7183.2) (v7180.2)).bind fun (v7186 : Bool) => cond (!v7186) (some false) (cond ((v7183.1) != (v7180.1)) (some false) ((laws_markIntS 1 (v7183.2)).bind fun (v7189 : Int × (List Int)) => (laws_heldIntS (v7189.2) 1).bind fun (v7192 : Int) => cond (decide (v7192 < 0)) (some false) (cond (v7192 != (v7189.1)) (some false) ((impl_RunEager x3855 x3856).bind fun (v7195 : Bool × (List Int)) => (laws_eqIntS (v7195.2) (v7180.2)).bind fun (v7198 : Bool) => cond (!v7198) (some false) (cond ((v7195.1) != (v7180.1)) (some false) ((laws_heldIntS (v7189.2) 1).bind fun (v7201 : Int) => cond (decide (v7201 < 0)) (some false) (cond (v7201 != (v7189.1)) (some false) (some true)))))))))

@[irreducible] def laws_FnExactRunEager (x3855 : Int) (x3856 : ByteArray) : Option (Bool) :=
  laws_FnExactRunEager_n1 x3855 x3856

end Go.Rv
