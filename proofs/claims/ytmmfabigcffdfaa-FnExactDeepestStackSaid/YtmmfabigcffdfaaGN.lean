/-
  Plain functions, written by program for functions of the checked code. Conditions: none.
-/
import Derived.Test.YtmmfabigcffdfaaFB
set_option linter.unusedVariables false
namespace Go.Rv
/-! loop.example/headtrees/spec.l20Open -/

def spec_l20Open_n1 (x14 : List Int) : Option (((List Int))) :=
  cond (decide ((((List.length x14 : Nat) : Int)) > 2000)) ((inc 2000 (List.length x14)).bind fun (v30 : Nat) => some ((x14.take v30).drop 0)) (some x14)

@[irreducible] def spec_l20Open (x14 : List Int) : Option ((List Int)) :=
  spec_l20Open_n1 x14

/-! (*loop.example/headtrees/spec.l20Rd).pick -/

def spec_l20Rd_pick_n1 (x36 : Int) (x37 : List Int) (x38 : Int) : Option ((Int × Int)) :=
  cond (decide (x36 < 1)) (some (0, (IntKind.wrap .i64 (x38 + 1)))) (cond ((((List.length x37 : Nat) : Int)) == 0) (some (0, (IntKind.wrap .i64 (x38 + 1)))) (cond (decide ((IntKind.wrap .i64 ((IntKind.wrap .i64 (x38 + 1)) - 1)) < (((List.length x37 : Nat) : Int)))) ((idx x37 (IntKind.wrap .i64 ((IntKind.wrap .i64 (x38 + 1)) - 1))).bind fun (v166 : Int) => (rem (IntKind.wrap .i64 v166) x36).bind fun (v168 : Int) => some (v168, (IntKind.wrap .i64 (x38 + 1)))) ((rem (IntKind.wrap .i64 ((IntKind.wrap .i64 (x38 + 1)) - 1)) (((List.length x37 : Nat) : Int))).bind fun (v170 : Int) => (idx x37 v170).bind fun (v171 : Int) => (rem (IntKind.wrap .i64 ((IntKind.wrap .i64 ((IntKind.wrap .i64 ((IntKind.wrap .i64 (x38 + 1)) - 1)) * 7)) + 3)) (((List.length x37 : Nat) : Int))).bind fun (v177 : Int) => (idx x37 v177).bind fun (v178 : Int) => (quo .i64 (IntKind.wrap .i64 ((IntKind.wrap .i64 (x38 + 1)) - 1)) (((List.length x37 : Nat) : Int))).bind fun (v185 : Int) => (quo .i64 (IntKind.wrap .i64 ((IntKind.wrap .i64 ((IntKind.wrap .i64 ((IntKind.wrap .i64 ((IntKind.wrap .i64 v171) * 131)) + (IntKind.wrap .i64 ((IntKind.wrap .i64 v178) * 1117)))) + (IntKind.wrap .i64 ((IntKind.wrap .i64 ((IntKind.wrap .i64 (x38 + 1)) - 1)) * 29)))) + (IntKind.wrap .i64 (v185 * 53)))) 64).bind fun (v188 : Int) => (rem (ixor .i64 (IntKind.wrap .i64 ((IntKind.wrap .i64 ((IntKind.wrap .i64 ((IntKind.wrap .i64 ((IntKind.wrap .i64 v171) * 131)) + (IntKind.wrap .i64 ((IntKind.wrap .i64 v178) * 1117)))) + (IntKind.wrap .i64 ((IntKind.wrap .i64 ((IntKind.wrap .i64 (x38 + 1)) - 1)) * 29)))) + (IntKind.wrap .i64 (v185 * 53)))) v188) x36).bind fun (v190 : Int) => some (v190, (IntKind.wrap .i64 (x38 + 1))))))

@[irreducible] def spec_l20Rd_pick (x36 : Int) (x37 : List Int) (x38 : Int) : Option (Int × Int) :=
  spec_l20Rd_pick_n1 x36 x37 x38

/-! (*loop.example/headtrees/spec.l20Rd).odd -/

def spec_l20Rd_odd_n1 (x353 : Int) (x354 : List Int) (x355 : Int) : Option ((Bool × Int)) :=
  cond (decide (x353 > 0)) ((spec_l20Rd_pick x353 x354 x355).bind fun (v363 : Int × Int) => some (((v363.1) == (IntKind.wrap .i64 (x353 - 1))), (v363.2))) (some (false, x355))

@[irreducible] def spec_l20Rd_odd (x353 : Int) (x354 : List Int) (x355 : Int) : Option (Bool × Int) :=
  spec_l20Rd_odd_n1 x353 x354 x355

/-! loop.example/headtrees/spec.l20Moves -/

def spec_l20Moves_n1 : Option (Unit) :=
  some ()

def spec_l20Moves_n2 (x735 : ByteArray) (x736 : Int) (x737 : Int) (x215 : List Int) (x738 : Int) : Option ((ByteArray × Int × Int × Int) ⊕ (ByteArray × Int)) :=
  cond (decide (x737 > 0)) (cond (decide (x737 > 0)) (cond (decide (x736 < 2)) ((cat x735 (ByteArray.mk #[83])).bind fun (v744 : ByteArray) => some (Sum.inl (v744, (IntKind.wrap .i64 (x736 + 1)), (IntKind.wrap .i64 (x737 - 1)), x738))) ((spec_l20Rd_pick 2 x215 x738).bind fun (v747 : Int × Int) => cond ((v747.1) == 0) ((cat x735 (ByteArray.mk #[83])).bind fun (v751 : ByteArray) => some (Sum.inl (v751, (IntKind.wrap .i64 (x736 + 1)), (IntKind.wrap .i64 (x737 - 1)), (v747.2)))) ((spec_l20Rd_pick 2 x215 (v747.2)).bind fun (v755 : Int × Int) => (inb (v755.1) (List.length ([(ByteArray.mk #[76]), (ByteArray.mk #[82])]))).bind fun (v758 : Nat) => (([(ByteArray.mk #[76]), (ByteArray.mk #[82])])[v758]?).bind fun (v759 : ByteArray) => (cat x735 v759).bind fun (v760 : ByteArray) => some (Sum.inl (v760, (IntKind.wrap .i64 (x736 - 1)), x737, (v755.2)))))) ((spec_l20Rd_pick 2 x215 x738).bind fun (v763 : Int × Int) => (inb (v763.1) (List.length ([(ByteArray.mk #[76]), (ByteArray.mk #[82])]))).bind fun (v766 : Nat) => (([(ByteArray.mk #[76]), (ByteArray.mk #[82])])[v766]?).bind fun (v767 : ByteArray) => (cat x735 v767).bind fun (v768 : ByteArray) => some (Sum.inl (v768, (IntKind.wrap .i64 (x736 - 1)), x737, (v763.2))))) (cond (decide (x736 > 1)) (cond (decide (x737 > 0)) (cond (decide (x736 < 2)) ((cat x735 (ByteArray.mk #[83])).bind fun (v773 : ByteArray) => some (Sum.inl (v773, (IntKind.wrap .i64 (x736 + 1)), (IntKind.wrap .i64 (x737 - 1)), x738))) ((spec_l20Rd_pick 2 x215 x738).bind fun (v776 : Int × Int) => cond ((v776.1) == 0) ((cat x735 (ByteArray.mk #[83])).bind fun (v780 : ByteArray) => some (Sum.inl (v780, (IntKind.wrap .i64 (x736 + 1)), (IntKind.wrap .i64 (x737 - 1)), (v776.2)))) ((spec_l20Rd_pick 2 x215 (v776.2)).bind fun (v784 : Int × Int) => (inb (v784.1) (List.length ([(ByteArray.mk #[76]), (ByteArray.mk #[82])]))).bind fun (v787 : Nat) => (([(ByteArray.mk #[76]), (ByteArray.mk #[82])])[v787]?).bind fun (v788 : ByteArray) => (cat x735 v788).bind fun (v789 : ByteArray) => some (Sum.inl (v789, (IntKind.wrap .i64 (x736 - 1)), x737, (v784.2)))))) ((spec_l20Rd_pick 2 x215 x738).bind fun (v792 : Int × Int) => (inb (v792.1) (List.length ([(ByteArray.mk #[76]), (ByteArray.mk #[82])]))).bind fun (v795 : Nat) => (([(ByteArray.mk #[76]), (ByteArray.mk #[82])])[v795]?).bind fun (v796 : ByteArray) => (cat x735 v796).bind fun (v797 : ByteArray) => some (Sum.inl (v797, (IntKind.wrap .i64 (x736 - 1)), x737, (v792.2))))) (some (Sum.inr (x735, x738))))

def spec_l20Moves_n3 (x214 : Int) (x215 : List Int) (x216 : Int) : Option ((ByteArray × Int)) :=
  nloop (fun (s : ByteArray × Int × Int × Int) => ((spec_l20Moves_n2 s.1 s.2.1 s.2.2.1 x215 s.2.2.2).map (Sum.elim (fun (t : ByteArray × Int × Int × Int) => Sum.inl (t.1, t.2.1, t.2.2.1, t.2.2.2)) (fun (t : ByteArray × Int) => Sum.inr t)) : Option ((ByteArray × Int × Int × Int) ⊕ ((ByteArray × Int))))) LL (ByteArray.empty, 0, x214, x216)

def spec_l20Moves_n4 (x214 : Int) (x215 : List Int) (x216 : Int) : Option ((ByteArray × Int)) :=
  (spec_l20Moves_n3 x214 x215 x216).map (fun (t : ByteArray × Int) => (t.1, t.2))

def spec_l20Moves_n5 (x735 : ByteArray) (x215 : List Int) (x738 : Int) : Option ((ByteArray × Int)) :=
  (spec_l20Rd_odd 8 x215 x738).bind fun (v849 : Bool × Int) => cond (v849.1) (cond (decide ((((ByteArray.size x735 : Nat) : Int)) > 0)) ((spec_l20Rd_pick (((ByteArray.size x735 : Nat) : Int)) x215 (v849.2)).bind fun (v855 : Int × Int) => (inc (v855.1) (ByteArray.size x735)).bind fun (v859 : Nat) => (inc (IntKind.wrap .i64 ((v855.1) + 1)) (ByteArray.size x735)).bind fun (v864 : Nat) => (spec_l20Rd_pick 4 x215 (v855.2)).bind fun (v866 : Int × Int) => (idx ([ByteArray.empty, (ByteArray.mk #[83]), (ByteArray.mk #[76]), (ByteArray.mk #[120])]) (v866.1)).bind fun (v869 : ByteArray) => (cat (x735.extract 0 v859) v869).bind fun (v870 : ByteArray) => (cat v870 (x735.extract v864 (ByteArray.size x735))).bind fun (v871 : ByteArray) => some (v871, (v866.2))) (some (x735, (v849.2)))) (some (x735, (v849.2)))

def spec_l20Moves_n6 (x214 : Int) (x215 : List Int) (x216 : Int) : Option ((ByteArray × Int)) :=
  (spec_l20Moves_n4 x214 x215 x216).bind (fun (t : ByteArray × Int) => spec_l20Moves_n5 t.1 x215 t.2)

def spec_l20Moves_n7 (x214 : Int) (x215 : List Int) (x216 : Int) : Option ((ByteArray × Int)) :=
  (spec_l20Moves_n1).bind (fun (t : Unit) => spec_l20Moves_n6 x214 x215 x216)

@[irreducible] def spec_l20Moves (x214 : Int) (x215 : List Int) (x216 : Int) : Option (ByteArray × Int) :=
  spec_l20Moves_n7 x214 x215 x216

/-! loop.example/headtrees/spec.DrawRunStack -/

def spec_DrawRunStack_n1 (x13 : List Int) : Option ((Int × ByteArray)) :=
  (spec_l20Open x13).bind fun (v877 : List Int) => (spec_l20Rd_pick 8 v877 0).bind fun (v878 : Int × Int) => (spec_l20Rd_pick 20 v877 (v878.2)).bind fun (v882 : Int × Int) => (quo .i64 (v882.1) 19).bind fun (v885 : Int) => (spec_l20Rd_pick 30 v877 (v882.2)).bind fun (v887 : Int × Int) => (quo .i64 (v887.1) 29).bind fun (v890 : Int) => (spec_l20Moves (IntKind.wrap .i64 (1 + (v878.1))) v877 (v887.2)).bind fun (v892 : ByteArray × Int) => some ((IntKind.wrap .i64 ((IntKind.wrap .i64 ((IntKind.wrap .i64 (1 + (v878.1))) + v885)) - v890)), (v892.1))

@[irreducible] def spec_DrawRunStack (x13 : List Int) : Option (Int × ByteArray) :=
  spec_DrawRunStack_n1 x13

/-! loop.example/headtrees/spec.DrawDeepestStack -/

def spec_DrawDeepestStack_n1 (x10 : List Int) : Option ((Int × ByteArray)) :=
  (spec_DrawRunStack x10).bind fun (v898 : Int × ByteArray) => some ((v898.1), (v898.2))

@[irreducible] def spec_DrawDeepestStack (x10 : List Int) : Option (Int × ByteArray) :=
  spec_DrawDeepestStack_n1 x10

/-! loop.example/headtrees/impl.newStackMachine -/

def impl_newStackMachine_n1 (x917 : Int) : Option (((List Int))) :=
  (mk x917 x917).bind fun (v920 : Nat) => some (List.replicate v920 (0 : Int))

@[irreducible] def impl_newStackMachine (x917 : Int) : Option ((List Int)) :=
  impl_newStackMachine_n1 x917

/-! loop.example/headtrees/impl.stackMoves -/

@[irreducible] def impl_stackMoves : Option (Unit) :=
  some ()

/-! (*loop.example/headtrees/impl.stackMachine).putNext -/

def impl_stackMachine_putNext_n1 (x977 : Int) (x978 : Int) (x979 : List Int) (x980 : List Int) : Option ((Bool × Int × Int × (List Int))) :=
  cond (x977 == (((List.length x979 : Nat) : Int))) (some (false, x977, x978, x980)) ((room ((List.length x980) + List.length ([(IntKind.wrap .i64 (x977 + 1))]))).bind fun (v1016 : Unit) => some (true, (IntKind.wrap .i64 (x977 + 1)), (imax x978 (((List.length (x980 ++ ([(IntKind.wrap .i64 (x977 + 1))])) : Nat) : Int))), (x980 ++ ([(IntKind.wrap .i64 (x977 + 1))]))))

@[irreducible] def impl_stackMachine_putNext (x977 : Int) (x978 : Int) (x979 : List Int) (x980 : List Int) : Option (Bool × Int × Int × (List Int)) :=
  impl_stackMachine_putNext_n1 x977 x978 x979 x980

/-! (*loop.example/headtrees/impl.stackMachine).upperTwo -/

def impl_stackMachine_upperTwo_n1 (x1038 : List Int) : Option ((Int × Int × Bool)) :=
  cond (decide ((((List.length x1038 : Nat) : Int)) < 2)) (some (0, 0, false)) ((inb (IntKind.wrap .i64 ((((List.length x1038 : Nat) : Int)) - 2)) (List.length x1038)).bind fun (v1053 : Nat) => (x1038[v1053]?).bind fun (v1054 : Int) => (inb (IntKind.wrap .i64 ((((List.length x1038 : Nat) : Int)) - 1)) (List.length x1038)).bind fun (v1056 : Nat) => (x1038[v1056]?).bind fun (v1057 : Int) => some (v1054, v1057, true))

@[irreducible] def impl_stackMachine_upperTwo (x1035 : Int) (x1036 : Int) (x1037 : List Int) (x1038 : List Int) : Option (Int × Int × Bool) :=
  impl_stackMachine_upperTwo_n1 x1038

/-! (*loop.example/headtrees/impl.stackMachine).join -/

def impl_stackMachine_join_n1 (x1069 : Int) (x1070 : Int) (x1073 : List Int) (x1074 : List Int) : Option (((List Int) × (List Int))) :=
  (inb (IntKind.wrap .i64 (x1069 - 1)) (List.length x1073)).bind fun (v1079 : Nat) => (inc (IntKind.wrap .i64 ((((List.length x1074 : Nat) : Int)) - 2)) (List.length x1074)).bind fun (v1084 : Nat) => (room ((v1084 - 0) + List.length ([x1070]))).bind fun (v1088 : Unit) => some ((x1073.set v1079 x1070), (((x1074.drop 0).take (v1084 - 0)) ++ ([x1070])))

@[irreducible] def impl_stackMachine_join (x1069 : Int) (x1070 : Int) (x1071 : Int) (x1072 : Int) (x1073 : List Int) (x1074 : List Int) : Option ((List Int) × (List Int)) :=
  (impl_stackMachine_join_n1 x1069 x1070 x1073 x1074).map (fun (t : (List Int) × (List Int)) => (t.1, t.2))

/-! (*loop.example/headtrees/impl.stackMachine).takeBelow -/

def impl_stackMachine_takeBelow_n1 (x1031 : Int) (x1032 : Int) (x1033 : List Int) (x1034 : List Int) : Option ((Bool × (List Int) × (List Int))) :=
  (impl_stackMachine_upperTwo x1031 x1032 x1033 x1034).bind fun (v1100 : Int × Int × Bool) => cond (v1100.2.2) ((impl_stackMachine_join (v1100.1) (v1100.2.1) x1031 x1032 x1033 x1034).bind fun (v1104 : (List Int) × (List Int)) => some ((v1100.2.2), (v1104.1), (v1104.2))) (some ((v1100.2.2), x1033, x1034))

@[irreducible] def impl_stackMachine_takeBelow (x1031 : Int) (x1032 : Int) (x1033 : List Int) (x1034 : List Int) : Option (Bool × (List Int) × (List Int)) :=
  impl_stackMachine_takeBelow_n1 x1031 x1032 x1033 x1034

/-! (*loop.example/headtrees/impl.stackMachine).takeUpper -/

def impl_stackMachine_takeUpper_n1 (x1115 : Int) (x1116 : Int) (x1117 : List Int) (x1118 : List Int) : Option ((Bool × (List Int) × (List Int))) :=
  (impl_stackMachine_upperTwo x1115 x1116 x1117 x1118).bind fun (v1137 : Int × Int × Bool) => cond (v1137.2.2) ((impl_stackMachine_join (v1137.2.1) (v1137.1) x1115 x1116 x1117 x1118).bind fun (v1141 : (List Int) × (List Int)) => some ((v1137.2.2), (v1141.1), (v1141.2))) (some ((v1137.2.2), x1117, x1118))

@[irreducible] def impl_stackMachine_takeUpper (x1115 : Int) (x1116 : Int) (x1117 : List Int) (x1118 : List Int) : Option (Bool × (List Int) × (List Int)) :=
  impl_stackMachine_takeUpper_n1 x1115 x1116 x1117 x1118

/-! (*loop.example/headtrees/impl.stackMachine).ended -/

def impl_stackMachine_ended_n1 (x1296 : Int) (x1298 : List Int) (x1299 : List Int) : Option (Bool) :=
  cond (x1296 == (((List.length x1298 : Nat) : Int))) (some ((((List.length x1299 : Nat) : Int)) == 1)) (some false)

@[irreducible] def impl_stackMachine_ended (x1296 : Int) (x1297 : Int) (x1298 : List Int) (x1299 : List Int) : Option (Bool) :=
  impl_stackMachine_ended_n1 x1296 x1298 x1299

/-! loop.example/headtrees/impl.afterMoves -/

def impl_afterMoves_n1 (x911 : Int) : Option (((List Int)) ⊕ Unit) :=
  cond (decide (x911 < 1)) (some (Sum.inr ())) (cond (decide (x911 > 8)) (some (Sum.inr ())) ((impl_newStackMachine x911).bind fun (v1319 : List Int) => (impl_stackMoves).bind fun (v1320 : Unit) => some (Sum.inl v1319)))

def impl_afterMoves_n2 (x912 : ByteArray) : Option (Int) :=
  some (((ByteArray.size x912 : Nat) : Int))

def impl_afterMoves_n3 (x912 : ByteArray) (x1321 : Int) (x1374 : Int) (x1375 : Int) (x1376 : Int) (x1377 : List Int) (x1378 : List Int) : Option ((Int × Int × Int × (List Int) × (List Int)) ⊕ Unit ⊕ (Int × Int × (List Int) × (List Int))) :=
  cond (decide (x1374 < x1321)) ((bidx x912 x1374).bind fun (v1403 : Int) => cond (v1403 == 83) ((impl_stackMachine_putNext x1375 x1376 x1377 x1378).bind fun (v1405 : Bool × Int × Int × (List Int)) => cond (!(v1405.1)) (some (Sum.inr (Sum.inl ()))) (some (Sum.inl ((IntKind.wrap .i64 (x1374 + 1)), (v1405.2.1), (v1405.2.2.1), x1377, (v1405.2.2.2))))) (cond (v1403 == 76) ((impl_stackMachine_takeBelow x1375 x1376 x1377 x1378).bind fun (v1413 : Bool × (List Int) × (List Int)) => cond (!(v1413.1)) (some (Sum.inr (Sum.inl ()))) (some (Sum.inl ((IntKind.wrap .i64 (x1374 + 1)), x1375, x1376, (v1413.2.1), (v1413.2.2))))) (cond (v1403 == 82) ((impl_stackMachine_takeUpper x1375 x1376 x1377 x1378).bind fun (v1420 : Bool × (List Int) × (List Int)) => cond (!(v1420.1)) (some (Sum.inr (Sum.inl ()))) (some (Sum.inl ((IntKind.wrap .i64 (x1374 + 1)), x1375, x1376, (v1420.2.1), (v1420.2.2))))) (some (Sum.inr (Sum.inl ())))))) (some (Sum.inr (Sum.inr (x1375, x1376, x1377, x1378))))

def impl_afterMoves_n4 (x912 : ByteArray) (x1321 : Int) (x1319 : List Int) : Option (Unit ⊕ (Int × Int × (List Int) × (List Int))) :=
  nloop (fun (s : Int × Int × Int × (List Int) × (List Int)) => ((impl_afterMoves_n3 x912 x1321 s.1 s.2.1 s.2.2.1 s.2.2.2.1 s.2.2.2.2).map (Sum.elim (fun (t : Int × Int × Int × (List Int) × (List Int)) => Sum.inl (t.1, t.2.1, t.2.2.1, t.2.2.2.1, t.2.2.2.2)) (Sum.elim (fun (t : Unit) => Sum.inr (Sum.inl t)) (fun (t : Int × Int × (List Int) × (List Int)) => Sum.inr (Sum.inr t)))) : Option ((Int × Int × Int × (List Int) × (List Int)) ⊕ (Unit ⊕ (Int × Int × (List Int) × (List Int)))))) LL (0, 0, 0, x1319, ([] : List Int))

def impl_afterMoves_n5 (x912 : ByteArray) (x1321 : Int) (x1319 : List Int) : Option ((Int × Int × (List Int) × (List Int)) ⊕ Unit) :=
  (impl_afterMoves_n4 x912 x1321 x1319).map (Sum.elim (fun (t : Unit) => (Sum.inr t)) (fun (t : Int × Int × (List Int) × (List Int)) => (Sum.inl (t.1, t.2.1, t.2.2.1, t.2.2.2))))

def impl_afterMoves_n6 (x912 : ByteArray) (x1319 : List Int) : Option ((Int × Int × (List Int) × (List Int)) ⊕ Unit) :=
  (impl_afterMoves_n2 x912).bind (fun (t : Int) => impl_afterMoves_n5 x912 t x1319)

def impl_afterMoves_n7 (x1375 : Int) (x1376 : Int) (x1377 : List Int) (x1378 : List Int) : Option ((Int × Int × (List Int) × (List Int)) ⊕ Unit) :=
  (impl_stackMachine_ended x1375 x1376 x1377 x1378).bind fun (v1435 : Bool) => cond (!v1435) (some (Sum.inr ())) (some (Sum.inl (x1375, x1376, x1377, x1378)))

def impl_afterMoves_n8 (x912 : ByteArray) (x1319 : List Int) : Option ((Int × Int × (List Int) × (List Int)) ⊕ Unit) :=
  (impl_afterMoves_n6 x912 x1319).bind (Sum.elim (fun (t : Int × Int × (List Int) × (List Int)) => impl_afterMoves_n7 t.1 t.2.1 t.2.2.1 t.2.2.2) (fun e => some ((fun (t : Unit) => (Sum.inr t)) e)))

def impl_afterMoves_n9 (x911 : Int) (x912 : ByteArray) : Option ((Int × Int × (List Int) × (List Int)) ⊕ Unit) :=
  (impl_afterMoves_n1 x911).bind (Sum.elim (fun (t : (List Int)) => impl_afterMoves_n8 x912 t) (fun e => some ((fun (t : Unit) => (Sum.inr t)) e)))

@[irreducible] def impl_afterMoves (x911 : Int) (x912 : ByteArray) : Option (Bool × Int × Int × (List Int) × (List Int)) :=
  (impl_afterMoves_n9 x911 x912).map (Sum.elim (fun (t : Int × Int × (List Int) × (List Int)) => (true, t.1, t.2.1, t.2.2.1, t.2.2.2)) (fun (t : Unit) => (false, 0, 0, [], [])))

/-! loop.example/headtrees/impl.DeepestStack -/

def impl_DeepestStack_n1 (x909 : Int) (x910 : ByteArray) : Option (Int) :=
  (impl_afterMoves x909 x910).bind fun (v1457 : Bool × Int × Int × (List Int) × (List Int)) => cond (v1457.1) (some (v1457.2.2.1)) (some (-1))

@[irreducible] def impl_DeepestStack (x909 : Int) (x910 : ByteArray) : Option (Int) :=
  impl_DeepestStack_n1 x909 x910

/-! loop.example/headtrees/spec.l1In -/

def spec_l1In_n1 (x1475 : Int) (x1476 : Int) (x1477 : Int) : Option (Bool) :=
  cond (decide (x1475 ≥ x1476)) (some (decide (x1475 ≤ x1477))) (some false)

@[irreducible] def spec_l1In (x1475 : Int) (x1476 : Int) (x1477 : Int) : Option (Bool) :=
  spec_l1In_n1 x1475 x1476 x1477

/-! loop.example/headtrees/spec.l6Run -/

def spec_l6Run_n1 (x1487 : Int) : Option (((List Int))) :=
  (mk x1487 x1487).bind fun (v1561 : Nat) => some (List.replicate v1561 (0 : Int))

def spec_l6Run_n2 : Option (Unit) :=
  some ()

def spec_l6Run_n3 (x1488 : ByteArray) (x2278 : Int) (x2279 : Int) (x2280 : List Int) (x2281 : List Int) : Option (Unit ⊕ (Int × (List Int) × (List Int))) :=
  cond (decide (x2279 < (((ByteArray.size x1488 : Nat) : Int)))) (some (Sum.inl ())) (some (Sum.inr (x2278, x2280, x2281)))

def spec_l6Run_n4 (x2281 : List Int) : Option (Int) :=
  some (IntKind.wrap .i64 ((((List.length x2281 : Nat) : Int)) - 1))

def spec_l6Run_n5 (x1487 : Int) (x1488 : ByteArray) (x2278 : Int) (x2279 : Int) : Option (Bool) :=
  (bidx x1488 x2279).bind fun (v2798 : Int) => cond (v2798 == 83) (some (decide (x2278 ≤ x1487))) (some false)

def spec_l6Run_n6 (x1488 : ByteArray) (x2278 : Int) (x2279 : Int) (x2543 : Int) (x2927 : Bool) (x2280 : List Int) (x2281 : List Int) : Option ((Int × (List Int) × (List Int)) ⊕ (Bool × (List Int))) :=
  cond x2927 ((room ((List.length x2281) + List.length ([x2278]))).bind fun (v2930 : Unit) => some (Sum.inl ((IntKind.wrap .i64 (x2278 + 1)), x2280, (x2281 ++ ([x2278]))))) ((bidx x1488 x2279).bind fun (v2933 : Int) => cond (v2933 == 76) (cond (decide (x2543 ≥ 1)) ((inb (IntKind.wrap .i64 (x2543 - 1)) (List.length x2281)).bind fun (v2937 : Nat) => (x2281[v2937]?).bind fun (v2938 : Int) => (inb x2543 (List.length x2281)).bind fun (v2940 : Nat) => (x2281[v2940]?).bind fun (v2941 : Int) => (inb (IntKind.wrap .i64 (v2938 - 1)) (List.length x2280)).bind fun (v2942 : Nat) => (inc (IntKind.wrap .i64 (x2543 - 1)) (List.length x2281)).bind fun (v2946 : Nat) => (inb x2543 (List.length x2281)).bind fun (v2948 : Nat) => (x2281[v2948]?).bind fun (v2949 : Int) => (room (List.length ((x2281.drop 0).take (v2946 - 0)))).bind fun (v2952 : Unit) => (room ((List.length ((x2281.drop 0).take (v2946 - 0))) + List.length ([v2949]))).bind fun (v2954 : Unit) => some (Sum.inl (x2278, (x2280.set v2942 v2941), (((x2281.drop 0).take (v2946 - 0)) ++ ([v2949]))))) ((bidx x1488 x2279).bind fun (v2956 : Int) => cond (v2956 == 82) (cond (decide (x2543 ≥ 1)) ((inb x2543 (List.length x2281)).bind fun (v2959 : Nat) => (x2281[v2959]?).bind fun (v2960 : Int) => (inb (IntKind.wrap .i64 (x2543 - 1)) (List.length x2281)).bind fun (v2963 : Nat) => (x2281[v2963]?).bind fun (v2964 : Int) => (inb (IntKind.wrap .i64 (v2960 - 1)) (List.length x2280)).bind fun (v2965 : Nat) => (inc x2543 (List.length x2281)).bind fun (v2968 : Nat) => (room ((List.length ([] : List Int)) + List.length ((x2281.drop 0).take (v2968 - 0)))).bind fun (v2972 : Unit) => some (Sum.inl (x2278, (x2280.set v2965 v2964), (([] : List Int) ++ ((x2281.drop 0).take (v2968 - 0)))))) (some (Sum.inr (false, ([] : List Int))))) (some (Sum.inr (false, ([] : List Int)))))) ((bidx x1488 x2279).bind fun (v2974 : Int) => cond (v2974 == 82) (cond (decide (x2543 ≥ 1)) ((inb x2543 (List.length x2281)).bind fun (v2977 : Nat) => (x2281[v2977]?).bind fun (v2978 : Int) => (inb (IntKind.wrap .i64 (x2543 - 1)) (List.length x2281)).bind fun (v2981 : Nat) => (x2281[v2981]?).bind fun (v2982 : Int) => (inb (IntKind.wrap .i64 (v2978 - 1)) (List.length x2280)).bind fun (v2983 : Nat) => (inc x2543 (List.length x2281)).bind fun (v2986 : Nat) => (room ((List.length ([] : List Int)) + List.length ((x2281.drop 0).take (v2986 - 0)))).bind fun (v2990 : Unit) => some (Sum.inl (x2278, (x2280.set v2983 v2982), (([] : List Int) ++ ((x2281.drop 0).take (v2986 - 0)))))) (some (Sum.inr (false, ([] : List Int))))) (some (Sum.inr (false, ([] : List Int))))))

def spec_l6Run_n7 (x1487 : Int) (x1488 : ByteArray) (x2278 : Int) (x2279 : Int) (x2543 : Int) (x2280 : List Int) (x2281 : List Int) : Option ((Int × (List Int) × (List Int)) ⊕ (Bool × (List Int))) :=
  (spec_l6Run_n5 x1487 x1488 x2278 x2279).bind (fun (t : Bool) => spec_l6Run_n6 x1488 x2278 x2279 x2543 t x2280 x2281)

def spec_l6Run_n8 (x1487 : Int) (x1488 : ByteArray) (x2278 : Int) (x2279 : Int) (x2543 : Int) (x2280 : List Int) (x2281 : List Int) : Option ((Int × (List Int) × (List Int)) ⊕ (Bool × (List Int))) :=
  (spec_l6Run_n7 x1487 x1488 x2278 x2279 x2543 x2280 x2281).map (Sum.elim (fun (t : Int × (List Int) × (List Int)) => (Sum.inl (t.1, t.2.1, t.2.2))) (fun (t : Bool × (List Int)) => (Sum.inr t)))

def spec_l6Run_n9 (x1487 : Int) (x1488 : ByteArray) (x2278 : Int) (x2279 : Int) (x2280 : List Int) (x2281 : List Int) : Option ((Int × (List Int) × (List Int)) ⊕ (Bool × (List Int))) :=
  (spec_l6Run_n4 x2281).bind (fun (t : Int) => spec_l6Run_n8 x1487 x1488 x2278 x2279 t x2280 x2281)

def spec_l6Run_n10 (x1487 : Int) (x1488 : ByteArray) (x2278 : Int) (x2279 : Int) (x2280 : List Int) (x2281 : List Int) : Option ((Int × (List Int) × (List Int)) ⊕ (Bool × (List Int))) :=
  (spec_l6Run_n9 x1487 x1488 x2278 x2279 x2280 x2281).map (Sum.elim (fun (t : Int × (List Int) × (List Int)) => (Sum.inl (t.1, t.2.1, t.2.2))) (fun (t : Bool × (List Int)) => (Sum.inr t)))

def spec_l6Run_n11 (x2279 : Int) : Option (Int) :=
  some (IntKind.wrap .i64 (x2279 + 1))

def spec_l6Run_n12 (x1487 : Int) (x1488 : ByteArray) (x2278 : Int) (x2279 : Int) (x2280 : List Int) (x2281 : List Int) : Option ((Int × Int × (List Int) × (List Int)) ⊕ (Bool × (List Int))) :=
  (spec_l6Run_n10 x1487 x1488 x2278 x2279 x2280 x2281).bind (Sum.elim (fun (t : Int × (List Int) × (List Int)) => (spec_l6Run_n11 x2279).map (fun (u : Int) => (Sum.inl (t.1, u, t.2.1, t.2.2)))) (fun e => some ((fun (t : Bool × (List Int)) => (Sum.inr t)) e)))

def spec_l6Run_n13 (x1487 : Int) (x1488 : ByteArray) (x2278 : Int) (x2279 : Int) (x2280 : List Int) (x2281 : List Int) : Option ((Int × Int × (List Int) × (List Int)) ⊕ (Bool × (List Int)) ⊕ (Int × (List Int) × (List Int))) :=
  (spec_l6Run_n3 x1488 x2278 x2279 x2280 x2281).bind (Sum.elim (fun (t : Unit) => (spec_l6Run_n12 x1487 x1488 x2278 x2279 x2280 x2281).map (Sum.elim (fun (t : Int × Int × (List Int) × (List Int)) => (Sum.inl (t.1, t.2.1, t.2.2.1, t.2.2.2))) (fun (t : Bool × (List Int)) => (Sum.inr (Sum.inl t))))) (fun e => some ((fun (t : Int × (List Int) × (List Int)) => (Sum.inr (Sum.inr t))) e)))

def spec_l6Run_n14 (x1487 : Int) (x1488 : ByteArray) (x1562 : List Int) : Option ((Bool × (List Int)) ⊕ (Int × (List Int) × (List Int))) :=
  nloop (fun (s : Int × Int × (List Int) × (List Int)) => ((spec_l6Run_n13 x1487 x1488 s.1 s.2.1 s.2.2.1 s.2.2.2).map (Sum.elim (fun (t : Int × Int × (List Int) × (List Int)) => Sum.inl (t.1, t.2.1, t.2.2.1, t.2.2.2)) (Sum.elim (fun (t : Bool × (List Int)) => Sum.inr (Sum.inl t)) (fun (t : Int × (List Int) × (List Int)) => Sum.inr (Sum.inr t)))) : Option ((Int × Int × (List Int) × (List Int)) ⊕ ((Bool × (List Int)) ⊕ (Int × (List Int) × (List Int)))))) LL (1, 0, x1562, ([] : List Int))

def spec_l6Run_n15 (x1487 : Int) (x1488 : ByteArray) (x1562 : List Int) : Option ((Int × (List Int) × (List Int)) ⊕ (Bool × (List Int))) :=
  (spec_l6Run_n14 x1487 x1488 x1562).map (Sum.elim (fun (t : Bool × (List Int)) => (Sum.inr t)) (fun (t : Int × (List Int) × (List Int)) => (Sum.inl (t.1, t.2.1, t.2.2))))

def spec_l6Run_n16 (x1487 : Int) (x1488 : ByteArray) (x1562 : List Int) : Option ((Int × (List Int) × (List Int)) ⊕ (Bool × (List Int))) :=
  (spec_l6Run_n2).bind (fun (t : Unit) => spec_l6Run_n15 x1487 x1488 x1562)

def spec_l6Run_n17 (x1487 : Int) (x2278 : Int) (x2280 : List Int) (x2281 : List Int) : Option ((Bool × (List Int))) :=
  cond ((((List.length x2281 : Nat) : Int)) == 1) (some ((decide (x2278 > x1487)), x2280)) (some (false, x2280))

def spec_l6Run_n18 (x1487 : Int) (x1488 : ByteArray) (x1562 : List Int) : Option ((Bool × (List Int))) :=
  (spec_l6Run_n16 x1487 x1488 x1562).bind (Sum.elim (fun (t : Int × (List Int) × (List Int)) => spec_l6Run_n17 x1487 t.1 t.2.1 t.2.2) (fun e => some ((fun (t : Bool × (List Int)) => t) e)))

def spec_l6Run_n19 (x1487 : Int) (x1488 : ByteArray) : Option ((Bool × (List Int))) :=
  (spec_l6Run_n1 x1487).bind (fun (t : (List Int)) => spec_l6Run_n18 x1487 x1488 t)

@[irreducible] def spec_l6Run (x1487 : Int) (x1488 : ByteArray) : Option (Bool × (List Int)) :=
  spec_l6Run_n19 x1487 x1488

/-! loop.example/headtrees/spec.RunStack -/

def spec_RunStack_n1 (x1473 : Int) (x1474 : ByteArray) : Option ((Bool × (List Int))) :=
  (spec_l1In x1473 1 8).bind fun (v3019 : Bool) => cond (!v3019) (some (false, ([] : List Int))) ((spec_l6Run x1473 x1474).bind fun (v3021 : Bool × (List Int)) => cond (!(v3021.1)) (some (false, ([] : List Int))) (some (true, (v3021.2))))

@[irreducible] def spec_RunStack (x1473 : Int) (x1474 : ByteArray) : Option (Bool × (List Int)) :=
  spec_RunStack_n1 x1473 x1474

/-! loop.example/headtrees/spec.DeepestStack -/

def spec_DeepestStack_n1 (x1471 : Int) (x1472 : ByteArray) : Option (Unit ⊕ Int) :=
  (spec_RunStack x1471 x1472).bind fun (v3038 : Bool × (List Int)) => cond (!(v3038.1)) (some (Sum.inr (-1))) (some (Sum.inl ()))

def spec_DeepestStack_n2 : Option (Unit) :=
  some ()

def spec_DeepestStack_n3 (x1472 : ByteArray) (x3065 : Int) (x3066 : Int) (x3067 : Int) : Option ((Int × Int × Int) ⊕ Int) :=
  cond (decide (x3067 < (((ByteArray.size x1472 : Nat) : Int)))) ((bidx x1472 x3067).bind fun (v3080 : Int) => cond (v3080 == 83) (some (Sum.inl ((imax x3065 (IntKind.wrap .i64 (x3066 + 1))), (IntKind.wrap .i64 (x3066 + 1)), (IntKind.wrap .i64 (x3067 + 1))))) (some (Sum.inl ((imax x3065 (IntKind.wrap .i64 (x3066 - 1))), (IntKind.wrap .i64 (x3066 - 1)), (IntKind.wrap .i64 (x3067 + 1)))))) (some (Sum.inr x3065))

def spec_DeepestStack_n4 (x1472 : ByteArray) : Option (Int) :=
  nloop (fun (s : Int × Int × Int) => ((spec_DeepestStack_n3 x1472 s.1 s.2.1 s.2.2).map (Sum.elim (fun (t : Int × Int × Int) => Sum.inl (t.1, t.2.1, t.2.2)) (fun (t : Int) => Sum.inr t)) : Option ((Int × Int × Int) ⊕ (Int)))) LL (0, 0, 0)

def spec_DeepestStack_n5 (x1472 : ByteArray) : Option (Int) :=
  (spec_DeepestStack_n4 x1472).map (fun (t : Int) => t)

def spec_DeepestStack_n6 (x1472 : ByteArray) : Option (Int) :=
  (spec_DeepestStack_n2).bind (fun (t : Unit) => spec_DeepestStack_n5 x1472)

def spec_DeepestStack_n7 (x3065 : Int) : Option (Int) :=
  some x3065

def spec_DeepestStack_n8 (x1472 : ByteArray) : Option (Int) :=
  (spec_DeepestStack_n6 x1472).bind (fun (t : Int) => spec_DeepestStack_n7 t)

def spec_DeepestStack_n9 (x1471 : Int) (x1472 : ByteArray) : Option (Int) :=
  (spec_DeepestStack_n1 x1471 x1472).bind (Sum.elim (fun (t : Unit) => spec_DeepestStack_n8 x1472) (fun e => some ((fun (t : Int) => t) e)))

@[irreducible] def spec_DeepestStack (x1471 : Int) (x1472 : ByteArray) : Option (Int) :=
  spec_DeepestStack_n9 x1471 x1472

/-! loop.example/headtrees/impl.oneRoot -/

def impl_oneRoot_n1 : Option (Unit) :=
  some ()

def impl_oneRoot_n2 (x3110 : List Int) : Option (Int) :=
  some (((List.length x3110 : Nat) : Int))

def impl_oneRoot_n3 (x3110 : List Int) (x3132 : Int) (x3111 : Int) (x3133 : Int) : Option ((Int × Int) ⊕ Bool ⊕ Int) :=
  cond (decide (x3133 < x3111)) ((idx x3110 x3133).bind fun (v3144 : Int) => cond (decide (v3144 < 0)) (some (Sum.inr (Sum.inl false))) (cond (decide (v3144 > (((List.length x3110 : Nat) : Int)))) (some (Sum.inr (Sum.inl false))) (cond (v3144 == 0) (some (Sum.inl ((IntKind.wrap .i64 (x3132 + 1)), (IntKind.wrap .i64 (x3133 + 1))))) (some (Sum.inl (x3132, (IntKind.wrap .i64 (x3133 + 1)))))))) (some (Sum.inr (Sum.inr x3132)))

def impl_oneRoot_n4 (x3110 : List Int) (x3111 : Int) : Option (Bool ⊕ Int) :=
  nloop (fun (s : Int × Int) => ((impl_oneRoot_n3 x3110 s.1 x3111 s.2).map (Sum.elim (fun (t : Int × Int) => Sum.inl (t.1, t.2)) (Sum.elim (fun (t : Bool) => Sum.inr (Sum.inl t)) (fun (t : Int) => Sum.inr (Sum.inr t)))) : Option ((Int × Int) ⊕ (Bool ⊕ Int)))) LL (0, 0)

def impl_oneRoot_n5 (x3110 : List Int) (x3111 : Int) : Option (Int ⊕ Bool) :=
  (impl_oneRoot_n4 x3110 x3111).map (Sum.elim (fun (t : Bool) => (Sum.inr t)) (fun (t : Int) => (Sum.inl t)))

def impl_oneRoot_n6 (x3110 : List Int) : Option (Int ⊕ Bool) :=
  (impl_oneRoot_n2 x3110).bind (fun (t : Int) => impl_oneRoot_n5 x3110 t)

def impl_oneRoot_n7 (x3132 : Int) : Option (Bool) :=
  some (x3132 == 1)

def impl_oneRoot_n8 (x3110 : List Int) : Option (Bool) :=
  (impl_oneRoot_n6 x3110).bind (Sum.elim (fun (t : Int) => impl_oneRoot_n7 t) (fun e => some ((fun (t : Bool) => t) e)))

def impl_oneRoot_n9 (x3110 : List Int) : Option (Bool) :=
  (impl_oneRoot_n1).bind (fun (t : Unit) => impl_oneRoot_n8 x3110)

@[irreducible] def impl_oneRoot (x3110 : List Int) : Option (Bool) :=
  impl_oneRoot_n9 x3110

/-! (*loop.example/headtrees/impl.walker).up -/

def impl_walker_up_n1 (x3166 : List Int) (x3167 : Int) (x3168 : Int) : Option ((Bool × Int × Int)) :=
  (idx x3166 (IntKind.wrap .i64 (x3167 - 1))).bind fun (v3186 : Int) => cond (v3186 == 0) (some (false, x3167, x3168)) (some (true, v3186, (IntKind.wrap .i64 (x3168 + 1))))

@[irreducible] def impl_walker_up (x3166 : List Int) (x3167 : Int) (x3168 : Int) : Option (Bool × Int × Int) :=
  impl_walker_up_n1 x3166 x3167 x3168

/-! loop.example/headtrees/impl.stepsToRoot -/

def impl_stepsToRoot_n1 : Option (Unit) :=
  some ()

def impl_stepsToRoot_n2 (x3164 : List Int) (x3202 : Int) (x3203 : Int) : Option ((Int × Int) ⊕ (Int × Bool) ⊕ (Int × Int)) :=
  (impl_walker_up x3164 x3202 x3203).bind fun (v3208 : Bool × Int × Int) => cond (v3208.1) (cond (decide ((v3208.2.2) ≥ (((List.length x3164 : Nat) : Int)))) (some (Sum.inr (Sum.inl (0, false)))) (some (Sum.inl ((v3208.2.1), (v3208.2.2))))) (some (Sum.inr (Sum.inr ((v3208.2.1), (v3208.2.2)))))

def impl_stepsToRoot_n3 (x3164 : List Int) (x3165 : Int) : Option ((Int × Bool) ⊕ (Int × Int)) :=
  nloop (fun (s : Int × Int) => ((impl_stepsToRoot_n2 x3164 s.1 s.2).map (Sum.elim (fun (t : Int × Int) => Sum.inl (t.1, t.2)) (Sum.elim (fun (t : Int × Bool) => Sum.inr (Sum.inl t)) (fun (t : Int × Int) => Sum.inr (Sum.inr t)))) : Option ((Int × Int) ⊕ ((Int × Bool) ⊕ (Int × Int))))) LL (x3165, 0)

def impl_stepsToRoot_n4 (x3164 : List Int) (x3165 : Int) : Option ((Int × Int) ⊕ (Int × Bool)) :=
  (impl_stepsToRoot_n3 x3164 x3165).map (Sum.elim (fun (t : Int × Bool) => (Sum.inr t)) (fun (t : Int × Int) => (Sum.inl (t.1, t.2))))

def impl_stepsToRoot_n5 (x3211 : Int) : Option ((Int × Bool)) :=
  some (x3211, true)

def impl_stepsToRoot_n6 (x3164 : List Int) (x3165 : Int) : Option ((Int × Bool)) :=
  (impl_stepsToRoot_n4 x3164 x3165).bind (Sum.elim (fun (t : Int × Int) => impl_stepsToRoot_n5 t.2) (fun e => some ((fun (t : Int × Bool) => t) e)))

def impl_stepsToRoot_n7 (x3164 : List Int) (x3165 : Int) : Option ((Int × Bool)) :=
  (impl_stepsToRoot_n1).bind (fun (t : Unit) => impl_stepsToRoot_n6 x3164 x3165)

@[irreducible] def impl_stepsToRoot (x3164 : List Int) (x3165 : Int) : Option (Int × Bool) :=
  impl_stepsToRoot_n7 x3164 x3165

/-! loop.example/headtrees/impl.TreeOk -/

def impl_TreeOk_n1 (x3105 : List Int) : Option (Unit ⊕ Bool) :=
  cond (decide ((((List.length x3105 : Nat) : Int)) < 1)) (some (Sum.inr false)) (cond (decide ((((List.length x3105 : Nat) : Int)) > 8)) (some (Sum.inr false)) ((impl_oneRoot x3105).bind fun (v3157 : Bool) => cond (!v3157) (some (Sum.inr false)) (some (Sum.inl ()))))

def impl_TreeOk_n2 (x3105 : List Int) : Option (Int) :=
  some (((List.length x3105 : Nat) : Int))

def impl_TreeOk_n3 (x3105 : List Int) (x3159 : Int) (x3227 : Int) : Option (Int ⊕ Bool ⊕ Unit) :=
  cond (decide (x3227 < x3159)) ((impl_stepsToRoot x3105 (IntKind.wrap .i64 (x3227 + 1))).bind fun (v3238 : Int × Bool) => cond (!(v3238.2)) (some (Sum.inr (Sum.inl false))) (some (Sum.inl (IntKind.wrap .i64 (x3227 + 1))))) (some (Sum.inr (Sum.inr ())))

def impl_TreeOk_n4 (x3105 : List Int) (x3159 : Int) : Option (Bool ⊕ Unit) :=
  nloop (fun (s : Int) => ((impl_TreeOk_n3 x3105 x3159 s).map (Sum.elim (fun (t : Int) => Sum.inl t) (Sum.elim (fun (t : Bool) => Sum.inr (Sum.inl t)) (fun (t : Unit) => Sum.inr (Sum.inr t)))) : Option ((Int) ⊕ (Bool ⊕ Unit)))) LL 0

def impl_TreeOk_n5 (x3105 : List Int) (x3159 : Int) : Option (Unit ⊕ Bool) :=
  (impl_TreeOk_n4 x3105 x3159).map (Sum.elim (fun (t : Bool) => (Sum.inr t)) (fun (t : Unit) => (Sum.inl ())))

def impl_TreeOk_n6 (x3105 : List Int) : Option (Unit ⊕ Bool) :=
  (impl_TreeOk_n2 x3105).bind (fun (t : Int) => impl_TreeOk_n5 x3105 t)

def impl_TreeOk_n7 : Option (Bool) :=
  some true

def impl_TreeOk_n8 (x3105 : List Int) : Option (Bool) :=
  (impl_TreeOk_n6 x3105).bind (Sum.elim (fun (t : Unit) => impl_TreeOk_n7) (fun e => some ((fun (t : Bool) => t) e)))

def impl_TreeOk_n9 (x3105 : List Int) : Option (Bool) :=
  (impl_TreeOk_n1 x3105).bind (Sum.elim (fun (t : Unit) => impl_TreeOk_n8 x3105) (fun e => some ((fun (t : Bool) => t) e)))

@[irreducible] def impl_TreeOk (x3105 : List Int) : Option (Bool) :=
  impl_TreeOk_n9 x3105

/-! loop.example/headtrees/laws.alive -/

def laws_alive_n1 : Option (Bool) :=
  (impl_TreeOk ([0])).bind fun (v3249 : Bool) => cond v3249 ((impl_TreeOk ([1])).bind fun (v3251 : Bool) => some (!v3251)) (some false)

@[irreducible] def laws_alive : Option (Bool) :=
  laws_alive_n1

/-! loop.example/headtrees/laws.FnDeepestStack -/

def laws_FnDeepestStack_n1 (x2 : List Int) : Option ((Int × ByteArray × Int) ⊕ Bool) :=
  cond (decide ((((List.length x2 : Nat) : Int)) > 1048576)) (some (Sum.inr true)) ((spec_DrawDeepestStack x2).bind fun (v3257 : Int × ByteArray) => (impl_DeepestStack (v3257.1) (v3257.2)).bind fun (v3260 : Int) => (spec_DeepestStack (v3257.1) (v3257.2)).bind fun (v3261 : Int) => cond (v3260 != v3261) (some (Sum.inr false)) (cond (decide (v3260 < 0)) (cond (v3260 == (-1)) ((laws_alive).bind fun (v3265 : Bool) => some (Sum.inr v3265)) (some (Sum.inr false))) (some (Sum.inl ((v3257.1), (v3257.2), v3260)))))

def laws_FnDeepestStack_n2 (x3259 : ByteArray) (x3275 : Int) : Option (Int ⊕ Int) :=
  cond (decide (x3275 < (((ByteArray.size x3259 : Nat) : Int)))) ((bidx x3259 x3275).bind fun (v3282 : Int) => cond (v3282 == 83) (some (Sum.inl (IntKind.wrap .i64 (x3275 + 1)))) (some (Sum.inr x3275))) (some (Sum.inr x3275))

def laws_FnDeepestStack_n3 (x3259 : ByteArray) : Option (Int) :=
  nloop (fun (s : Int) => ((laws_FnDeepestStack_n2 x3259 s).map (Sum.elim (fun (t : Int) => Sum.inl t) (fun (t : Int) => Sum.inr t)) : Option ((Int) ⊕ (Int)))) LL 0

def laws_FnDeepestStack_n4 (x3259 : ByteArray) : Option (Int) :=
  (laws_FnDeepestStack_n3 x3259).map (fun (t : Int) => t)

def laws_FnDeepestStack_n5 (x3258 : Int) (x3260 : Int) (x3275 : Int) : Option (Bool) :=
  cond (decide (x3260 ≥ 1)) (cond (decide (x3260 ≤ x3258)) (cond (decide (x3258 < 2)) (some ((x3260 == x3258) == (x3275 == x3258))) (cond (decide (x3260 ≥ 2)) (some ((x3260 == x3258) == (x3275 == x3258))) (some false))) (some false)) (some false)

def laws_FnDeepestStack_n6 (x3258 : Int) (x3259 : ByteArray) (x3260 : Int) : Option (Bool) :=
  (laws_FnDeepestStack_n4 x3259).bind (fun (t : Int) => laws_FnDeepestStack_n5 x3258 x3260 t)

def laws_FnDeepestStack_n7 (x2 : List Int) : Option (Bool) :=
  (laws_FnDeepestStack_n1 x2).bind (Sum.elim (fun (t : Int × ByteArray × Int) => laws_FnDeepestStack_n6 t.1 t.2.1 t.2.2) (fun e => some ((fun (t : Bool) => t) e)))

@[irreducible] def laws_FnDeepestStack (x2 : List Int) : Option (Bool) :=
  laws_FnDeepestStack_n7 x2

/-! loop.example/headtrees/impl.RunStack -/

def impl_RunStack_n1 (x3322 : Int) (x3323 : ByteArray) : Option ((Bool × (List Int))) :=
  (impl_afterMoves x3322 x3323).bind fun (v3342 : Bool × Int × Int × (List Int) × (List Int)) => cond (v3342.1) (some (true, (v3342.2.2.2.1))) (some (false, ([] : List Int)))

@[irreducible] def impl_RunStack (x3322 : Int) (x3323 : ByteArray) : Option (Bool × (List Int)) :=
  impl_RunStack_n1 x3322 x3323

/-! loop.example/headtrees/laws.eqIntS -/

def laws_eqIntS_n1 (x3361 : List Int) (x3362 : List Int) : Option (Unit ⊕ Bool) :=
  cond ((((List.length x3361 : Nat) : Int)) != (((List.length x3362 : Nat) : Int))) (some (Sum.inr false)) (some (Sum.inl ()))

def laws_eqIntS_n2 : Option (Unit) :=
  some ()

def laws_eqIntS_n3 (x3361 : List Int) (x3362 : List Int) (x3379 : Int) : Option (Int ⊕ Bool ⊕ Unit) :=
  cond (decide (x3379 < (((List.length x3361 : Nat) : Int)))) ((idx x3361 x3379).bind fun (v3389 : Int) => (idx x3362 x3379).bind fun (v3390 : Int) => cond (v3389 != v3390) (some (Sum.inr (Sum.inl false))) (some (Sum.inl (IntKind.wrap .i64 (x3379 + 1))))) (some (Sum.inr (Sum.inr ())))

def laws_eqIntS_n4 (x3361 : List Int) (x3362 : List Int) : Option (Bool ⊕ Unit) :=
  nloop (fun (s : Int) => ((laws_eqIntS_n3 x3361 x3362 s).map (Sum.elim (fun (t : Int) => Sum.inl t) (Sum.elim (fun (t : Bool) => Sum.inr (Sum.inl t)) (fun (t : Unit) => Sum.inr (Sum.inr t)))) : Option ((Int) ⊕ (Bool ⊕ Unit)))) LL 0

def laws_eqIntS_n5 (x3361 : List Int) (x3362 : List Int) : Option (Unit ⊕ Bool) :=
  (laws_eqIntS_n4 x3361 x3362).map (Sum.elim (fun (t : Bool) => (Sum.inr t)) (fun (t : Unit) => (Sum.inl ())))

def laws_eqIntS_n6 (x3361 : List Int) (x3362 : List Int) : Option (Unit ⊕ Bool) :=
  (laws_eqIntS_n2).bind (fun (t : Unit) => laws_eqIntS_n5 x3361 x3362)

def laws_eqIntS_n7 : Option (Bool) :=
  some true

def laws_eqIntS_n8 (x3361 : List Int) (x3362 : List Int) : Option (Bool) :=
  (laws_eqIntS_n6 x3361 x3362).bind (Sum.elim (fun (t : Unit) => laws_eqIntS_n7) (fun e => some ((fun (t : Bool) => t) e)))

def laws_eqIntS_n9 (x3361 : List Int) (x3362 : List Int) : Option (Bool) :=
  (laws_eqIntS_n1 x3361 x3362).bind (Sum.elim (fun (t : Unit) => laws_eqIntS_n8 x3361 x3362) (fun e => some ((fun (t : Bool) => t) e)))

@[irreducible] def laws_eqIntS (x3361 : List Int) (x3362 : List Int) : Option (Bool) :=
  laws_eqIntS_n9 x3361 x3362

/-! loop.example/headtrees/laws.markIntS -/

def laws_markIntS_n1 : Option (Unit) :=
  some ()

def laws_markIntS_n2 : Option (Unit) :=
  some ()

def laws_markIntS_n3 (x3434 : Int) (x3435 : Int) (x3436 : List Int) : Option ((Int × Int × (List Int)) ⊕ (Int × (List Int))) :=
  cond (decide (x3435 < (((List.length x3436 : Nat) : Int)))) ((inb x3435 (List.length x3436)).bind fun (v3446 : Nat) => some (Sum.inl ((IntKind.wrap .i64 (x3434 + 1)), (IntKind.wrap .i64 (x3435 + 1)), (x3436.set v3446 x3434)))) (some (Sum.inr (x3434, x3436)))

def laws_markIntS_n4 (x3419 : Int) (x3420 : List Int) : Option ((Int × (List Int))) :=
  nloop (fun (s : Int × Int × (List Int)) => ((laws_markIntS_n3 s.1 s.2.1 s.2.2).map (Sum.elim (fun (t : Int × Int × (List Int)) => Sum.inl (t.1, t.2.1, t.2.2)) (fun (t : Int × (List Int)) => Sum.inr t)) : Option ((Int × Int × (List Int)) ⊕ ((Int × (List Int)))))) LL (x3419, 0, x3420)

def laws_markIntS_n5 (x3419 : Int) (x3420 : List Int) : Option ((Int × (List Int))) :=
  (laws_markIntS_n4 x3419 x3420).map (fun (t : Int × (List Int)) => (t.1, t.2))

def laws_markIntS_n6 (x3419 : Int) (x3420 : List Int) : Option ((Int × (List Int))) :=
  (laws_markIntS_n2).bind (fun (t : Unit) => laws_markIntS_n5 x3419 x3420)

def laws_markIntS_n7 (x3434 : Int) (x3436 : List Int) : Option ((Int × (List Int))) :=
  some (x3434, x3436)

def laws_markIntS_n8 (x3419 : Int) (x3420 : List Int) : Option ((Int × (List Int))) :=
  (laws_markIntS_n6 x3419 x3420).bind (fun (t : Int × (List Int)) => laws_markIntS_n7 t.1 t.2)

def laws_markIntS_n9 (x3419 : Int) (x3420 : List Int) : Option ((Int × (List Int))) :=
  (laws_markIntS_n1).bind (fun (t : Unit) => laws_markIntS_n8 x3419 x3420)

@[irreducible] def laws_markIntS (x3419 : Int) (x3420 : List Int) : Option (Int × (List Int)) :=
  laws_markIntS_n9 x3419 x3420

/-! loop.example/headtrees/laws.heldIntS -/

def laws_heldIntS_n1 : Option (Unit) :=
  some ()

def laws_heldIntS_n2 : Option (Unit) :=
  some ()

def laws_heldIntS_n3 (x3481 : List Int) (x3496 : Int) (x3497 : Int) : Option ((Int × Int) ⊕ Int ⊕ Int) :=
  cond (decide (x3497 < (((List.length x3481 : Nat) : Int)))) ((idx x3481 x3497).bind fun (v3507 : Int) => cond (v3507 != x3496) (some (Sum.inr (Sum.inl (-1)))) (some (Sum.inl ((IntKind.wrap .i64 (x3496 + 1)), (IntKind.wrap .i64 (x3497 + 1)))))) (some (Sum.inr (Sum.inr x3496)))

def laws_heldIntS_n4 (x3481 : List Int) (x3482 : Int) : Option (Int ⊕ Int) :=
  nloop (fun (s : Int × Int) => ((laws_heldIntS_n3 x3481 s.1 s.2).map (Sum.elim (fun (t : Int × Int) => Sum.inl (t.1, t.2)) (Sum.elim (fun (t : Int) => Sum.inr (Sum.inl t)) (fun (t : Int) => Sum.inr (Sum.inr t)))) : Option ((Int × Int) ⊕ (Int ⊕ Int)))) LL (x3482, 0)

def laws_heldIntS_n5 (x3481 : List Int) (x3482 : Int) : Option (Int ⊕ Int) :=
  (laws_heldIntS_n4 x3481 x3482).map (Sum.elim (fun (t : Int) => (Sum.inr t)) (fun (t : Int) => (Sum.inl t)))

def laws_heldIntS_n6 (x3481 : List Int) (x3482 : Int) : Option (Int ⊕ Int) :=
  (laws_heldIntS_n2).bind (fun (t : Unit) => laws_heldIntS_n5 x3481 x3482)

def laws_heldIntS_n7 (x3496 : Int) : Option (Int) :=
  some x3496

def laws_heldIntS_n8 (x3481 : List Int) (x3482 : Int) : Option (Int) :=
  (laws_heldIntS_n6 x3481 x3482).bind (Sum.elim (fun (t : Int) => laws_heldIntS_n7 t) (fun e => some ((fun (t : Int) => t) e)))

def laws_heldIntS_n9 (x3481 : List Int) (x3482 : Int) : Option (Int) :=
  (laws_heldIntS_n1).bind (fun (t : Unit) => laws_heldIntS_n8 x3481 x3482)

@[irreducible] def laws_heldIntS (x3481 : List Int) (x3482 : Int) : Option (Int) :=
  laws_heldIntS_n9 x3481 x3482

/-! loop.example/headtrees/laws.FnExactRunStack -/

def laws_FnExactRunStack_n1 (x3308 : Int) (x3309 : ByteArray) : Option (Bool) :=
  cond (decide ((((ByteArray.size x3309 : Nat) : Int)) > 1048576)) (some true) ((spec_RunStack x3308 x3309).bind fun (v3715 : Bool × (List Int)) => (impl_RunStack x3308 x3309).bind fun (v3718 : Bool × (List Int)) => (laws_eqIntS (v3718.2) (v3715.2)).bind fun (v3721 : Bool) => cond (!v3721) (some false) (cond ((v3718.1) != (v3715.1)) (some false) ((laws_markIntS 1 (v3718.2)).bind fun (v3724 : Int × (List Int)) => (laws_heldIntS (v3724.2) 1).bind fun (v3727 : Int) => cond (decide (v3727 < 0)) (some false) (cond (v3727 != (v3724.1)) (some false) ((impl_RunStack x3308 x3309).bind fun (v3730 : Bool × (List Int)) => (laws_eqIntS (v3730.2) (v3715.2)).bind fun (v3733 : Bool) => cond (!v3733) (some false) (cond ((v3730.1) != (v3715.1)) (some false) ((laws_heldIntS (v3724.2) 1).bind fun (v3736 : Int) => cond (decide (v3736 < 0)) (some false) (cond (v3736 != (v3724.1)) (some false) (some true)))))))))

@[irreducible] def laws_FnExactRunStack (x3308 : Int) (x3309 : ByteArray) : Option (Bool) :=
  laws_FnExactRunStack_n1 x3308 x3309

/-! loop.example/headtrees/laws.FnExactDeepestStack -/

def laws_FnExactDeepestStack_n1 (x3742 : Int) (x3743 : ByteArray) : Option (Bool) :=
  cond (decide ((((ByteArray.size x3743 : Nat) : Int)) > 1048576)) (some true) ((spec_DeepestStack x3742 x3743).bind fun (v3765 : Int) => (impl_DeepestStack x3742 x3743).bind fun (v3766 : Int) => cond (v3766 != v3765) (some false) (some true))

@[irreducible] def laws_FnExactDeepestStack (x3742 : Int) (x3743 : ByteArray) : Option (Bool) :=
  laws_FnExactDeepestStack_n1 x3742 x3743

end Go.Rv
