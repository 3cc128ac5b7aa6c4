/-
  Plain functions, written by program for functions of the checked code. Conditions: none.
-/
import Derived.Test.YtmmfabigcffdfaaDoorFB
set_option linter.unusedVariables false
namespace Go.Rv
/-! loop.example/headtrees/spec.l20Open -/

def spec_l20Open_n1 (x13 : List Int) : Option (((List Int))) :=
  cond (decide ((((List.length x13 : Nat) : Int)) > 2000)) ((inc 2000 (List.length x13)).bind fun (v29 : Nat) => some ((x13.take v29).drop 0)) (some x13)

@[irreducible] def spec_l20Open (x13 : List Int) : Option ((List Int)) :=
  spec_l20Open_n1 x13

/-! (*loop.example/headtrees/spec.l20Rd).pick -/

def spec_l20Rd_pick_n1 (x35 : Int) (x36 : List Int) (x37 : Int) : Option ((Int × Int)) :=
  cond (decide (x35 < 1)) (some (0, (IntKind.wrap .i64 (x37 + 1)))) (cond ((((List.length x36 : Nat) : Int)) == 0) (some (0, (IntKind.wrap .i64 (x37 + 1)))) (cond (decide ((IntKind.wrap .i64 ((IntKind.wrap .i64 (x37 + 1)) - 1)) < (((List.length x36 : Nat) : Int)))) ((idx x36 (IntKind.wrap .i64 ((IntKind.wrap .i64 (x37 + 1)) - 1))).bind fun (v165 : Int) => (rem (IntKind.wrap .i64 v165) x35).bind fun (v167 : Int) => some (v167, (IntKind.wrap .i64 (x37 + 1)))) ((rem (IntKind.wrap .i64 ((IntKind.wrap .i64 (x37 + 1)) - 1)) (((List.length x36 : Nat) : Int))).bind fun (v169 : Int) => (idx x36 v169).bind fun (v170 : Int) => (rem (IntKind.wrap .i64 ((IntKind.wrap .i64 ((IntKind.wrap .i64 ((IntKind.wrap .i64 (x37 + 1)) - 1)) * 7)) + 3)) (((List.length x36 : Nat) : Int))).bind fun (v176 : Int) => (idx x36 v176).bind fun (v177 : Int) => (quo .i64 (IntKind.wrap .i64 ((IntKind.wrap .i64 (x37 + 1)) - 1)) (((List.length x36 : Nat) : Int))).bind fun (v184 : Int) => (quo .i64 (IntKind.wrap .i64 ((IntKind.wrap .i64 ((IntKind.wrap .i64 ((IntKind.wrap .i64 ((IntKind.wrap .i64 v170) * 131)) + (IntKind.wrap .i64 ((IntKind.wrap .i64 v177) * 1117)))) + (IntKind.wrap .i64 ((IntKind.wrap .i64 ((IntKind.wrap .i64 (x37 + 1)) - 1)) * 29)))) + (IntKind.wrap .i64 (v184 * 53)))) 64).bind fun (v187 : Int) => (rem (ixor .i64 (IntKind.wrap .i64 ((IntKind.wrap .i64 ((IntKind.wrap .i64 ((IntKind.wrap .i64 ((IntKind.wrap .i64 v170) * 131)) + (IntKind.wrap .i64 ((IntKind.wrap .i64 v177) * 1117)))) + (IntKind.wrap .i64 ((IntKind.wrap .i64 ((IntKind.wrap .i64 (x37 + 1)) - 1)) * 29)))) + (IntKind.wrap .i64 (v184 * 53)))) v187) x35).bind fun (v189 : Int) => some (v189, (IntKind.wrap .i64 (x37 + 1))))))

@[irreducible] def spec_l20Rd_pick (x35 : Int) (x36 : List Int) (x37 : Int) : Option (Int × Int) :=
  spec_l20Rd_pick_n1 x35 x36 x37

/-! (*loop.example/headtrees/spec.l20Rd).odd -/

def spec_l20Rd_odd_n1 (x352 : Int) (x353 : List Int) (x354 : Int) : Option ((Bool × Int)) :=
  cond (decide (x352 > 0)) ((spec_l20Rd_pick x352 x353 x354).bind fun (v362 : Int × Int) => some (((v362.1) == (IntKind.wrap .i64 (x352 - 1))), (v362.2))) (some (false, x354))

@[irreducible] def spec_l20Rd_odd (x352 : Int) (x353 : List Int) (x354 : Int) : Option (Bool × Int) :=
  spec_l20Rd_odd_n1 x352 x353 x354

/-! loop.example/headtrees/spec.l20Moves -/

def spec_l20Moves_n1 : Option (Unit) :=
  some ()

def spec_l20Moves_n2 (x734 : ByteArray) (x735 : Int) (x736 : Int) (x214 : List Int) (x737 : Int) : Option ((ByteArray × Int × Int × Int) ⊕ (ByteArray × Int)) :=
  cond (decide (x736 > 0)) (cond (decide (x736 > 0)) (cond (decide (x735 < 2)) ((cat x734 (ByteArray.mk #[83])).bind fun (v743 : ByteArray) => some (Sum.inl (v743, (IntKind.wrap .i64 (x735 + 1)), (IntKind.wrap .i64 (x736 - 1)), x737))) ((spec_l20Rd_pick 2 x214 x737).bind fun (v746 : Int × Int) => cond ((v746.1) == 0) ((cat x734 (ByteArray.mk #[83])).bind fun (v750 : ByteArray) => some (Sum.inl (v750, (IntKind.wrap .i64 (x735 + 1)), (IntKind.wrap .i64 (x736 - 1)), (v746.2)))) ((spec_l20Rd_pick 2 x214 (v746.2)).bind fun (v754 : Int × Int) => (inb (v754.1) (List.length ([(ByteArray.mk #[76]), (ByteArray.mk #[82])]))).bind fun (v757 : Nat) => (([(ByteArray.mk #[76]), (ByteArray.mk #[82])])[v757]?).bind fun (v758 : ByteArray) => (cat x734 v758).bind fun (v759 : ByteArray) => some (Sum.inl (v759, (IntKind.wrap .i64 (x735 - 1)), x736, (v754.2)))))) ((spec_l20Rd_pick 2 x214 x737).bind fun (v762 : Int × Int) => (inb (v762.1) (List.length ([(ByteArray.mk #[76]), (ByteArray.mk #[82])]))).bind fun (v765 : Nat) => (([(ByteArray.mk #[76]), (ByteArray.mk #[82])])[v765]?).bind fun (v766 : ByteArray) => (cat x734 v766).bind fun (v767 : ByteArray) => some (Sum.inl (v767, (IntKind.wrap .i64 (x735 - 1)), x736, (v762.2))))) (cond (decide (x735 > 1)) (cond (decide (x736 > 0)) (cond (decide (x735 < 2)) ((cat x734 (ByteArray.mk #[83])).bind fun (v772 : ByteArray) => some (Sum.inl (v772, (IntKind.wrap .i64 (x735 + 1)), (IntKind.wrap .i64 (x736 - 1)), x737))) ((spec_l20Rd_pick 2 x214 x737).bind fun (v775 : Int × Int) => cond ((v775.1) == 0) ((cat x734 (ByteArray.mk #[83])).bind fun (v779 : ByteArray) => some (Sum.inl (v779, (IntKind.wrap .i64 (x735 + 1)), (IntKind.wrap .i64 (x736 - 1)), (v775.2)))) ((spec_l20Rd_pick 2 x214 (v775.2)).bind fun (v783 : Int × Int) => (inb (v783.1) (List.length ([(ByteArray.mk #[76]), (ByteArray.mk #[82])]))).bind fun (v786 : Nat) => (([(ByteArray.mk #[76]), (ByteArray.mk #[82])])[v786]?).bind fun (v787 : ByteArray) => (cat x734 v787).bind fun (v788 : ByteArray) => some (Sum.inl (v788, (IntKind.wrap .i64 (x735 - 1)), x736, (v783.2)))))) ((spec_l20Rd_pick 2 x214 x737).bind fun (v791 : Int × Int) => (inb (v791.1) (List.length ([(ByteArray.mk #[76]), (ByteArray.mk #[82])]))).bind fun (v794 : Nat) => (([(ByteArray.mk #[76]), (ByteArray.mk #[82])])[v794]?).bind fun (v795 : ByteArray) => (cat x734 v795).bind fun (v796 : ByteArray) => some (Sum.inl (v796, (IntKind.wrap .i64 (x735 - 1)), x736, (v791.2))))) (some (Sum.inr (x734, x737))))

def spec_l20Moves_n3 (x213 : Int) (x214 : List Int) (x215 : Int) : Option ((ByteArray × Int)) :=
  nloop (fun (s : ByteArray × Int × Int × Int) => ((spec_l20Moves_n2 s.1 s.2.1 s.2.2.1 x214 s.2.2.2).map (Sum.elim (fun (t : ByteArray × Int × Int × Int) => Sum.inl (t.1, t.2.1, t.2.2.1, t.2.2.2)) (fun (t : ByteArray × Int) => Sum.inr t)) : Option ((ByteArray × Int × Int × Int) ⊕ ((ByteArray × Int))))) LL (ByteArray.empty, 0, x213, x215)

def spec_l20Moves_n4 (x213 : Int) (x214 : List Int) (x215 : Int) : Option ((ByteArray × Int)) :=
  (spec_l20Moves_n3 x213 x214 x215).map (fun (t : ByteArray × Int) => (t.1, t.2))

def spec_l20Moves_n5 (x734 : ByteArray) (x214 : List Int) (x737 : Int) : Option ((ByteArray × Int)) :=
  (spec_l20Rd_odd 8 x214 x737).bind fun (v848 : Bool × Int) => cond (v848.1) (cond (decide ((((ByteArray.size x734 : Nat) : Int)) > 0)) ((spec_l20Rd_pick (((ByteArray.size x734 : Nat) : Int)) x214 (v848.2)).bind fun (v854 : Int × Int) => (inc (v854.1) (ByteArray.size x734)).bind fun (v858 : Nat) => (inc (IntKind.wrap .i64 ((v854.1) + 1)) (ByteArray.size x734)).bind fun (v863 : Nat) => (spec_l20Rd_pick 4 x214 (v854.2)).bind fun (v865 : Int × Int) => (idx ([ByteArray.empty, (ByteArray.mk #[83]), (ByteArray.mk #[76]), (ByteArray.mk #[120])]) (v865.1)).bind fun (v868 : ByteArray) => (cat (x734.extract 0 v858) v868).bind fun (v869 : ByteArray) => (cat v869 (x734.extract v863 (ByteArray.size x734))).bind fun (v870 : ByteArray) => some (v870, (v865.2))) (some (x734, (v848.2)))) (some (x734, (v848.2)))

def spec_l20Moves_n6 (x213 : Int) (x214 : List Int) (x215 : Int) : Option ((ByteArray × Int)) :=
  (spec_l20Moves_n4 x213 x214 x215).bind (fun (t : ByteArray × Int) => spec_l20Moves_n5 t.1 x214 t.2)

def spec_l20Moves_n7 (x213 : Int) (x214 : List Int) (x215 : Int) : Option ((ByteArray × Int)) :=
  (spec_l20Moves_n1).bind (fun (t : Unit) => spec_l20Moves_n6 x213 x214 x215)

@[irreducible] def spec_l20Moves (x213 : Int) (x214 : List Int) (x215 : Int) : Option (ByteArray × Int) :=
  spec_l20Moves_n7 x213 x214 x215

/-! loop.example/headtrees/spec.DrawRunStack -/

def spec_DrawRunStack_n1 (x10 : List Int) : Option ((Int × ByteArray)) :=
  (spec_l20Open x10).bind fun (v876 : List Int) => (spec_l20Rd_pick 8 v876 0).bind fun (v877 : Int × Int) => (spec_l20Rd_pick 20 v876 (v877.2)).bind fun (v881 : Int × Int) => (quo .i64 (v881.1) 19).bind fun (v884 : Int) => (spec_l20Rd_pick 30 v876 (v881.2)).bind fun (v886 : Int × Int) => (quo .i64 (v886.1) 29).bind fun (v889 : Int) => (spec_l20Moves (IntKind.wrap .i64 (1 + (v877.1))) v876 (v886.2)).bind fun (v891 : ByteArray × Int) => some ((IntKind.wrap .i64 ((IntKind.wrap .i64 ((IntKind.wrap .i64 (1 + (v877.1))) + v884)) - v889)), (v891.1))

@[irreducible] def spec_DrawRunStack (x10 : List Int) : Option (Int × ByteArray) :=
  spec_DrawRunStack_n1 x10

/-! loop.example/headtrees/impl.newStackMachine -/

def impl_newStackMachine_n1 (x911 : Int) : Option (((List Int))) :=
  (mk x911 x911).bind fun (v914 : Nat) => some (List.replicate v914 (0 : Int))

@[irreducible] def impl_newStackMachine (x911 : Int) : Option ((List Int)) :=
  impl_newStackMachine_n1 x911

/-! loop.example/headtrees/impl.stackMoves -/

@[irreducible] def impl_stackMoves : Option (Unit) :=
  some ()

/-! (*loop.example/headtrees/impl.stackMachine).putNext -/

def impl_stackMachine_putNext_n1 (x970 : Int) (x971 : Int) (x972 : List Int) (x973 : List Int) : Option ((Bool × Int × Int × (List Int))) :=
  cond (x970 == (((List.length x972 : Nat) : Int))) (some (false, x970, x971, x973)) ((room ((List.length x973) + List.length ([(IntKind.wrap .i64 (x970 + 1))]))).bind fun (v1009 : Unit) => some (true, (IntKind.wrap .i64 (x970 + 1)), (imax x971 (((List.length (x973 ++ ([(IntKind.wrap .i64 (x970 + 1))])) : Nat) : Int))), (x973 ++ ([(IntKind.wrap .i64 (x970 + 1))]))))

@[irreducible] def impl_stackMachine_putNext (x970 : Int) (x971 : Int) (x972 : List Int) (x973 : List Int) : Option (Bool × Int × Int × (List Int)) :=
  impl_stackMachine_putNext_n1 x970 x971 x972 x973

/-! (*loop.example/headtrees/impl.stackMachine).upperTwo -/

def impl_stackMachine_upperTwo_n1 (x1031 : List Int) : Option ((Int × Int × Bool)) :=
  cond (decide ((((List.length x1031 : Nat) : Int)) < 2)) (some (0, 0, false)) ((inb (IntKind.wrap .i64 ((((List.length x1031 : Nat) : Int)) - 2)) (List.length x1031)).bind fun (v1046 : Nat) => (x1031[v1046]?).bind fun (v1047 : Int) => (inb (IntKind.wrap .i64 ((((List.length x1031 : Nat) : Int)) - 1)) (List.length x1031)).bind fun (v1049 : Nat) => (x1031[v1049]?).bind fun (v1050 : Int) => some (v1047, v1050, true))

@[irreducible] def impl_stackMachine_upperTwo (x1028 : Int) (x1029 : Int) (x1030 : List Int) (x1031 : List Int) : Option (Int × Int × Bool) :=
  impl_stackMachine_upperTwo_n1 x1031

/-! (*loop.example/headtrees/impl.stackMachine).join -/

def impl_stackMachine_join_n1 (x1062 : Int) (x1063 : Int) (x1066 : List Int) (x1067 : List Int) : Option (((List Int) × (List Int))) :=
  (inb (IntKind.wrap .i64 (x1062 - 1)) (List.length x1066)).bind fun (v1072 : Nat) => (inc (IntKind.wrap .i64 ((((List.length x1067 : Nat) : Int)) - 2)) (List.length x1067)).bind fun (v1077 : Nat) => (room ((v1077 - 0) + List.length ([x1063]))).bind fun (v1081 : Unit) => some ((x1066.set v1072 x1063), (((x1067.drop 0).take (v1077 - 0)) ++ ([x1063])))

@[irreducible] def impl_stackMachine_join (x1062 : Int) (x1063 : Int) (x1064 : Int) (x1065 : Int) (x1066 : List Int) (x1067 : List Int) : Option ((List Int) × (List Int)) :=
  (impl_stackMachine_join_n1 x1062 x1063 x1066 x1067).map (fun (t : (List Int) × (List Int)) => (t.1, t.2))

/-! (*loop.example/headtrees/impl.stackMachine).takeBelow -/

def impl_stackMachine_takeBelow_n1 (x1024 : Int) (x1025 : Int) (x1026 : List Int) (x1027 : List Int) : Option ((Bool × (List Int) × (List Int))) :=
  (impl_stackMachine_upperTwo x1024 x1025 x1026 x1027).bind fun (v1093 : Int × Int × Bool) => cond (v1093.2.2) ((impl_stackMachine_join (v1093.1) (v1093.2.1) x1024 x1025 x1026 x1027).bind fun (v1097 : (List Int) × (List Int)) => some ((v1093.2.2), (v1097.1), (v1097.2))) (some ((v1093.2.2), x1026, x1027))

@[irreducible] def impl_stackMachine_takeBelow (x1024 : Int) (x1025 : Int) (x1026 : List Int) (x1027 : List Int) : Option (Bool × (List Int) × (List Int)) :=
  impl_stackMachine_takeBelow_n1 x1024 x1025 x1026 x1027

/-! (*loop.example/headtrees/impl.stackMachine).takeUpper -/

def impl_stackMachine_takeUpper_n1 (x1108 : Int) (x1109 : Int) (x1110 : List Int) (x1111 : List Int) : Option ((Bool × (List Int) × (List Int))) :=
  (impl_stackMachine_upperTwo x1108 x1109 x1110 x1111).bind fun (v1130 : Int × Int × Bool) => cond (v1130.2.2) ((impl_stackMachine_join (v1130.2.1) (v1130.1) x1108 x1109 x1110 x1111).bind fun (v1134 : (List Int) × (List Int)) => some ((v1130.2.2), (v1134.1), (v1134.2))) (some ((v1130.2.2), x1110, x1111))

@[irreducible] def impl_stackMachine_takeUpper (x1108 : Int) (x1109 : Int) (x1110 : List Int) (x1111 : List Int) : Option (Bool × (List Int) × (List Int)) :=
  impl_stackMachine_takeUpper_n1 x1108 x1109 x1110 x1111

/-! (*loop.example/headtrees/impl.stackMachine).ended -/

def impl_stackMachine_ended_n1 (x1289 : Int) (x1291 : List Int) (x1292 : List Int) : Option (Bool) :=
  cond (x1289 == (((List.length x1291 : Nat) : Int))) (some ((((List.length x1292 : Nat) : Int)) == 1)) (some false)

@[irreducible] def impl_stackMachine_ended (x1289 : Int) (x1290 : Int) (x1291 : List Int) (x1292 : List Int) : Option (Bool) :=
  impl_stackMachine_ended_n1 x1289 x1291 x1292

/-! loop.example/headtrees/impl.afterMoves -/

def impl_afterMoves_n1 (x905 : Int) : Option (((List Int)) ⊕ Unit) :=
  cond (decide (x905 < 1)) (some (Sum.inr ())) (cond (decide (x905 > 8)) (some (Sum.inr ())) ((impl_newStackMachine x905).bind fun (v1312 : List Int) => (impl_stackMoves).bind fun (v1313 : Unit) => some (Sum.inl v1312)))

def impl_afterMoves_n2 (x906 : ByteArray) : Option (Int) :=
  some (((ByteArray.size x906 : Nat) : Int))

def impl_afterMoves_n3 (x906 : ByteArray) (x1314 : Int) (x1367 : Int) (x1368 : Int) (x1369 : Int) (x1370 : List Int) (x1371 : List Int) : Option ((Int × Int × Int × (List Int) × (List Int)) ⊕ Unit ⊕ (Int × Int × (List Int) × (List Int))) :=
  cond (decide (x1367 < x1314)) ((bidx x906 x1367).bind fun (v1396 : Int) => cond (v1396 == 83) ((impl_stackMachine_putNext x1368 x1369 x1370 x1371).bind fun (v1398 : Bool × Int × Int × (List Int)) => cond (!(v1398.1)) (some (Sum.inr (Sum.inl ()))) (some (Sum.inl ((IntKind.wrap .i64 (x1367 + 1)), (v1398.2.1), (v1398.2.2.1), x1370, (v1398.2.2.2))))) (cond (v1396 == 76) ((impl_stackMachine_takeBelow x1368 x1369 x1370 x1371).bind fun (v1406 : Bool × (List Int) × (List Int)) => cond (!(v1406.1)) (some (Sum.inr (Sum.inl ()))) (some (Sum.inl ((IntKind.wrap .i64 (x1367 + 1)), x1368, x1369, (v1406.2.1), (v1406.2.2))))) (cond (v1396 == 82) ((impl_stackMachine_takeUpper x1368 x1369 x1370 x1371).bind fun (v1413 : Bool × (List Int) × (List Int)) => cond (!(v1413.1)) (some (Sum.inr (Sum.inl ()))) (some (Sum.inl ((IntKind.wrap .i64 (x1367 + 1)), x1368, x1369, (v1413.2.1), (v1413.2.2))))) (some (Sum.inr (Sum.inl ())))))) (some (Sum.inr (Sum.inr (x1368, x1369, x1370, x1371))))

def impl_afterMoves_n4 (x906 : ByteArray) (x1314 : Int) (x1312 : List Int) : Option (Unit ⊕ (Int × Int × (List Int) × (List Int))) :=
  nloop (fun (s : Int × Int × Int × (List Int) × (List Int)) => ((impl_afterMoves_n3 x906 x1314 s.1 s.2.1 s.2.2.1 s.2.2.2.1 s.2.2.2.2).map (Sum.elim (fun (t : Int × Int × Int × (List Int) × (List Int)) => Sum.inl (t.1, t.2.1, t.2.2.1, t.2.2.2.1, t.2.2.2.2)) (Sum.elim (fun (t : Unit) => Sum.inr (Sum.inl t)) (fun (t : Int × Int × (List Int) × (List Int)) => Sum.inr (Sum.inr t)))) : Option ((Int × Int × Int × (List Int) × (List Int)) ⊕ (Unit ⊕ (Int × Int × (List Int) × (List Int)))))) LL (0, 0, 0, x1312, ([] : List Int))

def impl_afterMoves_n5 (x906 : ByteArray) (x1314 : Int) (x1312 : List Int) : Option ((Int × Int × (List Int) × (List Int)) ⊕ Unit) :=
  (impl_afterMoves_n4 x906 x1314 x1312).map (Sum.elim (fun (t : Unit) => (Sum.inr t)) (fun (t : Int × Int × (List Int) × (List Int)) => (Sum.inl (t.1, t.2.1, t.2.2.1, t.2.2.2))))

def impl_afterMoves_n6 (x906 : ByteArray) (x1312 : List Int) : Option ((Int × Int × (List Int) × (List Int)) ⊕ Unit) :=
  (impl_afterMoves_n2 x906).bind (fun (t : Int) => impl_afterMoves_n5 x906 t x1312)

def impl_afterMoves_n7 (x1368 : Int) (x1369 : Int) (x1370 : List Int) (x1371 : List Int) : Option ((Int × Int × (List Int) × (List Int)) ⊕ Unit) :=
  (impl_stackMachine_ended x1368 x1369 x1370 x1371).bind fun (v1428 : Bool) => cond (!v1428) (some (Sum.inr ())) (some (Sum.inl (x1368, x1369, x1370, x1371)))

def impl_afterMoves_n8 (x906 : ByteArray) (x1312 : List Int) : Option ((Int × Int × (List Int) × (List Int)) ⊕ Unit) :=
  (impl_afterMoves_n6 x906 x1312).bind (Sum.elim (fun (t : Int × Int × (List Int) × (List Int)) => impl_afterMoves_n7 t.1 t.2.1 t.2.2.1 t.2.2.2) (fun e => some ((fun (t : Unit) => (Sum.inr t)) e)))

def impl_afterMoves_n9 (x905 : Int) (x906 : ByteArray) : Option ((Int × Int × (List Int) × (List Int)) ⊕ Unit) :=
  (impl_afterMoves_n1 x905).bind (Sum.elim (fun (t : (List Int)) => impl_afterMoves_n8 x906 t) (fun e => some ((fun (t : Unit) => (Sum.inr t)) e)))

@[irreducible] def impl_afterMoves (x905 : Int) (x906 : ByteArray) : Option (Bool × Int × Int × (List Int) × (List Int)) :=
  (impl_afterMoves_n9 x905 x906).map (Sum.elim (fun (t : Int × Int × (List Int) × (List Int)) => (true, t.1, t.2.1, t.2.2.1, t.2.2.2)) (fun (t : Unit) => (false, 0, 0, [], [])))

/-! loop.example/headtrees/impl.RunStack -/

def impl_RunStack_n1 (x902 : Int) (x903 : ByteArray) : Option ((Bool × (List Int))) :=
  (impl_afterMoves x902 x903).bind fun (v1449 : Bool × Int × Int × (List Int) × (List Int)) => cond (v1449.1) (some (true, (v1449.2.2.2.1))) (some (false, ([] : List Int)))

@[irreducible] def impl_RunStack (x902 : Int) (x903 : ByteArray) : Option (Bool × (List Int)) :=
  impl_RunStack_n1 x902 x903

/-! loop.example/headtrees/spec.l1In -/

def spec_l1In_n1 (x1470 : Int) (x1471 : Int) (x1472 : Int) : Option (Bool) :=
  cond (decide (x1470 ≥ x1471)) (some (decide (x1470 ≤ x1472))) (some false)

@[irreducible] def spec_l1In (x1470 : Int) (x1471 : Int) (x1472 : Int) : Option (Bool) :=
  spec_l1In_n1 x1470 x1471 x1472

/-! loop.example/headtrees/spec.l6Run -/

def spec_l6Run_n1 (x1482 : Int) : Option (((List Int))) :=
  (mk x1482 x1482).bind fun (v1556 : Nat) => some (List.replicate v1556 (0 : Int))

def spec_l6Run_n2 : Option (Unit) :=
  some ()

def spec_l6Run_n3 (x1483 : ByteArray) (x2273 : Int) (x2274 : Int) (x2275 : List Int) (x2276 : List Int) : Option (Unit ⊕ (Int × (List Int) × (List Int))) :=
  cond (decide (x2274 < (((ByteArray.size x1483 : Nat) : Int)))) (some (Sum.inl ())) (some (Sum.inr (x2273, x2275, x2276)))

def spec_l6Run_n4 (x2276 : List Int) : Option (Int) :=
  some (IntKind.wrap .i64 ((((List.length x2276 : Nat) : Int)) - 1))

def spec_l6Run_n5 (x1482 : Int) (x1483 : ByteArray) (x2273 : Int) (x2274 : Int) : Option (Bool) :=
  (bidx x1483 x2274).bind fun (v2793 : Int) => cond (v2793 == 83) (some (decide (x2273 ≤ x1482))) (some false)

def spec_l6Run_n6 (x1483 : ByteArray) (x2273 : Int) (x2274 : Int) (x2538 : Int) (x2922 : Bool) (x2275 : List Int) (x2276 : List Int) : Option ((Int × (List Int) × (List Int)) ⊕ (Bool × (List Int))) :=
  cond x2922 ((room ((List.length x2276) + List.length ([x2273]))).bind fun (v2925 : Unit) => some (Sum.inl ((IntKind.wrap .i64 (x2273 + 1)), x2275, (x2276 ++ ([x2273]))))) ((bidx x1483 x2274).bind fun (v2928 : Int) => cond (v2928 == 76) (cond (decide (x2538 ≥ 1)) ((inb (IntKind.wrap .i64 (x2538 - 1)) (List.length x2276)).bind fun (v2932 : Nat) => (x2276[v2932]?).bind fun (v2933 : Int) => (inb x2538 (List.length x2276)).bind fun (v2935 : Nat) => (x2276[v2935]?).bind fun (v2936 : Int) => (inb (IntKind.wrap .i64 (v2933 - 1)) (List.length x2275)).bind fun (v2937 : Nat) => (inc (IntKind.wrap .i64 (x2538 - 1)) (List.length x2276)).bind fun (v2941 : Nat) => (inb x2538 (List.length x2276)).bind fun (v2943 : Nat) => (x2276[v2943]?).bind fun (v2944 : Int) => (room (List.length ((x2276.drop 0).take (v2941 - 0)))).bind fun (v2947 : Unit) => (room ((List.length ((x2276.drop 0).take (v2941 - 0))) + List.length ([v2944]))).bind fun (v2949 : Unit) => some (Sum.inl (x2273, (x2275.set v2937 v2936), (((x2276.drop 0).take (v2941 - 0)) ++ ([v2944]))))) ((bidx x1483 x2274).bind fun (v2951 : Int) => cond (v2951 == 82) (cond (decide (x2538 ≥ 1)) ((inb x2538 (List.length x2276)).bind fun (v2954 : Nat) => (x2276[v2954]?).bind fun (v2955 : Int) => (inb (IntKind.wrap .i64 (x2538 - 1)) (List.length x2276)).bind fun (v2958 : Nat) => (x2276[v2958]?).bind fun (v2959 : Int) => (inb (IntKind.wrap .i64 (v2955 - 1)) (List.length x2275)).bind fun (v2960 : Nat) => (inc x2538 (List.length x2276)).bind fun (v2963 : Nat) => (room ((List.length ([] : List Int)) + List.length ((x2276.drop 0).take (v2963 - 0)))).bind fun (v2967 : Unit) => some (Sum.inl (x2273, (x2275.set v2960 v2959), (([] : List Int) ++ ((x2276.drop 0).take (v2963 - 0)))))) (some (Sum.inr (false, ([] : List Int))))) (some (Sum.inr (false, ([] : List Int)))))) ((bidx x1483 x2274).bind fun (v2969 : Int) => cond (v2969 == 82) (cond (decide (x2538 ≥ 1)) ((inb x2538 (List.length x2276)).bind fun (v2972 : Nat) => (x2276[v2972]?).bind fun (v2973 : Int) => (inb (IntKind.wrap .i64 (x2538 - 1)) (List.length x2276)).bind fun (v2976 : Nat) => (x2276[v2976]?).bind fun (v2977 : Int) => (inb (IntKind.wrap .i64 (v2973 - 1)) (List.length x2275)).bind fun (v2978 : Nat) => (inc x2538 (List.length x2276)).bind fun (v2981 : Nat) => (room ((List.length ([] : List Int)) + List.length ((x2276.drop 0).take (v2981 - 0)))).bind fun (v2985 : Unit) => some (Sum.inl (x2273, (x2275.set v2978 v2977), (([] : List Int) ++ ((x2276.drop 0).take (v2981 - 0)))))) (some (Sum.inr (false, ([] : List Int))))) (some (Sum.inr (false, ([] : List Int))))))

def spec_l6Run_n7 (x1482 : Int) (x1483 : ByteArray) (x2273 : Int) (x2274 : Int) (x2538 : Int) (x2275 : List Int) (x2276 : List Int) : Option ((Int × (List Int) × (List Int)) ⊕ (Bool × (List Int))) :=
  (spec_l6Run_n5 x1482 x1483 x2273 x2274).bind (fun (t : Bool) => spec_l6Run_n6 x1483 x2273 x2274 x2538 t x2275 x2276)

def spec_l6Run_n8 (x1482 : Int) (x1483 : ByteArray) (x2273 : Int) (x2274 : Int) (x2538 : Int) (x2275 : List Int) (x2276 : List Int) : Option ((Int × (List Int) × (List Int)) ⊕ (Bool × (List Int))) :=
  (spec_l6Run_n7 x1482 x1483 x2273 x2274 x2538 x2275 x2276).map (Sum.elim (fun (t : Int × (List Int) × (List Int)) => (Sum.inl (t.1, t.2.1, t.2.2))) (fun (t : Bool × (List Int)) => (Sum.inr t)))

def spec_l6Run_n9 (x1482 : Int) (x1483 : ByteArray) (x2273 : Int) (x2274 : Int) (x2275 : List Int) (x2276 : List Int) : Option ((Int × (List Int) × (List Int)) ⊕ (Bool × (List Int))) :=
  (spec_l6Run_n4 x2276).bind (fun (t : Int) => spec_l6Run_n8 x1482 x1483 x2273 x2274 t x2275 x2276)

def spec_l6Run_n10 (x1482 : Int) (x1483 : ByteArray) (x2273 : Int) (x2274 : Int) (x2275 : List Int) (x2276 : List Int) : Option ((Int × (List Int) × (List Int)) ⊕ (Bool × (List Int))) :=
  (spec_l6Run_n9 x1482 x1483 x2273 x2274 x2275 x2276).map (Sum.elim (fun (t : Int × (List Int) × (List Int)) => (Sum.inl (t.1, t.2.1, t.2.2))) (fun (t : Bool × (List Int)) => (Sum.inr t)))

def spec_l6Run_n11 (x2274 : Int) : Option (Int) :=
  some (IntKind.wrap .i64 (x2274 + 1))

def spec_l6Run_n12 (x1482 : Int) (x1483 : ByteArray) (x2273 : Int) (x2274 : Int) (x2275 : List Int) (x2276 : List Int) : Option ((Int × Int × (List Int) × (List Int)) ⊕ (Bool × (List Int))) :=
  (spec_l6Run_n10 x1482 x1483 x2273 x2274 x2275 x2276).bind (Sum.elim (fun (t : Int × (List Int) × (List Int)) => (spec_l6Run_n11 x2274).map (fun (u : Int) => (Sum.inl (t.1, u, t.2.1, t.2.2)))) (fun e => some ((fun (t : Bool × (List Int)) => (Sum.inr t)) e)))

def spec_l6Run_n13 (x1482 : Int) (x1483 : ByteArray) (x2273 : Int) (x2274 : Int) (x2275 : List Int) (x2276 : List Int) : Option ((Int × Int × (List Int) × (List Int)) ⊕ (Bool × (List Int)) ⊕ (Int × (List Int) × (List Int))) :=
  (spec_l6Run_n3 x1483 x2273 x2274 x2275 x2276).bind (Sum.elim (fun (t : Unit) => (spec_l6Run_n12 x1482 x1483 x2273 x2274 x2275 x2276).map (Sum.elim (fun (t : Int × Int × (List Int) × (List Int)) => (Sum.inl (t.1, t.2.1, t.2.2.1, t.2.2.2))) (fun (t : Bool × (List Int)) => (Sum.inr (Sum.inl t))))) (fun e => some ((fun (t : Int × (List Int) × (List Int)) => (Sum.inr (Sum.inr t))) e)))

def spec_l6Run_n14 (x1482 : Int) (x1483 : ByteArray) (x1557 : List Int) : Option ((Bool × (List Int)) ⊕ (Int × (List Int) × (List Int))) :=
  nloop (fun (s : Int × Int × (List Int) × (List Int)) => ((spec_l6Run_n13 x1482 x1483 s.1 s.2.1 s.2.2.1 s.2.2.2).map (Sum.elim (fun (t : Int × Int × (List Int) × (List Int)) => Sum.inl (t.1, t.2.1, t.2.2.1, t.2.2.2)) (Sum.elim (fun (t : Bool × (List Int)) => Sum.inr (Sum.inl t)) (fun (t : Int × (List Int) × (List Int)) => Sum.inr (Sum.inr t)))) : Option ((Int × Int × (List Int) × (List Int)) ⊕ ((Bool × (List Int)) ⊕ (Int × (List Int) × (List Int)))))) LL (1, 0, x1557, ([] : List Int))

def spec_l6Run_n15 (x1482 : Int) (x1483 : ByteArray) (x1557 : List Int) : Option ((Int × (List Int) × (List Int)) ⊕ (Bool × (List Int))) :=
  (spec_l6Run_n14 x1482 x1483 x1557).map (Sum.elim (fun (t : Bool × (List Int)) => (Sum.inr t)) (fun (t : Int × (List Int) × (List Int)) => (Sum.inl (t.1, t.2.1, t.2.2))))

def spec_l6Run_n16 (x1482 : Int) (x1483 : ByteArray) (x1557 : List Int) : Option ((Int × (List Int) × (List Int)) ⊕ (Bool × (List Int))) :=
  (spec_l6Run_n2).bind (fun (t : Unit) => spec_l6Run_n15 x1482 x1483 x1557)

def spec_l6Run_n17 (x1482 : Int) (x2273 : Int) (x2275 : List Int) (x2276 : List Int) : Option ((Bool × (List Int))) :=
  cond ((((List.length x2276 : Nat) : Int)) == 1) (some ((decide (x2273 > x1482)), x2275)) (some (false, x2275))

def spec_l6Run_n18 (x1482 : Int) (x1483 : ByteArray) (x1557 : List Int) : Option ((Bool × (List Int))) :=
  (spec_l6Run_n16 x1482 x1483 x1557).bind (Sum.elim (fun (t : Int × (List Int) × (List Int)) => spec_l6Run_n17 x1482 t.1 t.2.1 t.2.2) (fun e => some ((fun (t : Bool × (List Int)) => t) e)))

def spec_l6Run_n19 (x1482 : Int) (x1483 : ByteArray) : Option ((Bool × (List Int))) :=
  (spec_l6Run_n1 x1482).bind (fun (t : (List Int)) => spec_l6Run_n18 x1482 x1483 t)

@[irreducible] def spec_l6Run (x1482 : Int) (x1483 : ByteArray) : Option (Bool × (List Int)) :=
  spec_l6Run_n19 x1482 x1483

/-! loop.example/headtrees/spec.RunStack -/

def spec_RunStack_n1 (x1468 : Int) (x1469 : ByteArray) : Option ((Bool × (List Int))) :=
  (spec_l1In x1468 1 8).bind fun (v3014 : Bool) => cond (!v3014) (some (false, ([] : List Int))) ((spec_l6Run x1468 x1469).bind fun (v3016 : Bool × (List Int)) => cond (!(v3016.1)) (some (false, ([] : List Int))) (some (true, (v3016.2))))

@[irreducible] def spec_RunStack (x1468 : Int) (x1469 : ByteArray) : Option (Bool × (List Int)) :=
  spec_RunStack_n1 x1468 x1469

/-! loop.example/headtrees/laws.sameInts -/

def laws_sameInts_n1 (x3036 : List Int) (x3037 : List Int) : Option (Unit ⊕ Bool) :=
  cond ((((List.length x3036 : Nat) : Int)) != (((List.length x3037 : Nat) : Int))) (some (Sum.inr false)) (some (Sum.inl ()))

def laws_sameInts_n2 : Option (Unit) :=
  some ()

def laws_sameInts_n3 (x3036 : List Int) (x3037 : List Int) (x3054 : Int) : Option (Int ⊕ Bool ⊕ Unit) :=
  cond (decide (x3054 < (((List.length x3036 : Nat) : Int)))) ((idx x3036 x3054).bind fun (v3064 : Int) => (idx x3037 x3054).bind fun (v3065 : Int) => cond (v3064 != v3065) (some (Sum.inr (Sum.inl false))) (some (Sum.inl (IntKind.wrap .i64 (x3054 + 1))))) (some (Sum.inr (Sum.inr ())))

def laws_sameInts_n4 (x3036 : List Int) (x3037 : List Int) : Option (Bool ⊕ Unit) :=
  nloop (fun (s : Int) => ((laws_sameInts_n3 x3036 x3037 s).map (Sum.elim (fun (t : Int) => Sum.inl t) (Sum.elim (fun (t : Bool) => Sum.inr (Sum.inl t)) (fun (t : Unit) => Sum.inr (Sum.inr t)))) : Option ((Int) ⊕ (Bool ⊕ Unit)))) LL 0

def laws_sameInts_n5 (x3036 : List Int) (x3037 : List Int) : Option (Unit ⊕ Bool) :=
  (laws_sameInts_n4 x3036 x3037).map (Sum.elim (fun (t : Bool) => (Sum.inr t)) (fun (t : Unit) => (Sum.inl ())))

def laws_sameInts_n6 (x3036 : List Int) (x3037 : List Int) : Option (Unit ⊕ Bool) :=
  (laws_sameInts_n2).bind (fun (t : Unit) => laws_sameInts_n5 x3036 x3037)

def laws_sameInts_n7 : Option (Bool) :=
  some true

def laws_sameInts_n8 (x3036 : List Int) (x3037 : List Int) : Option (Bool) :=
  (laws_sameInts_n6 x3036 x3037).bind (Sum.elim (fun (t : Unit) => laws_sameInts_n7) (fun e => some ((fun (t : Bool) => t) e)))

def laws_sameInts_n9 (x3036 : List Int) (x3037 : List Int) : Option (Bool) :=
  (laws_sameInts_n1 x3036 x3037).bind (Sum.elim (fun (t : Unit) => laws_sameInts_n8 x3036 x3037) (fun e => some ((fun (t : Bool) => t) e)))

@[irreducible] def laws_sameInts (x3036 : List Int) (x3037 : List Int) : Option (Bool) :=
  laws_sameInts_n9 x3036 x3037

/-! loop.example/headtrees/impl.oneRoot -/

def impl_oneRoot_n1 : Option (Unit) :=
  some ()

def impl_oneRoot_n2 (x3095 : List Int) : Option (Int) :=
  some (((List.length x3095 : Nat) : Int))

def impl_oneRoot_n3 (x3095 : List Int) (x3117 : Int) (x3096 : Int) (x3118 : Int) : Option ((Int × Int) ⊕ Bool ⊕ Int) :=
  cond (decide (x3118 < x3096)) ((idx x3095 x3118).bind fun (v3129 : Int) => cond (decide (v3129 < 0)) (some (Sum.inr (Sum.inl false))) (cond (decide (v3129 > (((List.length x3095 : Nat) : Int)))) (some (Sum.inr (Sum.inl false))) (cond (v3129 == 0) (some (Sum.inl ((IntKind.wrap .i64 (x3117 + 1)), (IntKind.wrap .i64 (x3118 + 1))))) (some (Sum.inl (x3117, (IntKind.wrap .i64 (x3118 + 1)))))))) (some (Sum.inr (Sum.inr x3117)))

def impl_oneRoot_n4 (x3095 : List Int) (x3096 : Int) : Option (Bool ⊕ Int) :=
  nloop (fun (s : Int × Int) => ((impl_oneRoot_n3 x3095 s.1 x3096 s.2).map (Sum.elim (fun (t : Int × Int) => Sum.inl (t.1, t.2)) (Sum.elim (fun (t : Bool) => Sum.inr (Sum.inl t)) (fun (t : Int) => Sum.inr (Sum.inr t)))) : Option ((Int × Int) ⊕ (Bool ⊕ Int)))) LL (0, 0)

def impl_oneRoot_n5 (x3095 : List Int) (x3096 : Int) : Option (Int ⊕ Bool) :=
  (impl_oneRoot_n4 x3095 x3096).map (Sum.elim (fun (t : Bool) => (Sum.inr t)) (fun (t : Int) => (Sum.inl t)))

def impl_oneRoot_n6 (x3095 : List Int) : Option (Int ⊕ Bool) :=
  (impl_oneRoot_n2 x3095).bind (fun (t : Int) => impl_oneRoot_n5 x3095 t)

def impl_oneRoot_n7 (x3117 : Int) : Option (Bool) :=
  some (x3117 == 1)

def impl_oneRoot_n8 (x3095 : List Int) : Option (Bool) :=
  (impl_oneRoot_n6 x3095).bind (Sum.elim (fun (t : Int) => impl_oneRoot_n7 t) (fun e => some ((fun (t : Bool) => t) e)))

def impl_oneRoot_n9 (x3095 : List Int) : Option (Bool) :=
  (impl_oneRoot_n1).bind (fun (t : Unit) => impl_oneRoot_n8 x3095)

@[irreducible] def impl_oneRoot (x3095 : List Int) : Option (Bool) :=
  impl_oneRoot_n9 x3095

/-! (*loop.example/headtrees/impl.walker).up -/

def impl_walker_up_n1 (x3151 : List Int) (x3152 : Int) (x3153 : Int) : Option ((Bool × Int × Int)) :=
  (idx x3151 (IntKind.wrap .i64 (x3152 - 1))).bind fun (v3171 : Int) => cond (v3171 == 0) (some (false, x3152, x3153)) (some (true, v3171, (IntKind.wrap .i64 (x3153 + 1))))

@[irreducible] def impl_walker_up (x3151 : List Int) (x3152 : Int) (x3153 : Int) : Option (Bool × Int × Int) :=
  impl_walker_up_n1 x3151 x3152 x3153

/-! loop.example/headtrees/impl.stepsToRoot -/

def impl_stepsToRoot_n1 : Option (Unit) :=
  some ()

def impl_stepsToRoot_n2 (x3149 : List Int) (x3187 : Int) (x3188 : Int) : Option ((Int × Int) ⊕ (Int × Bool) ⊕ (Int × Int)) :=
  (impl_walker_up x3149 x3187 x3188).bind fun (v3193 : Bool × Int × Int) => cond (v3193.1) (cond (decide ((v3193.2.2) ≥ (((List.length x3149 : Nat) : Int)))) (some (Sum.inr (Sum.inl (0, false)))) (some (Sum.inl ((v3193.2.1), (v3193.2.2))))) (some (Sum.inr (Sum.inr ((v3193.2.1), (v3193.2.2)))))

def impl_stepsToRoot_n3 (x3149 : List Int) (x3150 : Int) : Option ((Int × Bool) ⊕ (Int × Int)) :=
  nloop (fun (s : Int × Int) => ((impl_stepsToRoot_n2 x3149 s.1 s.2).map (Sum.elim (fun (t : Int × Int) => Sum.inl (t.1, t.2)) (Sum.elim (fun (t : Int × Bool) => Sum.inr (Sum.inl t)) (fun (t : Int × Int) => Sum.inr (Sum.inr t)))) : Option ((Int × Int) ⊕ ((Int × Bool) ⊕ (Int × Int))))) LL (x3150, 0)

def impl_stepsToRoot_n4 (x3149 : List Int) (x3150 : Int) : Option ((Int × Int) ⊕ (Int × Bool)) :=
  (impl_stepsToRoot_n3 x3149 x3150).map (Sum.elim (fun (t : Int × Bool) => (Sum.inr t)) (fun (t : Int × Int) => (Sum.inl (t.1, t.2))))

def impl_stepsToRoot_n5 (x3196 : Int) : Option ((Int × Bool)) :=
  some (x3196, true)

def impl_stepsToRoot_n6 (x3149 : List Int) (x3150 : Int) : Option ((Int × Bool)) :=
  (impl_stepsToRoot_n4 x3149 x3150).bind (Sum.elim (fun (t : Int × Int) => impl_stepsToRoot_n5 t.2) (fun e => some ((fun (t : Int × Bool) => t) e)))

def impl_stepsToRoot_n7 (x3149 : List Int) (x3150 : Int) : Option ((Int × Bool)) :=
  (impl_stepsToRoot_n1).bind (fun (t : Unit) => impl_stepsToRoot_n6 x3149 x3150)

@[irreducible] def impl_stepsToRoot (x3149 : List Int) (x3150 : Int) : Option (Int × Bool) :=
  impl_stepsToRoot_n7 x3149 x3150

/-! loop.example/headtrees/impl.TreeOk -/

def impl_TreeOk_n1 (x3090 : List Int) : Option (Unit ⊕ Bool) :=
  cond (decide ((((List.length x3090 : Nat) : Int)) < 1)) (some (Sum.inr false)) (cond (decide ((((List.length x3090 : Nat) : Int)) > 8)) (some (Sum.inr false)) ((impl_oneRoot x3090).bind fun (v3142 : Bool) => cond (!v3142) (some (Sum.inr false)) (some (Sum.inl ()))))

def impl_TreeOk_n2 (x3090 : List Int) : Option (Int) :=
  some (((List.length x3090 : Nat) : Int))

def impl_TreeOk_n3 (x3090 : List Int) (x3144 : Int) (x3212 : Int) : Option (Int ⊕ Bool ⊕ Unit) :=
  cond (decide (x3212 < x3144)) ((impl_stepsToRoot x3090 (IntKind.wrap .i64 (x3212 + 1))).bind fun (v3223 : Int × Bool) => cond (!(v3223.2)) (some (Sum.inr (Sum.inl false))) (some (Sum.inl (IntKind.wrap .i64 (x3212 + 1))))) (some (Sum.inr (Sum.inr ())))

def impl_TreeOk_n4 (x3090 : List Int) (x3144 : Int) : Option (Bool ⊕ Unit) :=
  nloop (fun (s : Int) => ((impl_TreeOk_n3 x3090 x3144 s).map (Sum.elim (fun (t : Int) => Sum.inl t) (Sum.elim (fun (t : Bool) => Sum.inr (Sum.inl t)) (fun (t : Unit) => Sum.inr (Sum.inr t)))) : Option ((Int) ⊕ (Bool ⊕ Unit)))) LL 0

def impl_TreeOk_n5 (x3090 : List Int) (x3144 : Int) : Option (Unit ⊕ Bool) :=
  (impl_TreeOk_n4 x3090 x3144).map (Sum.elim (fun (t : Bool) => (Sum.inr t)) (fun (t : Unit) => (Sum.inl ())))

def impl_TreeOk_n6 (x3090 : List Int) : Option (Unit ⊕ Bool) :=
  (impl_TreeOk_n2 x3090).bind (fun (t : Int) => impl_TreeOk_n5 x3090 t)

def impl_TreeOk_n7 : Option (Bool) :=
  some true

def impl_TreeOk_n8 (x3090 : List Int) : Option (Bool) :=
  (impl_TreeOk_n6 x3090).bind (Sum.elim (fun (t : Unit) => impl_TreeOk_n7) (fun e => some ((fun (t : Bool) => t) e)))

def impl_TreeOk_n9 (x3090 : List Int) : Option (Bool) :=
  (impl_TreeOk_n1 x3090).bind (Sum.elim (fun (t : Unit) => impl_TreeOk_n8 x3090) (fun e => some ((fun (t : Bool) => t) e)))

@[irreducible] def impl_TreeOk (x3090 : List Int) : Option (Bool) :=
  impl_TreeOk_n9 x3090

/-! loop.example/headtrees/laws.alive -/

def laws_alive_n1 : Option (Bool) :=
  (impl_TreeOk ([0])).bind fun (v3234 : Bool) => cond v3234 ((impl_TreeOk ([1])).bind fun (v3236 : Bool) => some (!v3236)) (some false)

@[irreducible] def laws_alive : Option (Bool) :=
  laws_alive_n1

/-! loop.example/headtrees/impl.RootOf -/

def impl_RootOf_n1 (x3269 : List Int) : Option (Unit ⊕ Int) :=
  (impl_TreeOk x3269).bind fun (v3273 : Bool) => cond (!v3273) (some (Sum.inr (-1))) (some (Sum.inl ()))

def impl_RootOf_n2 (x3269 : List Int) (x3283 : Int) (x3284 : Int) : Option ((Int × Int) ⊕ (Int × Int)) :=
  (impl_walker_up x3269 x3283 x3284).bind fun (v3289 : Bool × Int × Int) => cond (v3289.1) (some (Sum.inl ((v3289.2.1), (v3289.2.2)))) (some (Sum.inr ((v3289.2.1), (v3289.2.2))))

def impl_RootOf_n3 (x3269 : List Int) : Option ((Int × Int)) :=
  nloop (fun (s : Int × Int) => ((impl_RootOf_n2 x3269 s.1 s.2).map (Sum.elim (fun (t : Int × Int) => Sum.inl (t.1, t.2)) (fun (t : Int × Int) => Sum.inr t)) : Option ((Int × Int) ⊕ ((Int × Int))))) LL (1, 0)

def impl_RootOf_n4 (x3269 : List Int) : Option ((Int × Int)) :=
  (impl_RootOf_n3 x3269).map (fun (t : Int × Int) => (t.1, t.2))

def impl_RootOf_n5 (x3291 : Int) : Option (Int) :=
  some x3291

def impl_RootOf_n6 (x3269 : List Int) : Option (Int) :=
  (impl_RootOf_n4 x3269).bind (fun (t : Int × Int) => impl_RootOf_n5 t.1)

def impl_RootOf_n7 (x3269 : List Int) : Option (Int) :=
  (impl_RootOf_n1 x3269).bind (Sum.elim (fun (t : Unit) => impl_RootOf_n6 x3269) (fun e => some ((fun (t : Int) => t) e)))

@[irreducible] def impl_RootOf (x3269 : List Int) : Option (Int) :=
  impl_RootOf_n7 x3269

/-! loop.example/headtrees/impl.only -/

def impl_only_n1 (x3298 : Int) : Option (Int) :=
  (shl .u64 1 (IntKind.wrap .i64 (x3298 - 1))).bind fun (v3302 : Int) => some v3302

@[irreducible] def impl_only (x3298 : Int) : Option (Int) :=
  impl_only_n1 x3298

/-! loop.example/headtrees/impl.dependents -/

def impl_dependents_n1 : Option (Unit) :=
  some ()

def impl_dependents_n2 (x3304 : List Int) : Option (Int) :=
  some (((List.length x3304 : Nat) : Int))

def impl_dependents_n3 (x3304 : List Int) (x3305 : Int) (x3325 : Int) (x3306 : Int) (x3326 : Int) : Option ((Int × Int) ⊕ Int) :=
  cond (decide (x3326 < x3306)) ((idx x3304 x3326).bind fun (v3336 : Int) => cond (v3336 == x3305) ((impl_only (IntKind.wrap .i64 (x3326 + 1))).bind fun (v3339 : Int) => some (Sum.inl ((ior .u64 x3325 v3339), (IntKind.wrap .i64 (x3326 + 1))))) (some (Sum.inl (x3325, (IntKind.wrap .i64 (x3326 + 1)))))) (some (Sum.inr x3325))

def impl_dependents_n4 (x3304 : List Int) (x3305 : Int) (x3306 : Int) : Option (Int) :=
  nloop (fun (s : Int × Int) => ((impl_dependents_n3 x3304 x3305 s.1 x3306 s.2).map (Sum.elim (fun (t : Int × Int) => Sum.inl (t.1, t.2)) (fun (t : Int) => Sum.inr t)) : Option ((Int × Int) ⊕ (Int)))) LL (0, 0)

def impl_dependents_n5 (x3304 : List Int) (x3305 : Int) (x3306 : Int) : Option (Int) :=
  (impl_dependents_n4 x3304 x3305 x3306).map (fun (t : Int) => t)

def impl_dependents_n6 (x3304 : List Int) (x3305 : Int) : Option (Int) :=
  (impl_dependents_n2 x3304).bind (fun (t : Int) => impl_dependents_n5 x3304 x3305 t)

def impl_dependents_n7 (x3325 : Int) : Option (Int) :=
  some x3325

def impl_dependents_n8 (x3304 : List Int) (x3305 : Int) : Option (Int) :=
  (impl_dependents_n6 x3304 x3305).bind (fun (t : Int) => impl_dependents_n7 t)

def impl_dependents_n9 (x3304 : List Int) (x3305 : Int) : Option (Int) :=
  (impl_dependents_n1).bind (fun (t : Unit) => impl_dependents_n8 x3304 x3305)

@[irreducible] def impl_dependents (x3304 : List Int) (x3305 : Int) : Option (Int) :=
  impl_dependents_n9 x3304 x3305

/-! math/bits.OnesCount64 -/

def math_bits_OnesCount64_n1 (x3349 : Int) : Option (Int) :=
  (shr .u64 x3349 1).bind fun (v3350 : Int) => some (IntKind.wrap .u64 ((iand .u64 v3350 6148914691236517205) + (iand .u64 x3349 6148914691236517205)))

def math_bits_OnesCount64_n2 (x3354 : Int) : Option (Int) :=
  (shr .u64 x3354 2).bind fun (v3368 : Int) => some (IntKind.wrap .u64 ((iand .u64 v3368 3689348814741910323) + (iand .u64 x3354 3689348814741910323)))

def math_bits_OnesCount64_n3 (x3371 : Int) : Option (Int) :=
  (shr .u64 x3371 4).bind fun (v3376 : Int) => some (iand .u64 (IntKind.wrap .u64 (v3376 + x3371)) 1085102592571150095)

def math_bits_OnesCount64_n4 (x3378 : Int) : Option (Int) :=
  (shr .u64 x3378 8).bind fun (v3381 : Int) => some (IntKind.wrap .u64 (x3378 + v3381))

def math_bits_OnesCount64_n5 (x3382 : Int) : Option (Int) :=
  (shr .u64 x3382 16).bind fun (v3386 : Int) => some (IntKind.wrap .u64 (x3382 + v3386))

def math_bits_OnesCount64_n6 (x3387 : Int) : Option (Int) :=
  (shr .u64 x3387 32).bind fun (v3391 : Int) => some (IntKind.wrap .u64 (x3387 + v3391))

def math_bits_OnesCount64_n7 (x3392 : Int) : Option (Int) :=
  some (iand .i64 (IntKind.wrap .i64 x3392) 127)

def math_bits_OnesCount64_n8 (x3397 : Int) : Option (Int) :=
  some x3397

def math_bits_OnesCount64_n9 (x3392 : Int) : Option (Int) :=
  (math_bits_OnesCount64_n7 x3392).bind (fun (t : Int) => math_bits_OnesCount64_n8 t)

def math_bits_OnesCount64_n10 (x3387 : Int) : Option (Int) :=
  (math_bits_OnesCount64_n6 x3387).bind (fun (t : Int) => math_bits_OnesCount64_n9 t)

def math_bits_OnesCount64_n11 (x3382 : Int) : Option (Int) :=
  (math_bits_OnesCount64_n5 x3382).bind (fun (t : Int) => math_bits_OnesCount64_n10 t)

def math_bits_OnesCount64_n12 (x3378 : Int) : Option (Int) :=
  (math_bits_OnesCount64_n4 x3378).bind (fun (t : Int) => math_bits_OnesCount64_n11 t)

def math_bits_OnesCount64_n13 (x3371 : Int) : Option (Int) :=
  (math_bits_OnesCount64_n3 x3371).bind (fun (t : Int) => math_bits_OnesCount64_n12 t)

def math_bits_OnesCount64_n14 (x3354 : Int) : Option (Int) :=
  (math_bits_OnesCount64_n2 x3354).bind (fun (t : Int) => math_bits_OnesCount64_n13 t)

def math_bits_OnesCount64_n15 (x3349 : Int) : Option (Int) :=
  (math_bits_OnesCount64_n1 x3349).bind (fun (t : Int) => math_bits_OnesCount64_n14 t)

@[irreducible] def math_bits_OnesCount64 (x3349 : Int) : Option (Int) :=
  math_bits_OnesCount64_n15 x3349

/-! math/bits.OnesCount -/

def math_bits_OnesCount_n1 (x3348 : Int) : Option (Int) :=
  (math_bits_OnesCount64 x3348).bind fun (v3399 : Int) => some v3399

@[irreducible] def math_bits_OnesCount (x3348 : Int) : Option (Int) :=
  math_bits_OnesCount_n1 x3348

/-! (loop.example/headtrees/impl.wordSet).count -/

def impl_wordSet_count_n1 (x3347 : Int) : Option (Int) :=
  (math_bits_OnesCount x3347).bind fun (v3401 : Int) => some v3401

@[irreducible] def impl_wordSet_count (x3347 : Int) : Option (Int) :=
  impl_wordSet_count_n1 x3347

/-! math/bits.TrailingZeros64 -/

def math_bits_TrailingZeros64_n1 (x3408 : Int) : Option (Int) :=
  cond (x3408 == 0) (some 64) ((shr .u64 (IntKind.wrap .u64 ((iand .u64 x3408 (IntKind.wrap .u64 (0 - x3408))) * 285870213051353865)) 58).bind fun (v3425 : Int) => (same (List.length tab1) 64).bind fun (v3426 : Unit) => (idx tab1 v3425).bind fun (v3427 : Int) => some (IntKind.wrap .i64 v3427))

@[irreducible] def math_bits_TrailingZeros64 (x3408 : Int) : Option (Int) :=
  math_bits_TrailingZeros64_n1 x3408

/-! math/bits.TrailingZeros -/

def math_bits_TrailingZeros_n1 (x3407 : Int) : Option (Int) :=
  (math_bits_TrailingZeros64 x3407).bind fun (v3431 : Int) => some v3431

@[irreducible] def math_bits_TrailingZeros (x3407 : Int) : Option (Int) :=
  math_bits_TrailingZeros_n1 x3407

/-! (loop.example/headtrees/impl.wordSet).list -/

def impl_wordSet_list_n1 (x3346 : Int) : Option (((List Int))) :=
  (impl_wordSet_count x3346).bind fun (v3402 : Int) => (mk 0 v3402).bind fun (v3403 : Nat) => some (List.replicate v3403 (0 : Int))

def impl_wordSet_list_n2 : Option (Unit) :=
  some ()

def impl_wordSet_list_n3 (x3447 : Int) (x3448 : List Int) : Option ((Int × (List Int)) ⊕ ((List Int))) :=
  cond (x3447 != 0) ((math_bits_TrailingZeros x3447).bind fun (v3458 : Int) => (room ((List.length x3448) + List.length ([(IntKind.wrap .i64 (v3458 + 1))]))).bind fun (v3462 : Unit) => some (Sum.inl ((iand .u64 x3447 (IntKind.wrap .u64 (x3447 - 1))), (x3448 ++ ([(IntKind.wrap .i64 (v3458 + 1))]))))) (some (Sum.inr x3448))

def impl_wordSet_list_n4 (x3346 : Int) (x3404 : List Int) : Option (((List Int))) :=
  nloop (fun (s : Int × (List Int)) => ((impl_wordSet_list_n3 s.1 s.2).map (Sum.elim (fun (t : Int × (List Int)) => Sum.inl (t.1, t.2)) (fun (t : (List Int)) => Sum.inr t)) : Option ((Int × (List Int)) ⊕ (((List Int)))))) LL (x3346, x3404)

def impl_wordSet_list_n5 (x3346 : Int) (x3404 : List Int) : Option (((List Int))) :=
  (impl_wordSet_list_n4 x3346 x3404).map (fun (t : (List Int)) => t)

def impl_wordSet_list_n6 (x3346 : Int) (x3404 : List Int) : Option (((List Int))) :=
  (impl_wordSet_list_n2).bind (fun (t : Unit) => impl_wordSet_list_n5 x3346 x3404)

def impl_wordSet_list_n7 (x3448 : List Int) : Option (((List Int))) :=
  some x3448

def impl_wordSet_list_n8 (x3346 : Int) (x3404 : List Int) : Option (((List Int))) :=
  (impl_wordSet_list_n6 x3346 x3404).bind (fun (t : (List Int)) => impl_wordSet_list_n7 t)

def impl_wordSet_list_n9 (x3346 : Int) : Option (((List Int))) :=
  (impl_wordSet_list_n1 x3346).bind (fun (t : (List Int)) => impl_wordSet_list_n8 x3346 t)

@[irreducible] def impl_wordSet_list (x3346 : Int) : Option ((List Int)) :=
  impl_wordSet_list_n9 x3346

/-! loop.example/headtrees/impl.fillYields -/

def impl_fillYields_n1 (R0 : (List Int) → Int → (List Int) → Option (Int × (List Int))) (x3296 : Int) : Option (Int) :=
  (impl_only x3296).bind fun (v3482 : Int) => some v3482

def impl_fillYields_n2 (R0 : (List Int) → Int → (List Int) → Option (Int × (List Int))) (x3295 : List Int) (x3296 : Int) : Option ((Int × (List Int))) :=
  (impl_dependents x3295 x3296).bind fun (v3483 : Int) => (impl_wordSet_list v3483).bind fun (v3484 : List Int) => some ((((List.length v3484 : Nat) : Int)), v3484)

def impl_fillYields_n3 (R0 : (List Int) → Int → (List Int) → Option (Int × (List Int))) (x3295 : List Int) (x3503 : Int) (x3485 : Int) (x3504 : Int) (x3505 : List Int) (x3484 : List Int) : Option ((Int × Int × (List Int)) ⊕ (Int × (List Int))) :=
  cond (decide (x3504 < x3485)) ((inb x3504 (List.length x3484)).bind fun (v3516 : Nat) => (x3484[v3516]?).bind fun (v3517 : Int) => (R0 x3295 v3517 x3505).bind fun (v3518 : Int × (List Int)) => some (Sum.inl ((ior .u64 x3503 (v3518.1)), (IntKind.wrap .i64 (x3504 + 1)), (v3518.2)))) (some (Sum.inr (x3503, x3505)))

def impl_fillYields_n4 (R0 : (List Int) → Int → (List Int) → Option (Int × (List Int))) (x3295 : List Int) (x3482 : Int) (x3485 : Int) (x3297 : List Int) (x3484 : List Int) : Option ((Int × (List Int))) :=
  nloop (fun (s : Int × Int × (List Int)) => ((impl_fillYields_n3 R0 x3295 s.1 x3485 s.2.1 s.2.2 x3484).map (Sum.elim (fun (t : Int × Int × (List Int)) => Sum.inl (t.1, t.2.1, t.2.2)) (fun (t : Int × (List Int)) => Sum.inr t)) : Option ((Int × Int × (List Int)) ⊕ ((Int × (List Int)))))) LL (x3482, 0, x3297)

def impl_fillYields_n5 (R0 : (List Int) → Int → (List Int) → Option (Int × (List Int))) (x3295 : List Int) (x3482 : Int) (x3485 : Int) (x3297 : List Int) (x3484 : List Int) : Option ((Int × (List Int))) :=
  (impl_fillYields_n4 R0 x3295 x3482 x3485 x3297 x3484).map (fun (t : Int × (List Int)) => (t.1, t.2))

def impl_fillYields_n6 (R0 : (List Int) → Int → (List Int) → Option (Int × (List Int))) (x3295 : List Int) (x3296 : Int) (x3482 : Int) (x3297 : List Int) : Option ((Int × (List Int))) :=
  (impl_fillYields_n2 R0 x3295 x3296).bind (fun (t : Int × (List Int)) => impl_fillYields_n5 R0 x3295 x3482 t.1 x3297 t.2)

def impl_fillYields_n7 (R0 : (List Int) → Int → (List Int) → Option (Int × (List Int))) (x3296 : Int) (x3503 : Int) (x3505 : List Int) : Option ((Int × (List Int))) :=
  (inb (IntKind.wrap .i64 (x3296 - 1)) (List.length x3505)).bind fun (v3530 : Nat) => some (x3503, (x3505.set v3530 x3503))

def impl_fillYields_n8 (R0 : (List Int) → Int → (List Int) → Option (Int × (List Int))) (x3295 : List Int) (x3296 : Int) (x3482 : Int) (x3297 : List Int) : Option ((Int × (List Int))) :=
  (impl_fillYields_n6 R0 x3295 x3296 x3482 x3297).bind (fun (t : Int × (List Int)) => impl_fillYields_n7 R0 x3296 t.1 t.2)

def impl_fillYields_n9 (R0 : (List Int) → Int → (List Int) → Option (Int × (List Int))) (x3295 : List Int) (x3296 : Int) (x3297 : List Int) : Option ((Int × (List Int))) :=
  (impl_fillYields_n1 R0 x3296).bind (fun (t : Int) => impl_fillYields_n8 R0 x3295 x3296 t x3297)

def impl_fillYields_one (R0 : (List Int) → Int → (List Int) → Option (Int × (List Int))) (x3295 : List Int) (x3296 : Int) (x3297 : List Int) : Option (Int × (List Int)) :=
  impl_fillYields_n9 R0 x3295 x3296 x3297

def impl_fillYields_knot : Nat → ((List Int) → Int → (List Int) → Option (Int × (List Int)))
  | 0 => (fun _ _ _ => none)
  | n + 1 => (fun y0 y1 y2 => impl_fillYields_one (impl_fillYields_knot n) y0 y1 y2)

def impl_fillYields_fuel (n : Nat) : (List Int) → Int → (List Int) → Option (Int × (List Int)) := (impl_fillYields_knot n)

@[irreducible] def impl_fillYields (x3295 : List Int) (x3296 : Int) (x3297 : List Int) : Option (Int × (List Int)) := impl_fillYields_fuel RR x3295 x3296 x3297

/-! loop.example/headtrees/impl.yieldsOf -/

def impl_yieldsOf_n1 (x3262 : List Int) : Option (((List Int))) :=
  (mk (((List.length x3262 : Nat) : Int)) (((List.length x3262 : Nat) : Int))).bind fun (v3543 : Nat) => (impl_RootOf x3262).bind fun (v3545 : Int) => (impl_fillYields x3262 v3545 (List.replicate v3543 (0 : Int))).bind fun (v3546 : Int × (List Int)) => some (v3546.2)

@[irreducible] def impl_yieldsOf (x3262 : List Int) : Option ((List Int)) :=
  impl_yieldsOf_n1 x3262

/-! (loop.example/headtrees/impl.wordSet).isRow -/

def impl_wordSet_isRow_n1 (x3556 : Int) : Option (Bool) :=
  some ((iand .u64 x3556 (IntKind.wrap .u64 (x3556 + (iand .u64 x3556 (IntKind.wrap .u64 (0 - x3556)))))) == 0)

@[irreducible] def impl_wordSet_isRow (x3556 : Int) : Option (Bool) :=
  impl_wordSet_isRow_n1 x3556

/-! loop.example/headtrees/impl.FlatOk -/

def impl_FlatOk_n1 (x3259 : List Int) : Option (Unit ⊕ Bool) :=
  (impl_TreeOk x3259).bind fun (v3260 : Bool) => cond (!v3260) (some (Sum.inr false)) (some (Sum.inl ()))

def impl_FlatOk_n2 (x3259 : List Int) : Option ((Int × (List Int))) :=
  (impl_yieldsOf x3259).bind fun (v3549 : List Int) => some ((((List.length v3549 : Nat) : Int)), v3549)

def impl_FlatOk_n3 (x3550 : Int) (x3577 : Int) (x3549 : List Int) : Option (Int ⊕ Bool ⊕ Unit) :=
  cond (decide (x3577 < x3550)) ((inb x3577 (List.length x3549)).bind fun (v3586 : Nat) => (x3549[v3586]?).bind fun (v3587 : Int) => (impl_wordSet_isRow v3587).bind fun (v3588 : Bool) => cond (!v3588) (some (Sum.inr (Sum.inl false))) (some (Sum.inl (IntKind.wrap .i64 (x3577 + 1))))) (some (Sum.inr (Sum.inr ())))

def impl_FlatOk_n4 (x3550 : Int) (x3549 : List Int) : Option (Bool ⊕ Unit) :=
  nloop (fun (s : Int) => ((impl_FlatOk_n3 x3550 s x3549).map (Sum.elim (fun (t : Int) => Sum.inl t) (Sum.elim (fun (t : Bool) => Sum.inr (Sum.inl t)) (fun (t : Unit) => Sum.inr (Sum.inr t)))) : Option ((Int) ⊕ (Bool ⊕ Unit)))) LL 0

def impl_FlatOk_n5 (x3550 : Int) (x3549 : List Int) : Option (Unit ⊕ Bool) :=
  (impl_FlatOk_n4 x3550 x3549).map (Sum.elim (fun (t : Bool) => (Sum.inr t)) (fun (t : Unit) => (Sum.inl ())))

def impl_FlatOk_n6 (x3259 : List Int) : Option (Unit ⊕ Bool) :=
  (impl_FlatOk_n2 x3259).bind (fun (t : Int × (List Int)) => impl_FlatOk_n5 t.1 t.2)

def impl_FlatOk_n7 : Option (Bool) :=
  some true

def impl_FlatOk_n8 (x3259 : List Int) : Option (Bool) :=
  (impl_FlatOk_n6 x3259).bind (Sum.elim (fun (t : Unit) => impl_FlatOk_n7) (fun e => some ((fun (t : Bool) => t) e)))

def impl_FlatOk_n9 (x3259 : List Int) : Option (Bool) :=
  (impl_FlatOk_n1 x3259).bind (Sum.elim (fun (t : Unit) => impl_FlatOk_n8 x3259) (fun e => some ((fun (t : Bool) => t) e)))

@[irreducible] def impl_FlatOk (x3259 : List Int) : Option (Bool) :=
  impl_FlatOk_n9 x3259

/-! (*loop.example/headtrees/impl.stackMachine).ruleFor -/

def impl_stackMachine_ruleFor_n1 : Option (Unit) :=
  some ()

@[irreducible] def impl_stackMachine_ruleFor (x3604 : List Int) (x3605 : Int) (x3606 : Int) (x3607 : List Int) : Option (Unit) :=
  impl_stackMachine_ruleFor_n1

/-! (*loop.example/headtrees/impl.stackMachine).ruleFor$1 -/

def impl_stackMachine_ruleFor_1_n1 (x3640 : Int) (x3641 : Int) (x3642 : List Int) (x3645 : List Int) : Option (Bool) :=
  (idx x3642 (IntKind.wrap .i64 (x3640 - 1))).bind fun (v3654 : Int) => cond (v3654 == x3641) ((impl_dependents x3642 x3640).bind fun (v3656 : Int) => (impl_dependents x3645 x3640).bind fun (v3657 : Int) => some (v3656 == v3657)) (some false)

@[irreducible] def impl_stackMachine_ruleFor_1 (x3640 : Int) (x3641 : Int) (x3642 : List Int) (x3643 : Int) (x3644 : Int) (x3645 : List Int) (x3646 : List Int) : Option (Bool) :=
  impl_stackMachine_ruleFor_1_n1 x3640 x3641 x3642 x3645

/-! (*loop.example/headtrees/impl.stackMachine).ruleFor$2 -/

def impl_stackMachine_ruleFor_2_v2_n1 (x3771 : Int) (x3772 : Int) (x3773 : List Int) (x3774 : List Int) (x3775 : List Int) : Option (Int) :=
  (impl_stackMachine_upperTwo x3771 x3772 x3774 x3775).bind fun (v3794 : Int × Int × Bool) => cond (v3794.2.2) ((impl_stackMachine_ruleFor_1 (v3794.1) (v3794.2.1) x3773 x3771 x3772 x3774 x3775).bind fun (v3798 : Bool) => cond v3798 (some 76) (cond (v3794.2.2) ((impl_stackMachine_ruleFor_1 (v3794.2.1) (v3794.1) x3773 x3771 x3772 x3774 x3775).bind fun (v3799 : Bool) => cond v3799 (some 82) (some 83)) (some 83))) (cond (v3794.2.2) ((impl_stackMachine_ruleFor_1 (v3794.2.1) (v3794.1) x3773 x3771 x3772 x3774 x3775).bind fun (v3800 : Bool) => cond v3800 (some 82) (some 83)) (some 83))

@[irreducible] def impl_stackMachine_ruleFor_2_v2 (x3771 : Int) (x3772 : Int) (x3773 : List Int) (x3774 : List Int) (x3775 : List Int) : Option (Int) :=
  impl_stackMachine_ruleFor_2_v2_n1 x3771 x3772 x3773 x3774 x3775

/-! loop.example/headtrees/impl.MovesFor -/

def impl_MovesFor_n1 (x3258 : List Int) : Option (((List Int)) ⊕ (ByteArray × Bool)) :=
  (impl_FlatOk x3258).bind fun (v3960 : Bool) => cond (!v3960) (some (Sum.inr (ByteArray.empty, false))) ((impl_newStackMachine (((List.length x3258 : Nat) : Int))).bind fun (v3963 : List Int) => (impl_stackMoves).bind fun (v3964 : Unit) => (impl_stackMachine_ruleFor x3258 0 0 v3963).bind fun (v3965 : Unit) => some (Sum.inl v3963))

def impl_MovesFor_n2 (x3258 : List Int) : Option (Int) :=
  some (IntKind.wrap .i64 ((IntKind.wrap .i64 (2 * (((List.length x3258 : Nat) : Int)))) - 1))

def impl_MovesFor_n3 (x3968 : Int) (x4040 : Int) (x4041 : Int) (x4042 : Int) (x4043 : List Int) (x4044 : List Int) (x4045 : List Int) (x3258 : List Int) : Option ((Int × Int × Int × (List Int) × (List Int) × (List Int)) ⊕ ((List Int))) :=
  cond (decide (x4040 < x3968)) ((impl_stackMachine_ruleFor_2_v2 x4041 x4042 x3258 x4044 x4045).bind fun (v4079 : Int) => cond (v4079 == 83) ((impl_stackMachine_putNext x4041 x4042 x4044 x4045).bind fun (v4081 : Bool × Int × Int × (List Int)) => (room ((List.length x4043) + List.length ([v4079]))).bind fun (v4088 : Unit) => some (Sum.inl ((IntKind.wrap .i64 (x4040 + 1)), (v4081.2.1), (v4081.2.2.1), (x4043 ++ ([v4079])), x4044, (v4081.2.2.2)))) (cond (v4079 == 76) ((impl_stackMachine_takeBelow x4041 x4042 x4044 x4045).bind fun (v4092 : Bool × (List Int) × (List Int)) => (room ((List.length x4043) + List.length ([v4079]))).bind fun (v4098 : Unit) => some (Sum.inl ((IntKind.wrap .i64 (x4040 + 1)), x4041, x4042, (x4043 ++ ([v4079])), (v4092.2.1), (v4092.2.2)))) (cond (v4079 == 82) ((impl_stackMachine_takeUpper x4041 x4042 x4044 x4045).bind fun (v4102 : Bool × (List Int) × (List Int)) => (room ((List.length x4043) + List.length ([v4079]))).bind fun (v4108 : Unit) => some (Sum.inl ((IntKind.wrap .i64 (x4040 + 1)), x4041, x4042, (x4043 ++ ([v4079])), (v4102.2.1), (v4102.2.2)))) (none)))) (some (Sum.inr x4043))

def impl_MovesFor_n4 (x3968 : Int) (x3963 : List Int) (x3258 : List Int) : Option (((List Int))) :=
  nloop (fun (s : Int × Int × Int × (List Int) × (List Int) × (List Int)) => ((impl_MovesFor_n3 x3968 s.1 s.2.1 s.2.2.1 s.2.2.2.1 s.2.2.2.2.1 s.2.2.2.2.2 x3258).map (Sum.elim (fun (t : Int × Int × Int × (List Int) × (List Int) × (List Int)) => Sum.inl (t.1, t.2.1, t.2.2.1, t.2.2.2.1, t.2.2.2.2.1, t.2.2.2.2.2)) (fun (t : (List Int)) => Sum.inr t)) : Option ((Int × Int × Int × (List Int) × (List Int) × (List Int)) ⊕ (((List Int)))))) LL (0, 0, 0, ([] : List Int), x3963, ([] : List Int))

def impl_MovesFor_n5 (x3968 : Int) (x3963 : List Int) (x3258 : List Int) : Option (((List Int))) :=
  (impl_MovesFor_n4 x3968 x3963 x3258).map (fun (t : (List Int)) => t)

def impl_MovesFor_n6 (x3258 : List Int) (x3963 : List Int) : Option (((List Int))) :=
  (impl_MovesFor_n2 x3258).bind (fun (t : Int) => impl_MovesFor_n5 t x3963 x3258)

def impl_MovesFor_n7 (x4043 : List Int) : Option ((ByteArray × Bool)) :=
  some ((bytesOf x4043), true)

def impl_MovesFor_n8 (x3258 : List Int) (x3963 : List Int) : Option ((ByteArray × Bool)) :=
  (impl_MovesFor_n6 x3258 x3963).bind (fun (t : (List Int)) => impl_MovesFor_n7 t)

def impl_MovesFor_n9 (x3258 : List Int) : Option ((ByteArray × Bool)) :=
  (impl_MovesFor_n1 x3258).bind (Sum.elim (fun (t : (List Int)) => impl_MovesFor_n8 x3258 t) (fun e => some ((fun (t : ByteArray × Bool) => t) e)))

@[irreducible] def impl_MovesFor (x3258 : List Int) : Option (ByteArray × Bool) :=
  impl_MovesFor_n9 x3258

/-! loop.example/headtrees/laws.FnRunStack -/

def laws_FnRunStack_n1 (x2 : List Int) : Option (Bool) :=
  cond (decide ((((List.length x2 : Nat) : Int)) > 1048576)) (some true) ((spec_DrawRunStack x2).bind fun (v4180 : Int × ByteArray) => (impl_RunStack (v4180.1) (v4180.2)).bind fun (v4183 : Bool × (List Int)) => (spec_RunStack (v4180.1) (v4180.2)).bind fun (v4186 : Bool × (List Int)) => (laws_sameInts (v4183.2) (v4186.2)).bind fun (v4189 : Bool) => cond (!v4189) (some false) (cond ((v4183.1) != (v4186.1)) (some false) (cond (!(v4183.1)) (cond ((((List.length (v4183.2) : Nat) : Int)) == 0) ((laws_alive).bind fun (v4195 : Bool) => some v4195) (some false)) ((impl_MovesFor (v4183.2)).bind fun (v4196 : ByteArray × Bool) => (impl_RunStack (v4180.1) (v4196.1)).bind fun (v4199 : Bool × (List Int)) => (impl_FlatOk (v4183.2)).bind fun (v4202 : Bool) => cond v4202 (cond ((((ByteArray.size (v4180.2) : Nat) : Int)) == (IntKind.wrap .i64 ((IntKind.wrap .i64 (2 * (v4180.1))) - 1))) (cond (v4196.2) (cond (v4199.1) ((laws_sameInts (v4199.2) (v4183.2)).bind fun (v4207 : Bool) => some v4207) (some false)) (some false)) (some false)) (some false)))))

@[irreducible] def laws_FnRunStack (x2 : List Int) : Option (Bool) :=
  laws_FnRunStack_n1 x2

/-! loop.example/headtrees/spec.l20Order -/

def spec_l20Order_n1 (x4237 : List Int) (x4238 : Int) : Option ((Int × Int)) :=
  (spec_l20Rd_pick 2 x4237 x4238).bind fun (v4239 : Int × Int) => some ((v4239.1), (v4239.2))

def spec_l20Order_n2 : Option (Unit) :=
  some ()

def spec_l20Order_n3 (x4236 : Int) (x4240 : Int) (x4383 : Int) (x4237 : List Int) (x4384 : Int) (x4385 : List Int) : Option ((Int × Int × (List Int)) ⊕ (Int × (List Int))) :=
  cond (decide (x4383 ≤ x4236)) (cond (x4240 == 0) ((spec_l20Rd_pick x4383 x4237 x4384).bind fun (v4457 : Int × Int) => (inc (v4457.1) (List.length x4385)).bind fun (v4461 : Nat) => (room ((List.length ([] : List Int)) + List.length ((x4385.drop 0).take (v4461 - 0)))).bind fun (v4465 : Unit) => (room ((List.length (([] : List Int) ++ ((x4385.drop 0).take (v4461 - 0)))) + List.length ([x4383]))).bind fun (v4469 : Unit) => (inc (v4457.1) (List.length x4385)).bind fun (v4472 : Nat) => (room ((List.length ((([] : List Int) ++ ((x4385.drop 0).take (v4461 - 0))) ++ ([x4383]))) + List.length ((x4385.drop v4472).take ((List.length x4385) - v4472)))).bind fun (v4476 : Unit) => some (Sum.inl ((IntKind.wrap .i64 (x4383 + 1)), (v4457.2), (((([] : List Int) ++ ((x4385.drop 0).take (v4461 - 0))) ++ ([x4383])) ++ ((x4385.drop v4472).take ((List.length x4385) - v4472)))))) ((spec_l20Rd_pick 3 x4237 x4384).bind fun (v4479 : Int × Int) => cond ((v4479.1) == 0) ((spec_l20Rd_pick x4383 x4237 (v4479.2)).bind fun (v4483 : Int × Int) => (inc (v4483.1) (List.length x4385)).bind fun (v4487 : Nat) => (room ((List.length ([] : List Int)) + List.length ((x4385.drop 0).take (v4487 - 0)))).bind fun (v4491 : Unit) => (room ((List.length (([] : List Int) ++ ((x4385.drop 0).take (v4487 - 0)))) + List.length ([x4383]))).bind fun (v4495 : Unit) => (inc (v4483.1) (List.length x4385)).bind fun (v4498 : Nat) => (room ((List.length ((([] : List Int) ++ ((x4385.drop 0).take (v4487 - 0))) ++ ([x4383]))) + List.length ((x4385.drop v4498).take ((List.length x4385) - v4498)))).bind fun (v4502 : Unit) => some (Sum.inl ((IntKind.wrap .i64 (x4383 + 1)), (v4483.2), (((([] : List Int) ++ ((x4385.drop 0).take (v4487 - 0))) ++ ([x4383])) ++ ((x4385.drop v4498).take ((List.length x4385) - v4498)))))) ((inc (((List.length x4385 : Nat) : Int)) (List.length x4385)).bind fun (v4506 : Nat) => (room ((List.length ([] : List Int)) + List.length ((x4385.drop 0).take (v4506 - 0)))).bind fun (v4510 : Unit) => (room ((List.length (([] : List Int) ++ ((x4385.drop 0).take (v4506 - 0)))) + List.length ([x4383]))).bind fun (v4514 : Unit) => (inc (((List.length x4385 : Nat) : Int)) (List.length x4385)).bind fun (v4517 : Nat) => (room ((List.length ((([] : List Int) ++ ((x4385.drop 0).take (v4506 - 0))) ++ ([x4383]))) + List.length ((x4385.drop v4517).take ((List.length x4385) - v4517)))).bind fun (v4521 : Unit) => some (Sum.inl ((IntKind.wrap .i64 (x4383 + 1)), (v4479.2), (((([] : List Int) ++ ((x4385.drop 0).take (v4506 - 0))) ++ ([x4383])) ++ ((x4385.drop v4517).take ((List.length x4385) - v4517)))))))) (some (Sum.inr (x4384, x4385)))

def spec_l20Order_n4 (x4236 : Int) (x4240 : Int) (x4237 : List Int) (x4241 : Int) : Option ((Int × (List Int))) :=
  nloop (fun (s : Int × Int × (List Int)) => ((spec_l20Order_n3 x4236 x4240 s.1 x4237 s.2.1 s.2.2).map (Sum.elim (fun (t : Int × Int × (List Int)) => Sum.inl (t.1, t.2.1, t.2.2)) (fun (t : Int × (List Int)) => Sum.inr t)) : Option ((Int × Int × (List Int)) ⊕ ((Int × (List Int)))))) LL (1, x4241, ([] : List Int))

def spec_l20Order_n5 (x4236 : Int) (x4240 : Int) (x4237 : List Int) (x4241 : Int) : Option ((Int × (List Int))) :=
  (spec_l20Order_n4 x4236 x4240 x4237 x4241).map (fun (t : Int × (List Int)) => (t.1, t.2))

def spec_l20Order_n6 (x4236 : Int) (x4240 : Int) (x4237 : List Int) (x4241 : Int) : Option ((Int × (List Int))) :=
  (spec_l20Order_n2).bind (fun (t : Unit) => spec_l20Order_n5 x4236 x4240 x4237 x4241)

def spec_l20Order_n7 (x4384 : Int) (x4385 : List Int) : Option ((Int × (List Int))) :=
  some (x4384, x4385)

def spec_l20Order_n8 (x4236 : Int) (x4240 : Int) (x4237 : List Int) (x4241 : Int) : Option ((Int × (List Int))) :=
  (spec_l20Order_n6 x4236 x4240 x4237 x4241).bind (fun (t : Int × (List Int)) => spec_l20Order_n7 t.1 t.2)

def spec_l20Order_n9 (x4236 : Int) (x4237 : List Int) (x4238 : Int) : Option ((Int × (List Int))) :=
  (spec_l20Order_n1 x4237 x4238).bind (fun (t : Int × Int) => spec_l20Order_n8 x4236 t.1 x4237 t.2)

@[irreducible] def spec_l20Order (x4236 : Int) (x4237 : List Int) (x4238 : Int) : Option (Int × (List Int)) :=
  spec_l20Order_n9 x4236 x4237 x4238

/-! loop.example/headtrees/spec.l20Tree -/

def spec_l20Tree_n1 (x4226 : List Int) (x4227 : Int) : Option ((Int × Int × Int × (List Int) × (List Int))) :=
  (spec_l20Rd_pick 7 x4226 x4227).bind fun (v4539 : Int × Int) => (spec_l20Order (IntKind.wrap .i64 (1 + (v4539.1))) x4226 (v4539.2)).bind fun (v4543 : Int × (List Int)) => (mk (IntKind.wrap .i64 (1 + (v4539.1))) (IntKind.wrap .i64 (1 + (v4539.1)))).bind fun (v4546 : Nat) => (spec_l20Rd_pick 2 x4226 (v4543.1)).bind fun (v4548 : Int × Int) => some ((IntKind.wrap .i64 (1 + (v4539.1))), (v4548.1), (v4548.2), (v4543.2), (List.replicate v4546 (0 : Int)))

def spec_l20Tree_n2 : Option (Unit) :=
  some ()

def spec_l20Tree_n3 (x4542 : Int) (x4549 : Int) (x4620 : Int) (x4226 : List Int) (x4621 : Int) (x4545 : List Int) (x4622 : List Int) : Option ((Int × Int × (List Int)) ⊕ (Int × (List Int))) :=
  cond (decide (x4620 < x4542)) ((spec_l20Rd_pick x4620 x4226 x4621).bind fun (v4656 : Int × Int) => cond (x4549 == 1) ((spec_l20Rd_pick 2 x4226 (v4656.2)).bind fun (v4660 : Int × Int) => cond ((v4660.1) == 0) ((inb x4620 (List.length x4545)).bind fun (v4665 : Nat) => (x4545[v4665]?).bind fun (v4666 : Int) => (inb (IntKind.wrap .i64 (x4620 - 1)) (List.length x4545)).bind fun (v4668 : Nat) => (x4545[v4668]?).bind fun (v4669 : Int) => (inb (IntKind.wrap .i64 (v4666 - 1)) (List.length x4622)).bind fun (v4670 : Nat) => some (Sum.inl ((IntKind.wrap .i64 (x4620 + 1)), (v4660.2), (x4622.set v4670 v4669)))) ((inb x4620 (List.length x4545)).bind fun (v4673 : Nat) => (x4545[v4673]?).bind fun (v4674 : Int) => (inb (v4656.1) (List.length x4545)).bind fun (v4676 : Nat) => (x4545[v4676]?).bind fun (v4677 : Int) => (inb (IntKind.wrap .i64 (v4674 - 1)) (List.length x4622)).bind fun (v4678 : Nat) => some (Sum.inl ((IntKind.wrap .i64 (x4620 + 1)), (v4660.2), (x4622.set v4678 v4677))))) ((inb x4620 (List.length x4545)).bind fun (v4681 : Nat) => (x4545[v4681]?).bind fun (v4682 : Int) => (inb (v4656.1) (List.length x4545)).bind fun (v4684 : Nat) => (x4545[v4684]?).bind fun (v4685 : Int) => (inb (IntKind.wrap .i64 (v4682 - 1)) (List.length x4622)).bind fun (v4686 : Nat) => some (Sum.inl ((IntKind.wrap .i64 (x4620 + 1)), (v4656.2), (x4622.set v4686 v4685))))) (some (Sum.inr (x4621, x4622)))

def spec_l20Tree_n4 (x4542 : Int) (x4549 : Int) (x4226 : List Int) (x4550 : Int) (x4545 : List Int) (x4547 : List Int) : Option ((Int × (List Int))) :=
  nloop (fun (s : Int × Int × (List Int)) => ((spec_l20Tree_n3 x4542 x4549 s.1 x4226 s.2.1 x4545 s.2.2).map (Sum.elim (fun (t : Int × Int × (List Int)) => Sum.inl (t.1, t.2.1, t.2.2)) (fun (t : Int × (List Int)) => Sum.inr t)) : Option ((Int × Int × (List Int)) ⊕ ((Int × (List Int)))))) LL (1, x4550, x4547)

def spec_l20Tree_n5 (x4542 : Int) (x4549 : Int) (x4226 : List Int) (x4550 : Int) (x4545 : List Int) (x4547 : List Int) : Option ((Int × (List Int))) :=
  (spec_l20Tree_n4 x4542 x4549 x4226 x4550 x4545 x4547).map (fun (t : Int × (List Int)) => (t.1, t.2))

def spec_l20Tree_n6 (x4542 : Int) (x4549 : Int) (x4226 : List Int) (x4550 : Int) (x4545 : List Int) (x4547 : List Int) : Option ((Int × (List Int))) :=
  (spec_l20Tree_n2).bind (fun (t : Unit) => spec_l20Tree_n5 x4542 x4549 x4226 x4550 x4545 x4547)

def spec_l20Tree_n7 (x4225 : Int) (x4542 : Int) (x4226 : List Int) (x4621 : Int) (x4622 : List Int) : Option ((Int × (List Int))) :=
  (spec_l20Rd_odd x4225 x4226 x4621).bind fun (v4748 : Bool × Int) => cond (v4748.1) ((spec_l20Rd_pick 4 x4226 (v4748.2)).bind fun (v4751 : Int × Int) => cond ((v4751.1) == 0) (some ((v4751.2), ([] : List Int))) (cond ((v4751.1) == 1) (some ((v4751.2), ([2, 1, 0]))) (cond ((v4751.1) == 2) ((spec_l20Rd_pick x4542 x4226 (v4751.2)).bind fun (v4758 : Int × Int) => (inb (v4758.1) (List.length x4622)).bind fun (v4761 : Nat) => (room ((List.length (x4622.set v4761 0)) + List.length ([0]))).bind fun (v4765 : Unit) => some ((v4758.2), ((x4622.set v4761 0) ++ ([0])))) ((spec_l20Rd_pick 3 x4226 (v4751.2)).bind fun (v4769 : Int × Int) => (inb (v4769.1) (List.length ([1, (IntKind.wrap .i64 (x4542 + 1)), (-1)]))).bind fun (v4772 : Nat) => (([1, (IntKind.wrap .i64 (x4542 + 1)), (-1)])[v4772]?).bind fun (v4773 : Int) => (inb 0 (List.length x4622)).bind fun (v4774 : Nat) => some ((v4769.2), (x4622.set v4774 v4773)))))) (some ((v4748.2), x4622))

def spec_l20Tree_n8 (x4225 : Int) (x4542 : Int) (x4549 : Int) (x4226 : List Int) (x4550 : Int) (x4545 : List Int) (x4547 : List Int) : Option ((Int × (List Int))) :=
  (spec_l20Tree_n6 x4542 x4549 x4226 x4550 x4545 x4547).bind (fun (t : Int × (List Int)) => spec_l20Tree_n7 x4225 x4542 x4226 t.1 t.2)

def spec_l20Tree_n9 (x4225 : Int) (x4226 : List Int) (x4227 : Int) : Option ((Int × (List Int))) :=
  (spec_l20Tree_n1 x4226 x4227).bind (fun (t : Int × Int × Int × (List Int) × (List Int)) => spec_l20Tree_n8 x4225 t.1 t.2.1 x4226 t.2.2.1 t.2.2.2.1 t.2.2.2.2)

@[irreducible] def spec_l20Tree (x4225 : Int) (x4226 : List Int) (x4227 : Int) : Option (Int × (List Int)) :=
  spec_l20Tree_n9 x4225 x4226 x4227

/-! loop.example/headtrees/spec.l20Fill -/

def spec_l20Fill_n1 (R0 : Int → Int → Int → (List Int) → Int → (List Int) → Option (Int × (List Int))) (x4818 : Int) (x4819 : Int) (x4820 : Int) (x4821 : List Int) (x4822 : Int) (x4823 : List Int) : Option ((Int × Int × (List Int)) ⊕ (Int × (List Int))) :=
  cond (decide (x4818 > x4819)) (some (Sum.inr (x4822, x4823))) ((spec_l20Rd_pick (IntKind.wrap .i64 ((IntKind.wrap .i64 (x4819 - x4818)) + 1)) x4821 x4822).bind fun (v4891 : Int × Int) => (inb (IntKind.wrap .i64 ((IntKind.wrap .i64 (x4818 + (v4891.1))) - 1)) (List.length x4823)).bind fun (v4896 : Nat) => some (Sum.inl ((IntKind.wrap .i64 (x4818 + (v4891.1))), (v4891.2), (x4823.set v4896 x4820))))

def spec_l20Fill_n2 (R0 : Int → Int → Int → (List Int) → Int → (List Int) → Option (Int × (List Int))) (x4894 : Int) (x4909 : Int) (x4821 : List Int) (x4910 : Int) (x4911 : List Int) : Option ((Int × Int × (List Int)) ⊕ (Int × (List Int))) :=
  cond (decide (x4909 < x4894)) ((spec_l20Rd_pick (IntKind.wrap .i64 (x4894 - x4909)) x4821 x4910).bind fun (v4915 : Int × Int) => (R0 x4909 (IntKind.wrap .i64 (x4909 + (v4915.1))) x4894 x4821 (v4915.2) x4911).bind fun (v4919 : Int × (List Int)) => some (Sum.inl ((IntKind.wrap .i64 ((IntKind.wrap .i64 (x4909 + (v4915.1))) + 1)), (v4919.1), (v4919.2)))) (some (Sum.inr (x4910, x4911)))

def spec_l20Fill_n3 (R0 : Int → Int → Int → (List Int) → Int → (List Int) → Option (Int × (List Int))) (x4894 : Int) (x4818 : Int) (x4821 : List Int) (x4893 : Int) (x4897 : List Int) : Option ((Int × (List Int))) :=
  nloop (fun (s : Int × Int × (List Int)) => ((spec_l20Fill_n2 R0 x4894 s.1 x4821 s.2.1 s.2.2).map (Sum.elim (fun (t : Int × Int × (List Int)) => Sum.inl (t.1, t.2.1, t.2.2)) (fun (t : Int × (List Int)) => Sum.inr t)) : Option ((Int × Int × (List Int)) ⊕ ((Int × (List Int)))))) LL (x4818, x4893, x4897)

def spec_l20Fill_n4 (R0 : Int → Int → Int → (List Int) → Int → (List Int) → Option (Int × (List Int))) (x4894 : Int) (x4818 : Int) (x4821 : List Int) (x4893 : Int) (x4897 : List Int) : Option ((Int × (List Int))) :=
  (spec_l20Fill_n3 R0 x4894 x4818 x4821 x4893 x4897).map (fun (t : Int × (List Int)) => (t.1, t.2))

def spec_l20Fill_n5 (R0 : Int → Int → Int → (List Int) → Int → (List Int) → Option (Int × (List Int))) (x4894 : Int) : Option (Int) :=
  some (IntKind.wrap .i64 (x4894 + 1))

def spec_l20Fill_n6 (R0 : Int → Int → Int → (List Int) → Int → (List Int) → Option (Int × (List Int))) (x4819 : Int) (x4894 : Int) (x4936 : Int) (x4821 : List Int) (x4937 : Int) (x4938 : List Int) : Option ((Int × Int × (List Int)) ⊕ (Int × (List Int))) :=
  cond (decide (x4936 ≤ x4819)) ((spec_l20Rd_pick (IntKind.wrap .i64 ((IntKind.wrap .i64 (x4819 - x4936)) + 1)) x4821 x4937).bind fun (v4943 : Int × Int) => (R0 x4936 (IntKind.wrap .i64 (x4936 + (v4943.1))) x4894 x4821 (v4943.2) x4938).bind fun (v4947 : Int × (List Int)) => some (Sum.inl ((IntKind.wrap .i64 ((IntKind.wrap .i64 (x4936 + (v4943.1))) + 1)), (v4947.1), (v4947.2)))) (some (Sum.inr (x4937, x4938)))

def spec_l20Fill_n7 (R0 : Int → Int → Int → (List Int) → Int → (List Int) → Option (Int × (List Int))) (x4819 : Int) (x4894 : Int) (x4923 : Int) (x4821 : List Int) (x4910 : Int) (x4911 : List Int) : Option ((Int × (List Int))) :=
  nloop (fun (s : Int × Int × (List Int)) => ((spec_l20Fill_n6 R0 x4819 x4894 s.1 x4821 s.2.1 s.2.2).map (Sum.elim (fun (t : Int × Int × (List Int)) => Sum.inl (t.1, t.2.1, t.2.2)) (fun (t : Int × (List Int)) => Sum.inr t)) : Option ((Int × Int × (List Int)) ⊕ ((Int × (List Int)))))) LL (x4923, x4910, x4911)

def spec_l20Fill_n8 (R0 : Int → Int → Int → (List Int) → Int → (List Int) → Option (Int × (List Int))) (x4819 : Int) (x4894 : Int) (x4923 : Int) (x4821 : List Int) (x4910 : Int) (x4911 : List Int) : Option ((Int × (List Int))) :=
  (spec_l20Fill_n7 R0 x4819 x4894 x4923 x4821 x4910 x4911).map (fun (t : Int × (List Int)) => (t.1, t.2))

def spec_l20Fill_n9 (R0 : Int → Int → Int → (List Int) → Int → (List Int) → Option (Int × (List Int))) (x4819 : Int) (x4894 : Int) (x4821 : List Int) (x4910 : Int) (x4911 : List Int) : Option ((Int × (List Int))) :=
  (spec_l20Fill_n5 R0 x4894).bind (fun (t : Int) => spec_l20Fill_n8 R0 x4819 x4894 t x4821 x4910 x4911)

def spec_l20Fill_n10 (R0 : Int → Int → Int → (List Int) → Int → (List Int) → Option (Int × (List Int))) (x4819 : Int) (x4894 : Int) (x4818 : Int) (x4821 : List Int) (x4893 : Int) (x4897 : List Int) : Option ((Int × (List Int))) :=
  (spec_l20Fill_n4 R0 x4894 x4818 x4821 x4893 x4897).bind (fun (t : Int × (List Int)) => spec_l20Fill_n9 R0 x4819 x4894 x4821 t.1 t.2)

def spec_l20Fill_n11 (R0 : Int → Int → Int → (List Int) → Int → (List Int) → Option (Int × (List Int))) (x4818 : Int) (x4819 : Int) (x4820 : Int) (x4821 : List Int) (x4822 : Int) (x4823 : List Int) : Option ((Int × (List Int)) ⊕ (Int × (List Int))) :=
  (spec_l20Fill_n1 R0 x4818 x4819 x4820 x4821 x4822 x4823).bind (Sum.elim (fun (t : Int × Int × (List Int)) => (spec_l20Fill_n10 R0 x4819 t.1 x4818 x4821 t.2.1 t.2.2).map (fun (u : Int × (List Int)) => (Sum.inl (u.1, u.2)))) (fun e => some ((fun (t : Int × (List Int)) => (Sum.inr t)) e)))

def spec_l20Fill_one (R0 : Int → Int → Int → (List Int) → Int → (List Int) → Option (Int × (List Int))) (x4818 : Int) (x4819 : Int) (x4820 : Int) (x4821 : List Int) (x4822 : Int) (x4823 : List Int) : Option (Int × (List Int)) :=
  (spec_l20Fill_n11 R0 x4818 x4819 x4820 x4821 x4822 x4823).map (Sum.elim (fun (t : Int × (List Int)) => (t.1, t.2)) (fun (t : Int × (List Int)) => t))

def spec_l20Fill_knot : Nat → (Int → Int → Int → (List Int) → Int → (List Int) → Option (Int × (List Int)))
  | 0 => (fun _ _ _ _ _ _ => none)
  | n + 1 => (fun y0 y1 y2 y3 y4 y5 => spec_l20Fill_one (spec_l20Fill_knot n) y0 y1 y2 y3 y4 y5)

def spec_l20Fill_fuel (n : Nat) : Int → Int → Int → (List Int) → Int → (List Int) → Option (Int × (List Int)) := (spec_l20Fill_knot n)

@[irreducible] def spec_l20Fill (x4818 : Int) (x4819 : Int) (x4820 : Int) (x4821 : List Int) (x4822 : Int) (x4823 : List Int) : Option (Int × (List Int)) := spec_l20Fill_fuel RR x4818 x4819 x4820 x4821 x4822 x4823

/-! loop.example/headtrees/spec.l20Flat -/

def spec_l20Flat_n1 (x4218 : Int) (x4219 : List Int) (x4220 : Int) : Option ((Int × (List Int))) :=
  (spec_l20Rd_pick 3 x4219 x4220).bind fun (v4972 : Int × Int) => cond ((v4972.1) == 0) ((spec_l20Tree x4218 x4219 (v4972.2)).bind fun (v4976 : Int × (List Int)) => some ((v4976.1), (v4976.2))) ((spec_l20Rd_pick 7 x4219 (v4972.2)).bind fun (v4979 : Int × Int) => (mk (IntKind.wrap .i64 (1 + (v4979.1))) (IntKind.wrap .i64 (1 + (v4979.1)))).bind fun (v4983 : Nat) => (spec_l20Fill 1 (IntKind.wrap .i64 (1 + (v4979.1))) 0 x4219 (v4979.2) (List.replicate v4983 (0 : Int))).bind fun (v4985 : Int × (List Int)) => some ((v4985.1), (v4985.2)))

@[irreducible] def spec_l20Flat (x4218 : Int) (x4219 : List Int) (x4220 : Int) : Option (Int × (List Int)) :=
  spec_l20Flat_n1 x4218 x4219 x4220

/-! loop.example/headtrees/spec.DrawMovesFor -/

def spec_DrawMovesFor_n1 (x4215 : List Int) : Option (((List Int))) :=
  (spec_l20Open x4215).bind fun (v4993 : List Int) => (spec_l20Flat 9 v4993 0).bind fun (v4994 : Int × (List Int)) => some (v4994.2)

@[irreducible] def spec_DrawMovesFor (x4215 : List Int) : Option ((List Int)) :=
  spec_DrawMovesFor_n1 x4215

/-! loop.example/headtrees/spec.TreeOk -/

def spec_TreeOk_n1 (x5014 : List Int) : Option (Int ⊕ Bool) :=
  (spec_l1In (((List.length x5014 : Nat) : Int)) 1 8).bind fun (v5020 : Bool) => cond (!v5020) (some (Sum.inr false)) (some (Sum.inl (((List.length x5014 : Nat) : Int))))

def spec_TreeOk_n2 : Option (Unit) :=
  some ()

def spec_TreeOk_n3 (x5019 : Int) (x5086 : Int) (x5087 : Int) : Option (Unit ⊕ Int) :=
  cond (decide (x5087 < x5019)) (some (Sum.inl ())) (some (Sum.inr x5086))

def spec_TreeOk_n4 (x5014 : List Int) (x5019 : Int) (x5086 : Int) (x5087 : Int) : Option ((Int × Int) ⊕ Bool) :=
  (idx x5014 x5087).bind fun (v5104 : Int) => (spec_l1In v5104 0 x5019).bind fun (v5105 : Bool) => cond (!v5105) (some (Sum.inr false)) ((idx x5014 x5087).bind fun (v5107 : Int) => cond (v5107 == (IntKind.wrap .i64 (x5087 + 1))) (some (Sum.inr false)) ((idx x5014 x5087).bind fun (v5110 : Int) => cond (v5110 == 0) (some (Sum.inl ((IntKind.wrap .i64 (x5086 + 1)), (IntKind.wrap .i64 (x5087 + 1))))) (some (Sum.inl (x5086, (IntKind.wrap .i64 (x5087 + 1)))))))

def spec_TreeOk_n5 : Option (Unit) :=
  some ()

def spec_TreeOk_n6 (x5014 : List Int) (x5019 : Int) (x5132 : Int) (x5133 : Int) : Option ((Int × Int) ⊕ Bool ⊕ Int) :=
  cond (decide (x5132 > 0)) (cond (decide (x5133 < x5019)) ((idx x5014 (IntKind.wrap .i64 (x5132 - 1))).bind fun (v5145 : Int) => (spec_l1In v5145 0 x5019).bind fun (v5146 : Bool) => cond (!v5146) (some (Sum.inr (Sum.inl false))) (some (Sum.inl (v5145, (IntKind.wrap .i64 (x5133 + 1)))))) (some (Sum.inr (Sum.inr x5132)))) (some (Sum.inr (Sum.inr x5132)))

def spec_TreeOk_n7 (x5014 : List Int) (x5019 : Int) (x5116 : Int) : Option (Bool ⊕ Int) :=
  nloop (fun (s : Int × Int) => ((spec_TreeOk_n6 x5014 x5019 s.1 s.2).map (Sum.elim (fun (t : Int × Int) => Sum.inl (t.1, t.2)) (Sum.elim (fun (t : Bool) => Sum.inr (Sum.inl t)) (fun (t : Int) => Sum.inr (Sum.inr t)))) : Option ((Int × Int) ⊕ (Bool ⊕ Int)))) LL (x5116, 0)

def spec_TreeOk_n8 (x5014 : List Int) (x5019 : Int) (x5116 : Int) : Option (Int ⊕ Bool) :=
  (spec_TreeOk_n7 x5014 x5019 x5116).map (Sum.elim (fun (t : Bool) => (Sum.inr t)) (fun (t : Int) => (Sum.inl t)))

def spec_TreeOk_n9 (x5014 : List Int) (x5019 : Int) (x5116 : Int) : Option (Int ⊕ Bool) :=
  (spec_TreeOk_n5).bind (fun (t : Unit) => spec_TreeOk_n8 x5014 x5019 x5116)

def spec_TreeOk_n10 (x5132 : Int) : Option (Unit ⊕ Bool) :=
  cond (decide (x5132 > 0)) (some (Sum.inr false)) (some (Sum.inl ()))

def spec_TreeOk_n11 (x5014 : List Int) (x5019 : Int) (x5116 : Int) : Option (Unit ⊕ Bool) :=
  (spec_TreeOk_n9 x5014 x5019 x5116).bind (Sum.elim (fun (t : Int) => spec_TreeOk_n10 t) (fun e => some ((fun (t : Bool) => (Sum.inr t)) e)))

def spec_TreeOk_n12 (x5014 : List Int) (x5019 : Int) (x5086 : Int) (x5087 : Int) : Option (Int ⊕ Bool) :=
  (spec_TreeOk_n4 x5014 x5019 x5086 x5087).bind (Sum.elim (fun (t : Int × Int) => (spec_TreeOk_n11 x5014 x5019 t.2).map (Sum.elim (fun (u : Unit) => (Sum.inl t.1)) (fun (u : Bool) => (Sum.inr u)))) (fun e => some ((fun (t : Bool) => (Sum.inr t)) e)))

def spec_TreeOk_n13 (x5014 : List Int) (x5019 : Int) (x5086 : Int) (x5087 : Int) : Option (Int ⊕ Bool) :=
  (spec_TreeOk_n12 x5014 x5019 x5086 x5087).map (Sum.elim (fun (t : Int) => (Sum.inl t)) (fun (t : Bool) => (Sum.inr t)))

def spec_TreeOk_n14 (x5087 : Int) : Option (Int) :=
  some (IntKind.wrap .i64 (x5087 + 1))

def spec_TreeOk_n15 (x5014 : List Int) (x5019 : Int) (x5086 : Int) (x5087 : Int) : Option ((Int × Int) ⊕ Bool) :=
  (spec_TreeOk_n13 x5014 x5019 x5086 x5087).bind (Sum.elim (fun (t : Int) => (spec_TreeOk_n14 x5087).map (fun (u : Int) => (Sum.inl (t, u)))) (fun e => some ((fun (t : Bool) => (Sum.inr t)) e)))

def spec_TreeOk_n16 (x5014 : List Int) (x5019 : Int) (x5086 : Int) (x5087 : Int) : Option ((Int × Int) ⊕ Bool ⊕ Int) :=
  (spec_TreeOk_n3 x5019 x5086 x5087).bind (Sum.elim (fun (t : Unit) => (spec_TreeOk_n15 x5014 x5019 x5086 x5087).map (Sum.elim (fun (t : Int × Int) => (Sum.inl (t.1, t.2))) (fun (t : Bool) => (Sum.inr (Sum.inl t))))) (fun e => some ((fun (t : Int) => (Sum.inr (Sum.inr t))) e)))

def spec_TreeOk_n17 (x5014 : List Int) (x5019 : Int) : Option (Bool ⊕ Int) :=
  nloop (fun (s : Int × Int) => ((spec_TreeOk_n16 x5014 x5019 s.1 s.2).map (Sum.elim (fun (t : Int × Int) => Sum.inl (t.1, t.2)) (Sum.elim (fun (t : Bool) => Sum.inr (Sum.inl t)) (fun (t : Int) => Sum.inr (Sum.inr t)))) : Option ((Int × Int) ⊕ (Bool ⊕ Int)))) LL (0, 0)

def spec_TreeOk_n18 (x5014 : List Int) (x5019 : Int) : Option (Int ⊕ Bool) :=
  (spec_TreeOk_n17 x5014 x5019).map (Sum.elim (fun (t : Bool) => (Sum.inr t)) (fun (t : Int) => (Sum.inl t)))

def spec_TreeOk_n19 (x5014 : List Int) (x5019 : Int) : Option (Int ⊕ Bool) :=
  (spec_TreeOk_n2).bind (fun (t : Unit) => spec_TreeOk_n18 x5014 x5019)

def spec_TreeOk_n20 (x5086 : Int) : Option (Bool) :=
  some (x5086 == 1)

def spec_TreeOk_n21 (x5014 : List Int) (x5019 : Int) : Option (Bool) :=
  (spec_TreeOk_n19 x5014 x5019).bind (Sum.elim (fun (t : Int) => spec_TreeOk_n20 t) (fun e => some ((fun (t : Bool) => t) e)))

def spec_TreeOk_n22 (x5014 : List Int) : Option (Bool) :=
  (spec_TreeOk_n1 x5014).bind (Sum.elim (fun (t : Int) => spec_TreeOk_n21 x5014 t) (fun e => some ((fun (t : Bool) => t) e)))

@[irreducible] def spec_TreeOk (x5014 : List Int) : Option (Bool) :=
  spec_TreeOk_n22 x5014

/-! loop.example/headtrees/spec.l2Yield -/

def spec_l2Yield_n1 (R0 : (List Int) → Int → Option Int) (x5160 : Int) : Option (Int) :=
  (shl .i64 1 (IntKind.wrap .i64 (x5160 - 1))).bind fun (v5191 : Int) => some v5191

def spec_l2Yield_n2 (R0 : (List Int) → Int → Option Int) : Option (Unit) :=
  some ()

def spec_l2Yield_n3 (R0 : (List Int) → Int → Option Int) (x5159 : List Int) (x5160 : Int) (x5212 : Int) (x5213 : Int) : Option ((Int × Int) ⊕ Int) :=
  cond (decide (x5213 < (((List.length x5159 : Nat) : Int)))) ((idx x5159 x5213).bind fun (v5225 : Int) => cond (v5225 == x5160) ((R0 x5159 (IntKind.wrap .i64 (x5213 + 1))).bind fun (v5228 : Int) => some (Sum.inl ((ior .i64 x5212 v5228), (IntKind.wrap .i64 (x5213 + 1))))) (some (Sum.inl (x5212, (IntKind.wrap .i64 (x5213 + 1)))))) (some (Sum.inr x5212))

def spec_l2Yield_n4 (R0 : (List Int) → Int → Option Int) (x5159 : List Int) (x5160 : Int) (x5191 : Int) : Option (Int) :=
  nloop (fun (s : Int × Int) => ((spec_l2Yield_n3 R0 x5159 x5160 s.1 s.2).map (Sum.elim (fun (t : Int × Int) => Sum.inl (t.1, t.2)) (fun (t : Int) => Sum.inr t)) : Option ((Int × Int) ⊕ (Int)))) LL (x5191, 0)

def spec_l2Yield_n5 (R0 : (List Int) → Int → Option Int) (x5159 : List Int) (x5160 : Int) (x5191 : Int) : Option (Int) :=
  (spec_l2Yield_n4 R0 x5159 x5160 x5191).map (fun (t : Int) => t)

def spec_l2Yield_n6 (R0 : (List Int) → Int → Option Int) (x5159 : List Int) (x5160 : Int) (x5191 : Int) : Option (Int) :=
  (spec_l2Yield_n2 R0).bind (fun (t : Unit) => spec_l2Yield_n5 R0 x5159 x5160 x5191)

def spec_l2Yield_n7 (R0 : (List Int) → Int → Option Int) (x5212 : Int) : Option (Int) :=
  some x5212

def spec_l2Yield_n8 (R0 : (List Int) → Int → Option Int) (x5159 : List Int) (x5160 : Int) (x5191 : Int) : Option (Int) :=
  (spec_l2Yield_n6 R0 x5159 x5160 x5191).bind (fun (t : Int) => spec_l2Yield_n7 R0 t)

def spec_l2Yield_n9 (R0 : (List Int) → Int → Option Int) (x5159 : List Int) (x5160 : Int) : Option (Int) :=
  (spec_l2Yield_n1 R0 x5160).bind (fun (t : Int) => spec_l2Yield_n8 R0 x5159 x5160 t)

def spec_l2Yield_one (R0 : (List Int) → Int → Option Int) (x5159 : List Int) (x5160 : Int) : Option (Int) :=
  spec_l2Yield_n9 R0 x5159 x5160

def spec_l2Yield_knot : Nat → ((List Int) → Int → Option Int)
  | 0 => (fun _ _ => none)
  | n + 1 => (fun y0 y1 => spec_l2Yield_one (spec_l2Yield_knot n) y0 y1)

def spec_l2Yield_fuel (n : Nat) : (List Int) → Int → Option Int := (spec_l2Yield_knot n)

@[irreducible] def spec_l2Yield (x5159 : List Int) (x5160 : Int) : Option (Int) := spec_l2Yield_fuel RR x5159 x5160

/-! loop.example/headtrees/spec.l3Row -/

def spec_l3Row_n1 : Option (Unit) :=
  some ()

def spec_l3Row_n2 (x5241 : Int) : Option (Int ⊕ Int) :=
  (rem x5241 2).bind fun (v5244 : Int) => cond (v5244 == 0) ((quo .i64 x5241 2).bind fun (v5246 : Int) => some (Sum.inl v5246)) (some (Sum.inr x5241))

def spec_l3Row_n3 (x5235 : Int) : Option (Int) :=
  nloop (fun (s : Int) => ((spec_l3Row_n2 s).map (Sum.elim (fun (t : Int) => Sum.inl t) (fun (t : Int) => Sum.inr t)) : Option ((Int) ⊕ (Int)))) LL x5235

def spec_l3Row_n4 (x5235 : Int) : Option (Int) :=
  (spec_l3Row_n3 x5235).map (fun (t : Int) => t)

def spec_l3Row_n5 (x5241 : Int) : Option (Bool) :=
  some ((iand .i64 x5241 (IntKind.wrap .i64 (x5241 + 1))) == 0)

def spec_l3Row_n6 (x5235 : Int) : Option (Bool) :=
  (spec_l3Row_n4 x5235).bind (fun (t : Int) => spec_l3Row_n5 t)

def spec_l3Row_n7 (x5235 : Int) : Option (Bool) :=
  (spec_l3Row_n1).bind (fun (t : Unit) => spec_l3Row_n6 x5235)

@[irreducible] def spec_l3Row (x5235 : Int) : Option (Bool) :=
  spec_l3Row_n7 x5235

/-! loop.example/headtrees/spec.FlatOk -/

def spec_FlatOk_n1 : Option (Unit) :=
  some ()

def spec_FlatOk_n2 : Option (Unit) :=
  some ()

def spec_FlatOk_n3 (x5011 : List Int) (x5262 : Int) : Option (Int ⊕ Bool ⊕ Unit) :=
  cond (decide (x5262 ≤ (((List.length x5011 : Nat) : Int)))) ((spec_TreeOk x5011).bind fun (v5274 : Bool) => cond v5274 ((spec_l2Yield x5011 x5262).bind fun (v5275 : Int) => (spec_l3Row v5275).bind fun (v5276 : Bool) => cond (!v5276) (some (Sum.inr (Sum.inl false))) (some (Sum.inl (IntKind.wrap .i64 (x5262 + 1))))) (some (Sum.inr (Sum.inr ())))) (some (Sum.inr (Sum.inr ())))

def spec_FlatOk_n4 (x5011 : List Int) : Option (Bool ⊕ Unit) :=
  nloop (fun (s : Int) => ((spec_FlatOk_n3 x5011 s).map (Sum.elim (fun (t : Int) => Sum.inl t) (Sum.elim (fun (t : Bool) => Sum.inr (Sum.inl t)) (fun (t : Unit) => Sum.inr (Sum.inr t)))) : Option ((Int) ⊕ (Bool ⊕ Unit)))) LL 1

def spec_FlatOk_n5 (x5011 : List Int) : Option (Unit ⊕ Bool) :=
  (spec_FlatOk_n4 x5011).map (Sum.elim (fun (t : Bool) => (Sum.inr t)) (fun (t : Unit) => (Sum.inl ())))

def spec_FlatOk_n6 (x5011 : List Int) : Option (Unit ⊕ Bool) :=
  (spec_FlatOk_n2).bind (fun (t : Unit) => spec_FlatOk_n5 x5011)

def spec_FlatOk_n7 (x5011 : List Int) : Option (Bool) :=
  (spec_TreeOk x5011).bind fun (v5280 : Bool) => some v5280

def spec_FlatOk_n8 (x5011 : List Int) : Option (Bool) :=
  (spec_FlatOk_n6 x5011).bind (Sum.elim (fun (t : Unit) => spec_FlatOk_n7 x5011) (fun e => some ((fun (t : Bool) => t) e)))

def spec_FlatOk_n9 (x5011 : List Int) : Option (Bool) :=
  (spec_FlatOk_n1).bind (fun (t : Unit) => spec_FlatOk_n8 x5011)

@[irreducible] def spec_FlatOk (x5011 : List Int) : Option (Bool) :=
  spec_FlatOk_n9 x5011

/-! loop.example/headtrees/spec.l6Free -/

def spec_l6Free_n1 : Option (Unit) :=
  some ()

def spec_l6Free_n2 : Option (Unit) :=
  some ()

def spec_l6Free_n3 (x5324 : List Int) (x5325 : Int) (x5326 : List Bool) (x5344 : Int) : Option (Int ⊕ Bool ⊕ Unit) :=
  cond (decide (x5344 < (((List.length x5324 : Nat) : Int)))) ((idx x5324 x5344).bind fun (v5355 : Int) => cond (v5355 == x5325) ((idx x5326 x5344).bind fun (v5357 : Bool) => cond (!v5357) (some (Sum.inr (Sum.inl false))) (some (Sum.inl (IntKind.wrap .i64 (x5344 + 1))))) (some (Sum.inl (IntKind.wrap .i64 (x5344 + 1))))) (some (Sum.inr (Sum.inr ())))

def spec_l6Free_n4 (x5324 : List Int) (x5325 : Int) (x5326 : List Bool) : Option (Bool ⊕ Unit) :=
  nloop (fun (s : Int) => ((spec_l6Free_n3 x5324 x5325 x5326 s).map (Sum.elim (fun (t : Int) => Sum.inl t) (Sum.elim (fun (t : Bool) => Sum.inr (Sum.inl t)) (fun (t : Unit) => Sum.inr (Sum.inr t)))) : Option ((Int) ⊕ (Bool ⊕ Unit)))) LL 0

def spec_l6Free_n5 (x5324 : List Int) (x5325 : Int) (x5326 : List Bool) : Option (Unit ⊕ Bool) :=
  (spec_l6Free_n4 x5324 x5325 x5326).map (Sum.elim (fun (t : Bool) => (Sum.inr t)) (fun (t : Unit) => (Sum.inl ())))

def spec_l6Free_n6 (x5324 : List Int) (x5325 : Int) (x5326 : List Bool) : Option (Unit ⊕ Bool) :=
  (spec_l6Free_n2).bind (fun (t : Unit) => spec_l6Free_n5 x5324 x5325 x5326)

def spec_l6Free_n7 : Option (Bool) :=
  some true

def spec_l6Free_n8 (x5324 : List Int) (x5325 : Int) (x5326 : List Bool) : Option (Bool) :=
  (spec_l6Free_n6 x5324 x5325 x5326).bind (Sum.elim (fun (t : Unit) => spec_l6Free_n7) (fun e => some ((fun (t : Bool) => t) e)))

def spec_l6Free_n9 (x5324 : List Int) (x5325 : Int) (x5326 : List Bool) : Option (Bool) :=
  (spec_l6Free_n1).bind (fun (t : Unit) => spec_l6Free_n8 x5324 x5325 x5326)

@[irreducible] def spec_l6Free (x5324 : List Int) (x5325 : Int) (x5326 : List Bool) : Option (Bool) :=
  spec_l6Free_n9 x5324 x5325 x5326

/-! loop.example/headtrees/spec.MovesFor -/

def spec_MovesFor_n1 (x5010 : List Int) : Option (((List Bool)) ⊕ (ByteArray × Bool)) :=
  (spec_FlatOk x5010).bind fun (v5442 : Bool) => cond (!v5442) (some (Sum.inr (ByteArray.empty, false))) ((mk (((List.length x5010 : Nat) : Int)) (((List.length x5010 : Nat) : Int))).bind fun (v5445 : Nat) => some (Sum.inl (List.replicate v5445 false)))

def spec_MovesFor_n2 (x5010 : List Int) (x5844 : ByteArray) (x5845 : Int) (x5847 : List Int) : Option (Unit ⊕ ByteArray) :=
  cond (decide (x5845 ≤ (((List.length x5010 : Nat) : Int)))) (some (Sum.inl ())) (cond (decide ((((List.length x5847 : Nat) : Int)) > 1)) (some (Sum.inl ())) (some (Sum.inr x5844)))

def spec_MovesFor_n3 (x5010 : List Int) (x5844 : ByteArray) (x5845 : Int) (x5846 : List Bool) (x5847 : List Int) : Option ((ByteArray × Int × (List Bool) × (List Int))) :=
  cond (decide ((IntKind.wrap .i64 ((((List.length x5847 : Nat) : Int)) - 1)) ≥ 1)) ((inb (IntKind.wrap .i64 ((IntKind.wrap .i64 ((((List.length x5847 : Nat) : Int)) - 1)) - 1)) (List.length x5847)).bind fun (v6082 : Nat) => (x5847[v6082]?).bind fun (v6083 : Int) => (idx x5010 (IntKind.wrap .i64 (v6083 - 1))).bind fun (v6085 : Int) => (inb (IntKind.wrap .i64 ((((List.length x5847 : Nat) : Int)) - 1)) (List.length x5847)).bind fun (v6086 : Nat) => (x5847[v6086]?).bind fun (v6087 : Int) => cond (v6085 == v6087) ((inb (IntKind.wrap .i64 ((IntKind.wrap .i64 ((((List.length x5847 : Nat) : Int)) - 1)) - 1)) (List.length x5847)).bind fun (v6090 : Nat) => (x5847[v6090]?).bind fun (v6091 : Int) => (spec_l6Free x5010 v6091 x5846).bind fun (v6092 : Bool) => cond v6092 ((cat x5844 (ByteArray.mk #[76])).bind fun (v6093 : ByteArray) => (inb (IntKind.wrap .i64 ((IntKind.wrap .i64 ((((List.length x5847 : Nat) : Int)) - 1)) - 1)) (List.length x5847)).bind fun (v6095 : Nat) => (x5847[v6095]?).bind fun (v6096 : Int) => (inb (IntKind.wrap .i64 (v6096 - 1)) (List.length x5846)).bind fun (v6098 : Nat) => (inc (IntKind.wrap .i64 ((IntKind.wrap .i64 ((((List.length x5847 : Nat) : Int)) - 1)) - 1)) (List.length x5847)).bind fun (v6102 : Nat) => (inb (IntKind.wrap .i64 ((((List.length x5847 : Nat) : Int)) - 1)) (List.length x5847)).bind fun (v6104 : Nat) => (x5847[v6104]?).bind fun (v6105 : Int) => (room (List.length ((x5847.drop 0).take (v6102 - 0)))).bind fun (v6108 : Unit) => (room ((List.length ((x5847.drop 0).take (v6102 - 0))) + List.length ([v6105]))).bind fun (v6110 : Unit) => some (v6093, x5845, (x5846.set v6098 true), (((x5847.drop 0).take (v6102 - 0)) ++ ([v6105])))) (cond (decide ((IntKind.wrap .i64 ((((List.length x5847 : Nat) : Int)) - 1)) ≥ 1)) ((inb (IntKind.wrap .i64 ((((List.length x5847 : Nat) : Int)) - 1)) (List.length x5847)).bind fun (v6113 : Nat) => (x5847[v6113]?).bind fun (v6114 : Int) => (idx x5010 (IntKind.wrap .i64 (v6114 - 1))).bind fun (v6116 : Int) => (inb (IntKind.wrap .i64 ((IntKind.wrap .i64 ((((List.length x5847 : Nat) : Int)) - 1)) - 1)) (List.length x5847)).bind fun (v6118 : Nat) => (x5847[v6118]?).bind fun (v6119 : Int) => cond (v6116 == v6119) ((inb (IntKind.wrap .i64 ((((List.length x5847 : Nat) : Int)) - 1)) (List.length x5847)).bind fun (v6121 : Nat) => (x5847[v6121]?).bind fun (v6122 : Int) => (spec_l6Free x5010 v6122 x5846).bind fun (v6123 : Bool) => cond v6123 ((cat x5844 (ByteArray.mk #[82])).bind fun (v6124 : ByteArray) => (inb (IntKind.wrap .i64 ((((List.length x5847 : Nat) : Int)) - 1)) (List.length x5847)).bind fun (v6125 : Nat) => (x5847[v6125]?).bind fun (v6126 : Int) => (inb (IntKind.wrap .i64 (v6126 - 1)) (List.length x5846)).bind fun (v6128 : Nat) => (inc (IntKind.wrap .i64 ((((List.length x5847 : Nat) : Int)) - 1)) (List.length x5847)).bind fun (v6131 : Nat) => (room ((List.length ([] : List Int)) + List.length ((x5847.drop 0).take (v6131 - 0)))).bind fun (v6135 : Unit) => some (v6124, x5845, (x5846.set v6128 true), (([] : List Int) ++ ((x5847.drop 0).take (v6131 - 0))))) ((cat x5844 (ByteArray.mk #[83])).bind fun (v6137 : ByteArray) => (room ((List.length x5847) + List.length ([x5845]))).bind fun (v6140 : Unit) => some (v6137, (IntKind.wrap .i64 (x5845 + 1)), x5846, (x5847 ++ ([x5845]))))) ((cat x5844 (ByteArray.mk #[83])).bind fun (v6143 : ByteArray) => (room ((List.length x5847) + List.length ([x5845]))).bind fun (v6146 : Unit) => some (v6143, (IntKind.wrap .i64 (x5845 + 1)), x5846, (x5847 ++ ([x5845]))))) ((cat x5844 (ByteArray.mk #[83])).bind fun (v6149 : ByteArray) => (room ((List.length x5847) + List.length ([x5845]))).bind fun (v6152 : Unit) => some (v6149, (IntKind.wrap .i64 (x5845 + 1)), x5846, (x5847 ++ ([x5845])))))) (cond (decide ((IntKind.wrap .i64 ((((List.length x5847 : Nat) : Int)) - 1)) ≥ 1)) ((inb (IntKind.wrap .i64 ((((List.length x5847 : Nat) : Int)) - 1)) (List.length x5847)).bind fun (v6156 : Nat) => (x5847[v6156]?).bind fun (v6157 : Int) => (idx x5010 (IntKind.wrap .i64 (v6157 - 1))).bind fun (v6159 : Int) => (inb (IntKind.wrap .i64 ((IntKind.wrap .i64 ((((List.length x5847 : Nat) : Int)) - 1)) - 1)) (List.length x5847)).bind fun (v6161 : Nat) => (x5847[v6161]?).bind fun (v6162 : Int) => cond (v6159 == v6162) ((inb (IntKind.wrap .i64 ((((List.length x5847 : Nat) : Int)) - 1)) (List.length x5847)).bind fun (v6164 : Nat) => (x5847[v6164]?).bind fun (v6165 : Int) => (spec_l6Free x5010 v6165 x5846).bind fun (v6166 : Bool) => cond v6166 ((cat x5844 (ByteArray.mk #[82])).bind fun (v6167 : ByteArray) => (inb (IntKind.wrap .i64 ((((List.length x5847 : Nat) : Int)) - 1)) (List.length x5847)).bind fun (v6168 : Nat) => (x5847[v6168]?).bind fun (v6169 : Int) => (inb (IntKind.wrap .i64 (v6169 - 1)) (List.length x5846)).bind fun (v6171 : Nat) => (inc (IntKind.wrap .i64 ((((List.length x5847 : Nat) : Int)) - 1)) (List.length x5847)).bind fun (v6174 : Nat) => (room ((List.length ([] : List Int)) + List.length ((x5847.drop 0).take (v6174 - 0)))).bind fun (v6178 : Unit) => some (v6167, x5845, (x5846.set v6171 true), (([] : List Int) ++ ((x5847.drop 0).take (v6174 - 0))))) ((cat x5844 (ByteArray.mk #[83])).bind fun (v6180 : ByteArray) => (room ((List.length x5847) + List.length ([x5845]))).bind fun (v6183 : Unit) => some (v6180, (IntKind.wrap .i64 (x5845 + 1)), x5846, (x5847 ++ ([x5845]))))) ((cat x5844 (ByteArray.mk #[83])).bind fun (v6186 : ByteArray) => (room ((List.length x5847) + List.length ([x5845]))).bind fun (v6189 : Unit) => some (v6186, (IntKind.wrap .i64 (x5845 + 1)), x5846, (x5847 ++ ([x5845]))))) ((cat x5844 (ByteArray.mk #[83])).bind fun (v6192 : ByteArray) => (room ((List.length x5847) + List.length ([x5845]))).bind fun (v6195 : Unit) => some (v6192, (IntKind.wrap .i64 (x5845 + 1)), x5846, (x5847 ++ ([x5845])))))) (cond (decide ((IntKind.wrap .i64 ((((List.length x5847 : Nat) : Int)) - 1)) ≥ 1)) ((inb (IntKind.wrap .i64 ((((List.length x5847 : Nat) : Int)) - 1)) (List.length x5847)).bind fun (v6199 : Nat) => (x5847[v6199]?).bind fun (v6200 : Int) => (idx x5010 (IntKind.wrap .i64 (v6200 - 1))).bind fun (v6202 : Int) => (inb (IntKind.wrap .i64 ((IntKind.wrap .i64 ((((List.length x5847 : Nat) : Int)) - 1)) - 1)) (List.length x5847)).bind fun (v6204 : Nat) => (x5847[v6204]?).bind fun (v6205 : Int) => cond (v6202 == v6205) ((inb (IntKind.wrap .i64 ((((List.length x5847 : Nat) : Int)) - 1)) (List.length x5847)).bind fun (v6207 : Nat) => (x5847[v6207]?).bind fun (v6208 : Int) => (spec_l6Free x5010 v6208 x5846).bind fun (v6209 : Bool) => cond v6209 ((cat x5844 (ByteArray.mk #[82])).bind fun (v6210 : ByteArray) => (inb (IntKind.wrap .i64 ((((List.length x5847 : Nat) : Int)) - 1)) (List.length x5847)).bind fun (v6211 : Nat) => (x5847[v6211]?).bind fun (v6212 : Int) => (inb (IntKind.wrap .i64 (v6212 - 1)) (List.length x5846)).bind fun (v6214 : Nat) => (inc (IntKind.wrap .i64 ((((List.length x5847 : Nat) : Int)) - 1)) (List.length x5847)).bind fun (v6217 : Nat) => (room ((List.length ([] : List Int)) + List.length ((x5847.drop 0).take (v6217 - 0)))).bind fun (v6221 : Unit) => some (v6210, x5845, (x5846.set v6214 true), (([] : List Int) ++ ((x5847.drop 0).take (v6217 - 0))))) ((cat x5844 (ByteArray.mk #[83])).bind fun (v6223 : ByteArray) => (room ((List.length x5847) + List.length ([x5845]))).bind fun (v6226 : Unit) => some (v6223, (IntKind.wrap .i64 (x5845 + 1)), x5846, (x5847 ++ ([x5845]))))) ((cat x5844 (ByteArray.mk #[83])).bind fun (v6229 : ByteArray) => (room ((List.length x5847) + List.length ([x5845]))).bind fun (v6232 : Unit) => some (v6229, (IntKind.wrap .i64 (x5845 + 1)), x5846, (x5847 ++ ([x5845]))))) ((cat x5844 (ByteArray.mk #[83])).bind fun (v6235 : ByteArray) => (room ((List.length x5847) + List.length ([x5845]))).bind fun (v6238 : Unit) => some (v6235, (IntKind.wrap .i64 (x5845 + 1)), x5846, (x5847 ++ ([x5845])))))

def spec_MovesFor_n4 (x5010 : List Int) (x5844 : ByteArray) (x5845 : Int) (x5846 : List Bool) (x5847 : List Int) : Option ((ByteArray × Int × (List Bool) × (List Int)) ⊕ ByteArray) :=
  (spec_MovesFor_n2 x5010 x5844 x5845 x5847).bind (Sum.elim (fun (t : Unit) => (spec_MovesFor_n3 x5010 x5844 x5845 x5846 x5847).map (fun (t : ByteArray × Int × (List Bool) × (List Int)) => (Sum.inl (t.1, t.2.1, t.2.2.1, t.2.2.2)))) (fun e => some ((fun (t : ByteArray) => (Sum.inr t)) e)))

def spec_MovesFor_n5 (x5010 : List Int) (x5446 : List Bool) : Option (ByteArray) :=
  nloop (fun (s : ByteArray × Int × (List Bool) × (List Int)) => ((spec_MovesFor_n4 x5010 s.1 s.2.1 s.2.2.1 s.2.2.2).map (Sum.elim (fun (t : ByteArray × Int × (List Bool) × (List Int)) => Sum.inl (t.1, t.2.1, t.2.2.1, t.2.2.2)) (fun (t : ByteArray) => Sum.inr t)) : Option ((ByteArray × Int × (List Bool) × (List Int)) ⊕ (ByteArray)))) LL (ByteArray.empty, 1, x5446, ([] : List Int))

def spec_MovesFor_n6 (x5010 : List Int) (x5446 : List Bool) : Option (ByteArray) :=
  (spec_MovesFor_n5 x5010 x5446).map (fun (t : ByteArray) => t)

def spec_MovesFor_n7 (x5844 : ByteArray) : Option ((ByteArray × Bool)) :=
  some (x5844, true)

def spec_MovesFor_n8 (x5010 : List Int) (x5446 : List Bool) : Option ((ByteArray × Bool)) :=
  (spec_MovesFor_n6 x5010 x5446).bind (fun (t : ByteArray) => spec_MovesFor_n7 t)

def spec_MovesFor_n9 (x5010 : List Int) : Option ((ByteArray × Bool)) :=
  (spec_MovesFor_n1 x5010).bind (Sum.elim (fun (t : (List Bool)) => spec_MovesFor_n8 x5010 t) (fun e => some ((fun (t : ByteArray × Bool) => t) e)))

@[irreducible] def spec_MovesFor (x5010 : List Int) : Option (ByteArray × Bool) :=
  spec_MovesFor_n9 x5010

/-! loop.example/headtrees/laws.FnMovesFor -/

def laws_FnMovesFor_n1 (x4210 : List Int) : Option ((ByteArray × (List Int)) ⊕ Bool) :=
  cond (decide ((((List.length x4210 : Nat) : Int)) > 1048576)) (some (Sum.inr true)) ((spec_DrawMovesFor x4210).bind fun (v6295 : List Int) => (impl_MovesFor v6295).bind fun (v6296 : ByteArray × Bool) => (spec_MovesFor v6295).bind fun (v6299 : ByteArray × Bool) => cond (!(seqs (v6296.1) (v6299.1))) (some (Sum.inr false)) (cond ((v6296.2) != (v6299.2)) (some (Sum.inr false)) (cond (!(v6296.2)) (cond (seqs (v6296.1) ByteArray.empty) ((impl_FlatOk v6295).bind fun (v6306 : Bool) => cond (!v6306) ((laws_alive).bind fun (v6308 : Bool) => some (Sum.inr v6308)) (some (Sum.inr false))) (some (Sum.inr false))) (some (Sum.inl ((v6296.1), v6295))))))

def laws_FnMovesFor_n2 : Option (Unit) :=
  some ()

def laws_FnMovesFor_n3 (x6297 : ByteArray) (x6340 : Int) (x6341 : Int) (x6342 : Int) : Option ((Int × Int × Int) ⊕ (Int × Int)) :=
  cond (decide (x6342 < (((ByteArray.size x6297 : Nat) : Int)))) ((bidx x6297 x6342).bind fun (v6358 : Int) => cond (v6358 == 83) ((bidx x6297 x6342).bind fun (v6361 : Int) => cond (v6361 == 76) (some (Sum.inl ((IntKind.wrap .i64 (x6340 + 1)), (IntKind.wrap .i64 (x6341 + 1)), (IntKind.wrap .i64 (x6342 + 1))))) (some (Sum.inl ((IntKind.wrap .i64 (x6340 + 1)), x6341, (IntKind.wrap .i64 (x6342 + 1)))))) ((bidx x6297 x6342).bind fun (v6366 : Int) => cond (v6366 == 76) (some (Sum.inl (x6340, (IntKind.wrap .i64 (x6341 + 1)), (IntKind.wrap .i64 (x6342 + 1))))) (some (Sum.inl (x6340, x6341, (IntKind.wrap .i64 (x6342 + 1))))))) (some (Sum.inr (x6340, x6341)))

def laws_FnMovesFor_n4 (x6297 : ByteArray) : Option ((Int × Int)) :=
  nloop (fun (s : Int × Int × Int) => ((laws_FnMovesFor_n3 x6297 s.1 s.2.1 s.2.2).map (Sum.elim (fun (t : Int × Int × Int) => Sum.inl (t.1, t.2.1, t.2.2)) (fun (t : Int × Int) => Sum.inr t)) : Option ((Int × Int × Int) ⊕ ((Int × Int))))) LL (0, 0, 0)

def laws_FnMovesFor_n5 (x6297 : ByteArray) : Option ((Int × Int)) :=
  (laws_FnMovesFor_n4 x6297).map (fun (t : Int × Int) => (t.1, t.2))

def laws_FnMovesFor_n6 (x6297 : ByteArray) : Option ((Int × Int)) :=
  (laws_FnMovesFor_n2).bind (fun (t : Unit) => laws_FnMovesFor_n5 x6297)

def laws_FnMovesFor_n7 : Option (Unit) :=
  some ()

def laws_FnMovesFor_n8 : Option (Unit) :=
  some ()

def laws_FnMovesFor_n9 (x6394 : Int) (x6395 : Int) (x6295 : List Int) : Option ((Int × Int) ⊕ Int) :=
  cond (decide (x6395 < (((List.length x6295 : Nat) : Int)))) ((inb x6395 (List.length x6295)).bind fun (v6407 : Nat) => (x6295[v6407]?).bind fun (v6408 : Int) => cond (decide (v6408 > (IntKind.wrap .i64 (x6395 + 1)))) (some (Sum.inl ((IntKind.wrap .i64 (x6394 + 1)), (IntKind.wrap .i64 (x6395 + 1))))) (some (Sum.inl (x6394, (IntKind.wrap .i64 (x6395 + 1)))))) (some (Sum.inr x6394))

def laws_FnMovesFor_n10 (x6295 : List Int) : Option (Int) :=
  nloop (fun (s : Int × Int) => ((laws_FnMovesFor_n9 s.1 s.2 x6295).map (Sum.elim (fun (t : Int × Int) => Sum.inl (t.1, t.2)) (fun (t : Int) => Sum.inr t)) : Option ((Int × Int) ⊕ (Int)))) LL (0, 0)

def laws_FnMovesFor_n11 (x6295 : List Int) : Option (Int) :=
  (laws_FnMovesFor_n10 x6295).map (fun (t : Int) => t)

def laws_FnMovesFor_n12 (x6295 : List Int) : Option (Int) :=
  (laws_FnMovesFor_n8).bind (fun (t : Unit) => laws_FnMovesFor_n11 x6295)

def laws_FnMovesFor_n13 (x6297 : ByteArray) (x6340 : Int) (x6341 : Int) (x6394 : Int) (x6295 : List Int) : Option (Bool) :=
  (impl_RunStack (((List.length x6295 : Nat) : Int)) x6297).bind fun (v6434 : Bool × (List Int)) => cond (v6434.1) ((laws_sameInts (v6434.2) x6295).bind fun (v6437 : Bool) => cond v6437 (cond (x6340 == (((List.length x6295 : Nat) : Int))) (cond (x6341 == x6394) (some ((((ByteArray.size x6297 : Nat) : Int)) == (IntKind.wrap .i64 ((IntKind.wrap .i64 (2 * (((List.length x6295 : Nat) : Int)))) - 1)))) (some false)) (some false)) (some false)) (some false)

def laws_FnMovesFor_n14 (x6297 : ByteArray) (x6340 : Int) (x6341 : Int) (x6295 : List Int) : Option (Bool) :=
  (laws_FnMovesFor_n12 x6295).bind (fun (t : Int) => laws_FnMovesFor_n13 x6297 x6340 x6341 t x6295)

def laws_FnMovesFor_n15 (x6297 : ByteArray) (x6340 : Int) (x6341 : Int) (x6295 : List Int) : Option (Bool) :=
  (laws_FnMovesFor_n7).bind (fun (t : Unit) => laws_FnMovesFor_n14 x6297 x6340 x6341 x6295)

def laws_FnMovesFor_n16 (x6297 : ByteArray) (x6295 : List Int) : Option (Bool) :=
  (laws_FnMovesFor_n6 x6297).bind (fun (t : Int × Int) => laws_FnMovesFor_n15 x6297 t.1 t.2 x6295)

def laws_FnMovesFor_n17 (x4210 : List Int) : Option (Bool) :=
  (laws_FnMovesFor_n1 x4210).bind (Sum.elim (fun (t : ByteArray × (List Int)) => laws_FnMovesFor_n16 t.1 t.2) (fun e => some ((fun (t : Bool) => t) e)))

@[irreducible] def laws_FnMovesFor (x4210 : List Int) : Option (Bool) :=
  laws_FnMovesFor_n17 x4210

/-! loop.example/headtrees/laws.toIntS -/

def laws_toIntS_n1 (x6453 : List Int) : Option (((List Int))) :=
  (mk (((List.length x6453 : Nat) : Int)) (((List.length x6453 : Nat) : Int))).bind fun (v6455 : Nat) => some (List.replicate v6455 (0 : Int))

def laws_toIntS_n2 : Option (Unit) :=
  some ()

def laws_toIntS_n3 (x6453 : List Int) (x6470 : Int) (x6471 : List Int) : Option ((Int × (List Int)) ⊕ ((List Int))) :=
  cond (decide (x6470 < (((List.length x6453 : Nat) : Int)))) ((idx x6453 x6470).bind fun (v6481 : Int) => (inb x6470 (List.length x6471)).bind fun (v6482 : Nat) => some (Sum.inl ((IntKind.wrap .i64 (x6470 + 1)), (x6471.set v6482 v6481)))) (some (Sum.inr x6471))

def laws_toIntS_n4 (x6453 : List Int) (x6456 : List Int) : Option (((List Int))) :=
  nloop (fun (s : Int × (List Int)) => ((laws_toIntS_n3 x6453 s.1 s.2).map (Sum.elim (fun (t : Int × (List Int)) => Sum.inl (t.1, t.2)) (fun (t : (List Int)) => Sum.inr t)) : Option ((Int × (List Int)) ⊕ (((List Int)))))) LL (0, x6456)

def laws_toIntS_n5 (x6453 : List Int) (x6456 : List Int) : Option (((List Int))) :=
  (laws_toIntS_n4 x6453 x6456).map (fun (t : (List Int)) => t)

def laws_toIntS_n6 (x6453 : List Int) (x6456 : List Int) : Option (((List Int))) :=
  (laws_toIntS_n2).bind (fun (t : Unit) => laws_toIntS_n5 x6453 x6456)

def laws_toIntS_n7 (x6471 : List Int) : Option (((List Int))) :=
  some x6471

def laws_toIntS_n8 (x6453 : List Int) (x6456 : List Int) : Option (((List Int))) :=
  (laws_toIntS_n6 x6453 x6456).bind (fun (t : (List Int)) => laws_toIntS_n7 t)

def laws_toIntS_n9 (x6453 : List Int) : Option (((List Int))) :=
  (laws_toIntS_n1 x6453).bind (fun (t : (List Int)) => laws_toIntS_n8 x6453 t)

@[irreducible] def laws_toIntS (x6453 : List Int) : Option ((List Int)) :=
  laws_toIntS_n9 x6453

/-! loop.example/headtrees/laws.eqIntS -/

def laws_eqIntS_n1 (x6531 : List Int) (x6532 : List Int) : Option (Unit ⊕ Bool) :=
  cond ((((List.length x6531 : Nat) : Int)) != (((List.length x6532 : Nat) : Int))) (some (Sum.inr false)) (some (Sum.inl ()))

def laws_eqIntS_n2 : Option (Unit) :=
  some ()

def laws_eqIntS_n3 (x6531 : List Int) (x6532 : List Int) (x6549 : Int) : Option (Int ⊕ Bool ⊕ Unit) :=
  cond (decide (x6549 < (((List.length x6531 : Nat) : Int)))) ((idx x6531 x6549).bind fun (v6559 : Int) => (idx x6532 x6549).bind fun (v6560 : Int) => cond (v6559 != v6560) (some (Sum.inr (Sum.inl false))) (some (Sum.inl (IntKind.wrap .i64 (x6549 + 1))))) (some (Sum.inr (Sum.inr ())))

def laws_eqIntS_n4 (x6531 : List Int) (x6532 : List Int) : Option (Bool ⊕ Unit) :=
  nloop (fun (s : Int) => ((laws_eqIntS_n3 x6531 x6532 s).map (Sum.elim (fun (t : Int) => Sum.inl t) (Sum.elim (fun (t : Bool) => Sum.inr (Sum.inl t)) (fun (t : Unit) => Sum.inr (Sum.inr t)))) : Option ((Int) ⊕ (Bool ⊕ Unit)))) LL 0

def laws_eqIntS_n5 (x6531 : List Int) (x6532 : List Int) : Option (Unit ⊕ Bool) :=
  (laws_eqIntS_n4 x6531 x6532).map (Sum.elim (fun (t : Bool) => (Sum.inr t)) (fun (t : Unit) => (Sum.inl ())))

def laws_eqIntS_n6 (x6531 : List Int) (x6532 : List Int) : Option (Unit ⊕ Bool) :=
  (laws_eqIntS_n2).bind (fun (t : Unit) => laws_eqIntS_n5 x6531 x6532)

def laws_eqIntS_n7 : Option (Bool) :=
  some true

def laws_eqIntS_n8 (x6531 : List Int) (x6532 : List Int) : Option (Bool) :=
  (laws_eqIntS_n6 x6531 x6532).bind (Sum.elim (fun (t : Unit) => laws_eqIntS_n7) (fun e => some ((fun (t : Bool) => t) e)))

def laws_eqIntS_n9 (x6531 : List Int) (x6532 : List Int) : Option (Bool) :=
  (laws_eqIntS_n1 x6531 x6532).bind (Sum.elim (fun (t : Unit) => laws_eqIntS_n8 x6531 x6532) (fun e => some ((fun (t : Bool) => t) e)))

@[irreducible] def laws_eqIntS (x6531 : List Int) (x6532 : List Int) : Option (Bool) :=
  laws_eqIntS_n9 x6531 x6532

/-! loop.example/headtrees/laws.FnExactMovesFor -/

def laws_FnExactMovesFor_n1 (x6448 : List Int) : Option (Bool) :=
  cond (decide ((((List.length x6448 : Nat) : Int)) > 1048576)) (some true) ((laws_toIntS x6448).bind fun (v6583 : List Int) => (spec_MovesFor v6583).bind fun (v6584 : ByteArray × Bool) => (laws_toIntS x6448).bind fun (v6587 : List Int) => (impl_MovesFor v6587).bind fun (v6588 : ByteArray × Bool) => cond (!(seqs (v6588.1) (v6584.1))) (some false) (cond ((v6588.2) != (v6584.2)) (some false) ((laws_toIntS x6448).bind fun (v6593 : List Int) => (laws_eqIntS v6587 v6593).bind fun (v6594 : Bool) => cond (!v6594) (some false) (some true))))

@[irreducible] def laws_FnExactMovesFor (x6448 : List Int) : Option (Bool) :=
  laws_FnExactMovesFor_n1 x6448

end Go.Rv
