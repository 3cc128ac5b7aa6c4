/-
  Plain functions, written by program for functions of the checked code. Conditions: none.
-/
import Derived.Test.YtgjhjbankpdcgaaDoorFB
set_option linter.unusedVariables false
namespace Go.Rv
def spec_l20Open_n1 (x13 : List Int) : Option (((List Int))) :=
  cond (decide ((((List.length x13 : Nat) : Int)) > 2000)) ((inc 2000 (List.length x13)).bind fun (v29 : Nat) => some ((x13.take v29).drop 0)) (some x13)

@[irreducible] def spec_l20Open (x13 : List Int) : Option ((List Int)) :=
  spec_l20Open_n1 x13

def spec_l20Rd_pick_n1 (x40 : Int) (x41 : List Int) (x42 : Int) : Option ((Int × Int)) :=
  cond (decide (x40 < 1)) (some (0, (IntKind.wrap .i64 (x42 + 1)))) (cond ((((List.length x41 : Nat) : Int)) == 0) (some (0, (IntKind.wrap .i64 (x42 + 1)))) (cond (decide ((IntKind.wrap .i64 ((IntKind.wrap .i64 (x42 + 1)) - 1)) < (((List.length x41 : Nat) : Int)))) ((idx x41 (IntKind.wrap .i64 ((IntKind.wrap .i64 (x42 + 1)) - 1))).bind fun (v169 : Int) => (rem (IntKind.wrap .i64 v169) x40).bind fun (v171 : Int) => some (v171, (IntKind.wrap .i64 (x42 + 1)))) ((rem (IntKind.wrap .i64 ((IntKind.wrap .i64 (x42 + 1)) - 1)) (((List.length x41 : Nat) : Int))).bind fun (v173 : Int) => (idx x41 v173).bind fun (v174 : Int) => (rem (IntKind.wrap .i64 ((IntKind.wrap .i64 ((IntKind.wrap .i64 ((IntKind.wrap .i64 (x42 + 1)) - 1)) * 7)) + 3)) (((List.length x41 : Nat) : Int))).bind fun (v180 : Int) => (idx x41 v180).bind fun (v181 : Int) => (quo .i64 (IntKind.wrap .i64 ((IntKind.wrap .i64 (x42 + 1)) - 1)) (((List.length x41 : Nat) : Int))).bind fun (v188 : Int) => (quo .i64 (IntKind.wrap .i64 ((IntKind.wrap .i64 ((IntKind.wrap .i64 ((IntKind.wrap .i64 ((IntKind.wrap .i64 v174) * 131)) + (IntKind.wrap .i64 ((IntKind.wrap .i64 v181) * 1117)))) + (IntKind.wrap .i64 ((IntKind.wrap .i64 ((IntKind.wrap .i64 (x42 + 1)) - 1)) * 29)))) + (IntKind.wrap .i64 (v188 * 53)))) 64).bind fun (v191 : Int) => (rem (ixor .i64 (IntKind.wrap .i64 ((IntKind.wrap .i64 ((IntKind.wrap .i64 ((IntKind.wrap .i64 ((IntKind.wrap .i64 v174) * 131)) + (IntKind.wrap .i64 ((IntKind.wrap .i64 v181) * 1117)))) + (IntKind.wrap .i64 ((IntKind.wrap .i64 ((IntKind.wrap .i64 (x42 + 1)) - 1)) * 29)))) + (IntKind.wrap .i64 (v188 * 53)))) v191) x40).bind fun (v193 : Int) => some (v193, (IntKind.wrap .i64 (x42 + 1))))))

@[irreducible] def spec_l20Rd_pick (x40 : Int) (x41 : List Int) (x42 : Int) : Option (Int × Int) :=
  spec_l20Rd_pick_n1 x40 x41 x42

def impl_oneRoot_n1 : Option (Unit) :=
  some ()

def impl_oneRoot_n2 (x840 : List Int) : Option (Int) :=
  some (((List.length x840 : Nat) : Int))

def impl_oneRoot_n3 (x840 : List Int) (x862 : Int) (x841 : Int) (x863 : Int) : Option ((Int × Int) ⊕ Bool ⊕ Int) :=
  cond (decide (x863 < x841)) ((idx x840 x863).bind fun (v874 : Int) => cond (decide (v874 < 0)) (some (Sum.inr (Sum.inl false))) (cond (decide (v874 > (((List.length x840 : Nat) : Int)))) (some (Sum.inr (Sum.inl false))) (cond (v874 == 0) (some (Sum.inl ((IntKind.wrap .i64 (x862 + 1)), (IntKind.wrap .i64 (x863 + 1))))) (some (Sum.inl (x862, (IntKind.wrap .i64 (x863 + 1)))))))) (some (Sum.inr (Sum.inr x862)))

def impl_oneRoot_n4 (x840 : List Int) (x841 : Int) : Option (Bool ⊕ Int) :=
  nloop (fun (s : Int × Int) => ((impl_oneRoot_n3 x840 s.1 x841 s.2).map (Sum.elim (fun (t : Int × Int) => Sum.inl (t.1, t.2)) (Sum.elim (fun (t : Bool) => Sum.inr (Sum.inl t)) (fun (t : Int) => Sum.inr (Sum.inr t)))) : Option ((Int × Int) ⊕ (Bool ⊕ Int)))) LL (0, 0)

def impl_oneRoot_n5 (x840 : List Int) (x841 : Int) : Option (Int ⊕ Bool) :=
  (impl_oneRoot_n4 x840 x841).map (Sum.elim (fun (t : Bool) => (Sum.inr t)) (fun (t : Int) => (Sum.inl t)))

def impl_oneRoot_n6 (x840 : List Int) : Option (Int ⊕ Bool) :=
  (impl_oneRoot_n2 x840).bind (fun (t : Int) => impl_oneRoot_n5 x840 t)

def impl_oneRoot_n7 (x862 : Int) : Option (Bool) :=
  some (x862 == 1)

def impl_oneRoot_n8 (x840 : List Int) : Option (Bool) :=
  (impl_oneRoot_n6 x840).bind (Sum.elim (fun (t : Int) => impl_oneRoot_n7 t) (fun e => some ((fun (t : Bool) => t) e)))

def impl_oneRoot_n9 (x840 : List Int) : Option (Bool) :=
  (impl_oneRoot_n1).bind (fun (t : Unit) => impl_oneRoot_n8 x840)

@[irreducible] def impl_oneRoot (x840 : List Int) : Option (Bool) :=
  impl_oneRoot_n9 x840

def impl_walker_up_n1 (x896 : List Int) (x897 : Int) (x898 : Int) : Option ((Bool × Int × Int)) :=
  (idx x896 (IntKind.wrap .i64 (x897 - 1))).bind fun (v916 : Int) => cond (v916 == 0) (some (false, x897, x898)) (some (true, v916, (IntKind.wrap .i64 (x898 + 1))))

@[irreducible] def impl_walker_up (x896 : List Int) (x897 : Int) (x898 : Int) : Option (Bool × Int × Int) :=
  impl_walker_up_n1 x896 x897 x898

def impl_stepsToRoot_n1 : Option (Unit) :=
  some ()

def impl_stepsToRoot_n2 (x894 : List Int) (x932 : Int) (x933 : Int) : Option ((Int × Int) ⊕ (Int × Bool) ⊕ (Int × Int)) :=
  (impl_walker_up x894 x932 x933).bind fun (v938 : Bool × Int × Int) => cond (v938.1) (cond (decide ((v938.2.2) ≥ (((List.length x894 : Nat) : Int)))) (some (Sum.inr (Sum.inl (0, false)))) (some (Sum.inl ((v938.2.1), (v938.2.2))))) (some (Sum.inr (Sum.inr ((v938.2.1), (v938.2.2)))))

def impl_stepsToRoot_n3 (x894 : List Int) (x895 : Int) : Option ((Int × Bool) ⊕ (Int × Int)) :=
  nloop (fun (s : Int × Int) => ((impl_stepsToRoot_n2 x894 s.1 s.2).map (Sum.elim (fun (t : Int × Int) => Sum.inl (t.1, t.2)) (Sum.elim (fun (t : Int × Bool) => Sum.inr (Sum.inl t)) (fun (t : Int × Int) => Sum.inr (Sum.inr t)))) : Option ((Int × Int) ⊕ ((Int × Bool) ⊕ (Int × Int))))) LL (x895, 0)

def impl_stepsToRoot_n4 (x894 : List Int) (x895 : Int) : Option ((Int × Int) ⊕ (Int × Bool)) :=
  (impl_stepsToRoot_n3 x894 x895).map (Sum.elim (fun (t : Int × Bool) => (Sum.inr t)) (fun (t : Int × Int) => (Sum.inl (t.1, t.2))))

def impl_stepsToRoot_n5 (x941 : Int) : Option ((Int × Bool)) :=
  some (x941, true)

def impl_stepsToRoot_n6 (x894 : List Int) (x895 : Int) : Option ((Int × Bool)) :=
  (impl_stepsToRoot_n4 x894 x895).bind (Sum.elim (fun (t : Int × Int) => impl_stepsToRoot_n5 t.2) (fun e => some ((fun (t : Int × Bool) => t) e)))

def impl_stepsToRoot_n7 (x894 : List Int) (x895 : Int) : Option ((Int × Bool)) :=
  (impl_stepsToRoot_n1).bind (fun (t : Unit) => impl_stepsToRoot_n6 x894 x895)

@[irreducible] def impl_stepsToRoot (x894 : List Int) (x895 : Int) : Option (Int × Bool) :=
  impl_stepsToRoot_n7 x894 x895

def impl_TreeOk_n1 (x834 : List Int) : Option (Unit ⊕ Bool) :=
  cond (decide ((((List.length x834 : Nat) : Int)) < 1)) (some (Sum.inr false)) (cond (decide ((((List.length x834 : Nat) : Int)) > 8)) (some (Sum.inr false)) ((impl_oneRoot x834).bind fun (v887 : Bool) => cond (!v887) (some (Sum.inr false)) (some (Sum.inl ()))))

def impl_TreeOk_n2 (x834 : List Int) : Option (Int) :=
  some (((List.length x834 : Nat) : Int))

def impl_TreeOk_n3 (x834 : List Int) (x889 : Int) (x957 : Int) : Option (Int ⊕ Bool ⊕ Unit) :=
  cond (decide (x957 < x889)) ((impl_stepsToRoot x834 (IntKind.wrap .i64 (x957 + 1))).bind fun (v968 : Int × Bool) => cond (!(v968.2)) (some (Sum.inr (Sum.inl false))) (some (Sum.inl (IntKind.wrap .i64 (x957 + 1))))) (some (Sum.inr (Sum.inr ())))

def impl_TreeOk_n4 (x834 : List Int) (x889 : Int) : Option (Bool ⊕ Unit) :=
  nloop (fun (s : Int) => ((impl_TreeOk_n3 x834 x889 s).map (Sum.elim (fun (t : Int) => Sum.inl t) (Sum.elim (fun (t : Bool) => Sum.inr (Sum.inl t)) (fun (t : Unit) => Sum.inr (Sum.inr t)))) : Option ((Int) ⊕ (Bool ⊕ Unit)))) LL 0

def impl_TreeOk_n5 (x834 : List Int) (x889 : Int) : Option (Unit ⊕ Bool) :=
  (impl_TreeOk_n4 x834 x889).map (Sum.elim (fun (t : Bool) => (Sum.inr t)) (fun (t : Unit) => (Sum.inl ())))

def impl_TreeOk_n6 (x834 : List Int) : Option (Unit ⊕ Bool) :=
  (impl_TreeOk_n2 x834).bind (fun (t : Int) => impl_TreeOk_n5 x834 t)

def impl_TreeOk_n7 : Option (Bool) :=
  some true

def impl_TreeOk_n8 (x834 : List Int) : Option (Bool) :=
  (impl_TreeOk_n6 x834).bind (Sum.elim (fun (t : Unit) => impl_TreeOk_n7) (fun e => some ((fun (t : Bool) => t) e)))

def impl_TreeOk_n9 (x834 : List Int) : Option (Bool) :=
  (impl_TreeOk_n1 x834).bind (Sum.elim (fun (t : Unit) => impl_TreeOk_n8 x834) (fun e => some ((fun (t : Bool) => t) e)))

@[irreducible] def impl_TreeOk (x834 : List Int) : Option (Bool) :=
  impl_TreeOk_n9 x834

def impl_only_n1 (x998 : Int) : Option (Int) :=
  (shl .u64 1 (IntKind.wrap .i64 (x998 - 1))).bind fun (v1002 : Int) => some v1002

@[irreducible] def impl_only (x998 : Int) : Option (Int) :=
  impl_only_n1 x998

def impl_dependents_n1 : Option (Unit) :=
  some ()

def impl_dependents_n2 (x989 : List Int) : Option (Int) :=
  some (((List.length x989 : Nat) : Int))

def impl_dependents_n3 (x989 : List Int) (x990 : Int) (x1015 : Int) (x991 : Int) (x1016 : Int) : Option ((Int × Int) ⊕ Int) :=
  cond (decide (x1016 < x991)) ((idx x989 x1016).bind fun (v1026 : Int) => cond (v1026 == x990) ((impl_only (IntKind.wrap .i64 (x1016 + 1))).bind fun (v1029 : Int) => some (Sum.inl ((ior .u64 x1015 v1029), (IntKind.wrap .i64 (x1016 + 1))))) (some (Sum.inl (x1015, (IntKind.wrap .i64 (x1016 + 1)))))) (some (Sum.inr x1015))

def impl_dependents_n4 (x989 : List Int) (x990 : Int) (x991 : Int) : Option (Int) :=
  nloop (fun (s : Int × Int) => ((impl_dependents_n3 x989 x990 s.1 x991 s.2).map (Sum.elim (fun (t : Int × Int) => Sum.inl (t.1, t.2)) (fun (t : Int) => Sum.inr t)) : Option ((Int × Int) ⊕ (Int)))) LL (0, 0)

def impl_dependents_n5 (x989 : List Int) (x990 : Int) (x991 : Int) : Option (Int) :=
  (impl_dependents_n4 x989 x990 x991).map (fun (t : Int) => t)

def impl_dependents_n6 (x989 : List Int) (x990 : Int) : Option (Int) :=
  (impl_dependents_n2 x989).bind (fun (t : Int) => impl_dependents_n5 x989 x990 t)

def impl_dependents_n7 (x1015 : Int) : Option (Int) :=
  some x1015

def impl_dependents_n8 (x989 : List Int) (x990 : Int) : Option (Int) :=
  (impl_dependents_n6 x989 x990).bind (fun (t : Int) => impl_dependents_n7 t)

def impl_dependents_n9 (x989 : List Int) (x990 : Int) : Option (Int) :=
  (impl_dependents_n1).bind (fun (t : Unit) => impl_dependents_n8 x989 x990)

@[irreducible] def impl_dependents (x989 : List Int) (x990 : Int) : Option (Int) :=
  impl_dependents_n9 x989 x990

def impl_before_n1 (x1037 : Int) : Option (Int) :=
  (impl_only x1037).bind fun (v1040 : Int) => some (IntKind.wrap .u64 (v1040 - 1))

@[irreducible] def impl_before (x1037 : Int) : Option (Int) :=
  impl_before_n1 x1037

def impl_dependentsBeside_n1 (x987 : List Int) (x988 : Int) : Option ((Int × Int)) :=
  (impl_dependents x987 x988).bind fun (v1046 : Int) => (impl_before x988).bind fun (v1047 : Int) => (impl_before x988).bind fun (v1049 : Int) => some ((iand .u64 v1046 v1047), (iandn .u64 v1046 v1049))

@[irreducible] def impl_dependentsBeside (x987 : List Int) (x988 : Int) : Option (Int × Int) :=
  impl_dependentsBeside_n1 x987 x988

def math_bits_OnesCount64_n1 (x1061 : Int) : Option (Int) :=
  (shr .u64 x1061 1).bind fun (v1062 : Int) => some (IntKind.wrap .u64 ((iand .u64 v1062 6148914691236517205) + (iand .u64 x1061 6148914691236517205)))

def math_bits_OnesCount64_n2 (x1066 : Int) : Option (Int) :=
  (shr .u64 x1066 2).bind fun (v1080 : Int) => some (IntKind.wrap .u64 ((iand .u64 v1080 3689348814741910323) + (iand .u64 x1066 3689348814741910323)))

def math_bits_OnesCount64_n3 (x1083 : Int) : Option (Int) :=
  (shr .u64 x1083 4).bind fun (v1088 : Int) => some (iand .u64 (IntKind.wrap .u64 (v1088 + x1083)) 1085102592571150095)

def math_bits_OnesCount64_n4 (x1090 : Int) : Option (Int) :=
  (shr .u64 x1090 8).bind fun (v1093 : Int) => some (IntKind.wrap .u64 (x1090 + v1093))

def math_bits_OnesCount64_n5 (x1094 : Int) : Option (Int) :=
  (shr .u64 x1094 16).bind fun (v1098 : Int) => some (IntKind.wrap .u64 (x1094 + v1098))

def math_bits_OnesCount64_n6 (x1099 : Int) : Option (Int) :=
  (shr .u64 x1099 32).bind fun (v1103 : Int) => some (IntKind.wrap .u64 (x1099 + v1103))

def math_bits_OnesCount64_n7 (x1104 : Int) : Option (Int) :=
  some (iand .i64 (IntKind.wrap .i64 x1104) 127)

def math_bits_OnesCount64_n8 (x1109 : Int) : Option (Int) :=
  some x1109

def math_bits_OnesCount64_n9 (x1104 : Int) : Option (Int) :=
  (math_bits_OnesCount64_n7 x1104).bind (fun (t : Int) => math_bits_OnesCount64_n8 t)

def math_bits_OnesCount64_n10 (x1099 : Int) : Option (Int) :=
  (math_bits_OnesCount64_n6 x1099).bind (fun (t : Int) => math_bits_OnesCount64_n9 t)

def math_bits_OnesCount64_n11 (x1094 : Int) : Option (Int) :=
  (math_bits_OnesCount64_n5 x1094).bind (fun (t : Int) => math_bits_OnesCount64_n10 t)

def math_bits_OnesCount64_n12 (x1090 : Int) : Option (Int) :=
  (math_bits_OnesCount64_n4 x1090).bind (fun (t : Int) => math_bits_OnesCount64_n11 t)

def math_bits_OnesCount64_n13 (x1083 : Int) : Option (Int) :=
  (math_bits_OnesCount64_n3 x1083).bind (fun (t : Int) => math_bits_OnesCount64_n12 t)

def math_bits_OnesCount64_n14 (x1066 : Int) : Option (Int) :=
  (math_bits_OnesCount64_n2 x1066).bind (fun (t : Int) => math_bits_OnesCount64_n13 t)

def math_bits_OnesCount64_n15 (x1061 : Int) : Option (Int) :=
  (math_bits_OnesCount64_n1 x1061).bind (fun (t : Int) => math_bits_OnesCount64_n14 t)

@[irreducible] def math_bits_OnesCount64 (x1061 : Int) : Option (Int) :=
  math_bits_OnesCount64_n15 x1061

def math_bits_OnesCount_n1 (x1060 : Int) : Option (Int) :=
  (math_bits_OnesCount64 x1060).bind fun (v1111 : Int) => some v1111

@[irreducible] def math_bits_OnesCount (x1060 : Int) : Option (Int) :=
  math_bits_OnesCount_n1 x1060

def impl_wordSet_count_n1 (x1059 : Int) : Option (Int) :=
  (math_bits_OnesCount x1059).bind fun (v1113 : Int) => some v1113

@[irreducible] def impl_wordSet_count (x1059 : Int) : Option (Int) :=
  impl_wordSet_count_n1 x1059

def spec_l1In_n1 (x1144 : Int) (x1145 : Int) (x1146 : Int) : Option (Bool) :=
  cond (decide (x1144 ≥ x1145)) (some (decide (x1144 ≤ x1146))) (some false)

@[irreducible] def spec_l1In (x1144 : Int) (x1145 : Int) (x1146 : Int) : Option (Bool) :=
  spec_l1In_n1 x1144 x1145 x1146

def laws_alive_n1 : Option (Bool) :=
  (impl_TreeOk ([0])).bind fun (v1472 : Bool) => cond v1472 ((impl_TreeOk ([1])).bind fun (v1474 : Bool) => some (!v1474)) (some false)

@[irreducible] def laws_alive : Option (Bool) :=
  laws_alive_n1

def math_bits_TrailingZeros64_n1 (x1559 : Int) : Option (Int) :=
  cond (x1559 == 0) (some 64) ((shr .u64 (IntKind.wrap .u64 ((iand .u64 x1559 (IntKind.wrap .u64 (0 - x1559))) * 285870213051353865)) 58).bind fun (v1576 : Int) => (same (List.length tab1) 64).bind fun (v1577 : Unit) => (idx tab1 v1576).bind fun (v1578 : Int) => some (IntKind.wrap .i64 v1578))

@[irreducible] def math_bits_TrailingZeros64 (x1559 : Int) : Option (Int) :=
  math_bits_TrailingZeros64_n1 x1559

def math_bits_TrailingZeros_n1 (x1558 : Int) : Option (Int) :=
  (math_bits_TrailingZeros64 x1558).bind fun (v1582 : Int) => some v1582

@[irreducible] def math_bits_TrailingZeros (x1558 : Int) : Option (Int) :=
  math_bits_TrailingZeros_n1 x1558

def impl_wordSet_list_n1 (x1552 : Int) : Option (((List Int))) :=
  (impl_wordSet_count x1552).bind fun (v1553 : Int) => (mk 0 v1553).bind fun (v1554 : Nat) => some (List.replicate v1554 (0 : Int))

def impl_wordSet_list_n2 : Option (Unit) :=
  some ()

def impl_wordSet_list_n3 (x1598 : Int) (x1599 : List Int) : Option ((Int × (List Int)) ⊕ ((List Int))) :=
  cond (x1598 != 0) ((math_bits_TrailingZeros x1598).bind fun (v1609 : Int) => (room ((List.length x1599) + List.length ([(IntKind.wrap .i64 (v1609 + 1))]))).bind fun (v1613 : Unit) => some (Sum.inl ((iand .u64 x1598 (IntKind.wrap .u64 (x1598 - 1))), (x1599 ++ ([(IntKind.wrap .i64 (v1609 + 1))]))))) (some (Sum.inr x1599))

def impl_wordSet_list_n4 (x1552 : Int) (x1555 : List Int) : Option (((List Int))) :=
  nloop (fun (s : Int × (List Int)) => ((impl_wordSet_list_n3 s.1 s.2).map (Sum.elim (fun (t : Int × (List Int)) => Sum.inl (t.1, t.2)) (fun (t : (List Int)) => Sum.inr t)) : Option ((Int × (List Int)) ⊕ (((List Int)))))) LL (x1552, x1555)

def impl_wordSet_list_n5 (x1552 : Int) (x1555 : List Int) : Option (((List Int))) :=
  (impl_wordSet_list_n4 x1552 x1555).map (fun (t : (List Int)) => t)

def impl_wordSet_list_n6 (x1552 : Int) (x1555 : List Int) : Option (((List Int))) :=
  (impl_wordSet_list_n2).bind (fun (t : Unit) => impl_wordSet_list_n5 x1552 x1555)

def impl_wordSet_list_n7 (x1599 : List Int) : Option (((List Int))) :=
  some x1599

def impl_wordSet_list_n8 (x1552 : Int) (x1555 : List Int) : Option (((List Int))) :=
  (impl_wordSet_list_n6 x1552 x1555).bind (fun (t : (List Int)) => impl_wordSet_list_n7 t)

def impl_wordSet_list_n9 (x1552 : Int) : Option (((List Int))) :=
  (impl_wordSet_list_n1 x1552).bind (fun (t : (List Int)) => impl_wordSet_list_n8 x1552 t)

@[irreducible] def impl_wordSet_list (x1552 : Int) : Option ((List Int)) :=
  impl_wordSet_list_n9 x1552

def spec_l4Flat_n1 (R0 : Int → Option Int) (R1 : Int → Option Int) : Option (Unit) :=
  some ()

def spec_l4Flat_n2 (R0 : Int → Option Int) (R1 : Int → Option Int) : Option (Unit) :=
  some ()

def spec_l4Flat_n3 (R0 : Int → Option Int) (R1 : Int → Option Int) (x1677 : Int) (x1780 : Int) (x1781 : Int) : Option ((Int × Int) ⊕ Int) :=
  cond (decide (x1781 < x1677)) ((R1 x1781).bind fun (v1791 : Int) => (R1 (IntKind.wrap .i64 ((IntKind.wrap .i64 (x1677 - 1)) - x1781))).bind fun (v1794 : Int) => some (Sum.inl ((IntKind.wrap .i64 (x1780 + (IntKind.wrap .i64 (v1791 * v1794)))), (IntKind.wrap .i64 (x1781 + 1))))) (some (Sum.inr x1780))

def spec_l4Flat_n4 (R0 : Int → Option Int) (R1 : Int → Option Int) (x1677 : Int) : Option (Int) :=
  nloop (fun (s : Int × Int) => ((spec_l4Flat_n3 R0 R1 x1677 s.1 s.2).map (Sum.elim (fun (t : Int × Int) => Sum.inl (t.1, t.2)) (fun (t : Int) => Sum.inr t)) : Option ((Int × Int) ⊕ (Int)))) LL (0, 0)

def spec_l4Flat_n5 (R0 : Int → Option Int) (R1 : Int → Option Int) (x1677 : Int) : Option (Int) :=
  (spec_l4Flat_n4 R0 R1 x1677).map (fun (t : Int) => t)

def spec_l4Flat_n6 (R0 : Int → Option Int) (R1 : Int → Option Int) (x1677 : Int) : Option (Int) :=
  (spec_l4Flat_n2 R0 R1).bind (fun (t : Unit) => spec_l4Flat_n5 R0 R1 x1677)

def spec_l4Flat_n7 (R0 : Int → Option Int) (R1 : Int → Option Int) (x1780 : Int) : Option (Int) :=
  some x1780

def spec_l4Flat_n8 (R0 : Int → Option Int) (R1 : Int → Option Int) (x1677 : Int) : Option (Int) :=
  (spec_l4Flat_n6 R0 R1 x1677).bind (fun (t : Int) => spec_l4Flat_n7 R0 R1 t)

def spec_l4Flat_n9 (R0 : Int → Option Int) (R1 : Int → Option Int) (x1677 : Int) : Option (Int) :=
  (spec_l4Flat_n1 R0 R1).bind (fun (t : Unit) => spec_l4Flat_n8 R0 R1 x1677)

def spec_l4Flat_one (R0 : Int → Option Int) (R1 : Int → Option Int) (x1677 : Int) : Option (Int) :=
  spec_l4Flat_n9 R0 R1 x1677

def spec_l4Rows_n1 (R0 : Int → Option Int) (R1 : Int → Option Int) (x1725 : Int) : Option (Unit ⊕ Int) :=
  cond (x1725 == 0) (some (Sum.inr 1)) (some (Sum.inl ()))

def spec_l4Rows_n2 (R0 : Int → Option Int) (R1 : Int → Option Int) : Option (Unit) :=
  some ()

def spec_l4Rows_n3 (R0 : Int → Option Int) (R1 : Int → Option Int) (x1725 : Int) (x1749 : Int) (x1750 : Int) : Option ((Int × Int) ⊕ Int) :=
  cond (decide (x1750 ≤ x1725)) ((R0 x1750).bind fun (v1759 : Int) => (R1 (IntKind.wrap .i64 (x1725 - x1750))).bind fun (v1761 : Int) => some (Sum.inl ((IntKind.wrap .i64 (x1749 + (IntKind.wrap .i64 (v1759 * v1761)))), (IntKind.wrap .i64 (x1750 + 1))))) (some (Sum.inr x1749))

def spec_l4Rows_n4 (R0 : Int → Option Int) (R1 : Int → Option Int) (x1725 : Int) : Option (Int) :=
  nloop (fun (s : Int × Int) => ((spec_l4Rows_n3 R0 R1 x1725 s.1 s.2).map (Sum.elim (fun (t : Int × Int) => Sum.inl (t.1, t.2)) (fun (t : Int) => Sum.inr t)) : Option ((Int × Int) ⊕ (Int)))) LL (0, 1)

def spec_l4Rows_n5 (R0 : Int → Option Int) (R1 : Int → Option Int) (x1725 : Int) : Option (Int) :=
  (spec_l4Rows_n4 R0 R1 x1725).map (fun (t : Int) => t)

def spec_l4Rows_n6 (R0 : Int → Option Int) (R1 : Int → Option Int) (x1725 : Int) : Option (Int) :=
  (spec_l4Rows_n2 R0 R1).bind (fun (t : Unit) => spec_l4Rows_n5 R0 R1 x1725)

def spec_l4Rows_n7 (R0 : Int → Option Int) (R1 : Int → Option Int) (x1749 : Int) : Option (Int) :=
  some x1749

def spec_l4Rows_n8 (R0 : Int → Option Int) (R1 : Int → Option Int) (x1725 : Int) : Option (Int) :=
  (spec_l4Rows_n6 R0 R1 x1725).bind (fun (t : Int) => spec_l4Rows_n7 R0 R1 t)

def spec_l4Rows_n9 (R0 : Int → Option Int) (R1 : Int → Option Int) (x1725 : Int) : Option (Int) :=
  (spec_l4Rows_n1 R0 R1 x1725).bind (Sum.elim (fun (t : Unit) => spec_l4Rows_n8 R0 R1 x1725) (fun e => some ((fun (t : Int) => t) e)))

def spec_l4Rows_one (R0 : Int → Option Int) (R1 : Int → Option Int) (x1725 : Int) : Option (Int) :=
  spec_l4Rows_n9 R0 R1 x1725

def spec_l4Flat_knot : Nat → (Int → Option Int) × (Int → Option Int)
  | 0 => ((fun _ => none), (fun _ => none))
  | n + 1 => ((fun y0 => spec_l4Flat_one (spec_l4Flat_knot n).1 (spec_l4Flat_knot n).2 y0), (fun y0 => spec_l4Rows_one (spec_l4Flat_knot n).1 (spec_l4Flat_knot n).2 y0))

def spec_l4Flat_fuel (n : Nat) : Int → Option Int := (spec_l4Flat_knot n).1

@[irreducible] def spec_l4Flat (x1677 : Int) : Option (Int) := spec_l4Flat_fuel RR x1677

def spec_l4Rows_fuel (n : Nat) : Int → Option Int := (spec_l4Flat_knot n).2

@[irreducible] def spec_l4Rows (x1725 : Int) : Option (Int) := spec_l4Rows_fuel RR x1725

def spec_CountFlat_n1 (x1671 : Int) : Option (Int) :=
  (spec_l1In x1671 1 6).bind fun (v1799 : Bool) => cond (!v1799) (some (-1)) ((spec_l4Flat x1671).bind fun (v1801 : Int) => some v1801)

@[irreducible] def spec_CountFlat (x1671 : Int) : Option (Int) :=
  spec_CountFlat_n1 x1671

def spec_DrawFlatAt_n1 (x1646 : List Int) : Option ((Int × Int)) :=
  (spec_l20Open x1646).bind fun (v1823 : List Int) => (spec_l20Rd_pick 5 v1823 0).bind fun (v1824 : Int × Int) => (spec_l20Rd_pick 20 v1823 (v1824.2)).bind fun (v1828 : Int × Int) => (quo .i64 (v1828.1) 19).bind fun (v1831 : Int) => (spec_CountFlat (IntKind.wrap .i64 ((IntKind.wrap .i64 (1 + (v1824.1))) + (IntKind.wrap .i64 (v1831 * 2))))).bind fun (v1834 : Int) => (spec_l20Rd_pick (imax v1834 1) v1823 (v1828.2)).bind fun (v1836 : Int × Int) => (spec_l20Rd_pick 30 v1823 (v1836.2)).bind fun (v1839 : Int × Int) => (quo .i64 (v1839.1) 29).bind fun (v1842 : Int) => (spec_l20Rd_pick 30 v1823 (v1839.2)).bind fun (v1845 : Int × Int) => (quo .i64 (v1845.1) 29).bind fun (v1848 : Int) => some ((IntKind.wrap .i64 ((IntKind.wrap .i64 (1 + (v1824.1))) + (IntKind.wrap .i64 (v1831 * 2)))), (IntKind.wrap .i64 ((IntKind.wrap .i64 ((v1836.1) - (IntKind.wrap .i64 (v1842 * 200)))) + (IntKind.wrap .i64 (v1848 * 900)))))

@[irreducible] def spec_DrawFlatAt (x1646 : List Int) : Option (Int × Int) :=
  spec_DrawFlatAt_n1 x1646

def impl_flatCounts_aroundRoots_n1 : Option (Unit) :=
  some ()

@[irreducible] def impl_flatCounts_aroundRoots (x1878 : Int) (x1879 : Int) (x1880 : Int) (x1881 : Int) (x1882 : Int) (x1883 : Int) (x1884 : Int) (x1885 : Int) (x1886 : Int) (x1887 : Int) (x1888 : Int) (x1889 : Int) (x1890 : Int) (x1891 : Int) : Option (Unit) :=
  impl_flatCounts_aroundRoots_n1

def impl_joins_below_n1 : Option (Unit) :=
  some ()

def impl_joins_below_n2 : Option (Unit) :=
  some ()

def impl_joins_below_n3 (x1924 : Int) (x1945 : Int) (x1925 : Int) (x1946 : Int) (x1910 : Int) (x1911 : Int) (x1912 : Int) (x1913 : Int) (x1914 : Int) (x1915 : Int) (x1916 : Int) (x1917 : Int) (x1918 : Int) (x1919 : Int) (x1920 : Int) (x1921 : Int) (x1922 : Int) (x1923 : Int) : Option ((Int × Int) ⊕ Int) :=
  cond (decide (x1946 < x1925)) ((inb x1946 7).bind fun (v1958 : Nat) => ([x1910, x1911, x1912, x1913, x1914, x1915, x1916, x1917, x1918, x1919, x1920, x1921, x1922, x1923][v1958]?).bind fun (v1959 : Int) => (inb (IntKind.wrap .i64 (x1924 - x1946)) 7).bind fun (v1961 : Nat) => ([x1917, x1918, x1919, x1920, x1921, x1922, x1923][v1961]?).bind fun (v1962 : Int) => some (Sum.inl ((IntKind.wrap .i64 (x1945 + (IntKind.wrap .i64 (v1959 * v1962)))), (IntKind.wrap .i64 (x1946 + 1))))) (some (Sum.inr x1945))

def impl_joins_below_n4 (x1924 : Int) (x1925 : Int) (x1910 : Int) (x1911 : Int) (x1912 : Int) (x1913 : Int) (x1914 : Int) (x1915 : Int) (x1916 : Int) (x1917 : Int) (x1918 : Int) (x1919 : Int) (x1920 : Int) (x1921 : Int) (x1922 : Int) (x1923 : Int) : Option (Int) :=
  nloop (fun (s : Int × Int) => ((impl_joins_below_n3 x1924 s.1 x1925 s.2 x1910 x1911 x1912 x1913 x1914 x1915 x1916 x1917 x1918 x1919 x1920 x1921 x1922 x1923).map (Sum.elim (fun (t : Int × Int) => Sum.inl (t.1, t.2)) (fun (t : Int) => Sum.inr t)) : Option ((Int × Int) ⊕ (Int)))) LL (0, 0)

def impl_joins_below_n5 (x1924 : Int) (x1925 : Int) (x1910 : Int) (x1911 : Int) (x1912 : Int) (x1913 : Int) (x1914 : Int) (x1915 : Int) (x1916 : Int) (x1917 : Int) (x1918 : Int) (x1919 : Int) (x1920 : Int) (x1921 : Int) (x1922 : Int) (x1923 : Int) : Option (Int) :=
  (impl_joins_below_n4 x1924 x1925 x1910 x1911 x1912 x1913 x1914 x1915 x1916 x1917 x1918 x1919 x1920 x1921 x1922 x1923).map (fun (t : Int) => t)

def impl_joins_below_n6 (x1924 : Int) (x1925 : Int) (x1910 : Int) (x1911 : Int) (x1912 : Int) (x1913 : Int) (x1914 : Int) (x1915 : Int) (x1916 : Int) (x1917 : Int) (x1918 : Int) (x1919 : Int) (x1920 : Int) (x1921 : Int) (x1922 : Int) (x1923 : Int) : Option (Int) :=
  (impl_joins_below_n2).bind (fun (t : Unit) => impl_joins_below_n5 x1924 x1925 x1910 x1911 x1912 x1913 x1914 x1915 x1916 x1917 x1918 x1919 x1920 x1921 x1922 x1923)

def impl_joins_below_n7 (x1945 : Int) : Option (Int) :=
  some x1945

def impl_joins_below_n8 (x1924 : Int) (x1925 : Int) (x1910 : Int) (x1911 : Int) (x1912 : Int) (x1913 : Int) (x1914 : Int) (x1915 : Int) (x1916 : Int) (x1917 : Int) (x1918 : Int) (x1919 : Int) (x1920 : Int) (x1921 : Int) (x1922 : Int) (x1923 : Int) : Option (Int) :=
  (impl_joins_below_n6 x1924 x1925 x1910 x1911 x1912 x1913 x1914 x1915 x1916 x1917 x1918 x1919 x1920 x1921 x1922 x1923).bind (fun (t : Int) => impl_joins_below_n7 t)

def impl_joins_below_n9 (x1910 : Int) (x1911 : Int) (x1912 : Int) (x1913 : Int) (x1914 : Int) (x1915 : Int) (x1916 : Int) (x1917 : Int) (x1918 : Int) (x1919 : Int) (x1920 : Int) (x1921 : Int) (x1922 : Int) (x1923 : Int) (x1924 : Int) (x1925 : Int) : Option (Int) :=
  (impl_joins_below_n1).bind (fun (t : Unit) => impl_joins_below_n8 x1924 x1925 x1910 x1911 x1912 x1913 x1914 x1915 x1916 x1917 x1918 x1919 x1920 x1921 x1922 x1923)

@[irreducible] def impl_joins_below (x1910 : Int) (x1911 : Int) (x1912 : Int) (x1913 : Int) (x1914 : Int) (x1915 : Int) (x1916 : Int) (x1917 : Int) (x1918 : Int) (x1919 : Int) (x1920 : Int) (x1921 : Int) (x1922 : Int) (x1923 : Int) (x1924 : Int) (x1925 : Int) : Option (Int) :=
  impl_joins_below_n9 x1910 x1911 x1912 x1913 x1914 x1915 x1916 x1917 x1918 x1919 x1920 x1921 x1922 x1923 x1924 x1925

def impl_joins_count_n1 (x1894 : Int) (x1895 : Int) (x1896 : Int) (x1897 : Int) (x1898 : Int) (x1899 : Int) (x1900 : Int) (x1901 : Int) (x1902 : Int) (x1903 : Int) (x1904 : Int) (x1905 : Int) (x1906 : Int) (x1907 : Int) (x1908 : Int) : Option (Int) :=
  (impl_joins_below x1894 x1895 x1896 x1897 x1898 x1899 x1900 x1901 x1902 x1903 x1904 x1905 x1906 x1907 x1908 (IntKind.wrap .i64 (x1908 + 1))).bind fun (v1968 : Int) => some v1968

@[irreducible] def impl_joins_count (x1894 : Int) (x1895 : Int) (x1896 : Int) (x1897 : Int) (x1898 : Int) (x1899 : Int) (x1900 : Int) (x1901 : Int) (x1902 : Int) (x1903 : Int) (x1904 : Int) (x1905 : Int) (x1906 : Int) (x1907 : Int) (x1908 : Int) : Option (Int) :=
  impl_joins_count_n1 x1894 x1895 x1896 x1897 x1898 x1899 x1900 x1901 x1902 x1903 x1904 x1905 x1906 x1907 x1908

def impl_flatCounts_inRows_n1 : Option (Unit) :=
  some ()

@[irreducible] def impl_flatCounts_inRows (x1986 : Int) (x1987 : Int) (x1988 : Int) (x1989 : Int) (x1990 : Int) (x1991 : Int) (x1992 : Int) (x1993 : Int) (x1994 : Int) (x1995 : Int) (x1996 : Int) (x1997 : Int) (x1998 : Int) (x1999 : Int) : Option (Unit) :=
  impl_flatCounts_inRows_n1

def impl_countFlatParts_n1 : Option ((Int × Int × Int × Int × Int × Int × Int)) :=
  (inb 0 7).bind fun (v1867 : Nat) => (within v1867 7).bind fun (v1875 : Unit) => some ((cond (v1867 == 0) 1 0), (cond (v1867 == 1) 1 0), (cond (v1867 == 2) 1 0), (cond (v1867 == 3) 1 0), (cond (v1867 == 4) 1 0), (cond (v1867 == 5) 1 0), (cond (v1867 == 6) 1 0))

def impl_countFlatParts_n2 : Option (Unit) :=
  some ()

def impl_countFlatParts_n3 (x2043 : Int) (x2044 : Int) (x2045 : Int) (x2046 : Int) (x2047 : Int) (x2048 : Int) (x2049 : Int) (x2050 : Int) (x2051 : Int) (x2052 : Int) (x2053 : Int) (x2054 : Int) (x2055 : Int) (x2056 : Int) (x2057 : Int) : Option ((Int × Int × Int × Int × Int × Int × Int × Int × Int × Int × Int × Int × Int × Int × Int) ⊕ (Int × Int × Int × Int × Int × Int × Int × Int × Int × Int × Int × Int × Int × Int)) :=
  cond (decide (x2043 ≤ 6)) ((impl_flatCounts_aroundRoots x2044 x2045 x2046 x2047 x2048 x2049 x2050 x2051 x2052 x2053 x2054 x2055 x2056 x2057).bind fun (v2091 : Unit) => (impl_joins_count x2051 x2052 x2053 x2054 x2055 x2056 x2057 x2051 x2052 x2053 x2054 x2055 x2056 x2057 (IntKind.wrap .i64 (x2043 - 1))).bind fun (v2093 : Int) => (inb x2043 7).bind fun (v2094 : Nat) => (within v2094 14).bind fun (v2109 : Unit) => (impl_flatCounts_inRows (cond (v2094 == 0) v2093 x2044) (cond (v2094 == 1) v2093 x2045) (cond (v2094 == 2) v2093 x2046) (cond (v2094 == 3) v2093 x2047) (cond (v2094 == 4) v2093 x2048) (cond (v2094 == 5) v2093 x2049) (cond (v2094 == 6) v2093 x2050) (cond (v2094 == 7) v2093 x2051) (cond (v2094 == 8) v2093 x2052) (cond (v2094 == 9) v2093 x2053) (cond (v2094 == 10) v2093 x2054) (cond (v2094 == 11) v2093 x2055) (cond (v2094 == 12) v2093 x2056) (cond (v2094 == 13) v2093 x2057)).bind fun (v2110 : Unit) => (impl_joins_count (cond (v2094 == 0) v2093 x2044) (cond (v2094 == 1) v2093 x2045) (cond (v2094 == 2) v2093 x2046) (cond (v2094 == 3) v2093 x2047) (cond (v2094 == 4) v2093 x2048) (cond (v2094 == 5) v2093 x2049) (cond (v2094 == 6) v2093 x2050) (cond (v2094 == 7) v2093 x2051) (cond (v2094 == 8) v2093 x2052) (cond (v2094 == 9) v2093 x2053) (cond (v2094 == 10) v2093 x2054) (cond (v2094 == 11) v2093 x2055) (cond (v2094 == 12) v2093 x2056) (cond (v2094 == 13) v2093 x2057) x2043).bind fun (v2111 : Int) => (inb x2043 7).bind fun (v2112 : Nat) => (within v2112 7).bind fun (v2120 : Unit) => some (Sum.inl ((IntKind.wrap .i64 (x2043 + 1)), (cond (v2094 == 0) v2093 x2044), (cond (v2094 == 1) v2093 x2045), (cond (v2094 == 2) v2093 x2046), (cond (v2094 == 3) v2093 x2047), (cond (v2094 == 4) v2093 x2048), (cond (v2094 == 5) v2093 x2049), (cond (v2094 == 6) v2093 x2050), (cond (v2112 == 0) v2111 (cond (v2094 == 7) v2093 x2051)), (cond (v2112 == 1) v2111 (cond (v2094 == 8) v2093 x2052)), (cond (v2112 == 2) v2111 (cond (v2094 == 9) v2093 x2053)), (cond (v2112 == 3) v2111 (cond (v2094 == 10) v2093 x2054)), (cond (v2112 == 4) v2111 (cond (v2094 == 11) v2093 x2055)), (cond (v2112 == 5) v2111 (cond (v2094 == 12) v2093 x2056)), (cond (v2112 == 6) v2111 (cond (v2094 == 13) v2093 x2057))))) (some (Sum.inr (x2044, x2045, x2046, x2047, x2048, x2049, x2050, x2051, x2052, x2053, x2054, x2055, x2056, x2057)))

def impl_countFlatParts_n4 (x1868 : Int) (x1869 : Int) (x1870 : Int) (x1871 : Int) (x1872 : Int) (x1873 : Int) (x1874 : Int) : Option ((Int × Int × Int × Int × Int × Int × Int × Int × Int × Int × Int × Int × Int × Int)) :=
  nloop (fun (s : Int × Int × Int × Int × Int × Int × Int × Int × Int × Int × Int × Int × Int × Int × Int) => ((impl_countFlatParts_n3 s.1 s.2.1 s.2.2.1 s.2.2.2.1 s.2.2.2.2.1 s.2.2.2.2.2.1 s.2.2.2.2.2.2.1 s.2.2.2.2.2.2.2.1 s.2.2.2.2.2.2.2.2.1 s.2.2.2.2.2.2.2.2.2.1 s.2.2.2.2.2.2.2.2.2.2.1 s.2.2.2.2.2.2.2.2.2.2.2.1 s.2.2.2.2.2.2.2.2.2.2.2.2.1 s.2.2.2.2.2.2.2.2.2.2.2.2.2.1 s.2.2.2.2.2.2.2.2.2.2.2.2.2.2).map (Sum.elim (fun (t : Int × Int × Int × Int × Int × Int × Int × Int × Int × Int × Int × Int × Int × Int × Int) => Sum.inl (t.1, t.2.1, t.2.2.1, t.2.2.2.1, t.2.2.2.2.1, t.2.2.2.2.2.1, t.2.2.2.2.2.2.1, t.2.2.2.2.2.2.2.1, t.2.2.2.2.2.2.2.2.1, t.2.2.2.2.2.2.2.2.2.1, t.2.2.2.2.2.2.2.2.2.2.1, t.2.2.2.2.2.2.2.2.2.2.2.1, t.2.2.2.2.2.2.2.2.2.2.2.2.1, t.2.2.2.2.2.2.2.2.2.2.2.2.2.1, t.2.2.2.2.2.2.2.2.2.2.2.2.2.2)) (fun (t : Int × Int × Int × Int × Int × Int × Int × Int × Int × Int × Int × Int × Int × Int) => Sum.inr t)) : Option ((Int × Int × Int × Int × Int × Int × Int × Int × Int × Int × Int × Int × Int × Int × Int) ⊕ ((Int × Int × Int × Int × Int × Int × Int × Int × Int × Int × Int × Int × Int × Int))))) LL (1, 0, 0, 0, 0, 0, 0, 0, x1868, x1869, x1870, x1871, x1872, x1873, x1874)

def impl_countFlatParts_n5 (x1868 : Int) (x1869 : Int) (x1870 : Int) (x1871 : Int) (x1872 : Int) (x1873 : Int) (x1874 : Int) : Option ((Int × Int × Int × Int × Int × Int × Int × Int × Int × Int × Int × Int × Int × Int)) :=
  (impl_countFlatParts_n4 x1868 x1869 x1870 x1871 x1872 x1873 x1874).map (fun (t : Int × Int × Int × Int × Int × Int × Int × Int × Int × Int × Int × Int × Int × Int) => (t.1, t.2.1, t.2.2.1, t.2.2.2.1, t.2.2.2.2.1, t.2.2.2.2.2.1, t.2.2.2.2.2.2.1, t.2.2.2.2.2.2.2.1, t.2.2.2.2.2.2.2.2.1, t.2.2.2.2.2.2.2.2.2.1, t.2.2.2.2.2.2.2.2.2.2.1, t.2.2.2.2.2.2.2.2.2.2.2.1, t.2.2.2.2.2.2.2.2.2.2.2.2.1, t.2.2.2.2.2.2.2.2.2.2.2.2.2))

def impl_countFlatParts_n6 (x1868 : Int) (x1869 : Int) (x1870 : Int) (x1871 : Int) (x1872 : Int) (x1873 : Int) (x1874 : Int) : Option ((Int × Int × Int × Int × Int × Int × Int × Int × Int × Int × Int × Int × Int × Int)) :=
  (impl_countFlatParts_n2).bind (fun (t : Unit) => impl_countFlatParts_n5 x1868 x1869 x1870 x1871 x1872 x1873 x1874)

def impl_countFlatParts_n7 (x2044 : Int) (x2045 : Int) (x2046 : Int) (x2047 : Int) (x2048 : Int) (x2049 : Int) (x2050 : Int) (x2051 : Int) (x2052 : Int) (x2053 : Int) (x2054 : Int) (x2055 : Int) (x2056 : Int) (x2057 : Int) : Option ((Int × Int × Int × Int × Int × Int × Int × Int × Int × Int × Int × Int × Int × Int)) :=
  some (x2044, x2045, x2046, x2047, x2048, x2049, x2050, x2051, x2052, x2053, x2054, x2055, x2056, x2057)

def impl_countFlatParts_n8 (x1868 : Int) (x1869 : Int) (x1870 : Int) (x1871 : Int) (x1872 : Int) (x1873 : Int) (x1874 : Int) : Option ((Int × Int × Int × Int × Int × Int × Int × Int × Int × Int × Int × Int × Int × Int)) :=
  (impl_countFlatParts_n6 x1868 x1869 x1870 x1871 x1872 x1873 x1874).bind (fun (t : Int × Int × Int × Int × Int × Int × Int × Int × Int × Int × Int × Int × Int × Int) => impl_countFlatParts_n7 t.1 t.2.1 t.2.2.1 t.2.2.2.1 t.2.2.2.2.1 t.2.2.2.2.2.1 t.2.2.2.2.2.2.1 t.2.2.2.2.2.2.2.1 t.2.2.2.2.2.2.2.2.1 t.2.2.2.2.2.2.2.2.2.1 t.2.2.2.2.2.2.2.2.2.2.1 t.2.2.2.2.2.2.2.2.2.2.2.1 t.2.2.2.2.2.2.2.2.2.2.2.2.1 t.2.2.2.2.2.2.2.2.2.2.2.2.2)

def impl_countFlatParts_n9 : Option ((Int × Int × Int × Int × Int × Int × Int × Int × Int × Int × Int × Int × Int × Int)) :=
  (impl_countFlatParts_n1).bind (fun (t : Int × Int × Int × Int × Int × Int × Int) => impl_countFlatParts_n8 t.1 t.2.1 t.2.2.1 t.2.2.2.1 t.2.2.2.2.1 t.2.2.2.2.2.1 t.2.2.2.2.2.2)

@[irreducible] def impl_countFlatParts : Option (Int × Int × Int × Int × Int × Int × Int × Int × Int × Int × Int × Int × Int × Int) :=
  impl_countFlatParts_n9

def impl_CountFlat_n1 (x1862 : Int) : Option (Int) :=
  cond (decide (x1862 < 1)) (some (-1)) (cond (decide (x1862 > 6)) (some (-1)) ((impl_countFlatParts).bind fun (v2140 : Int × Int × Int × Int × Int × Int × Int × Int × Int × Int × Int × Int × Int × Int) => (idx [(v2140.1), (v2140.2.1), (v2140.2.2.1), (v2140.2.2.2.1), (v2140.2.2.2.2.1), (v2140.2.2.2.2.2.1), (v2140.2.2.2.2.2.2.1)] x1862).bind fun (v2155 : Int) => some v2155))

@[irreducible] def impl_CountFlat (x1862 : Int) : Option (Int) :=
  impl_CountFlat_n1 x1862

def impl_joins_partsOf_n1 : Option (Unit) :=
  some ()

def impl_joins_partsOf_n2 (x2219 : Int) (x2220 : Int) (x2228 : Int) (x2205 : Int) (x2206 : Int) (x2207 : Int) (x2208 : Int) (x2209 : Int) (x2210 : Int) (x2211 : Int) (x2212 : Int) (x2213 : Int) (x2214 : Int) (x2215 : Int) (x2216 : Int) (x2217 : Int) (x2218 : Int) : Option (Int ⊕ Int) :=
  (impl_joins_below x2205 x2206 x2207 x2208 x2209 x2210 x2211 x2212 x2213 x2214 x2215 x2216 x2217 x2218 x2219 (IntKind.wrap .i64 (x2228 + 1))).bind fun (v2233 : Int) => cond (decide (v2233 ≤ x2220)) (some (Sum.inl (IntKind.wrap .i64 (x2228 + 1)))) (some (Sum.inr x2228))

def impl_joins_partsOf_n3 (x2219 : Int) (x2220 : Int) (x2205 : Int) (x2206 : Int) (x2207 : Int) (x2208 : Int) (x2209 : Int) (x2210 : Int) (x2211 : Int) (x2212 : Int) (x2213 : Int) (x2214 : Int) (x2215 : Int) (x2216 : Int) (x2217 : Int) (x2218 : Int) : Option (Int) :=
  nloop (fun (s : Int) => ((impl_joins_partsOf_n2 x2219 x2220 s x2205 x2206 x2207 x2208 x2209 x2210 x2211 x2212 x2213 x2214 x2215 x2216 x2217 x2218).map (Sum.elim (fun (t : Int) => Sum.inl t) (fun (t : Int) => Sum.inr t)) : Option ((Int) ⊕ (Int)))) LL 0

def impl_joins_partsOf_n4 (x2219 : Int) (x2220 : Int) (x2205 : Int) (x2206 : Int) (x2207 : Int) (x2208 : Int) (x2209 : Int) (x2210 : Int) (x2211 : Int) (x2212 : Int) (x2213 : Int) (x2214 : Int) (x2215 : Int) (x2216 : Int) (x2217 : Int) (x2218 : Int) : Option (Int) :=
  (impl_joins_partsOf_n3 x2219 x2220 x2205 x2206 x2207 x2208 x2209 x2210 x2211 x2212 x2213 x2214 x2215 x2216 x2217 x2218).map (fun (t : Int) => t)

def impl_joins_partsOf_n5 (x2219 : Int) (x2220 : Int) (x2228 : Int) (x2205 : Int) (x2206 : Int) (x2207 : Int) (x2208 : Int) (x2209 : Int) (x2210 : Int) (x2211 : Int) (x2212 : Int) (x2213 : Int) (x2214 : Int) (x2215 : Int) (x2216 : Int) (x2217 : Int) (x2218 : Int) : Option ((Int × Int × Int × Int)) :=
  (impl_joins_below x2205 x2206 x2207 x2208 x2209 x2210 x2211 x2212 x2213 x2214 x2215 x2216 x2217 x2218 x2219 x2228).bind fun (v2251 : Int) => (inb (IntKind.wrap .i64 (x2219 - x2228)) 7).bind fun (v2254 : Nat) => ([x2212, x2213, x2214, x2215, x2216, x2217, x2218][v2254]?).bind fun (v2255 : Int) => (quo .i64 (IntKind.wrap .i64 (x2220 - v2251)) v2255).bind fun (v2256 : Int) => (rem (IntKind.wrap .i64 (x2220 - v2251)) v2255).bind fun (v2258 : Int) => some (x2228, v2256, (IntKind.wrap .i64 (x2219 - x2228)), v2258)

def impl_joins_partsOf_n6 (x2219 : Int) (x2220 : Int) (x2205 : Int) (x2206 : Int) (x2207 : Int) (x2208 : Int) (x2209 : Int) (x2210 : Int) (x2211 : Int) (x2212 : Int) (x2213 : Int) (x2214 : Int) (x2215 : Int) (x2216 : Int) (x2217 : Int) (x2218 : Int) : Option ((Int × Int × Int × Int)) :=
  (impl_joins_partsOf_n4 x2219 x2220 x2205 x2206 x2207 x2208 x2209 x2210 x2211 x2212 x2213 x2214 x2215 x2216 x2217 x2218).bind (fun (t : Int) => impl_joins_partsOf_n5 x2219 x2220 t x2205 x2206 x2207 x2208 x2209 x2210 x2211 x2212 x2213 x2214 x2215 x2216 x2217 x2218)

def impl_joins_partsOf_n7 (x2205 : Int) (x2206 : Int) (x2207 : Int) (x2208 : Int) (x2209 : Int) (x2210 : Int) (x2211 : Int) (x2212 : Int) (x2213 : Int) (x2214 : Int) (x2215 : Int) (x2216 : Int) (x2217 : Int) (x2218 : Int) (x2219 : Int) (x2220 : Int) : Option ((Int × Int × Int × Int)) :=
  (impl_joins_partsOf_n1).bind (fun (t : Unit) => impl_joins_partsOf_n6 x2219 x2220 x2205 x2206 x2207 x2208 x2209 x2210 x2211 x2212 x2213 x2214 x2215 x2216 x2217 x2218)

@[irreducible] def impl_joins_partsOf (x2205 : Int) (x2206 : Int) (x2207 : Int) (x2208 : Int) (x2209 : Int) (x2210 : Int) (x2211 : Int) (x2212 : Int) (x2213 : Int) (x2214 : Int) (x2215 : Int) (x2216 : Int) (x2217 : Int) (x2218 : Int) (x2219 : Int) (x2220 : Int) : Option (Int × Int × Int × Int) :=
  impl_joins_partsOf_n7 x2205 x2206 x2207 x2208 x2209 x2210 x2211 x2212 x2213 x2214 x2215 x2216 x2217 x2218 x2219 x2220

def impl_flatCounts_tellTree_n1 (R0 : Int → Int → Int → Int → Int → Int → Int → Int → Int → Int → Int → Int → Int → Int → Int → Int → Int → Int → (List Int) → Option ((List Int))) (R1 : Int → Int → Int → Int → Int → Int → Int → Int → Int → Int → Int → Int → Int → Int → Int → Int → Int → Int → (List Int) → Option ((List Int))) (x2184 : Int) (x2185 : Int) (x2186 : Int) (x2187 : Int) (x2188 : Int) (x2189 : Int) (x2190 : Int) (x2191 : Int) (x2192 : Int) (x2193 : Int) (x2194 : Int) (x2195 : Int) (x2196 : Int) (x2197 : Int) (x2198 : Int) (x2199 : Int) (x2200 : Int) (x2201 : Int) (x2202 : List Int) : Option (((List Int))) :=
  (impl_flatCounts_aroundRoots x2184 x2185 x2186 x2187 x2188 x2189 x2190 x2191 x2192 x2193 x2194 x2195 x2196 x2197).bind fun (v2495 : Unit) => (impl_joins_partsOf x2191 x2192 x2193 x2194 x2195 x2196 x2197 x2191 x2192 x2193 x2194 x2195 x2196 x2197 (IntKind.wrap .i64 (x2199 - 1)) x2200).bind fun (v2496 : Int × Int × Int × Int) => (inb (IntKind.wrap .i64 ((IntKind.wrap .i64 (x2198 + (v2496.1))) - 1)) (List.length x2202)).bind fun (v2503 : Nat) => (R1 x2184 x2185 x2186 x2187 x2188 x2189 x2190 x2191 x2192 x2193 x2194 x2195 x2196 x2197 x2198 (v2496.1) (v2496.2.1) (IntKind.wrap .i64 (x2198 + (v2496.1))) (x2202.set v2503 x2201)).bind fun (v2505 : List Int) => (R1 x2184 x2185 x2186 x2187 x2188 x2189 x2190 x2191 x2192 x2193 x2194 x2195 x2196 x2197 (IntKind.wrap .i64 ((IntKind.wrap .i64 (x2198 + (v2496.1))) + 1)) (v2496.2.2.1) (v2496.2.2.2) (IntKind.wrap .i64 (x2198 + (v2496.1))) v2505).bind fun (v2507 : List Int) => some v2507

def impl_flatCounts_tellTree_one (R0 : Int → Int → Int → Int → Int → Int → Int → Int → Int → Int → Int → Int → Int → Int → Int → Int → Int → Int → (List Int) → Option ((List Int))) (R1 : Int → Int → Int → Int → Int → Int → Int → Int → Int → Int → Int → Int → Int → Int → Int → Int → Int → Int → (List Int) → Option ((List Int))) (x2184 : Int) (x2185 : Int) (x2186 : Int) (x2187 : Int) (x2188 : Int) (x2189 : Int) (x2190 : Int) (x2191 : Int) (x2192 : Int) (x2193 : Int) (x2194 : Int) (x2195 : Int) (x2196 : Int) (x2197 : Int) (x2198 : Int) (x2199 : Int) (x2200 : Int) (x2201 : Int) (x2202 : List Int) : Option ((List Int)) :=
  (impl_flatCounts_tellTree_n1 R0 R1 x2184 x2185 x2186 x2187 x2188 x2189 x2190 x2191 x2192 x2193 x2194 x2195 x2196 x2197 x2198 x2199 x2200 x2201 x2202).map (fun (t : (List Int)) => t)

def impl_flatCounts_tellRow_n1 (R0 : Int → Int → Int → Int → Int → Int → Int → Int → Int → Int → Int → Int → Int → Int → Int → Int → Int → Int → (List Int) → Option ((List Int))) (R1 : Int → Int → Int → Int → Int → Int → Int → Int → Int → Int → Int → Int → Int → Int → Int → Int → Int → Int → (List Int) → Option ((List Int))) (x2395 : Int) (x2396 : Int) (x2397 : Int) (x2398 : Int) (x2399 : Int) (x2400 : Int) (x2401 : Int) (x2402 : Int) (x2403 : Int) (x2404 : Int) (x2405 : Int) (x2406 : Int) (x2407 : Int) (x2408 : Int) (x2409 : Int) (x2410 : Int) (x2411 : Int) (x2412 : Int) (x2413 : List Int) : Option (((List Int)) ⊕ ((List Int))) :=
  cond (x2410 == 0) (some (Sum.inr x2413)) ((impl_flatCounts_inRows x2395 x2396 x2397 x2398 x2399 x2400 x2401 x2402 x2403 x2404 x2405 x2406 x2407 x2408).bind fun (v2483 : Unit) => (impl_joins_partsOf x2395 x2396 x2397 x2398 x2399 x2400 x2401 x2402 x2403 x2404 x2405 x2406 x2407 x2408 x2410 x2411).bind fun (v2484 : Int × Int × Int × Int) => (R0 x2395 x2396 x2397 x2398 x2399 x2400 x2401 x2402 x2403 x2404 x2405 x2406 x2407 x2408 x2409 (v2484.1) (v2484.2.1) x2412 x2413).bind fun (v2489 : List Int) => (R1 x2395 x2396 x2397 x2398 x2399 x2400 x2401 x2402 x2403 x2404 x2405 x2406 x2407 x2408 (IntKind.wrap .i64 (x2409 + (v2484.1))) (v2484.2.2.1) (v2484.2.2.2) x2412 v2489).bind fun (v2491 : List Int) => some (Sum.inl v2491))

def impl_flatCounts_tellRow_one (R0 : Int → Int → Int → Int → Int → Int → Int → Int → Int → Int → Int → Int → Int → Int → Int → Int → Int → Int → (List Int) → Option ((List Int))) (R1 : Int → Int → Int → Int → Int → Int → Int → Int → Int → Int → Int → Int → Int → Int → Int → Int → Int → Int → (List Int) → Option ((List Int))) (x2395 : Int) (x2396 : Int) (x2397 : Int) (x2398 : Int) (x2399 : Int) (x2400 : Int) (x2401 : Int) (x2402 : Int) (x2403 : Int) (x2404 : Int) (x2405 : Int) (x2406 : Int) (x2407 : Int) (x2408 : Int) (x2409 : Int) (x2410 : Int) (x2411 : Int) (x2412 : Int) (x2413 : List Int) : Option ((List Int)) :=
  (impl_flatCounts_tellRow_n1 R0 R1 x2395 x2396 x2397 x2398 x2399 x2400 x2401 x2402 x2403 x2404 x2405 x2406 x2407 x2408 x2409 x2410 x2411 x2412 x2413).map (Sum.elim (fun (t : (List Int)) => t) (fun (t : (List Int)) => t))

def impl_flatCounts_tellTree_knot : Nat → (Int → Int → Int → Int → Int → Int → Int → Int → Int → Int → Int → Int → Int → Int → Int → Int → Int → Int → (List Int) → Option ((List Int))) × (Int → Int → Int → Int → Int → Int → Int → Int → Int → Int → Int → Int → Int → Int → Int → Int → Int → Int → (List Int) → Option ((List Int)))
  | 0 => ((fun _ _ _ _ _ _ _ _ _ _ _ _ _ _ _ _ _ _ _ => none), (fun _ _ _ _ _ _ _ _ _ _ _ _ _ _ _ _ _ _ _ => none))
  | n + 1 => ((fun y0 y1 y2 y3 y4 y5 y6 y7 y8 y9 y10 y11 y12 y13 y14 y15 y16 y17 y18 => impl_flatCounts_tellTree_one (impl_flatCounts_tellTree_knot n).1 (impl_flatCounts_tellTree_knot n).2 y0 y1 y2 y3 y4 y5 y6 y7 y8 y9 y10 y11 y12 y13 y14 y15 y16 y17 y18), (fun y0 y1 y2 y3 y4 y5 y6 y7 y8 y9 y10 y11 y12 y13 y14 y15 y16 y17 y18 => impl_flatCounts_tellRow_one (impl_flatCounts_tellTree_knot n).1 (impl_flatCounts_tellTree_knot n).2 y0 y1 y2 y3 y4 y5 y6 y7 y8 y9 y10 y11 y12 y13 y14 y15 y16 y17 y18))

def impl_flatCounts_tellTree_fuel (n : Nat) : Int → Int → Int → Int → Int → Int → Int → Int → Int → Int → Int → Int → Int → Int → Int → Int → Int → Int → (List Int) → Option ((List Int)) := (impl_flatCounts_tellTree_knot n).1

@[irreducible] def impl_flatCounts_tellTree (x2184 : Int) (x2185 : Int) (x2186 : Int) (x2187 : Int) (x2188 : Int) (x2189 : Int) (x2190 : Int) (x2191 : Int) (x2192 : Int) (x2193 : Int) (x2194 : Int) (x2195 : Int) (x2196 : Int) (x2197 : Int) (x2198 : Int) (x2199 : Int) (x2200 : Int) (x2201 : Int) (x2202 : List Int) : Option ((List Int)) := impl_flatCounts_tellTree_fuel RR x2184 x2185 x2186 x2187 x2188 x2189 x2190 x2191 x2192 x2193 x2194 x2195 x2196 x2197 x2198 x2199 x2200 x2201 x2202

def impl_flatCounts_tellRow_fuel (n : Nat) : Int → Int → Int → Int → Int → Int → Int → Int → Int → Int → Int → Int → Int → Int → Int → Int → Int → Int → (List Int) → Option ((List Int)) := (impl_flatCounts_tellTree_knot n).2

@[irreducible] def impl_flatCounts_tellRow (x2395 : Int) (x2396 : Int) (x2397 : Int) (x2398 : Int) (x2399 : Int) (x2400 : Int) (x2401 : Int) (x2402 : Int) (x2403 : Int) (x2404 : Int) (x2405 : Int) (x2406 : Int) (x2407 : Int) (x2408 : Int) (x2409 : Int) (x2410 : Int) (x2411 : Int) (x2412 : Int) (x2413 : List Int) : Option ((List Int)) := impl_flatCounts_tellRow_fuel RR x2395 x2396 x2397 x2398 x2399 x2400 x2401 x2402 x2403 x2404 x2405 x2406 x2407 x2408 x2409 x2410 x2411 x2412 x2413

def impl_FlatAt_n1 (x1859 : Int) (x1860 : Int) : Option ((Bool × (List Int))) :=
  cond (decide (x1860 < 0)) (some (false, ([] : List Int))) ((impl_CountFlat x1859).bind fun (v2531 : Int) => cond (decide (x1860 ≥ v2531)) (some (false, ([] : List Int))) ((mk x1859 x1859).bind fun (v2533 : Nat) => (impl_countFlatParts).bind fun (v2535 : Int × Int × Int × Int × Int × Int × Int × Int × Int × Int × Int × Int × Int × Int) => (impl_flatCounts_tellTree (v2535.1) (v2535.2.1) (v2535.2.2.1) (v2535.2.2.2.1) (v2535.2.2.2.2.1) (v2535.2.2.2.2.2.1) (v2535.2.2.2.2.2.2.1) (v2535.2.2.2.2.2.2.2.1) (v2535.2.2.2.2.2.2.2.2.1) (v2535.2.2.2.2.2.2.2.2.2.1) (v2535.2.2.2.2.2.2.2.2.2.2.1) (v2535.2.2.2.2.2.2.2.2.2.2.2.1) (v2535.2.2.2.2.2.2.2.2.2.2.2.2.1) (v2535.2.2.2.2.2.2.2.2.2.2.2.2.2) 1 x1859 x1860 0 (List.replicate v2533 (0 : Int))).bind fun (v2550 : List Int) => some (true, v2550)))

@[irreducible] def impl_FlatAt (x1859 : Int) (x1860 : Int) : Option (Bool × (List Int)) :=
  impl_FlatAt_n1 x1859 x1860

def spec_l4Tree_n1 (R0 : Int → Int → Int → Int → (List Int) → Option ((List Int))) (R1 : Int → Int → Int → Int → (List Int) → Option ((List Int))) : Option (Unit) :=
  some ()

def spec_l4Tree_n2 (R0 : Int → Int → Int → Int → (List Int) → Option ((List Int))) (R1 : Int → Int → Int → Int → (List Int) → Option ((List Int))) (x2588 : Int) (x2589 : Int) (x2590 : Int) (x2990 : Int) (x2991 : Int) (x2592 : List Int) : Option ((Int × Int) ⊕ ((List Int)) ⊕ Unit) :=
  cond (decide (x2991 ≤ x2589)) ((spec_l4Rows (IntKind.wrap .i64 (x2589 - x2991))).bind fun (v3012 : Int) => (spec_l4Rows (IntKind.wrap .i64 (x2991 - x2588))).bind fun (v3014 : Int) => cond (decide (x2990 < (IntKind.wrap .i64 (v3014 * v3012)))) ((inb (IntKind.wrap .i64 (x2991 - 1)) (List.length x2592)).bind fun (v3018 : Nat) => (quo .i64 x2990 v3012).bind fun (v3021 : Int) => (R1 x2588 (IntKind.wrap .i64 (x2991 - 1)) x2991 v3021 (x2592.set v3018 x2590)).bind fun (v3022 : List Int) => (rem x2990 v3012).bind fun (v3024 : Int) => (R1 (IntKind.wrap .i64 (x2991 + 1)) x2589 x2991 v3024 v3022).bind fun (v3025 : List Int) => some (Sum.inr (Sum.inl v3025))) (some (Sum.inl ((IntKind.wrap .i64 (x2990 - (IntKind.wrap .i64 (v3014 * v3012)))), (IntKind.wrap .i64 (x2991 + 1)))))) (some (Sum.inr (Sum.inr ())))

def spec_l4Tree_n3 (R0 : Int → Int → Int → Int → (List Int) → Option ((List Int))) (R1 : Int → Int → Int → Int → (List Int) → Option ((List Int))) (x2588 : Int) (x2589 : Int) (x2590 : Int) (x2591 : Int) (x2592 : List Int) : Option (((List Int)) ⊕ Unit) :=
  nloop (fun (s : Int × Int) => ((spec_l4Tree_n2 R0 R1 x2588 x2589 x2590 s.1 s.2 x2592).map (Sum.elim (fun (t : Int × Int) => Sum.inl (t.1, t.2)) (Sum.elim (fun (t : (List Int)) => Sum.inr (Sum.inl t)) (fun (t : Unit) => Sum.inr (Sum.inr t)))) : Option ((Int × Int) ⊕ (((List Int)) ⊕ Unit)))) LL (x2591, x2588)

def spec_l4Tree_n4 (R0 : Int → Int → Int → Int → (List Int) → Option ((List Int))) (R1 : Int → Int → Int → Int → (List Int) → Option ((List Int))) (x2588 : Int) (x2589 : Int) (x2590 : Int) (x2591 : Int) (x2592 : List Int) : Option (Unit ⊕ ((List Int))) :=
  (spec_l4Tree_n3 R0 R1 x2588 x2589 x2590 x2591 x2592).map (Sum.elim (fun (t : (List Int)) => (Sum.inr t)) (fun (t : Unit) => (Sum.inl ())))

def spec_l4Tree_n5 (R0 : Int → Int → Int → Int → (List Int) → Option ((List Int))) (R1 : Int → Int → Int → Int → (List Int) → Option ((List Int))) (x2588 : Int) (x2589 : Int) (x2590 : Int) (x2591 : Int) (x2592 : List Int) : Option (Unit ⊕ ((List Int))) :=
  (spec_l4Tree_n1 R0 R1).bind (fun (t : Unit) => spec_l4Tree_n4 R0 R1 x2588 x2589 x2590 x2591 x2592)

def spec_l4Tree_one (R0 : Int → Int → Int → Int → (List Int) → Option ((List Int))) (R1 : Int → Int → Int → Int → (List Int) → Option ((List Int))) (x2588 : Int) (x2589 : Int) (x2590 : Int) (x2591 : Int) (x2592 : List Int) : Option ((List Int)) :=
  (spec_l4Tree_n5 R0 R1 x2588 x2589 x2590 x2591 x2592).map (Sum.elim (fun (t : Unit) => x2592) (fun (t : (List Int)) => t))

def spec_l4Row_n1 (R0 : Int → Int → Int → Int → (List Int) → Option ((List Int))) (R1 : Int → Int → Int → Int → (List Int) → Option ((List Int))) : Option (Unit) :=
  some ()

def spec_l4Row_n2 (R0 : Int → Int → Int → Int → (List Int) → Option ((List Int))) (R1 : Int → Int → Int → Int → (List Int) → Option ((List Int))) (x2778 : Int) (x2779 : Int) (x2780 : Int) (x2934 : Int) (x2935 : Int) (x2782 : List Int) : Option ((Int × Int) ⊕ ((List Int)) ⊕ Unit) :=
  cond (decide (x2935 ≤ x2779)) ((spec_l4Rows (IntKind.wrap .i64 (x2779 - x2935))).bind fun (v2953 : Int) => (spec_l4Flat (IntKind.wrap .i64 ((IntKind.wrap .i64 (x2935 - x2778)) + 1))).bind fun (v2956 : Int) => cond (decide (x2934 < (IntKind.wrap .i64 (v2956 * v2953)))) ((quo .i64 x2934 v2953).bind fun (v2959 : Int) => (R0 x2778 x2935 x2780 v2959 x2782).bind fun (v2960 : List Int) => (rem x2934 v2953).bind fun (v2962 : Int) => (R1 (IntKind.wrap .i64 (x2935 + 1)) x2779 x2780 v2962 v2960).bind fun (v2963 : List Int) => some (Sum.inr (Sum.inl v2963))) (some (Sum.inl ((IntKind.wrap .i64 (x2934 - (IntKind.wrap .i64 (v2956 * v2953)))), (IntKind.wrap .i64 (x2935 + 1)))))) (some (Sum.inr (Sum.inr ())))

def spec_l4Row_n3 (R0 : Int → Int → Int → Int → (List Int) → Option ((List Int))) (R1 : Int → Int → Int → Int → (List Int) → Option ((List Int))) (x2778 : Int) (x2779 : Int) (x2780 : Int) (x2781 : Int) (x2782 : List Int) : Option (((List Int)) ⊕ Unit) :=
  nloop (fun (s : Int × Int) => ((spec_l4Row_n2 R0 R1 x2778 x2779 x2780 s.1 s.2 x2782).map (Sum.elim (fun (t : Int × Int) => Sum.inl (t.1, t.2)) (Sum.elim (fun (t : (List Int)) => Sum.inr (Sum.inl t)) (fun (t : Unit) => Sum.inr (Sum.inr t)))) : Option ((Int × Int) ⊕ (((List Int)) ⊕ Unit)))) LL (x2781, x2778)

def spec_l4Row_n4 (R0 : Int → Int → Int → Int → (List Int) → Option ((List Int))) (R1 : Int → Int → Int → Int → (List Int) → Option ((List Int))) (x2778 : Int) (x2779 : Int) (x2780 : Int) (x2781 : Int) (x2782 : List Int) : Option (Unit ⊕ ((List Int))) :=
  (spec_l4Row_n3 R0 R1 x2778 x2779 x2780 x2781 x2782).map (Sum.elim (fun (t : (List Int)) => (Sum.inr t)) (fun (t : Unit) => (Sum.inl ())))

def spec_l4Row_n5 (R0 : Int → Int → Int → Int → (List Int) → Option ((List Int))) (R1 : Int → Int → Int → Int → (List Int) → Option ((List Int))) (x2778 : Int) (x2779 : Int) (x2780 : Int) (x2781 : Int) (x2782 : List Int) : Option (Unit ⊕ ((List Int))) :=
  (spec_l4Row_n1 R0 R1).bind (fun (t : Unit) => spec_l4Row_n4 R0 R1 x2778 x2779 x2780 x2781 x2782)

def spec_l4Row_one (R0 : Int → Int → Int → Int → (List Int) → Option ((List Int))) (R1 : Int → Int → Int → Int → (List Int) → Option ((List Int))) (x2778 : Int) (x2779 : Int) (x2780 : Int) (x2781 : Int) (x2782 : List Int) : Option ((List Int)) :=
  (spec_l4Row_n5 R0 R1 x2778 x2779 x2780 x2781 x2782).map (Sum.elim (fun (t : Unit) => x2782) (fun (t : (List Int)) => t))

def spec_l4Tree_knot : Nat → (Int → Int → Int → Int → (List Int) → Option ((List Int))) × (Int → Int → Int → Int → (List Int) → Option ((List Int)))
  | 0 => ((fun _ _ _ _ _ => none), (fun _ _ _ _ _ => none))
  | n + 1 => ((fun y0 y1 y2 y3 y4 => spec_l4Tree_one (spec_l4Tree_knot n).1 (spec_l4Tree_knot n).2 y0 y1 y2 y3 y4), (fun y0 y1 y2 y3 y4 => spec_l4Row_one (spec_l4Tree_knot n).1 (spec_l4Tree_knot n).2 y0 y1 y2 y3 y4))

def spec_l4Tree_fuel (n : Nat) : Int → Int → Int → Int → (List Int) → Option ((List Int)) := (spec_l4Tree_knot n).1

@[irreducible] def spec_l4Tree (x2588 : Int) (x2589 : Int) (x2590 : Int) (x2591 : Int) (x2592 : List Int) : Option ((List Int)) := spec_l4Tree_fuel RR x2588 x2589 x2590 x2591 x2592

def spec_l4Row_fuel (n : Nat) : Int → Int → Int → Int → (List Int) → Option ((List Int)) := (spec_l4Tree_knot n).2

@[irreducible] def spec_l4Row (x2778 : Int) (x2779 : Int) (x2780 : Int) (x2781 : Int) (x2782 : List Int) : Option ((List Int)) := spec_l4Row_fuel RR x2778 x2779 x2780 x2781 x2782

def spec_FlatAt_n1 (x2564 : Int) (x2565 : Int) : Option ((Bool × (List Int))) :=
  (spec_l1In x2564 1 6).bind fun (v3039 : Bool) => cond (!v3039) (some (false, ([] : List Int))) ((spec_l4Flat x2564).bind fun (v3041 : Int) => (spec_l1In x2565 0 (IntKind.wrap .i64 (v3041 - 1))).bind fun (v3043 : Bool) => cond (!v3043) (some (false, ([] : List Int))) ((mk x2564 x2564).bind fun (v3045 : Nat) => (spec_l4Tree 1 x2564 0 x2565 (List.replicate v3045 (0 : Int))).bind fun (v3047 : List Int) => some (true, v3047)))

@[irreducible] def spec_FlatAt (x2564 : Int) (x2565 : Int) : Option (Bool × (List Int)) :=
  spec_FlatAt_n1 x2564 x2565

def laws_sameInts_n1 (x3064 : List Int) (x3065 : List Int) : Option (Unit ⊕ Bool) :=
  cond ((((List.length x3064 : Nat) : Int)) != (((List.length x3065 : Nat) : Int))) (some (Sum.inr false)) (some (Sum.inl ()))

def laws_sameInts_n2 : Option (Unit) :=
  some ()

def laws_sameInts_n3 (x3064 : List Int) (x3065 : List Int) (x3082 : Int) : Option (Int ⊕ Bool ⊕ Unit) :=
  cond (decide (x3082 < (((List.length x3064 : Nat) : Int)))) ((idx x3064 x3082).bind fun (v3092 : Int) => (idx x3065 x3082).bind fun (v3093 : Int) => cond (v3092 != v3093) (some (Sum.inr (Sum.inl false))) (some (Sum.inl (IntKind.wrap .i64 (x3082 + 1))))) (some (Sum.inr (Sum.inr ())))

def laws_sameInts_n4 (x3064 : List Int) (x3065 : List Int) : Option (Bool ⊕ Unit) :=
  nloop (fun (s : Int) => ((laws_sameInts_n3 x3064 x3065 s).map (Sum.elim (fun (t : Int) => Sum.inl t) (Sum.elim (fun (t : Bool) => Sum.inr (Sum.inl t)) (fun (t : Unit) => Sum.inr (Sum.inr t)))) : Option ((Int) ⊕ (Bool ⊕ Unit)))) LL 0

def laws_sameInts_n5 (x3064 : List Int) (x3065 : List Int) : Option (Unit ⊕ Bool) :=
  (laws_sameInts_n4 x3064 x3065).map (Sum.elim (fun (t : Bool) => (Sum.inr t)) (fun (t : Unit) => (Sum.inl ())))

def laws_sameInts_n6 (x3064 : List Int) (x3065 : List Int) : Option (Unit ⊕ Bool) :=
  (laws_sameInts_n2).bind (fun (t : Unit) => laws_sameInts_n5 x3064 x3065)

def laws_sameInts_n7 : Option (Bool) :=
  some true

def laws_sameInts_n8 (x3064 : List Int) (x3065 : List Int) : Option (Bool) :=
  (laws_sameInts_n6 x3064 x3065).bind (Sum.elim (fun (t : Unit) => laws_sameInts_n7) (fun e => some ((fun (t : Bool) => t) e)))

def laws_sameInts_n9 (x3064 : List Int) (x3065 : List Int) : Option (Bool) :=
  (laws_sameInts_n1 x3064 x3065).bind (Sum.elim (fun (t : Unit) => laws_sameInts_n8 x3064 x3065) (fun e => some ((fun (t : Bool) => t) e)))

@[irreducible] def laws_sameInts (x3064 : List Int) (x3065 : List Int) : Option (Bool) :=
  laws_sameInts_n9 x3064 x3065

def impl_RootOf_n1 (x3172 : List Int) : Option (Unit ⊕ Int) :=
  (impl_TreeOk x3172).bind fun (v3175 : Bool) => cond (!v3175) (some (Sum.inr (-1))) (some (Sum.inl ()))

def impl_RootOf_n2 (x3172 : List Int) (x3185 : Int) (x3186 : Int) : Option ((Int × Int) ⊕ (Int × Int)) :=
  (impl_walker_up x3172 x3185 x3186).bind fun (v3191 : Bool × Int × Int) => cond (v3191.1) (some (Sum.inl ((v3191.2.1), (v3191.2.2)))) (some (Sum.inr ((v3191.2.1), (v3191.2.2))))

def impl_RootOf_n3 (x3172 : List Int) : Option ((Int × Int)) :=
  nloop (fun (s : Int × Int) => ((impl_RootOf_n2 x3172 s.1 s.2).map (Sum.elim (fun (t : Int × Int) => Sum.inl (t.1, t.2)) (fun (t : Int × Int) => Sum.inr t)) : Option ((Int × Int) ⊕ ((Int × Int))))) LL (1, 0)

def impl_RootOf_n4 (x3172 : List Int) : Option ((Int × Int)) :=
  (impl_RootOf_n3 x3172).map (fun (t : Int × Int) => (t.1, t.2))

def impl_RootOf_n5 (x3193 : Int) : Option (Int) :=
  some x3193

def impl_RootOf_n6 (x3172 : List Int) : Option (Int) :=
  (impl_RootOf_n4 x3172).bind (fun (t : Int × Int) => impl_RootOf_n5 t.1)

def impl_RootOf_n7 (x3172 : List Int) : Option (Int) :=
  (impl_RootOf_n1 x3172).bind (Sum.elim (fun (t : Unit) => impl_RootOf_n6 x3172) (fun e => some ((fun (t : Int) => t) e)))

@[irreducible] def impl_RootOf (x3172 : List Int) : Option (Int) :=
  impl_RootOf_n7 x3172

def impl_fillYields_n1 (R0 : (List Int) → Int → (List Int) → Option (Int × (List Int))) (x3198 : Int) : Option (Int) :=
  (impl_only x3198).bind fun (v3218 : Int) => some v3218

def impl_fillYields_n2 (R0 : (List Int) → Int → (List Int) → Option (Int × (List Int))) (x3197 : List Int) (x3198 : Int) : Option ((Int × (List Int))) :=
  (impl_dependents x3197 x3198).bind fun (v3219 : Int) => (impl_wordSet_list v3219).bind fun (v3220 : List Int) => some ((((List.length v3220 : Nat) : Int)), v3220)

def impl_fillYields_n3 (R0 : (List Int) → Int → (List Int) → Option (Int × (List Int))) (x3197 : List Int) (x3239 : Int) (x3221 : Int) (x3240 : Int) (x3241 : List Int) (x3220 : List Int) : Option ((Int × Int × (List Int)) ⊕ (Int × (List Int))) :=
  cond (decide (x3240 < x3221)) ((inb x3240 (List.length x3220)).bind fun (v3252 : Nat) => (x3220[v3252]?).bind fun (v3253 : Int) => (R0 x3197 v3253 x3241).bind fun (v3254 : Int × (List Int)) => some (Sum.inl ((ior .u64 x3239 (v3254.1)), (IntKind.wrap .i64 (x3240 + 1)), (v3254.2)))) (some (Sum.inr (x3239, x3241)))

def impl_fillYields_n4 (R0 : (List Int) → Int → (List Int) → Option (Int × (List Int))) (x3197 : List Int) (x3218 : Int) (x3221 : Int) (x3199 : List Int) (x3220 : List Int) : Option ((Int × (List Int))) :=
  nloop (fun (s : Int × Int × (List Int)) => ((impl_fillYields_n3 R0 x3197 s.1 x3221 s.2.1 s.2.2 x3220).map (Sum.elim (fun (t : Int × Int × (List Int)) => Sum.inl (t.1, t.2.1, t.2.2)) (fun (t : Int × (List Int)) => Sum.inr t)) : Option ((Int × Int × (List Int)) ⊕ ((Int × (List Int)))))) LL (x3218, 0, x3199)

def impl_fillYields_n5 (R0 : (List Int) → Int → (List Int) → Option (Int × (List Int))) (x3197 : List Int) (x3218 : Int) (x3221 : Int) (x3199 : List Int) (x3220 : List Int) : Option ((Int × (List Int))) :=
  (impl_fillYields_n4 R0 x3197 x3218 x3221 x3199 x3220).map (fun (t : Int × (List Int)) => (t.1, t.2))

def impl_fillYields_n6 (R0 : (List Int) → Int → (List Int) → Option (Int × (List Int))) (x3197 : List Int) (x3198 : Int) (x3218 : Int) (x3199 : List Int) : Option ((Int × (List Int))) :=
  (impl_fillYields_n2 R0 x3197 x3198).bind (fun (t : Int × (List Int)) => impl_fillYields_n5 R0 x3197 x3218 t.1 x3199 t.2)

def impl_fillYields_n7 (R0 : (List Int) → Int → (List Int) → Option (Int × (List Int))) (x3198 : Int) (x3239 : Int) (x3241 : List Int) : Option ((Int × (List Int))) :=
  (inb (IntKind.wrap .i64 (x3198 - 1)) (List.length x3241)).bind fun (v3266 : Nat) => some (x3239, (x3241.set v3266 x3239))

def impl_fillYields_n8 (R0 : (List Int) → Int → (List Int) → Option (Int × (List Int))) (x3197 : List Int) (x3198 : Int) (x3218 : Int) (x3199 : List Int) : Option ((Int × (List Int))) :=
  (impl_fillYields_n6 R0 x3197 x3198 x3218 x3199).bind (fun (t : Int × (List Int)) => impl_fillYields_n7 R0 x3198 t.1 t.2)

def impl_fillYields_n9 (R0 : (List Int) → Int → (List Int) → Option (Int × (List Int))) (x3197 : List Int) (x3198 : Int) (x3199 : List Int) : Option ((Int × (List Int))) :=
  (impl_fillYields_n1 R0 x3198).bind (fun (t : Int) => impl_fillYields_n8 R0 x3197 x3198 t x3199)

def impl_fillYields_one (R0 : (List Int) → Int → (List Int) → Option (Int × (List Int))) (x3197 : List Int) (x3198 : Int) (x3199 : List Int) : Option (Int × (List Int)) :=
  impl_fillYields_n9 R0 x3197 x3198 x3199

def impl_fillYields_knot : Nat → ((List Int) → Int → (List Int) → Option (Int × (List Int)))
  | 0 => (fun _ _ _ => none)
  | n + 1 => (fun y0 y1 y2 => impl_fillYields_one (impl_fillYields_knot n) y0 y1 y2)

def impl_fillYields_fuel (n : Nat) : (List Int) → Int → (List Int) → Option (Int × (List Int)) := (impl_fillYields_knot n)

@[irreducible] def impl_fillYields (x3197 : List Int) (x3198 : Int) (x3199 : List Int) : Option (Int × (List Int)) := impl_fillYields_fuel RR x3197 x3198 x3199

def impl_yieldsOf_n1 (x3165 : List Int) : Option (((List Int))) :=
  (mk (((List.length x3165 : Nat) : Int)) (((List.length x3165 : Nat) : Int))).bind fun (v3279 : Nat) => (impl_RootOf x3165).bind fun (v3281 : Int) => (impl_fillYields x3165 v3281 (List.replicate v3279 (0 : Int))).bind fun (v3282 : Int × (List Int)) => some (v3282.2)

@[irreducible] def impl_yieldsOf (x3165 : List Int) : Option ((List Int)) :=
  impl_yieldsOf_n1 x3165

def impl_wordSet_isRow_n1 (x3292 : Int) : Option (Bool) :=
  some ((iand .u64 x3292 (IntKind.wrap .u64 (x3292 + (iand .u64 x3292 (IntKind.wrap .u64 (0 - x3292)))))) == 0)

@[irreducible] def impl_wordSet_isRow (x3292 : Int) : Option (Bool) :=
  impl_wordSet_isRow_n1 x3292

def impl_FlatOk_n1 (x3162 : List Int) : Option (Unit ⊕ Bool) :=
  (impl_TreeOk x3162).bind fun (v3163 : Bool) => cond (!v3163) (some (Sum.inr false)) (some (Sum.inl ()))

def impl_FlatOk_n2 (x3162 : List Int) : Option ((Int × (List Int))) :=
  (impl_yieldsOf x3162).bind fun (v3285 : List Int) => some ((((List.length v3285 : Nat) : Int)), v3285)

def impl_FlatOk_n3 (x3286 : Int) (x3313 : Int) (x3285 : List Int) : Option (Int ⊕ Bool ⊕ Unit) :=
  cond (decide (x3313 < x3286)) ((inb x3313 (List.length x3285)).bind fun (v3322 : Nat) => (x3285[v3322]?).bind fun (v3323 : Int) => (impl_wordSet_isRow v3323).bind fun (v3324 : Bool) => cond (!v3324) (some (Sum.inr (Sum.inl false))) (some (Sum.inl (IntKind.wrap .i64 (x3313 + 1))))) (some (Sum.inr (Sum.inr ())))

def impl_FlatOk_n4 (x3286 : Int) (x3285 : List Int) : Option (Bool ⊕ Unit) :=
  nloop (fun (s : Int) => ((impl_FlatOk_n3 x3286 s x3285).map (Sum.elim (fun (t : Int) => Sum.inl t) (Sum.elim (fun (t : Bool) => Sum.inr (Sum.inl t)) (fun (t : Unit) => Sum.inr (Sum.inr t)))) : Option ((Int) ⊕ (Bool ⊕ Unit)))) LL 0

def impl_FlatOk_n5 (x3286 : Int) (x3285 : List Int) : Option (Unit ⊕ Bool) :=
  (impl_FlatOk_n4 x3286 x3285).map (Sum.elim (fun (t : Bool) => (Sum.inr t)) (fun (t : Unit) => (Sum.inl ())))

def impl_FlatOk_n6 (x3162 : List Int) : Option (Unit ⊕ Bool) :=
  (impl_FlatOk_n2 x3162).bind (fun (t : Int × (List Int)) => impl_FlatOk_n5 t.1 t.2)

def impl_FlatOk_n7 : Option (Bool) :=
  some true

def impl_FlatOk_n8 (x3162 : List Int) : Option (Bool) :=
  (impl_FlatOk_n6 x3162).bind (Sum.elim (fun (t : Unit) => impl_FlatOk_n7) (fun e => some ((fun (t : Bool) => t) e)))

def impl_FlatOk_n9 (x3162 : List Int) : Option (Bool) :=
  (impl_FlatOk_n1 x3162).bind (Sum.elim (fun (t : Unit) => impl_FlatOk_n8 x3162) (fun e => some ((fun (t : Bool) => t) e)))

@[irreducible] def impl_FlatOk (x3162 : List Int) : Option (Bool) :=
  impl_FlatOk_n9 x3162

def impl_joins_numberOf_n1 (x3423 : Int) (x3424 : Int) (x3425 : Int) (x3426 : Int) (x3427 : Int) (x3428 : Int) (x3429 : Int) (x3430 : Int) (x3431 : Int) (x3432 : Int) (x3433 : Int) (x3434 : Int) (x3435 : Int) (x3436 : Int) (x3437 : Int) (x3438 : Int) (x3439 : Int) (x3440 : Int) : Option (Int) :=
  (inb x3439 7).bind fun (v3449 : Nat) => ([x3430, x3431, x3432, x3433, x3434, x3435, x3436][v3449]?).bind fun (v3450 : Int) => (impl_joins_below x3423 x3424 x3425 x3426 x3427 x3428 x3429 x3430 x3431 x3432 x3433 x3434 x3435 x3436 (IntKind.wrap .i64 (x3437 + x3439)) x3437).bind fun (v3452 : Int) => some (IntKind.wrap .i64 ((IntKind.wrap .i64 (v3452 + (IntKind.wrap .i64 (x3438 * v3450)))) + x3440))

@[irreducible] def impl_joins_numberOf (x3423 : Int) (x3424 : Int) (x3425 : Int) (x3426 : Int) (x3427 : Int) (x3428 : Int) (x3429 : Int) (x3430 : Int) (x3431 : Int) (x3432 : Int) (x3433 : Int) (x3434 : Int) (x3435 : Int) (x3436 : Int) (x3437 : Int) (x3438 : Int) (x3439 : Int) (x3440 : Int) : Option (Int) :=
  impl_joins_numberOf_n1 x3423 x3424 x3425 x3426 x3427 x3428 x3429 x3430 x3431 x3432 x3433 x3434 x3435 x3436 x3437 x3438 x3439 x3440

def impl_flatCounts_numberOfTree_n1 (R0 : Int → Int → Int → Int → Int → Int → Int → Int → Int → Int → Int → Int → Int → Int → (List Int) → Int → Option (Int × Int)) (R1 : Int → Int → Int → Int → Int → Int → Int → Int → Int → Int → Int → Int → Int → Int → (List Int) → (List Int) → Option (Int × Int)) (x3356 : Int) (x3357 : Int) (x3358 : Int) (x3359 : Int) (x3360 : Int) (x3361 : Int) (x3362 : Int) (x3363 : Int) (x3364 : Int) (x3365 : Int) (x3366 : Int) (x3367 : Int) (x3368 : Int) (x3369 : Int) (x3370 : List Int) (x3371 : Int) : Option ((Int × Int)) :=
  (impl_dependentsBeside x3370 x3371).bind fun (v3634 : Int × Int) => (impl_wordSet_list (v3634.1)).bind fun (v3637 : List Int) => (R1 x3356 x3357 x3358 x3359 x3360 x3361 x3362 x3363 x3364 x3365 x3366 x3367 x3368 x3369 x3370 v3637).bind fun (v3638 : Int × Int) => (impl_wordSet_list (v3634.2)).bind fun (v3641 : List Int) => (R1 x3356 x3357 x3358 x3359 x3360 x3361 x3362 x3363 x3364 x3365 x3366 x3367 x3368 x3369 x3370 v3641).bind fun (v3642 : Int × Int) => (impl_flatCounts_aroundRoots x3356 x3357 x3358 x3359 x3360 x3361 x3362 x3363 x3364 x3365 x3366 x3367 x3368 x3369).bind fun (v3647 : Unit) => (impl_joins_numberOf x3363 x3364 x3365 x3366 x3367 x3368 x3369 x3363 x3364 x3365 x3366 x3367 x3368 x3369 (v3638.1) (v3638.2) (v3642.1) (v3642.2)).bind fun (v3648 : Int) => some ((IntKind.wrap .i64 ((IntKind.wrap .i64 ((v3638.1) + 1)) + (v3642.1))), v3648)

def impl_flatCounts_numberOfTree_one (R0 : Int → Int → Int → Int → Int → Int → Int → Int → Int → Int → Int → Int → Int → Int → (List Int) → Int → Option (Int × Int)) (R1 : Int → Int → Int → Int → Int → Int → Int → Int → Int → Int → Int → Int → Int → Int → (List Int) → (List Int) → Option (Int × Int)) (x3356 : Int) (x3357 : Int) (x3358 : Int) (x3359 : Int) (x3360 : Int) (x3361 : Int) (x3362 : Int) (x3363 : Int) (x3364 : Int) (x3365 : Int) (x3366 : Int) (x3367 : Int) (x3368 : Int) (x3369 : Int) (x3370 : List Int) (x3371 : Int) : Option (Int × Int) :=
  impl_flatCounts_numberOfTree_n1 R0 R1 x3356 x3357 x3358 x3359 x3360 x3361 x3362 x3363 x3364 x3365 x3366 x3367 x3368 x3369 x3370 x3371

def impl_flatCounts_numberOfRow_n1 (R0 : Int → Int → Int → Int → Int → Int → Int → Int → Int → Int → Int → Int → Int → Int → (List Int) → Int → Option (Int × Int)) (R1 : Int → Int → Int → Int → Int → Int → Int → Int → Int → Int → Int → Int → Int → Int → (List Int) → (List Int) → Option (Int × Int)) (x3474 : Int) (x3475 : Int) (x3476 : Int) (x3477 : Int) (x3478 : Int) (x3479 : Int) (x3480 : Int) (x3481 : Int) (x3482 : Int) (x3483 : Int) (x3484 : Int) (x3485 : Int) (x3486 : Int) (x3487 : Int) (x3488 : List Int) (x3489 : List Int) : Option ((Int × Int)) :=
  cond ((((List.length x3489 : Nat) : Int)) == 0) (some (0, 0)) ((idx x3489 0).bind fun (v3590 : Int) => (R0 x3474 x3475 x3476 x3477 x3478 x3479 x3480 x3481 x3482 x3483 x3484 x3485 x3486 x3487 x3488 v3590).bind fun (v3591 : Int × Int) => (inc 1 (List.length x3489)).bind fun (v3595 : Nat) => (R1 x3474 x3475 x3476 x3477 x3478 x3479 x3480 x3481 x3482 x3483 x3484 x3485 x3486 x3487 x3488 ((x3489.take (List.length x3489)).drop v3595)).bind fun (v3597 : Int × Int) => (impl_flatCounts_inRows x3474 x3475 x3476 x3477 x3478 x3479 x3480 x3481 x3482 x3483 x3484 x3485 x3486 x3487).bind fun (v3601 : Unit) => (impl_joins_numberOf x3474 x3475 x3476 x3477 x3478 x3479 x3480 x3481 x3482 x3483 x3484 x3485 x3486 x3487 (v3591.1) (v3591.2) (v3597.1) (v3597.2)).bind fun (v3602 : Int) => some ((IntKind.wrap .i64 ((v3591.1) + (v3597.1))), v3602))

def impl_flatCounts_numberOfRow_one (R0 : Int → Int → Int → Int → Int → Int → Int → Int → Int → Int → Int → Int → Int → Int → (List Int) → Int → Option (Int × Int)) (R1 : Int → Int → Int → Int → Int → Int → Int → Int → Int → Int → Int → Int → Int → Int → (List Int) → (List Int) → Option (Int × Int)) (x3474 : Int) (x3475 : Int) (x3476 : Int) (x3477 : Int) (x3478 : Int) (x3479 : Int) (x3480 : Int) (x3481 : Int) (x3482 : Int) (x3483 : Int) (x3484 : Int) (x3485 : Int) (x3486 : Int) (x3487 : Int) (x3488 : List Int) (x3489 : List Int) : Option (Int × Int) :=
  impl_flatCounts_numberOfRow_n1 R0 R1 x3474 x3475 x3476 x3477 x3478 x3479 x3480 x3481 x3482 x3483 x3484 x3485 x3486 x3487 x3488 x3489

def impl_flatCounts_numberOfTree_knot : Nat → (Int → Int → Int → Int → Int → Int → Int → Int → Int → Int → Int → Int → Int → Int → (List Int) → Int → Option (Int × Int)) × (Int → Int → Int → Int → Int → Int → Int → Int → Int → Int → Int → Int → Int → Int → (List Int) → (List Int) → Option (Int × Int))
  | 0 => ((fun _ _ _ _ _ _ _ _ _ _ _ _ _ _ _ _ => none), (fun _ _ _ _ _ _ _ _ _ _ _ _ _ _ _ _ => none))
  | n + 1 => ((fun y0 y1 y2 y3 y4 y5 y6 y7 y8 y9 y10 y11 y12 y13 y14 y15 => impl_flatCounts_numberOfTree_one (impl_flatCounts_numberOfTree_knot n).1 (impl_flatCounts_numberOfTree_knot n).2 y0 y1 y2 y3 y4 y5 y6 y7 y8 y9 y10 y11 y12 y13 y14 y15), (fun y0 y1 y2 y3 y4 y5 y6 y7 y8 y9 y10 y11 y12 y13 y14 y15 => impl_flatCounts_numberOfRow_one (impl_flatCounts_numberOfTree_knot n).1 (impl_flatCounts_numberOfTree_knot n).2 y0 y1 y2 y3 y4 y5 y6 y7 y8 y9 y10 y11 y12 y13 y14 y15))

def impl_flatCounts_numberOfTree_fuel (n : Nat) : Int → Int → Int → Int → Int → Int → Int → Int → Int → Int → Int → Int → Int → Int → (List Int) → Int → Option (Int × Int) := (impl_flatCounts_numberOfTree_knot n).1

@[irreducible] def impl_flatCounts_numberOfTree (x3356 : Int) (x3357 : Int) (x3358 : Int) (x3359 : Int) (x3360 : Int) (x3361 : Int) (x3362 : Int) (x3363 : Int) (x3364 : Int) (x3365 : Int) (x3366 : Int) (x3367 : Int) (x3368 : Int) (x3369 : Int) (x3370 : List Int) (x3371 : Int) : Option (Int × Int) := impl_flatCounts_numberOfTree_fuel RR x3356 x3357 x3358 x3359 x3360 x3361 x3362 x3363 x3364 x3365 x3366 x3367 x3368 x3369 x3370 x3371

def impl_flatCounts_numberOfRow_fuel (n : Nat) : Int → Int → Int → Int → Int → Int → Int → Int → Int → Int → Int → Int → Int → Int → (List Int) → (List Int) → Option (Int × Int) := (impl_flatCounts_numberOfTree_knot n).2

@[irreducible] def impl_flatCounts_numberOfRow (x3474 : Int) (x3475 : Int) (x3476 : Int) (x3477 : Int) (x3478 : Int) (x3479 : Int) (x3480 : Int) (x3481 : Int) (x3482 : Int) (x3483 : Int) (x3484 : Int) (x3485 : Int) (x3486 : Int) (x3487 : Int) (x3488 : List Int) (x3489 : List Int) : Option (Int × Int) := impl_flatCounts_numberOfRow_fuel RR x3474 x3475 x3476 x3477 x3478 x3479 x3480 x3481 x3482 x3483 x3484 x3485 x3486 x3487 x3488 x3489

def impl_PlaceOf_n1 (x3331 : List Int) : Option (Int) :=
  cond (decide ((((List.length x3331 : Nat) : Int)) > 6)) (some (-1)) ((impl_FlatOk x3331).bind fun (v3654 : Bool) => cond (!v3654) (some (-1)) ((impl_countFlatParts).bind fun (v3656 : Int × Int × Int × Int × Int × Int × Int × Int × Int × Int × Int × Int × Int × Int) => (impl_RootOf x3331).bind fun (v3671 : Int) => (impl_flatCounts_numberOfTree (v3656.1) (v3656.2.1) (v3656.2.2.1) (v3656.2.2.2.1) (v3656.2.2.2.2.1) (v3656.2.2.2.2.2.1) (v3656.2.2.2.2.2.2.1) (v3656.2.2.2.2.2.2.2.1) (v3656.2.2.2.2.2.2.2.2.1) (v3656.2.2.2.2.2.2.2.2.2.1) (v3656.2.2.2.2.2.2.2.2.2.2.1) (v3656.2.2.2.2.2.2.2.2.2.2.2.1) (v3656.2.2.2.2.2.2.2.2.2.2.2.2.1) (v3656.2.2.2.2.2.2.2.2.2.2.2.2.2) x3331 v3671).bind fun (v3672 : Int × Int) => some (v3672.2)))

@[irreducible] def impl_PlaceOf (x3331 : List Int) : Option (Int) :=
  impl_PlaceOf_n1 x3331

def laws_FnFlatAt_n1 (x1641 : List Int) : Option (Bool) :=
  cond (decide ((((List.length x1641 : Nat) : Int)) > 1048576)) (some true) ((spec_DrawFlatAt x1641).bind fun (v3684 : Int × Int) => (impl_FlatAt (v3684.1) (v3684.2)).bind fun (v3687 : Bool × (List Int)) => (spec_FlatAt (v3684.1) (v3684.2)).bind fun (v3690 : Bool × (List Int)) => (laws_sameInts (v3687.2) (v3690.2)).bind fun (v3693 : Bool) => cond (!v3693) (some false) (cond ((v3687.1) != (v3690.1)) (some false) (cond (!(v3687.1)) (cond ((((List.length (v3687.2) : Nat) : Int)) == 0) ((laws_alive).bind fun (v3699 : Bool) => some v3699) (some false)) ((impl_FlatAt (v3684.1) (IntKind.wrap .i64 ((v3684.2) + 1))).bind fun (v3701 : Bool × (List Int)) => (impl_FlatOk (v3687.2)).bind fun (v3704 : Bool) => cond v3704 (cond ((((List.length (v3687.2) : Nat) : Int)) == (v3684.1)) ((impl_PlaceOf (v3687.2)).bind fun (v3707 : Int) => cond (v3707 == (v3684.2)) (cond (!(v3701.1)) (some true) ((impl_RootOf (v3701.2)).bind fun (v3710 : Int) => (impl_RootOf (v3687.2)).bind fun (v3711 : Int) => some (decide (v3710 ≥ v3711)))) (some false)) (some false)) (some false)))))

@[irreducible] def laws_FnFlatAt (x1641 : List Int) : Option (Bool) :=
  laws_FnFlatAt_n1 x1641

def spec_l2Yield_n1 (R0 : (List Int) → Int → Option Int) (x3966 : Int) : Option (Int) :=
  (shl .i64 1 (IntKind.wrap .i64 (x3966 - 1))).bind fun (v3997 : Int) => some v3997

def spec_l2Yield_n2 (R0 : (List Int) → Int → Option Int) : Option (Unit) :=
  some ()

def spec_l2Yield_n3 (R0 : (List Int) → Int → Option Int) (x3965 : List Int) (x3966 : Int) (x4018 : Int) (x4019 : Int) : Option ((Int × Int) ⊕ Int) :=
  cond (decide (x4019 < (((List.length x3965 : Nat) : Int)))) ((idx x3965 x4019).bind fun (v4031 : Int) => cond (v4031 == x3966) ((R0 x3965 (IntKind.wrap .i64 (x4019 + 1))).bind fun (v4034 : Int) => some (Sum.inl ((ior .i64 x4018 v4034), (IntKind.wrap .i64 (x4019 + 1))))) (some (Sum.inl (x4018, (IntKind.wrap .i64 (x4019 + 1)))))) (some (Sum.inr x4018))

def spec_l2Yield_n4 (R0 : (List Int) → Int → Option Int) (x3965 : List Int) (x3966 : Int) (x3997 : Int) : Option (Int) :=
  nloop (fun (s : Int × Int) => ((spec_l2Yield_n3 R0 x3965 x3966 s.1 s.2).map (Sum.elim (fun (t : Int × Int) => Sum.inl (t.1, t.2)) (fun (t : Int) => Sum.inr t)) : Option ((Int × Int) ⊕ (Int)))) LL (x3997, 0)

def spec_l2Yield_n5 (R0 : (List Int) → Int → Option Int) (x3965 : List Int) (x3966 : Int) (x3997 : Int) : Option (Int) :=
  (spec_l2Yield_n4 R0 x3965 x3966 x3997).map (fun (t : Int) => t)

def spec_l2Yield_n6 (R0 : (List Int) → Int → Option Int) (x3965 : List Int) (x3966 : Int) (x3997 : Int) : Option (Int) :=
  (spec_l2Yield_n2 R0).bind (fun (t : Unit) => spec_l2Yield_n5 R0 x3965 x3966 x3997)

def spec_l2Yield_n7 (R0 : (List Int) → Int → Option Int) (x4018 : Int) : Option (Int) :=
  some x4018

def spec_l2Yield_n8 (R0 : (List Int) → Int → Option Int) (x3965 : List Int) (x3966 : Int) (x3997 : Int) : Option (Int) :=
  (spec_l2Yield_n6 R0 x3965 x3966 x3997).bind (fun (t : Int) => spec_l2Yield_n7 R0 t)

def spec_l2Yield_n9 (R0 : (List Int) → Int → Option Int) (x3965 : List Int) (x3966 : Int) : Option (Int) :=
  (spec_l2Yield_n1 R0 x3966).bind (fun (t : Int) => spec_l2Yield_n8 R0 x3965 x3966 t)

def spec_l2Yield_one (R0 : (List Int) → Int → Option Int) (x3965 : List Int) (x3966 : Int) : Option (Int) :=
  spec_l2Yield_n9 R0 x3965 x3966

def spec_l2Yield_knot : Nat → ((List Int) → Int → Option Int)
  | 0 => (fun _ _ => none)
  | n + 1 => (fun y0 y1 => spec_l2Yield_one (spec_l2Yield_knot n) y0 y1)

def spec_l2Yield_fuel (n : Nat) : (List Int) → Int → Option Int := (spec_l2Yield_knot n)

@[irreducible] def spec_l2Yield (x3965 : List Int) (x3966 : Int) : Option (Int) := spec_l2Yield_fuel RR x3965 x3966

def spec_l4TreeRank_n1 (R0 : (List Int) → Int → Int → Int → Option Int) (R1 : (List Int) → Int → Int → Int → Option Int) : Option (Unit) :=
  some ()

def spec_l4TreeRank_n2 (R0 : (List Int) → Int → Int → Int → Option Int) (R1 : (List Int) → Int → Int → Int → Option Int) : Option (Unit) :=
  some ()

def spec_l4TreeRank_n3 (R0 : (List Int) → Int → Int → Int → Option Int) (R1 : (List Int) → Int → Int → Int → Option Int) (x4134 : Int) (x4135 : Int) (x4136 : Int) (x4365 : Int) (x4366 : Int) : Option ((Int × Int) ⊕ Int) :=
  cond (decide (x4366 < x4136)) ((spec_l4Rows (IntKind.wrap .i64 (x4366 - x4134))).bind fun (v4377 : Int) => (spec_l4Rows (IntKind.wrap .i64 (x4135 - x4366))).bind fun (v4379 : Int) => some (Sum.inl ((IntKind.wrap .i64 (x4365 + (IntKind.wrap .i64 (v4377 * v4379)))), (IntKind.wrap .i64 (x4366 + 1))))) (some (Sum.inr x4365))

def spec_l4TreeRank_n4 (R0 : (List Int) → Int → Int → Int → Option Int) (R1 : (List Int) → Int → Int → Int → Option Int) (x4134 : Int) (x4135 : Int) (x4136 : Int) : Option (Int) :=
  nloop (fun (s : Int × Int) => ((spec_l4TreeRank_n3 R0 R1 x4134 x4135 x4136 s.1 s.2).map (Sum.elim (fun (t : Int × Int) => Sum.inl (t.1, t.2)) (fun (t : Int) => Sum.inr t)) : Option ((Int × Int) ⊕ (Int)))) LL (0, x4134)

def spec_l4TreeRank_n5 (R0 : (List Int) → Int → Int → Int → Option Int) (R1 : (List Int) → Int → Int → Int → Option Int) (x4134 : Int) (x4135 : Int) (x4136 : Int) : Option (Int) :=
  (spec_l4TreeRank_n4 R0 R1 x4134 x4135 x4136).map (fun (t : Int) => t)

def spec_l4TreeRank_n6 (R0 : (List Int) → Int → Int → Int → Option Int) (R1 : (List Int) → Int → Int → Int → Option Int) (x4134 : Int) (x4135 : Int) (x4136 : Int) : Option (Int) :=
  (spec_l4TreeRank_n2 R0 R1).bind (fun (t : Unit) => spec_l4TreeRank_n5 R0 R1 x4134 x4135 x4136)

def spec_l4TreeRank_n7 (R0 : (List Int) → Int → Int → Int → Option Int) (R1 : (List Int) → Int → Int → Int → Option Int) (x4133 : List Int) (x4134 : Int) (x4135 : Int) (x4136 : Int) (x4365 : Int) : Option (Int) :=
  (R1 x4133 x4134 (IntKind.wrap .i64 (x4136 - 1)) x4136).bind fun (v4671 : Int) => (spec_l4Rows (IntKind.wrap .i64 (x4135 - x4136))).bind fun (v4673 : Int) => (R1 x4133 (IntKind.wrap .i64 (x4136 + 1)) x4135 x4136).bind fun (v4677 : Int) => some (IntKind.wrap .i64 ((IntKind.wrap .i64 (x4365 + (IntKind.wrap .i64 (v4671 * v4673)))) + v4677))

def spec_l4TreeRank_n8 (R0 : (List Int) → Int → Int → Int → Option Int) (R1 : (List Int) → Int → Int → Int → Option Int) (x4133 : List Int) (x4134 : Int) (x4135 : Int) (x4136 : Int) : Option (Int) :=
  (spec_l4TreeRank_n6 R0 R1 x4134 x4135 x4136).bind (fun (t : Int) => spec_l4TreeRank_n7 R0 R1 x4133 x4134 x4135 x4136 t)

def spec_l4TreeRank_n9 (R0 : (List Int) → Int → Int → Int → Option Int) (R1 : (List Int) → Int → Int → Int → Option Int) (x4133 : List Int) (x4134 : Int) (x4135 : Int) (x4136 : Int) : Option (Int) :=
  (spec_l4TreeRank_n1 R0 R1).bind (fun (t : Unit) => spec_l4TreeRank_n8 R0 R1 x4133 x4134 x4135 x4136)

def spec_l4TreeRank_one (R0 : (List Int) → Int → Int → Int → Option Int) (R1 : (List Int) → Int → Int → Int → Option Int) (x4133 : List Int) (x4134 : Int) (x4135 : Int) (x4136 : Int) : Option (Int) :=
  spec_l4TreeRank_n9 R0 R1 x4133 x4134 x4135 x4136

def spec_l4RowRank_n1 (R0 : (List Int) → Int → Int → Int → Option Int) (R1 : (List Int) → Int → Int → Int → Option Int) (x4385 : Int) (x4386 : Int) : Option (Unit ⊕ Int) :=
  cond (decide (x4385 > x4386)) (some (Sum.inr 0)) (some (Sum.inl ()))

def spec_l4RowRank_n2 (R0 : (List Int) → Int → Int → Int → Option Int) (R1 : (List Int) → Int → Int → Int → Option Int) (x4384 : List Int) (x4387 : Int) (x4576 : Int) : Option (Int ⊕ Int) :=
  (idx x4384 (IntKind.wrap .i64 (x4576 - 1))).bind fun (v4581 : Int) => cond (v4581 != x4387) (some (Sum.inl (IntKind.wrap .i64 (x4576 + 1)))) (some (Sum.inr x4576))

def spec_l4RowRank_n3 (R0 : (List Int) → Int → Int → Int → Option Int) (R1 : (List Int) → Int → Int → Int → Option Int) (x4384 : List Int) (x4385 : Int) (x4387 : Int) : Option (Int) :=
  nloop (fun (s : Int) => ((spec_l4RowRank_n2 R0 R1 x4384 x4387 s).map (Sum.elim (fun (t : Int) => Sum.inl t) (fun (t : Int) => Sum.inr t)) : Option ((Int) ⊕ (Int)))) LL x4385

def spec_l4RowRank_n4 (R0 : (List Int) → Int → Int → Int → Option Int) (R1 : (List Int) → Int → Int → Int → Option Int) (x4384 : List Int) (x4385 : Int) (x4387 : Int) : Option (Int) :=
  (spec_l4RowRank_n3 R0 R1 x4384 x4385 x4387).map (fun (t : Int) => t)

def spec_l4RowRank_n5 (R0 : (List Int) → Int → Int → Int → Option Int) (R1 : (List Int) → Int → Int → Int → Option Int) : Option (Unit) :=
  some ()

def spec_l4RowRank_n6 (R0 : (List Int) → Int → Int → Int → Option Int) (R1 : (List Int) → Int → Int → Int → Option Int) (x4384 : List Int) (x4386 : Int) (x4576 : Int) (x4595 : Int) : Option (Int ⊕ Int) :=
  cond (decide (x4595 < x4386)) ((spec_l2Yield x4384 x4576).bind fun (v4602 : Int) => (shr .i64 v4602 x4595).bind fun (v4603 : Int) => (rem v4603 2).bind fun (v4604 : Int) => cond (v4604 == 1) (some (Sum.inl (IntKind.wrap .i64 (x4595 + 1)))) (some (Sum.inr x4595))) (some (Sum.inr x4595))

def spec_l4RowRank_n7 (R0 : (List Int) → Int → Int → Int → Option Int) (R1 : (List Int) → Int → Int → Int → Option Int) (x4384 : List Int) (x4385 : Int) (x4386 : Int) (x4576 : Int) : Option (Int) :=
  nloop (fun (s : Int) => ((spec_l4RowRank_n6 R0 R1 x4384 x4386 x4576 s).map (Sum.elim (fun (t : Int) => Sum.inl t) (fun (t : Int) => Sum.inr t)) : Option ((Int) ⊕ (Int)))) LL x4385

def spec_l4RowRank_n8 (R0 : (List Int) → Int → Int → Int → Option Int) (R1 : (List Int) → Int → Int → Int → Option Int) (x4384 : List Int) (x4385 : Int) (x4386 : Int) (x4576 : Int) : Option (Int) :=
  (spec_l4RowRank_n7 R0 R1 x4384 x4385 x4386 x4576).map (fun (t : Int) => t)

def spec_l4RowRank_n9 (R0 : (List Int) → Int → Int → Int → Option Int) (R1 : (List Int) → Int → Int → Int → Option Int) : Option (Unit) :=
  some ()

def spec_l4RowRank_n10 (R0 : (List Int) → Int → Int → Int → Option Int) (R1 : (List Int) → Int → Int → Int → Option Int) : Option (Unit) :=
  some ()

def spec_l4RowRank_n11 (R0 : (List Int) → Int → Int → Int → Option Int) (R1 : (List Int) → Int → Int → Int → Option Int) (x4385 : Int) (x4386 : Int) (x4595 : Int) (x4625 : Int) (x4626 : Int) : Option ((Int × Int) ⊕ Int) :=
  cond (decide (x4626 < x4595)) ((spec_l4Flat (IntKind.wrap .i64 ((IntKind.wrap .i64 (x4626 - x4385)) + 1))).bind fun (v4639 : Int) => (spec_l4Rows (IntKind.wrap .i64 (x4386 - x4626))).bind fun (v4641 : Int) => some (Sum.inl ((IntKind.wrap .i64 (x4625 + (IntKind.wrap .i64 (v4639 * v4641)))), (IntKind.wrap .i64 (x4626 + 1))))) (some (Sum.inr x4625))

def spec_l4RowRank_n12 (R0 : (List Int) → Int → Int → Int → Option Int) (R1 : (List Int) → Int → Int → Int → Option Int) (x4385 : Int) (x4386 : Int) (x4595 : Int) : Option (Int) :=
  nloop (fun (s : Int × Int) => ((spec_l4RowRank_n11 R0 R1 x4385 x4386 x4595 s.1 s.2).map (Sum.elim (fun (t : Int × Int) => Sum.inl (t.1, t.2)) (fun (t : Int) => Sum.inr t)) : Option ((Int × Int) ⊕ (Int)))) LL (0, x4385)

def spec_l4RowRank_n13 (R0 : (List Int) → Int → Int → Int → Option Int) (R1 : (List Int) → Int → Int → Int → Option Int) (x4385 : Int) (x4386 : Int) (x4595 : Int) : Option (Int) :=
  (spec_l4RowRank_n12 R0 R1 x4385 x4386 x4595).map (fun (t : Int) => t)

def spec_l4RowRank_n14 (R0 : (List Int) → Int → Int → Int → Option Int) (R1 : (List Int) → Int → Int → Int → Option Int) (x4385 : Int) (x4386 : Int) (x4595 : Int) : Option (Int) :=
  (spec_l4RowRank_n10 R0 R1).bind (fun (t : Unit) => spec_l4RowRank_n13 R0 R1 x4385 x4386 x4595)

def spec_l4RowRank_n15 (R0 : (List Int) → Int → Int → Int → Option Int) (R1 : (List Int) → Int → Int → Int → Option Int) (x4384 : List Int) (x4385 : Int) (x4386 : Int) (x4387 : Int) (x4576 : Int) (x4595 : Int) (x4625 : Int) : Option (Int) :=
  (R0 x4384 x4385 x4595 x4576).bind fun (v4653 : Int) => (spec_l4Rows (IntKind.wrap .i64 (x4386 - x4595))).bind fun (v4655 : Int) => (R1 x4384 (IntKind.wrap .i64 (x4595 + 1)) x4386 x4387).bind fun (v4659 : Int) => some (IntKind.wrap .i64 ((IntKind.wrap .i64 (x4625 + (IntKind.wrap .i64 (v4653 * v4655)))) + v4659))

def spec_l4RowRank_n16 (R0 : (List Int) → Int → Int → Int → Option Int) (R1 : (List Int) → Int → Int → Int → Option Int) (x4384 : List Int) (x4385 : Int) (x4386 : Int) (x4387 : Int) (x4576 : Int) (x4595 : Int) : Option (Int) :=
  (spec_l4RowRank_n14 R0 R1 x4385 x4386 x4595).bind (fun (t : Int) => spec_l4RowRank_n15 R0 R1 x4384 x4385 x4386 x4387 x4576 x4595 t)

def spec_l4RowRank_n17 (R0 : (List Int) → Int → Int → Int → Option Int) (R1 : (List Int) → Int → Int → Int → Option Int) (x4384 : List Int) (x4385 : Int) (x4386 : Int) (x4387 : Int) (x4576 : Int) (x4595 : Int) : Option (Int) :=
  (spec_l4RowRank_n9 R0 R1).bind (fun (t : Unit) => spec_l4RowRank_n16 R0 R1 x4384 x4385 x4386 x4387 x4576 x4595)

def spec_l4RowRank_n18 (R0 : (List Int) → Int → Int → Int → Option Int) (R1 : (List Int) → Int → Int → Int → Option Int) (x4384 : List Int) (x4385 : Int) (x4386 : Int) (x4387 : Int) (x4576 : Int) : Option (Int) :=
  (spec_l4RowRank_n8 R0 R1 x4384 x4385 x4386 x4576).bind (fun (t : Int) => spec_l4RowRank_n17 R0 R1 x4384 x4385 x4386 x4387 x4576 t)

def spec_l4RowRank_n19 (R0 : (List Int) → Int → Int → Int → Option Int) (R1 : (List Int) → Int → Int → Int → Option Int) (x4384 : List Int) (x4385 : Int) (x4386 : Int) (x4387 : Int) (x4576 : Int) : Option (Int) :=
  (spec_l4RowRank_n5 R0 R1).bind (fun (t : Unit) => spec_l4RowRank_n18 R0 R1 x4384 x4385 x4386 x4387 x4576)

def spec_l4RowRank_n20 (R0 : (List Int) → Int → Int → Int → Option Int) (R1 : (List Int) → Int → Int → Int → Option Int) (x4384 : List Int) (x4385 : Int) (x4386 : Int) (x4387 : Int) : Option (Int) :=
  (spec_l4RowRank_n4 R0 R1 x4384 x4385 x4387).bind (fun (t : Int) => spec_l4RowRank_n19 R0 R1 x4384 x4385 x4386 x4387 t)

def spec_l4RowRank_n21 (R0 : (List Int) → Int → Int → Int → Option Int) (R1 : (List Int) → Int → Int → Int → Option Int) (x4384 : List Int) (x4385 : Int) (x4386 : Int) (x4387 : Int) : Option (Int) :=
  (spec_l4RowRank_n1 R0 R1 x4385 x4386).bind (Sum.elim (fun (t : Unit) => spec_l4RowRank_n20 R0 R1 x4384 x4385 x4386 x4387) (fun e => some ((fun (t : Int) => t) e)))

def spec_l4RowRank_one (R0 : (List Int) → Int → Int → Int → Option Int) (R1 : (List Int) → Int → Int → Int → Option Int) (x4384 : List Int) (x4385 : Int) (x4386 : Int) (x4387 : Int) : Option (Int) :=
  spec_l4RowRank_n21 R0 R1 x4384 x4385 x4386 x4387

end Go.Rv
