/-
  Plain functions, written by program for functions of the checked code. Conditions: none.
-/
import Derived.Test.YtgjhjbankpdcgaaDoorFB
set_option linter.unusedVariables false
namespace Go.Rv
def impl_oneRoot_n1 : Option (Unit) :=
  some ()

def impl_oneRoot_n2 (x840 : List Int) : Option (Int) :=
  some (((List.length x840 : Nat) : Int))

def impl_oneRoot_n3 (x840 : List Int) (x862 : Int) (x841 : Int) (x863 : Int) : Option ((Int × Int) ⊕ Bool ⊕ Int) :=
  cond (decide (x863 < x841)) ((idx x840 x863).bind fun (v874 : Int) => cond (decide (v874 < 0)) (some (Sum.inr (Sum.inl false))) (cond (decide (v874 > (((List.length x840 : Nat) : Int)))) (some (Sum.inr (Sum.inl false))) (cond (v874 == 0) (some (Sum.inl ((IntKind.wrap .i64 (x862 + 1)), (IntKind.wrap .i64 (x863 + 1))))) (some (Sum.inl (x862, (IntKind.wrap .i64 (x863 + 1)))))))) (some (Sum.inr (Sum.inr x862)))

def impl_oneRoot_n4 (x840 : List Int) (x841 : Int) : Option (Bool ⊕ Int) :=
  nloop (fun (s : Int × Int) => ((impl_oneRoot_n3 x840 s.1 x841 s.2).map (Sum.elim (fun (t : Int × Int) => Sum.inl (t.1, t.2)) (Sum.elim (fun (t : Bool) => Sum.inr (Sum.inl t)) (fun (t : Int) => Sum.inr (Sum.inr t)))) : Option ((Int × Int) ⊕ (Bool ⊕ Int)))) LL (0, 0)

def impl_oneRoot_n5 (x840 : List Int) (x841 : Int) : Option (Int ⊕ Bool) :=
  (impl_oneRoot_n4 x840 x841).map (Sum.elim (fun (t : Bool) => (Sum.inr t)) (fun (t : Int) => (Sum.inl t)))

def impl_oneRoot_n6 (x840 : List Int) : Option (Int ⊕ Bool) :=
  (impl_oneRoot_n2 x840).bind (fun (t : Int) => impl_oneRoot_n5 x840 t)

def impl_oneRoot_n7 (x862 : Int) : Option (Bool) :=
  some (x862 == 1)

def impl_oneRoot_n8 (x840 : List Int) : Option (Bool) :=
  (impl_oneRoot_n6 x840).bind (Sum.elim (fun (t : Int) => impl_oneRoot_n7 t) (fun e => some ((fun (t : Bool) => t) e)))

def impl_oneRoot_n9 (x840 : List Int) : Option (Bool) :=
  (impl_oneRoot_n1).bind (fun (t : Unit) => impl_oneRoot_n8 x840)

@[irreducible] def impl_oneRoot (x840 : List Int) : Option (Bool) :=
  impl_oneRoot_n9 x840

def impl_walker_up_n1 (x896 : List Int) (x897 : Int) (x898 : Int) : Option ((Bool × Int × Int)) :=
  (idx x896 (IntKind.wrap .i64 (x897 - 1))).bind fun (v916 : Int) => cond (v916 == 0) (some (false, x897, x898)) (some (true, v916, (IntKind.wrap .i64 (x898 + 1))))

@[irreducible] def impl_walker_up (x896 : List Int) (x897 : Int) (x898 : Int) : Option (Bool × Int × Int) :=
  impl_walker_up_n1 x896 x897 x898

def impl_stepsToRoot_n1 : Option (Unit) :=
  some ()

def impl_stepsToRoot_n2 (x894 : List Int) (x932 : Int) (x933 : Int) : Option ((Int × Int) ⊕ (Int × Bool) ⊕ (Int × Int)) :=
  (impl_walker_up x894 x932 x933).bind fun (v938 : Bool × Int × Int) => cond (v938.1) (cond (decide ((v938.2.2) ≥ (((List.length x894 : Nat) : Int)))) (some (Sum.inr (Sum.inl (0, false)))) (some (Sum.inl ((v938.2.1), (v938.2.2))))) (some (Sum.inr (Sum.inr ((v938.2.1), (v938.2.2)))))

def impl_stepsToRoot_n3 (x894 : List Int) (x895 : Int) : Option ((Int × Bool) ⊕ (Int × Int)) :=
  nloop (fun (s : Int × Int) => ((impl_stepsToRoot_n2 x894 s.1 s.2).map (Sum.elim (fun (t : Int × Int) => Sum.inl (t.1, t.2)) (Sum.elim (fun (t : Int × Bool) => Sum.inr (Sum.inl t)) (fun (t : Int × Int) => Sum.inr (Sum.inr t)))) : Option ((Int × Int) ⊕ ((Int × Bool) ⊕ (Int × Int))))) LL (x895, 0)

def impl_stepsToRoot_n4 (x894 : List Int) (x895 : Int) : Option ((Int × Int) ⊕ (Int × Bool)) :=
  (impl_stepsToRoot_n3 x894 x895).map (Sum.elim (fun (t : Int × Bool) => (Sum.inr t)) (fun (t : Int × Int) => (Sum.inl (t.1, t.2))))

def impl_stepsToRoot_n5 (x941 : Int) : Option ((Int × Bool)) :=
  some (x941, true)

def impl_stepsToRoot_n6 (x894 : List Int) (x895 : Int) : Option ((Int × Bool)) :=
  (impl_stepsToRoot_n4 x894 x895).bind (Sum.elim (fun (t : Int × Int) => impl_stepsToRoot_n5 t.2) (fun e => some ((fun (t : Int × Bool) => t) e)))

def impl_stepsToRoot_n7 (x894 : List Int) (x895 : Int) : Option ((Int × Bool)) :=
  (impl_stepsToRoot_n1).bind (fun (t : Unit) => impl_stepsToRoot_n6 x894 x895)

@[irreducible] def impl_stepsToRoot (x894 : List Int) (x895 : Int) : Option (Int × Bool) :=
  impl_stepsToRoot_n7 x894 x895

def impl_TreeOk_n1 (x834 : List Int) : Option (Unit ⊕ Bool) :=
  cond (decide ((((List.length x834 : Nat) : Int)) < 1)) (some (Sum.inr false)) (cond (decide ((((List.length x834 : Nat) : Int)) > 8)) (some (Sum.inr false)) ((impl_oneRoot x834).bind fun (v887 : Bool) => cond (!v887) (some (Sum.inr false)) (some (Sum.inl ()))))

def impl_TreeOk_n2 (x834 : List Int) : Option (Int) :=
  some (((List.length x834 : Nat) : Int))

def impl_TreeOk_n3 (x834 : List Int) (x889 : Int) (x957 : Int) : Option (Int ⊕ Bool ⊕ Unit) :=
  cond (decide (x957 < x889)) ((impl_stepsToRoot x834 (IntKind.wrap .i64 (x957 + 1))).bind fun (v968 : Int × Bool) => cond (!(v968.2)) (some (Sum.inr (Sum.inl false))) (some (Sum.inl (IntKind.wrap .i64 (x957 + 1))))) (some (Sum.inr (Sum.inr ())))

def impl_TreeOk_n4 (x834 : List Int) (x889 : Int) : Option (Bool ⊕ Unit) :=
  nloop (fun (s : Int) => ((impl_TreeOk_n3 x834 x889 s).map (Sum.elim (fun (t : Int) => Sum.inl t) (Sum.elim (fun (t : Bool) => Sum.inr (Sum.inl t)) (fun (t : Unit) => Sum.inr (Sum.inr t)))) : Option ((Int) ⊕ (Bool ⊕ Unit)))) LL 0

def impl_TreeOk_n5 (x834 : List Int) (x889 : Int) : Option (Unit ⊕ Bool) :=
  (impl_TreeOk_n4 x834 x889).map (Sum.elim (fun (t : Bool) => (Sum.inr t)) (fun (t : Unit) => (Sum.inl ())))

def impl_TreeOk_n6 (x834 : List Int) : Option (Unit ⊕ Bool) :=
  (impl_TreeOk_n2 x834).bind (fun (t : Int) => impl_TreeOk_n5 x834 t)

def impl_TreeOk_n7 : Option (Bool) :=
  some true

def impl_TreeOk_n8 (x834 : List Int) : Option (Bool) :=
  (impl_TreeOk_n6 x834).bind (Sum.elim (fun (t : Unit) => impl_TreeOk_n7) (fun e => some ((fun (t : Bool) => t) e)))

def impl_TreeOk_n9 (x834 : List Int) : Option (Bool) :=
  (impl_TreeOk_n1 x834).bind (Sum.elim (fun (t : Unit) => impl_TreeOk_n8 x834) (fun e => some ((fun (t : Bool) => t) e)))

@[irreducible] def impl_TreeOk (x834 : List Int) : Option (Bool) :=
  impl_TreeOk_n9 x834

def impl_only_n1 (x998 : Int) : Option (Int) :=
  (shl .u64 1 (IntKind.wrap .i64 (x998 - 1))).bind fun (v1002 : Int) => some v1002

@[irreducible] def impl_only (x998 : Int) : Option (Int) :=
  impl_only_n1 x998

def impl_dependents_n1 : Option (Unit) :=
  some ()

def impl_dependents_n2 (x989 : List Int) : Option (Int) :=
  some (((List.length x989 : Nat) : Int))

def impl_dependents_n3 (x989 : List Int) (x990 : Int) (x1015 : Int) (x991 : Int) (x1016 : Int) : Option ((Int × Int) ⊕ Int) :=
  cond (decide (x1016 < x991)) ((idx x989 x1016).bind fun (v1026 : Int) => cond (v1026 == x990) ((impl_only (IntKind.wrap .i64 (x1016 + 1))).bind fun (v1029 : Int) => some (Sum.inl ((ior .u64 x1015 v1029), (IntKind.wrap .i64 (x1016 + 1))))) (some (Sum.inl (x1015, (IntKind.wrap .i64 (x1016 + 1)))))) (some (Sum.inr x1015))

def impl_dependents_n4 (x989 : List Int) (x990 : Int) (x991 : Int) : Option (Int) :=
  nloop (fun (s : Int × Int) => ((impl_dependents_n3 x989 x990 s.1 x991 s.2).map (Sum.elim (fun (t : Int × Int) => Sum.inl (t.1, t.2)) (fun (t : Int) => Sum.inr t)) : Option ((Int × Int) ⊕ (Int)))) LL (0, 0)

def impl_dependents_n5 (x989 : List Int) (x990 : Int) (x991 : Int) : Option (Int) :=
  (impl_dependents_n4 x989 x990 x991).map (fun (t : Int) => t)

def impl_dependents_n6 (x989 : List Int) (x990 : Int) : Option (Int) :=
  (impl_dependents_n2 x989).bind (fun (t : Int) => impl_dependents_n5 x989 x990 t)

def impl_dependents_n7 (x1015 : Int) : Option (Int) :=
  some x1015

def impl_dependents_n8 (x989 : List Int) (x990 : Int) : Option (Int) :=
  (impl_dependents_n6 x989 x990).bind (fun (t : Int) => impl_dependents_n7 t)

def impl_dependents_n9 (x989 : List Int) (x990 : Int) : Option (Int) :=
  (impl_dependents_n1).bind (fun (t : Unit) => impl_dependents_n8 x989 x990)

@[irreducible] def impl_dependents (x989 : List Int) (x990 : Int) : Option (Int) :=
  impl_dependents_n9 x989 x990

def impl_before_n1 (x1037 : Int) : Option (Int) :=
  (impl_only x1037).bind fun (v1040 : Int) => some (IntKind.wrap .u64 (v1040 - 1))

@[irreducible] def impl_before (x1037 : Int) : Option (Int) :=
  impl_before_n1 x1037

def impl_dependentsBeside_n1 (x987 : List Int) (x988 : Int) : Option ((Int × Int)) :=
  (impl_dependents x987 x988).bind fun (v1046 : Int) => (impl_before x988).bind fun (v1047 : Int) => (impl_before x988).bind fun (v1049 : Int) => some ((iand .u64 v1046 v1047), (iandn .u64 v1046 v1049))

@[irreducible] def impl_dependentsBeside (x987 : List Int) (x988 : Int) : Option (Int × Int) :=
  impl_dependentsBeside_n1 x987 x988

def math_bits_OnesCount64_n1 (x1061 : Int) : Option (Int) :=
  (shr .u64 x1061 1).bind fun (v1062 : Int) => some (IntKind.wrap .u64 ((iand .u64 v1062 6148914691236517205) + (iand .u64 x1061 6148914691236517205)))

def math_bits_OnesCount64_n2 (x1066 : Int) : Option (Int) :=
  (shr .u64 x1066 2).bind fun (v1080 : Int) => some (IntKind.wrap .u64 ((iand .u64 v1080 3689348814741910323) + (iand .u64 x1066 3689348814741910323)))

def math_bits_OnesCount64_n3 (x1083 : Int) : Option (Int) :=
  (shr .u64 x1083 4).bind fun (v1088 : Int) => some (iand .u64 (IntKind.wrap .u64 (v1088 + x1083)) 1085102592571150095)

def math_bits_OnesCount64_n4 (x1090 : Int) : Option (Int) :=
  (shr .u64 x1090 8).bind fun (v1093 : Int) => some (IntKind.wrap .u64 (x1090 + v1093))

def math_bits_OnesCount64_n5 (x1094 : Int) : Option (Int) :=
  (shr .u64 x1094 16).bind fun (v1098 : Int) => some (IntKind.wrap .u64 (x1094 + v1098))

def math_bits_OnesCount64_n6 (x1099 : Int) : Option (Int) :=
  (shr .u64 x1099 32).bind fun (v1103 : Int) => some (IntKind.wrap .u64 (x1099 + v1103))

def math_bits_OnesCount64_n7 (x1104 : Int) : Option (Int) :=
  some (iand .i64 (IntKind.wrap .i64 x1104) 127)

def math_bits_OnesCount64_n8 (x1109 : Int) : Option (Int) :=
  some x1109

def math_bits_OnesCount64_n9 (x1104 : Int) : Option (Int) :=
  (math_bits_OnesCount64_n7 x1104).bind (fun (t : Int) => math_bits_OnesCount64_n8 t)

def math_bits_OnesCount64_n10 (x1099 : Int) : Option (Int) :=
  (math_bits_OnesCount64_n6 x1099).bind (fun (t : Int) => math_bits_OnesCount64_n9 t)

def math_bits_OnesCount64_n11 (x1094 : Int) : Option (Int) :=
  (math_bits_OnesCount64_n5 x1094).bind (fun (t : Int) => math_bits_OnesCount64_n10 t)

def math_bits_OnesCount64_n12 (x1090 : Int) : Option (Int) :=
  (math_bits_OnesCount64_n4 x1090).bind (fun (t : Int) => math_bits_OnesCount64_n11 t)

def math_bits_OnesCount64_n13 (x1083 : Int) : Option (Int) :=
  (math_bits_OnesCount64_n3 x1083).bind (fun (t : Int) => math_bits_OnesCount64_n12 t)

def math_bits_OnesCount64_n14 (x1066 : Int) : Option (Int) :=
  (math_bits_OnesCount64_n2 x1066).bind (fun (t : Int) => math_bits_OnesCount64_n13 t)

def math_bits_OnesCount64_n15 (x1061 : Int) : Option (Int) :=
  (math_bits_OnesCount64_n1 x1061).bind (fun (t : Int) => math_bits_OnesCount64_n14 t)

@[irreducible] def math_bits_OnesCount64 (x1061 : Int) : Option (Int) :=
  math_bits_OnesCount64_n15 x1061

def math_bits_OnesCount_n1 (x1060 : Int) : Option (Int) :=
  (math_bits_OnesCount64 x1060).bind fun (v1111 : Int) => some v1111

@[irreducible] def math_bits_OnesCount (x1060 : Int) : Option (Int) :=
  math_bits_OnesCount_n1 x1060

def impl_wordSet_count_n1 (x1059 : Int) : Option (Int) :=
  (math_bits_OnesCount x1059).bind fun (v1113 : Int) => some v1113

@[irreducible] def impl_wordSet_count (x1059 : Int) : Option (Int) :=
  impl_wordSet_count_n1 x1059

def spec_l1In_n1 (x1144 : Int) (x1145 : Int) (x1146 : Int) : Option (Bool) :=
  cond (decide (x1144 ≥ x1145)) (some (decide (x1144 ≤ x1146))) (some false)

@[irreducible] def spec_l1In (x1144 : Int) (x1145 : Int) (x1146 : Int) : Option (Bool) :=
  spec_l1In_n1 x1144 x1145 x1146

def spec_TreeOk_n1 (x1141 : List Int) : Option (Int ⊕ Bool) :=
  (spec_l1In (((List.length x1141 : Nat) : Int)) 1 8).bind fun (v1155 : Bool) => cond (!v1155) (some (Sum.inr false)) (some (Sum.inl (((List.length x1141 : Nat) : Int))))

def spec_TreeOk_n2 : Option (Unit) :=
  some ()

def spec_TreeOk_n3 (x1154 : Int) (x1221 : Int) (x1222 : Int) : Option (Unit ⊕ Int) :=
  cond (decide (x1222 < x1154)) (some (Sum.inl ())) (some (Sum.inr x1221))

def spec_TreeOk_n4 (x1141 : List Int) (x1154 : Int) (x1221 : Int) (x1222 : Int) : Option ((Int × Int) ⊕ Bool) :=
  (idx x1141 x1222).bind fun (v1239 : Int) => (spec_l1In v1239 0 x1154).bind fun (v1240 : Bool) => cond (!v1240) (some (Sum.inr false)) ((idx x1141 x1222).bind fun (v1242 : Int) => cond (v1242 == (IntKind.wrap .i64 (x1222 + 1))) (some (Sum.inr false)) ((idx x1141 x1222).bind fun (v1245 : Int) => cond (v1245 == 0) (some (Sum.inl ((IntKind.wrap .i64 (x1221 + 1)), (IntKind.wrap .i64 (x1222 + 1))))) (some (Sum.inl (x1221, (IntKind.wrap .i64 (x1222 + 1)))))))

def spec_TreeOk_n5 : Option (Unit) :=
  some ()

def spec_TreeOk_n6 (x1141 : List Int) (x1154 : Int) (x1267 : Int) (x1268 : Int) : Option ((Int × Int) ⊕ Bool ⊕ Int) :=
  cond (decide (x1267 > 0)) (cond (decide (x1268 < x1154)) ((idx x1141 (IntKind.wrap .i64 (x1267 - 1))).bind fun (v1280 : Int) => (spec_l1In v1280 0 x1154).bind fun (v1281 : Bool) => cond (!v1281) (some (Sum.inr (Sum.inl false))) (some (Sum.inl (v1280, (IntKind.wrap .i64 (x1268 + 1)))))) (some (Sum.inr (Sum.inr x1267)))) (some (Sum.inr (Sum.inr x1267)))

def spec_TreeOk_n7 (x1141 : List Int) (x1154 : Int) (x1251 : Int) : Option (Bool ⊕ Int) :=
  nloop (fun (s : Int × Int) => ((spec_TreeOk_n6 x1141 x1154 s.1 s.2).map (Sum.elim (fun (t : Int × Int) => Sum.inl (t.1, t.2)) (Sum.elim (fun (t : Bool) => Sum.inr (Sum.inl t)) (fun (t : Int) => Sum.inr (Sum.inr t)))) : Option ((Int × Int) ⊕ (Bool ⊕ Int)))) LL (x1251, 0)

def spec_TreeOk_n8 (x1141 : List Int) (x1154 : Int) (x1251 : Int) : Option (Int ⊕ Bool) :=
  (spec_TreeOk_n7 x1141 x1154 x1251).map (Sum.elim (fun (t : Bool) => (Sum.inr t)) (fun (t : Int) => (Sum.inl t)))

def spec_TreeOk_n9 (x1141 : List Int) (x1154 : Int) (x1251 : Int) : Option (Int ⊕ Bool) :=
  (spec_TreeOk_n5).bind (fun (t : Unit) => spec_TreeOk_n8 x1141 x1154 x1251)

def spec_TreeOk_n10 (x1267 : Int) : Option (Unit ⊕ Bool) :=
  cond (decide (x1267 > 0)) (some (Sum.inr false)) (some (Sum.inl ()))

def spec_TreeOk_n11 (x1141 : List Int) (x1154 : Int) (x1251 : Int) : Option (Unit ⊕ Bool) :=
  (spec_TreeOk_n9 x1141 x1154 x1251).bind (Sum.elim (fun (t : Int) => spec_TreeOk_n10 t) (fun e => some ((fun (t : Bool) => (Sum.inr t)) e)))

def spec_TreeOk_n12 (x1141 : List Int) (x1154 : Int) (x1221 : Int) (x1222 : Int) : Option (Int ⊕ Bool) :=
  (spec_TreeOk_n4 x1141 x1154 x1221 x1222).bind (Sum.elim (fun (t : Int × Int) => (spec_TreeOk_n11 x1141 x1154 t.2).map (Sum.elim (fun (u : Unit) => (Sum.inl t.1)) (fun (u : Bool) => (Sum.inr u)))) (fun e => some ((fun (t : Bool) => (Sum.inr t)) e)))

def spec_TreeOk_n13 (x1141 : List Int) (x1154 : Int) (x1221 : Int) (x1222 : Int) : Option (Int ⊕ Bool) :=
  (spec_TreeOk_n12 x1141 x1154 x1221 x1222).map (Sum.elim (fun (t : Int) => (Sum.inl t)) (fun (t : Bool) => (Sum.inr t)))

def spec_TreeOk_n14 (x1222 : Int) : Option (Int) :=
  some (IntKind.wrap .i64 (x1222 + 1))

def spec_TreeOk_n15 (x1141 : List Int) (x1154 : Int) (x1221 : Int) (x1222 : Int) : Option ((Int × Int) ⊕ Bool) :=
  (spec_TreeOk_n13 x1141 x1154 x1221 x1222).bind (Sum.elim (fun (t : Int) => (spec_TreeOk_n14 x1222).map (fun (u : Int) => (Sum.inl (t, u)))) (fun e => some ((fun (t : Bool) => (Sum.inr t)) e)))

def spec_TreeOk_n16 (x1141 : List Int) (x1154 : Int) (x1221 : Int) (x1222 : Int) : Option ((Int × Int) ⊕ Bool ⊕ Int) :=
  (spec_TreeOk_n3 x1154 x1221 x1222).bind (Sum.elim (fun (t : Unit) => (spec_TreeOk_n15 x1141 x1154 x1221 x1222).map (Sum.elim (fun (t : Int × Int) => (Sum.inl (t.1, t.2))) (fun (t : Bool) => (Sum.inr (Sum.inl t))))) (fun e => some ((fun (t : Int) => (Sum.inr (Sum.inr t))) e)))

def spec_TreeOk_n17 (x1141 : List Int) (x1154 : Int) : Option (Bool ⊕ Int) :=
  nloop (fun (s : Int × Int) => ((spec_TreeOk_n16 x1141 x1154 s.1 s.2).map (Sum.elim (fun (t : Int × Int) => Sum.inl (t.1, t.2)) (Sum.elim (fun (t : Bool) => Sum.inr (Sum.inl t)) (fun (t : Int) => Sum.inr (Sum.inr t)))) : Option ((Int × Int) ⊕ (Bool ⊕ Int)))) LL (0, 0)

def spec_TreeOk_n18 (x1141 : List Int) (x1154 : Int) : Option (Int ⊕ Bool) :=
  (spec_TreeOk_n17 x1141 x1154).map (Sum.elim (fun (t : Bool) => (Sum.inr t)) (fun (t : Int) => (Sum.inl t)))

def spec_TreeOk_n19 (x1141 : List Int) (x1154 : Int) : Option (Int ⊕ Bool) :=
  (spec_TreeOk_n2).bind (fun (t : Unit) => spec_TreeOk_n18 x1141 x1154)

def spec_TreeOk_n20 (x1221 : Int) : Option (Bool) :=
  some (x1221 == 1)

def spec_TreeOk_n21 (x1141 : List Int) (x1154 : Int) : Option (Bool) :=
  (spec_TreeOk_n19 x1141 x1154).bind (Sum.elim (fun (t : Int) => spec_TreeOk_n20 t) (fun e => some ((fun (t : Bool) => t) e)))

def spec_TreeOk_n22 (x1141 : List Int) : Option (Bool) :=
  (spec_TreeOk_n1 x1141).bind (Sum.elim (fun (t : Int) => spec_TreeOk_n21 x1141 t) (fun e => some ((fun (t : Bool) => t) e)))

@[irreducible] def spec_TreeOk (x1141 : List Int) : Option (Bool) :=
  spec_TreeOk_n22 x1141

def math_bits_TrailingZeros64_n1 (x1559 : Int) : Option (Int) :=
  cond (x1559 == 0) (some 64) ((shr .u64 (IntKind.wrap .u64 ((iand .u64 x1559 (IntKind.wrap .u64 (0 - x1559))) * 285870213051353865)) 58).bind fun (v1576 : Int) => (same (List.length tab1) 64).bind fun (v1577 : Unit) => (idx tab1 v1576).bind fun (v1578 : Int) => some (IntKind.wrap .i64 v1578))

@[irreducible] def math_bits_TrailingZeros64 (x1559 : Int) : Option (Int) :=
  math_bits_TrailingZeros64_n1 x1559

def math_bits_TrailingZeros_n1 (x1558 : Int) : Option (Int) :=
  (math_bits_TrailingZeros64 x1558).bind fun (v1582 : Int) => some v1582

@[irreducible] def math_bits_TrailingZeros (x1558 : Int) : Option (Int) :=
  math_bits_TrailingZeros_n1 x1558

def impl_wordSet_list_n1 (x1552 : Int) : Option (((List Int))) :=
  (impl_wordSet_count x1552).bind fun (v1553 : Int) => (mk 0 v1553).bind fun (v1554 : Nat) => some (List.replicate v1554 (0 : Int))

def impl_wordSet_list_n2 : Option (Unit) :=
  some ()

def impl_wordSet_list_n3 (x1598 : Int) (x1599 : List Int) : Option ((Int × (List Int)) ⊕ ((List Int))) :=
  cond (x1598 != 0) ((math_bits_TrailingZeros x1598).bind fun (v1609 : Int) => (room ((List.length x1599) + List.length ([(IntKind.wrap .i64 (v1609 + 1))]))).bind fun (v1613 : Unit) => some (Sum.inl ((iand .u64 x1598 (IntKind.wrap .u64 (x1598 - 1))), (x1599 ++ ([(IntKind.wrap .i64 (v1609 + 1))]))))) (some (Sum.inr x1599))

def impl_wordSet_list_n4 (x1552 : Int) (x1555 : List Int) : Option (((List Int))) :=
  nloop (fun (s : Int × (List Int)) => ((impl_wordSet_list_n3 s.1 s.2).map (Sum.elim (fun (t : Int × (List Int)) => Sum.inl (t.1, t.2)) (fun (t : (List Int)) => Sum.inr t)) : Option ((Int × (List Int)) ⊕ (((List Int)))))) LL (x1552, x1555)

def impl_wordSet_list_n5 (x1552 : Int) (x1555 : List Int) : Option (((List Int))) :=
  (impl_wordSet_list_n4 x1552 x1555).map (fun (t : (List Int)) => t)

def impl_wordSet_list_n6 (x1552 : Int) (x1555 : List Int) : Option (((List Int))) :=
  (impl_wordSet_list_n2).bind (fun (t : Unit) => impl_wordSet_list_n5 x1552 x1555)

def impl_wordSet_list_n7 (x1599 : List Int) : Option (((List Int))) :=
  some x1599

def impl_wordSet_list_n8 (x1552 : Int) (x1555 : List Int) : Option (((List Int))) :=
  (impl_wordSet_list_n6 x1552 x1555).bind (fun (t : (List Int)) => impl_wordSet_list_n7 t)

def impl_wordSet_list_n9 (x1552 : Int) : Option (((List Int))) :=
  (impl_wordSet_list_n1 x1552).bind (fun (t : (List Int)) => impl_wordSet_list_n8 x1552 t)

@[irreducible] def impl_wordSet_list (x1552 : Int) : Option ((List Int)) :=
  impl_wordSet_list_n9 x1552

def impl_RootOf_n1 (x3172 : List Int) : Option (Unit ⊕ Int) :=
  (impl_TreeOk x3172).bind fun (v3175 : Bool) => cond (!v3175) (some (Sum.inr (-1))) (some (Sum.inl ()))

def impl_RootOf_n2 (x3172 : List Int) (x3185 : Int) (x3186 : Int) : Option ((Int × Int) ⊕ (Int × Int)) :=
  (impl_walker_up x3172 x3185 x3186).bind fun (v3191 : Bool × Int × Int) => cond (v3191.1) (some (Sum.inl ((v3191.2.1), (v3191.2.2)))) (some (Sum.inr ((v3191.2.1), (v3191.2.2))))

def impl_RootOf_n3 (x3172 : List Int) : Option ((Int × Int)) :=
  nloop (fun (s : Int × Int) => ((impl_RootOf_n2 x3172 s.1 s.2).map (Sum.elim (fun (t : Int × Int) => Sum.inl (t.1, t.2)) (fun (t : Int × Int) => Sum.inr t)) : Option ((Int × Int) ⊕ ((Int × Int))))) LL (1, 0)

def impl_RootOf_n4 (x3172 : List Int) : Option ((Int × Int)) :=
  (impl_RootOf_n3 x3172).map (fun (t : Int × Int) => (t.1, t.2))

def impl_RootOf_n5 (x3193 : Int) : Option (Int) :=
  some x3193

def impl_RootOf_n6 (x3172 : List Int) : Option (Int) :=
  (impl_RootOf_n4 x3172).bind (fun (t : Int × Int) => impl_RootOf_n5 t.1)

def impl_RootOf_n7 (x3172 : List Int) : Option (Int) :=
  (impl_RootOf_n1 x3172).bind (Sum.elim (fun (t : Unit) => impl_RootOf_n6 x3172) (fun e => some ((fun (t : Int) => t) e)))

@[irreducible] def impl_RootOf (x3172 : List Int) : Option (Int) :=
  impl_RootOf_n7 x3172

def spec_RootOf_n1 : Option (Unit) :=
  some ()

def spec_RootOf_n2 : Option (Unit) :=
  some ()

def spec_RootOf_n3 (x4097 : List Int) (x4114 : Int) : Option (Int ⊕ Int ⊕ Unit) :=
  cond (decide (x4114 < (((List.length x4097 : Nat) : Int)))) ((spec_TreeOk x4097).bind fun (v4126 : Bool) => cond v4126 ((idx x4097 x4114).bind fun (v4127 : Int) => cond (v4127 == 0) (some (Sum.inr (Sum.inl (IntKind.wrap .i64 (x4114 + 1))))) (some (Sum.inl (IntKind.wrap .i64 (x4114 + 1))))) (some (Sum.inr (Sum.inr ())))) (some (Sum.inr (Sum.inr ())))

def spec_RootOf_n4 (x4097 : List Int) : Option (Int ⊕ Unit) :=
  nloop (fun (s : Int) => ((spec_RootOf_n3 x4097 s).map (Sum.elim (fun (t : Int) => Sum.inl t) (Sum.elim (fun (t : Int) => Sum.inr (Sum.inl t)) (fun (t : Unit) => Sum.inr (Sum.inr t)))) : Option ((Int) ⊕ (Int ⊕ Unit)))) LL 0

def spec_RootOf_n5 (x4097 : List Int) : Option (Unit ⊕ Int) :=
  (spec_RootOf_n4 x4097).map (Sum.elim (fun (t : Int) => (Sum.inr t)) (fun (t : Unit) => (Sum.inl ())))

def spec_RootOf_n6 (x4097 : List Int) : Option (Unit ⊕ Int) :=
  (spec_RootOf_n2).bind (fun (t : Unit) => spec_RootOf_n5 x4097)

def spec_RootOf_n7 : Option (Int) :=
  some (-1)

def spec_RootOf_n8 (x4097 : List Int) : Option (Int) :=
  (spec_RootOf_n6 x4097).bind (Sum.elim (fun (t : Unit) => spec_RootOf_n7) (fun e => some ((fun (t : Int) => t) e)))

def spec_RootOf_n9 (x4097 : List Int) : Option (Int) :=
  (spec_RootOf_n1).bind (fun (t : Unit) => spec_RootOf_n8 x4097)

@[irreducible] def spec_RootOf (x4097 : List Int) : Option (Int) :=
  spec_RootOf_n9 x4097

def spec_OrderOk_n1 : Option (Unit) :=
  some ()

def spec_OrderOk_n2 : Option (Unit) :=
  some ()

def spec_OrderOk_n3 (x4798 : List Int) (x4830 : Int) : Option (Unit ⊕ Unit) :=
  cond (decide (x4830 < (((List.length x4798 : Nat) : Int)))) (some (Sum.inl ())) (some (Sum.inr ()))

def spec_OrderOk_n4 (x4798 : List Int) (x4799 : Int) (x4830 : Int) : Option (Unit ⊕ Bool) :=
  (idx x4798 x4830).bind fun (v4836 : Int) => (spec_l1In v4836 1 x4799).bind fun (v4837 : Bool) => cond (!v4837) (some (Sum.inr false)) (some (Sum.inl ()))

def spec_OrderOk_n5 (x4798 : List Int) (x4830 : Int) (x4849 : Int) : Option (Int ⊕ Bool ⊕ Unit) :=
  cond (decide (x4849 < x4830)) ((idx x4798 x4849).bind fun (v4856 : Int) => (idx x4798 x4830).bind fun (v4857 : Int) => cond (v4856 == v4857) (some (Sum.inr (Sum.inl false))) (some (Sum.inl (IntKind.wrap .i64 (x4849 + 1))))) (some (Sum.inr (Sum.inr ())))

def spec_OrderOk_n6 (x4798 : List Int) (x4830 : Int) : Option (Bool ⊕ Unit) :=
  nloop (fun (s : Int) => ((spec_OrderOk_n5 x4798 x4830 s).map (Sum.elim (fun (t : Int) => Sum.inl t) (Sum.elim (fun (t : Bool) => Sum.inr (Sum.inl t)) (fun (t : Unit) => Sum.inr (Sum.inr t)))) : Option ((Int) ⊕ (Bool ⊕ Unit)))) LL 0

def spec_OrderOk_n7 (x4798 : List Int) (x4830 : Int) : Option (Unit ⊕ Bool) :=
  (spec_OrderOk_n6 x4798 x4830).map (Sum.elim (fun (t : Bool) => (Sum.inr t)) (fun (t : Unit) => (Sum.inl ())))

def spec_OrderOk_n8 (x4798 : List Int) (x4799 : Int) (x4830 : Int) : Option (Unit ⊕ Bool) :=
  (spec_OrderOk_n4 x4798 x4799 x4830).bind (Sum.elim (fun (t : Unit) => spec_OrderOk_n7 x4798 x4830) (fun e => some ((fun (t : Bool) => (Sum.inr t)) e)))

def spec_OrderOk_n9 (x4798 : List Int) (x4799 : Int) (x4830 : Int) : Option (Unit ⊕ Bool) :=
  (spec_OrderOk_n8 x4798 x4799 x4830).map (Sum.elim (fun (t : Unit) => (Sum.inl ())) (fun (t : Bool) => (Sum.inr t)))

def spec_OrderOk_n10 (x4830 : Int) : Option (Int) :=
  some (IntKind.wrap .i64 (x4830 + 1))

def spec_OrderOk_n11 (x4798 : List Int) (x4799 : Int) (x4830 : Int) : Option (Int ⊕ Bool) :=
  (spec_OrderOk_n9 x4798 x4799 x4830).bind (Sum.elim (fun (t : Unit) => (spec_OrderOk_n10 x4830).map (fun (t : Int) => (Sum.inl t))) (fun e => some ((fun (t : Bool) => (Sum.inr t)) e)))

def spec_OrderOk_n12 (x4798 : List Int) (x4799 : Int) (x4830 : Int) : Option (Int ⊕ Bool ⊕ Unit) :=
  (spec_OrderOk_n3 x4798 x4830).bind (Sum.elim (fun (t : Unit) => (spec_OrderOk_n11 x4798 x4799 x4830).map (Sum.elim (fun (t : Int) => (Sum.inl t)) (fun (t : Bool) => (Sum.inr (Sum.inl t))))) (fun e => some ((fun (t : Unit) => (Sum.inr (Sum.inr t))) e)))

def spec_OrderOk_n13 (x4798 : List Int) (x4799 : Int) : Option (Bool ⊕ Unit) :=
  nloop (fun (s : Int) => ((spec_OrderOk_n12 x4798 x4799 s).map (Sum.elim (fun (t : Int) => Sum.inl t) (Sum.elim (fun (t : Bool) => Sum.inr (Sum.inl t)) (fun (t : Unit) => Sum.inr (Sum.inr t)))) : Option ((Int) ⊕ (Bool ⊕ Unit)))) LL 0

def spec_OrderOk_n14 (x4798 : List Int) (x4799 : Int) : Option (Unit ⊕ Bool) :=
  (spec_OrderOk_n13 x4798 x4799).map (Sum.elim (fun (t : Bool) => (Sum.inr t)) (fun (t : Unit) => (Sum.inl ())))

def spec_OrderOk_n15 (x4798 : List Int) (x4799 : Int) : Option (Unit ⊕ Bool) :=
  (spec_OrderOk_n2).bind (fun (t : Unit) => spec_OrderOk_n14 x4798 x4799)

def spec_OrderOk_n16 (x4798 : List Int) (x4799 : Int) : Option (Bool) :=
  (spec_l1In x4799 1 8).bind fun (v4864 : Bool) => cond v4864 (some ((((List.length x4798 : Nat) : Int)) == x4799)) (some false)

def spec_OrderOk_n17 (x4798 : List Int) (x4799 : Int) : Option (Bool) :=
  (spec_OrderOk_n15 x4798 x4799).bind (Sum.elim (fun (t : Unit) => spec_OrderOk_n16 x4798 x4799) (fun e => some ((fun (t : Bool) => t) e)))

def spec_OrderOk_n18 (x4798 : List Int) (x4799 : Int) : Option (Bool) :=
  (spec_OrderOk_n1).bind (fun (t : Unit) => spec_OrderOk_n17 x4798 x4799)

@[irreducible] def spec_OrderOk (x4798 : List Int) (x4799 : Int) : Option (Bool) :=
  spec_OrderOk_n18 x4798 x4799

def impl_appendFlat_n1 (R0 : (List Int) → Int → (List Int) → Option ((List Int))) (R1 : (List Int) → Int → (List Int) → Option ((List Int))) (x5085 : List Int) (x5086 : Int) (x5087 : List Int) : Option (((List Int))) :=
  (impl_dependentsBeside x5085 x5086).bind fun (v5209 : Int × Int) => (R1 x5085 (v5209.1) x5087).bind fun (v5212 : List Int) => (room ((List.length v5212) + List.length ([x5086]))).bind fun (v5215 : Unit) => (R1 x5085 (v5209.2) (v5212 ++ ([x5086]))).bind fun (v5217 : List Int) => some v5217

def impl_appendFlat_one (R0 : (List Int) → Int → (List Int) → Option ((List Int))) (R1 : (List Int) → Int → (List Int) → Option ((List Int))) (x5085 : List Int) (x5086 : Int) (x5087 : List Int) : Option ((List Int)) :=
  impl_appendFlat_n1 R0 R1 x5085 x5086 x5087

def impl_appendEachFlat_n1 (R0 : (List Int) → Int → (List Int) → Option ((List Int))) (R1 : (List Int) → Int → (List Int) → Option ((List Int))) : Option (Unit) :=
  some ()

def impl_appendEachFlat_n2 (R0 : (List Int) → Int → (List Int) → Option ((List Int))) (R1 : (List Int) → Int → (List Int) → Option ((List Int))) (x5141 : Int) : Option ((Int × (List Int))) :=
  (impl_wordSet_list x5141).bind fun (v5169 : List Int) => some ((((List.length v5169 : Nat) : Int)), v5169)

def impl_appendEachFlat_n3 (R0 : (List Int) → Int → (List Int) → Option ((List Int))) (R1 : (List Int) → Int → (List Int) → Option ((List Int))) (x5140 : List Int) (x5170 : Int) (x5182 : Int) (x5183 : List Int) (x5169 : List Int) : Option ((Int × (List Int)) ⊕ ((List Int))) :=
  cond (decide (x5182 < x5170)) ((inb x5182 (List.length x5169)).bind fun (v5191 : Nat) => (x5169[v5191]?).bind fun (v5192 : Int) => (R0 x5140 v5192 x5183).bind fun (v5193 : List Int) => some (Sum.inl ((IntKind.wrap .i64 (x5182 + 1)), v5193))) (some (Sum.inr x5183))

def impl_appendEachFlat_n4 (R0 : (List Int) → Int → (List Int) → Option ((List Int))) (R1 : (List Int) → Int → (List Int) → Option ((List Int))) (x5140 : List Int) (x5170 : Int) (x5142 : List Int) (x5169 : List Int) : Option (((List Int))) :=
  nloop (fun (s : Int × (List Int)) => ((impl_appendEachFlat_n3 R0 R1 x5140 x5170 s.1 s.2 x5169).map (Sum.elim (fun (t : Int × (List Int)) => Sum.inl (t.1, t.2)) (fun (t : (List Int)) => Sum.inr t)) : Option ((Int × (List Int)) ⊕ (((List Int)))))) LL (0, x5142)

def impl_appendEachFlat_n5 (R0 : (List Int) → Int → (List Int) → Option ((List Int))) (R1 : (List Int) → Int → (List Int) → Option ((List Int))) (x5140 : List Int) (x5170 : Int) (x5142 : List Int) (x5169 : List Int) : Option (((List Int))) :=
  (impl_appendEachFlat_n4 R0 R1 x5140 x5170 x5142 x5169).map (fun (t : (List Int)) => t)

def impl_appendEachFlat_n6 (R0 : (List Int) → Int → (List Int) → Option ((List Int))) (R1 : (List Int) → Int → (List Int) → Option ((List Int))) (x5140 : List Int) (x5141 : Int) (x5142 : List Int) : Option (((List Int))) :=
  (impl_appendEachFlat_n2 R0 R1 x5141).bind (fun (t : Int × (List Int)) => impl_appendEachFlat_n5 R0 R1 x5140 t.1 x5142 t.2)

def impl_appendEachFlat_n7 (R0 : (List Int) → Int → (List Int) → Option ((List Int))) (R1 : (List Int) → Int → (List Int) → Option ((List Int))) (x5183 : List Int) : Option (((List Int))) :=
  some x5183

def impl_appendEachFlat_n8 (R0 : (List Int) → Int → (List Int) → Option ((List Int))) (R1 : (List Int) → Int → (List Int) → Option ((List Int))) (x5140 : List Int) (x5141 : Int) (x5142 : List Int) : Option (((List Int))) :=
  (impl_appendEachFlat_n6 R0 R1 x5140 x5141 x5142).bind (fun (t : (List Int)) => impl_appendEachFlat_n7 R0 R1 t)

def impl_appendEachFlat_n9 (R0 : (List Int) → Int → (List Int) → Option ((List Int))) (R1 : (List Int) → Int → (List Int) → Option ((List Int))) (x5140 : List Int) (x5141 : Int) (x5142 : List Int) : Option (((List Int))) :=
  (impl_appendEachFlat_n1 R0 R1).bind (fun (t : Unit) => impl_appendEachFlat_n8 R0 R1 x5140 x5141 x5142)

def impl_appendEachFlat_one (R0 : (List Int) → Int → (List Int) → Option ((List Int))) (R1 : (List Int) → Int → (List Int) → Option ((List Int))) (x5140 : List Int) (x5141 : Int) (x5142 : List Int) : Option ((List Int)) :=
  impl_appendEachFlat_n9 R0 R1 x5140 x5141 x5142

def impl_appendFlat_knot : Nat → ((List Int) → Int → (List Int) → Option ((List Int))) × ((List Int) → Int → (List Int) → Option ((List Int)))
  | 0 => ((fun _ _ _ => none), (fun _ _ _ => none))
  | n + 1 => ((fun y0 y1 y2 => impl_appendFlat_one (impl_appendFlat_knot n).1 (impl_appendFlat_knot n).2 y0 y1 y2), (fun y0 y1 y2 => impl_appendEachFlat_one (impl_appendFlat_knot n).1 (impl_appendFlat_knot n).2 y0 y1 y2))

def impl_appendFlat_fuel (n : Nat) : (List Int) → Int → (List Int) → Option ((List Int)) := (impl_appendFlat_knot n).1

@[irreducible] def impl_appendFlat (x5085 : List Int) (x5086 : Int) (x5087 : List Int) : Option ((List Int)) := impl_appendFlat_fuel RR x5085 x5086 x5087

def impl_appendEachFlat_fuel (n : Nat) : (List Int) → Int → (List Int) → Option ((List Int)) := (impl_appendFlat_knot n).2

@[irreducible] def impl_appendEachFlat (x5140 : List Int) (x5141 : Int) (x5142 : List Int) : Option ((List Int)) := impl_appendEachFlat_fuel RR x5140 x5141 x5142

def impl_FlatOrder_n1 (x5068 : List Int) : Option (((List Int))) :=
  (impl_TreeOk x5068).bind fun (v5227 : Bool) => cond (!v5227) (some ([] : List Int)) ((impl_RootOf x5068).bind fun (v5230 : Int) => (mk 0 (((List.length x5068 : Nat) : Int))).bind fun (v5231 : Nat) => (impl_appendFlat x5068 v5230 (List.replicate v5231 (0 : Int))).bind fun (v5233 : List Int) => some v5233)

@[irreducible] def impl_FlatOrder (x5068 : List Int) : Option ((List Int)) :=
  impl_FlatOrder_n1 x5068

def spec_l8Walk_n1 (R0 : (List Int) → Int → Option ((List Int))) : Option (Unit) :=
  some ()

def spec_l8Walk_n2 (R0 : (List Int) → Int → Option ((List Int))) : Option (Unit) :=
  some ()

def spec_l8Walk_n3 (R0 : (List Int) → Int → Option ((List Int))) (x5246 : List Int) (x5247 : Int) (x5322 : Int) (x5323 : List Int) : Option ((Int × (List Int)) ⊕ ((List Int))) :=
  cond (decide (x5322 < x5247)) ((idx x5246 (IntKind.wrap .i64 (x5322 - 1))).bind fun (v5335 : Int) => cond (v5335 == x5247) ((R0 x5246 x5322).bind fun (v5337 : List Int) => (room ((List.length x5323) + List.length v5337)).bind fun (v5339 : Unit) => some (Sum.inl ((IntKind.wrap .i64 (x5322 + 1)), (x5323 ++ v5337)))) (some (Sum.inl ((IntKind.wrap .i64 (x5322 + 1)), x5323)))) (some (Sum.inr x5323))

def spec_l8Walk_n4 (R0 : (List Int) → Int → Option ((List Int))) (x5246 : List Int) (x5247 : Int) : Option (((List Int))) :=
  nloop (fun (s : Int × (List Int)) => ((spec_l8Walk_n3 R0 x5246 x5247 s.1 s.2).map (Sum.elim (fun (t : Int × (List Int)) => Sum.inl (t.1, t.2)) (fun (t : (List Int)) => Sum.inr t)) : Option ((Int × (List Int)) ⊕ (((List Int)))))) LL (1, ([] : List Int))

def spec_l8Walk_n5 (R0 : (List Int) → Int → Option ((List Int))) (x5246 : List Int) (x5247 : Int) : Option (((List Int))) :=
  (spec_l8Walk_n4 R0 x5246 x5247).map (fun (t : (List Int)) => t)

def spec_l8Walk_n6 (R0 : (List Int) → Int → Option ((List Int))) (x5246 : List Int) (x5247 : Int) : Option (((List Int))) :=
  (spec_l8Walk_n2 R0).bind (fun (t : Unit) => spec_l8Walk_n5 R0 x5246 x5247)

def spec_l8Walk_n7 (R0 : (List Int) → Int → Option ((List Int))) (x5247 : Int) (x5323 : List Int) : Option (((List Int))) :=
  (room ((List.length x5323) + List.length ([x5247]))).bind fun (v5347 : Unit) => some (x5323 ++ ([x5247]))

def spec_l8Walk_n8 (R0 : (List Int) → Int → Option ((List Int))) (x5247 : Int) : Option (Int) :=
  some (IntKind.wrap .i64 (x5247 + 1))

def spec_l8Walk_n9 (R0 : (List Int) → Int → Option ((List Int))) (x5246 : List Int) (x5247 : Int) (x5374 : Int) (x5375 : List Int) : Option ((Int × (List Int)) ⊕ ((List Int))) :=
  cond (decide (x5374 ≤ (((List.length x5246 : Nat) : Int)))) ((idx x5246 (IntKind.wrap .i64 (x5374 - 1))).bind fun (v5390 : Int) => cond (v5390 == x5247) ((R0 x5246 x5374).bind fun (v5392 : List Int) => (room ((List.length x5375) + List.length v5392)).bind fun (v5394 : Unit) => some (Sum.inl ((IntKind.wrap .i64 (x5374 + 1)), (x5375 ++ v5392)))) (some (Sum.inl ((IntKind.wrap .i64 (x5374 + 1)), x5375)))) (some (Sum.inr x5375))

def spec_l8Walk_n10 (R0 : (List Int) → Int → Option ((List Int))) (x5246 : List Int) (x5247 : Int) (x5349 : Int) (x5348 : List Int) : Option (((List Int))) :=
  nloop (fun (s : Int × (List Int)) => ((spec_l8Walk_n9 R0 x5246 x5247 s.1 s.2).map (Sum.elim (fun (t : Int × (List Int)) => Sum.inl (t.1, t.2)) (fun (t : (List Int)) => Sum.inr t)) : Option ((Int × (List Int)) ⊕ (((List Int)))))) LL (x5349, x5348)

def spec_l8Walk_n11 (R0 : (List Int) → Int → Option ((List Int))) (x5246 : List Int) (x5247 : Int) (x5349 : Int) (x5348 : List Int) : Option (((List Int))) :=
  (spec_l8Walk_n10 R0 x5246 x5247 x5349 x5348).map (fun (t : (List Int)) => t)

def spec_l8Walk_n12 (R0 : (List Int) → Int → Option ((List Int))) (x5246 : List Int) (x5247 : Int) (x5348 : List Int) : Option (((List Int))) :=
  (spec_l8Walk_n8 R0 x5247).bind (fun (t : Int) => spec_l8Walk_n11 R0 x5246 x5247 t x5348)

def spec_l8Walk_n13 (R0 : (List Int) → Int → Option ((List Int))) (x5375 : List Int) : Option (((List Int))) :=
  some x5375

def spec_l8Walk_n14 (R0 : (List Int) → Int → Option ((List Int))) (x5246 : List Int) (x5247 : Int) (x5348 : List Int) : Option (((List Int))) :=
  (spec_l8Walk_n12 R0 x5246 x5247 x5348).bind (fun (t : (List Int)) => spec_l8Walk_n13 R0 t)

def spec_l8Walk_n15 (R0 : (List Int) → Int → Option ((List Int))) (x5246 : List Int) (x5247 : Int) (x5323 : List Int) : Option (((List Int))) :=
  (spec_l8Walk_n7 R0 x5247 x5323).bind (fun (t : (List Int)) => spec_l8Walk_n14 R0 x5246 x5247 t)

def spec_l8Walk_n16 (R0 : (List Int) → Int → Option ((List Int))) (x5246 : List Int) (x5247 : Int) : Option (((List Int))) :=
  (spec_l8Walk_n6 R0 x5246 x5247).bind (fun (t : (List Int)) => spec_l8Walk_n15 R0 x5246 x5247 t)

def spec_l8Walk_n17 (R0 : (List Int) → Int → Option ((List Int))) (x5246 : List Int) (x5247 : Int) : Option (((List Int))) :=
  (spec_l8Walk_n1 R0).bind (fun (t : Unit) => spec_l8Walk_n16 R0 x5246 x5247)

def spec_l8Walk_one (R0 : (List Int) → Int → Option ((List Int))) (x5246 : List Int) (x5247 : Int) : Option ((List Int)) :=
  spec_l8Walk_n17 R0 x5246 x5247

def spec_l8Walk_knot : Nat → ((List Int) → Int → Option ((List Int)))
  | 0 => (fun _ _ => none)
  | n + 1 => (fun y0 y1 => spec_l8Walk_one (spec_l8Walk_knot n) y0 y1)

def spec_l8Walk_fuel (n : Nat) : (List Int) → Int → Option ((List Int)) := (spec_l8Walk_knot n)

@[irreducible] def spec_l8Walk (x5246 : List Int) (x5247 : Int) : Option ((List Int)) := spec_l8Walk_fuel RR x5246 x5247

def spec_FlatOrder_n1 (x5240 : List Int) : Option (((List Int))) :=
  (spec_TreeOk x5240).bind fun (v5401 : Bool) => cond (!v5401) (some ([] : List Int)) ((spec_RootOf x5240).bind fun (v5403 : Int) => (spec_l8Walk x5240 v5403).bind fun (v5404 : List Int) => some v5404)

@[irreducible] def spec_FlatOrder (x5240 : List Int) : Option ((List Int)) :=
  spec_FlatOrder_n1 x5240

def impl_OrderOk_n1 (x5438 : List Int) (x5439 : Int) : Option (Unit ⊕ Bool) :=
  cond (decide (x5439 < 1)) (some (Sum.inr false)) (cond (decide (x5439 > 8)) (some (Sum.inr false)) (cond ((((List.length x5438 : Nat) : Int)) != x5439) (some (Sum.inr false)) (some (Sum.inl ()))))

def impl_OrderOk_n2 (x5438 : List Int) : Option (Int) :=
  some (((List.length x5438 : Nat) : Int))

def impl_OrderOk_n3 (x5439 : Int) (x5438 : List Int) (x5449 : Int) (x5473 : Int) (x5474 : List Bool) : Option ((Int × (List Bool)) ⊕ Bool ⊕ Unit) :=
  cond (decide (x5473 < x5449)) ((idx x5438 x5473).bind fun (v5488 : Int) => cond (decide (v5488 < 1)) (some (Sum.inr (Sum.inl false))) (cond (decide (v5488 > x5439)) (some (Sum.inr (Sum.inl false))) ((same (List.length x5474) 9).bind fun (v5491 : Unit) => (inb v5488 9).bind fun (v5492 : Nat) => (x5474[v5492]?).bind fun (v5493 : Bool) => cond v5493 (some (Sum.inr (Sum.inl false))) ((same (List.length x5474) 9).bind fun (v5494 : Unit) => (inb v5488 9).bind fun (v5495 : Nat) => some (Sum.inl ((IntKind.wrap .i64 (x5473 + 1)), (x5474.set v5495 true))))))) (some (Sum.inr (Sum.inr ())))

def impl_OrderOk_n4 (x5439 : Int) (x5438 : List Int) (x5449 : Int) : Option (Bool ⊕ Unit) :=
  nloop (fun (s : Int × (List Bool)) => ((impl_OrderOk_n3 x5439 x5438 x5449 s.1 s.2).map (Sum.elim (fun (t : Int × (List Bool)) => Sum.inl (t.1, t.2)) (Sum.elim (fun (t : Bool) => Sum.inr (Sum.inl t)) (fun (t : Unit) => Sum.inr (Sum.inr t)))) : Option ((Int × (List Bool)) ⊕ (Bool ⊕ Unit)))) LL (0, (List.replicate 9 false))

def impl_OrderOk_n5 (x5439 : Int) (x5438 : List Int) (x5449 : Int) : Option (Unit ⊕ Bool) :=
  (impl_OrderOk_n4 x5439 x5438 x5449).map (Sum.elim (fun (t : Bool) => (Sum.inr t)) (fun (t : Unit) => (Sum.inl ())))

def impl_OrderOk_n6 (x5438 : List Int) (x5439 : Int) : Option (Unit ⊕ Bool) :=
  (impl_OrderOk_n2 x5438).bind (fun (t : Int) => impl_OrderOk_n5 x5439 x5438 t)

def impl_OrderOk_n7 : Option (Bool) :=
  some true

def impl_OrderOk_n8 (x5438 : List Int) (x5439 : Int) : Option (Bool) :=
  (impl_OrderOk_n6 x5438 x5439).bind (Sum.elim (fun (t : Unit) => impl_OrderOk_n7) (fun e => some ((fun (t : Bool) => t) e)))

def impl_OrderOk_n9 (x5438 : List Int) (x5439 : Int) : Option (Bool) :=
  (impl_OrderOk_n1 x5438 x5439).bind (Sum.elim (fun (t : Unit) => impl_OrderOk_n8 x5438 x5439) (fun e => some ((fun (t : Bool) => t) e)))

@[irreducible] def impl_OrderOk (x5438 : List Int) (x5439 : Int) : Option (Bool) :=
  impl_OrderOk_n9 x5438 x5439

def slices_Grow_int_int_n1 (x5943 : Int) : Option ((Nat × (List Int))) :=
  cond (decide (x5943 < 0)) (none) ((sure true).bind fun (v6008 : Unit) => cond (decide ((IntKind.wrap .i64 (x5943 - (IntKind.wrap .i64 (0 - ((0 : Nat) : Int))))) > 0)) ((sure true).bind fun (v6012 : Unit) => (sure ((0 : Int) == 0)).bind fun (v6013 : Unit) => (mkz (IntKind.wrap .i64 (x5943 - (IntKind.wrap .i64 (0 - ((0 : Nat) : Int)))))).bind fun (v6014 : Nat) => (inc ((0 : Nat) : Int) (List.length (List.replicate v6014 (0 : Int)))).bind fun (v6017 : Nat) => some ((v6017 - 0), (List.replicate v6014 (0 : Int)))) (some ((List.length ([] : List Int)), ([] : List Int))))

@[irreducible] def slices_Grow_int_int (x5943 : Int) : Option (Nat × (List Int)) :=
  slices_Grow_int_int_n1 x5943

def slices_Concat_int_int_n1 : Option (Unit) :=
  some ()

def slices_Concat_int_int_n2 (x5913 : List (List Int)) : Option (Int) :=
  some (((List.length x5913 : Nat) : Int))

def slices_Concat_int_int_n3 (x5913 : List (List Int)) (x6053 : Int) (x6039 : Int) (x6054 : Int) : Option ((Int × Int) ⊕ Int) :=
  cond (decide (x6054 < x6039)) ((idx x5913 x6054).bind fun (v6063 : List Int) => cond (decide ((IntKind.wrap .i64 (x6053 + (((List.length v6063 : Nat) : Int)))) < 0)) (none) (some (Sum.inl ((IntKind.wrap .i64 (x6053 + (((List.length v6063 : Nat) : Int)))), (IntKind.wrap .i64 (x6054 + 1)))))) (some (Sum.inr x6053))

def slices_Concat_int_int_n4 (x5913 : List (List Int)) (x6039 : Int) : Option (Int) :=
  nloop (fun (s : Int × Int) => ((slices_Concat_int_int_n3 x5913 s.1 x6039 s.2).map (Sum.elim (fun (t : Int × Int) => Sum.inl (t.1, t.2)) (fun (t : Int) => Sum.inr t)) : Option ((Int × Int) ⊕ (Int)))) LL (0, 0)

def slices_Concat_int_int_n5 (x5913 : List (List Int)) (x6039 : Int) : Option (Int) :=
  (slices_Concat_int_int_n4 x5913 x6039).map (fun (t : Int) => t)

def slices_Concat_int_int_n6 (x5913 : List (List Int)) : Option (Int) :=
  (slices_Concat_int_int_n2 x5913).bind (fun (t : Int) => slices_Concat_int_int_n5 x5913 t)

def slices_Concat_int_int_n7 (x6053 : Int) : Option ((Nat × (List Int))) :=
  (slices_Grow_int_int x6053).bind fun (v6068 : Nat × (List Int)) => some ((v6068.1), (v6068.2))

def slices_Concat_int_int_n8 (x5913 : List (List Int)) : Option (Int) :=
  some (((List.length x5913 : Nat) : Int))

def slices_Concat_int_int_n9 (x6086 : Nat) (x5913 : List (List Int)) (x6071 : Int) (x6087 : Int) (x6088 : List Int) : Option ((Nat × Int × (List Int)) ⊕ (Nat × (List Int))) :=
  cond (decide (x6087 < x6071)) ((idx x5913 x6087).bind fun (v6097 : List Int) => (room (x6086 + List.length v6097)).bind fun (v6099 : Unit) => some (Sum.inl ((List.length (((x6088.drop 0).take x6086) ++ v6097)), (IntKind.wrap .i64 (x6087 + 1)), (((x6088.drop 0).take x6086) ++ v6097)))) (some (Sum.inr (x6086, x6088)))

def slices_Concat_int_int_n10 (x6069 : Nat) (x5913 : List (List Int)) (x6071 : Int) (x6070 : List Int) : Option ((Nat × (List Int))) :=
  nloop (fun (s : Nat × Int × (List Int)) => ((slices_Concat_int_int_n9 s.1 x5913 x6071 s.2.1 s.2.2).map (Sum.elim (fun (t : Nat × Int × (List Int)) => Sum.inl (t.1, t.2.1, t.2.2)) (fun (t : Nat × (List Int)) => Sum.inr t)) : Option ((Nat × Int × (List Int)) ⊕ ((Nat × (List Int)))))) LL (x6069, 0, x6070)

def slices_Concat_int_int_n11 (x6069 : Nat) (x5913 : List (List Int)) (x6071 : Int) (x6070 : List Int) : Option ((Nat × (List Int))) :=
  (slices_Concat_int_int_n10 x6069 x5913 x6071 x6070).map (fun (t : Nat × (List Int)) => (t.1, t.2))

def slices_Concat_int_int_n12 (x5913 : List (List Int)) (x6069 : Nat) (x6070 : List Int) : Option ((Nat × (List Int))) :=
  (slices_Concat_int_int_n8 x5913).bind (fun (t : Int) => slices_Concat_int_int_n11 x6069 x5913 t x6070)

def slices_Concat_int_int_n13 (x6086 : Nat) (x6088 : List Int) : Option ((Nat × (List Int))) :=
  some (x6086, x6088)

def slices_Concat_int_int_n14 (x5913 : List (List Int)) (x6069 : Nat) (x6070 : List Int) : Option ((Nat × (List Int))) :=
  (slices_Concat_int_int_n12 x5913 x6069 x6070).bind (fun (t : Nat × (List Int)) => slices_Concat_int_int_n13 t.1 t.2)

def slices_Concat_int_int_n15 (x5913 : List (List Int)) (x6053 : Int) : Option ((Nat × (List Int))) :=
  (slices_Concat_int_int_n7 x6053).bind (fun (t : Nat × (List Int)) => slices_Concat_int_int_n14 x5913 t.1 t.2)

def slices_Concat_int_int_n16 (x5913 : List (List Int)) : Option ((Nat × (List Int))) :=
  (slices_Concat_int_int_n6 x5913).bind (fun (t : Int) => slices_Concat_int_int_n15 x5913 t)

def slices_Concat_int_int_n17 (x5913 : List (List Int)) : Option ((Nat × (List Int))) :=
  (slices_Concat_int_int_n1).bind (fun (t : Unit) => slices_Concat_int_int_n16 x5913)

@[irreducible] def slices_Concat_int_int (x5913 : List (List Int)) : Option (Nat × (List Int)) :=
  slices_Concat_int_int_n17 x5913

def impl_merged_n1 (x5750 : List Int) (x5751 : List Int) : Option (((List Int))) :=
  (mk 0 (IntKind.wrap .i64 ((((List.length x5750 : Nat) : Int)) + (((List.length x5751 : Nat) : Int))))).bind fun (v5840 : Nat) => some (List.replicate v5840 (0 : Int))

def impl_merged_n2 (x5875 : List Int) (x5876 : List Int) (x5877 : Int) (x5878 : List Int) : Option (((List Int) × (List Int) × Int × (List Int)) ⊕ ((List Int) × (List Int) × Int × (List Int))) :=
  cond (decide ((((List.length x5875 : Nat) : Int)) > 0)) (cond (decide ((((List.length x5876 : Nat) : Int)) > 0)) ((idx x5875 0).bind fun (v5887 : Int) => (idx x5876 0).bind fun (v5888 : Int) => cond (decide (v5887 < v5888)) ((idx x5875 0).bind fun (v5890 : Int) => (room ((List.length x5878) + List.length ([v5890]))).bind fun (v5893 : Unit) => (inc 1 (List.length x5875)).bind fun (v5896 : Nat) => some (Sum.inl (((x5875.take (List.length x5875)).drop v5896), x5876, x5877, (x5878 ++ ([v5890]))))) ((idx x5876 0).bind fun (v5900 : Int) => (room ((List.length x5878) + List.length ([v5900]))).bind fun (v5903 : Unit) => (inc 1 (List.length x5876)).bind fun (v5906 : Nat) => some (Sum.inl (x5875, ((x5876.take (List.length x5876)).drop v5906), (IntKind.wrap .i64 (x5877 + (((List.length x5875 : Nat) : Int)))), (x5878 ++ ([v5900])))))) (some (Sum.inr (x5875, x5876, x5877, x5878)))) (some (Sum.inr (x5875, x5876, x5877, x5878)))

def impl_merged_n3 (x5750 : List Int) (x5751 : List Int) (x5841 : List Int) : Option (((List Int) × (List Int) × Int × (List Int))) :=
  nloop (fun (s : (List Int) × (List Int) × Int × (List Int)) => ((impl_merged_n2 s.1 s.2.1 s.2.2.1 s.2.2.2).map (Sum.elim (fun (t : (List Int) × (List Int) × Int × (List Int)) => Sum.inl (t.1, t.2.1, t.2.2.1, t.2.2.2)) (fun (t : (List Int) × (List Int) × Int × (List Int)) => Sum.inr t)) : Option (((List Int) × (List Int) × Int × (List Int)) ⊕ (((List Int) × (List Int) × Int × (List Int)))))) LL (x5750, x5751, 0, x5841)

def impl_merged_n4 (x5750 : List Int) (x5751 : List Int) (x5841 : List Int) : Option (((List Int) × (List Int) × Int × (List Int))) :=
  (impl_merged_n3 x5750 x5751 x5841).map (fun (t : (List Int) × (List Int) × Int × (List Int)) => (t.1, t.2.1, t.2.2.1, t.2.2.2))

def impl_merged_n5 (x5875 : List Int) (x5876 : List Int) (x5877 : Int) (x5878 : List Int) : Option ((Nat × Int × (List Int))) :=
  (slices_Concat_int_int ([x5878, x5875, x5876])).bind fun (v6107 : Nat × (List Int)) => some ((v6107.1), x5877, (v6107.2))

def impl_merged_n6 (x5750 : List Int) (x5751 : List Int) (x5841 : List Int) : Option ((Nat × Int × (List Int))) :=
  (impl_merged_n4 x5750 x5751 x5841).bind (fun (t : (List Int) × (List Int) × Int × (List Int)) => impl_merged_n5 t.1 t.2.1 t.2.2.1 t.2.2.2)

def impl_merged_n7 (x5750 : List Int) (x5751 : List Int) : Option ((Nat × Int × (List Int))) :=
  (impl_merged_n1 x5750 x5751).bind (fun (t : (List Int)) => impl_merged_n6 x5750 x5751 t)

@[irreducible] def impl_merged (x5750 : List Int) (x5751 : List Int) : Option (Nat × Int × (List Int)) :=
  impl_merged_n7 x5750 x5751

def impl_sorted_n1 (R0 : (List Int) → Option ((List Int) × Int)) (x5698 : List Int) : Option (((List Int) × Int)) :=
  cond (decide ((((List.length x5698 : Nat) : Int)) < 2)) (some (x5698, 0)) ((quo .i64 (((List.length x5698 : Nat) : Int)) 2).bind fun (v6308 : Int) => (inc v6308 (List.length x5698)).bind fun (v6310 : Nat) => (R0 ((x5698.take v6310).drop 0)).bind fun (v6312 : (List Int) × Int) => (inc v6308 (List.length x5698)).bind fun (v6316 : Nat) => (R0 ((x5698.take (List.length x5698)).drop v6316)).bind fun (v6318 : (List Int) × Int) => (impl_merged (v6312.1) (v6318.1)).bind fun (v6321 : Nat × Int × (List Int)) => some ((((v6321.2.2).drop 0).take (v6321.1)), (IntKind.wrap .i64 ((IntKind.wrap .i64 ((v6312.2) + (v6318.2))) + (v6321.2.1)))))

def impl_sorted_one (R0 : (List Int) → Option ((List Int) × Int)) (x5698 : List Int) : Option ((List Int) × Int) :=
  impl_sorted_n1 R0 x5698

def impl_sorted_knot : Nat → ((List Int) → Option ((List Int) × Int))
  | 0 => (fun _ => none)
  | n + 1 => (fun y0 => impl_sorted_one (impl_sorted_knot n) y0)

def impl_sorted_fuel (n : Nat) : (List Int) → Option ((List Int) × Int) := (impl_sorted_knot n)

@[irreducible] def impl_sorted (x5698 : List Int) : Option ((List Int) × Int) := impl_sorted_fuel RR x5698

def impl_CountTurned_n1 (x5691 : List Int) : Option (Int) :=
  (impl_OrderOk x5691 (((List.length x5691 : Nat) : Int))).bind fun (v6340 : Bool) => cond (!v6340) (some (-1)) ((impl_sorted x5691).bind fun (v6342 : (List Int) × Int) => some (v6342.2))

@[irreducible] def impl_CountTurned (x5691 : List Int) : Option (Int) :=
  impl_CountTurned_n1 x5691

def impl_ExchangesFor_n1 (x5689 : List Int) : Option (Int) :=
  (impl_FlatOrder x5689).bind fun (v6347 : List Int) => (impl_CountTurned v6347).bind fun (v6348 : Int) => some v6348

@[irreducible] def impl_ExchangesFor (x5689 : List Int) : Option (Int) :=
  impl_ExchangesFor_n1 x5689

def spec_CountTurned_n1 (x6360 : List Int) : Option (Unit ⊕ Int) :=
  (spec_OrderOk x6360 (((List.length x6360 : Nat) : Int))).bind fun (v6365 : Bool) => cond (!v6365) (some (Sum.inr (-1))) (some (Sum.inl ()))

def spec_CountTurned_n2 : Option (Unit) :=
  some ()

def spec_CountTurned_n3 (x6360 : List Int) (x6402 : Int) (x6403 : Int) : Option (Unit ⊕ Int) :=
  cond (decide (x6403 < (((List.length x6360 : Nat) : Int)))) (some (Sum.inl ())) (some (Sum.inr x6402))

def spec_CountTurned_n4 : Option (Unit) :=
  some ()

def spec_CountTurned_n5 (x6360 : List Int) (x6421 : Int) (x6403 : Int) (x6422 : Int) : Option ((Int × Int) ⊕ Int) :=
  cond (decide (x6422 < x6403)) ((idx x6360 x6422).bind fun (v6430 : Int) => (idx x6360 x6403).bind fun (v6431 : Int) => cond (decide (v6430 > v6431)) (some (Sum.inl ((IntKind.wrap .i64 (x6421 + 1)), (IntKind.wrap .i64 (x6422 + 1))))) (some (Sum.inl (x6421, (IntKind.wrap .i64 (x6422 + 1)))))) (some (Sum.inr x6421))

def spec_CountTurned_n6 (x6360 : List Int) (x6402 : Int) (x6403 : Int) : Option (Int) :=
  nloop (fun (s : Int × Int) => ((spec_CountTurned_n5 x6360 s.1 x6403 s.2).map (Sum.elim (fun (t : Int × Int) => Sum.inl (t.1, t.2)) (fun (t : Int) => Sum.inr t)) : Option ((Int × Int) ⊕ (Int)))) LL (x6402, 0)

def spec_CountTurned_n7 (x6360 : List Int) (x6402 : Int) (x6403 : Int) : Option (Int) :=
  (spec_CountTurned_n6 x6360 x6402 x6403).map (fun (t : Int) => t)

def spec_CountTurned_n8 (x6360 : List Int) (x6402 : Int) (x6403 : Int) : Option (Int) :=
  (spec_CountTurned_n4).bind (fun (t : Unit) => spec_CountTurned_n7 x6360 x6402 x6403)

def spec_CountTurned_n9 (x6360 : List Int) (x6402 : Int) (x6403 : Int) : Option (Int) :=
  (spec_CountTurned_n8 x6360 x6402 x6403).map (fun (t : Int) => t)

def spec_CountTurned_n10 (x6403 : Int) : Option (Int) :=
  some (IntKind.wrap .i64 (x6403 + 1))

def spec_CountTurned_n11 (x6360 : List Int) (x6402 : Int) (x6403 : Int) : Option ((Int × Int)) :=
  (spec_CountTurned_n9 x6360 x6402 x6403).bind (fun (t : Int) => (spec_CountTurned_n10 x6403).map (fun (u : Int) => (t, u)))

def spec_CountTurned_n12 (x6360 : List Int) (x6402 : Int) (x6403 : Int) : Option ((Int × Int) ⊕ Int) :=
  (spec_CountTurned_n3 x6360 x6402 x6403).bind (Sum.elim (fun (t : Unit) => (spec_CountTurned_n11 x6360 x6402 x6403).map (fun (t : Int × Int) => (Sum.inl (t.1, t.2)))) (fun e => some ((fun (t : Int) => (Sum.inr t)) e)))

def spec_CountTurned_n13 (x6360 : List Int) : Option (Int) :=
  nloop (fun (s : Int × Int) => ((spec_CountTurned_n12 x6360 s.1 s.2).map (Sum.elim (fun (t : Int × Int) => Sum.inl (t.1, t.2)) (fun (t : Int) => Sum.inr t)) : Option ((Int × Int) ⊕ (Int)))) LL (0, 0)

def spec_CountTurned_n14 (x6360 : List Int) : Option (Int) :=
  (spec_CountTurned_n13 x6360).map (fun (t : Int) => t)

def spec_CountTurned_n15 (x6360 : List Int) : Option (Int) :=
  (spec_CountTurned_n2).bind (fun (t : Unit) => spec_CountTurned_n14 x6360)

def spec_CountTurned_n16 (x6402 : Int) : Option (Int) :=
  some x6402

def spec_CountTurned_n17 (x6360 : List Int) : Option (Int) :=
  (spec_CountTurned_n15 x6360).bind (fun (t : Int) => spec_CountTurned_n16 t)

def spec_CountTurned_n18 (x6360 : List Int) : Option (Int) :=
  (spec_CountTurned_n1 x6360).bind (Sum.elim (fun (t : Unit) => spec_CountTurned_n17 x6360) (fun e => some ((fun (t : Int) => t) e)))

@[irreducible] def spec_CountTurned (x6360 : List Int) : Option (Int) :=
  spec_CountTurned_n18 x6360

def spec_ExchangesFor_n1 (x6354 : List Int) : Option (Int) :=
  (spec_TreeOk x6354).bind fun (v6441 : Bool) => cond (!v6441) (some (-1)) ((spec_FlatOrder x6354).bind fun (v6443 : List Int) => (spec_CountTurned v6443).bind fun (v6444 : Int) => some v6444)

@[irreducible] def spec_ExchangesFor (x6354 : List Int) : Option (Int) :=
  spec_ExchangesFor_n1 x6354

def laws_toIntS_n1 (x7834 : List Int) : Option (((List Int))) :=
  (mk (((List.length x7834 : Nat) : Int)) (((List.length x7834 : Nat) : Int))).bind fun (v7836 : Nat) => some (List.replicate v7836 (0 : Int))

def laws_toIntS_n2 : Option (Unit) :=
  some ()

def laws_toIntS_n3 (x7834 : List Int) (x7851 : Int) (x7852 : List Int) : Option ((Int × (List Int)) ⊕ ((List Int))) :=
  cond (decide (x7851 < (((List.length x7834 : Nat) : Int)))) ((idx x7834 x7851).bind fun (v7862 : Int) => (inb x7851 (List.length x7852)).bind fun (v7863 : Nat) => some (Sum.inl ((IntKind.wrap .i64 (x7851 + 1)), (x7852.set v7863 v7862)))) (some (Sum.inr x7852))

def laws_toIntS_n4 (x7834 : List Int) (x7837 : List Int) : Option (((List Int))) :=
  nloop (fun (s : Int × (List Int)) => ((laws_toIntS_n3 x7834 s.1 s.2).map (Sum.elim (fun (t : Int × (List Int)) => Sum.inl (t.1, t.2)) (fun (t : (List Int)) => Sum.inr t)) : Option ((Int × (List Int)) ⊕ (((List Int)))))) LL (0, x7837)

def laws_toIntS_n5 (x7834 : List Int) (x7837 : List Int) : Option (((List Int))) :=
  (laws_toIntS_n4 x7834 x7837).map (fun (t : (List Int)) => t)

def laws_toIntS_n6 (x7834 : List Int) (x7837 : List Int) : Option (((List Int))) :=
  (laws_toIntS_n2).bind (fun (t : Unit) => laws_toIntS_n5 x7834 x7837)

def laws_toIntS_n7 (x7852 : List Int) : Option (((List Int))) :=
  some x7852

def laws_toIntS_n8 (x7834 : List Int) (x7837 : List Int) : Option (((List Int))) :=
  (laws_toIntS_n6 x7834 x7837).bind (fun (t : (List Int)) => laws_toIntS_n7 t)

def laws_toIntS_n9 (x7834 : List Int) : Option (((List Int))) :=
  (laws_toIntS_n1 x7834).bind (fun (t : (List Int)) => laws_toIntS_n8 x7834 t)

@[irreducible] def laws_toIntS (x7834 : List Int) : Option ((List Int)) :=
  laws_toIntS_n9 x7834

def laws_eqIntS_n1 (x7894 : List Int) (x7895 : List Int) : Option (Unit ⊕ Bool) :=
  cond ((((List.length x7894 : Nat) : Int)) != (((List.length x7895 : Nat) : Int))) (some (Sum.inr false)) (some (Sum.inl ()))

def laws_eqIntS_n2 : Option (Unit) :=
  some ()

def laws_eqIntS_n3 (x7894 : List Int) (x7895 : List Int) (x7912 : Int) : Option (Int ⊕ Bool ⊕ Unit) :=
  cond (decide (x7912 < (((List.length x7894 : Nat) : Int)))) ((idx x7894 x7912).bind fun (v7922 : Int) => (idx x7895 x7912).bind fun (v7923 : Int) => cond (v7922 != v7923) (some (Sum.inr (Sum.inl false))) (some (Sum.inl (IntKind.wrap .i64 (x7912 + 1))))) (some (Sum.inr (Sum.inr ())))

def laws_eqIntS_n4 (x7894 : List Int) (x7895 : List Int) : Option (Bool ⊕ Unit) :=
  nloop (fun (s : Int) => ((laws_eqIntS_n3 x7894 x7895 s).map (Sum.elim (fun (t : Int) => Sum.inl t) (Sum.elim (fun (t : Bool) => Sum.inr (Sum.inl t)) (fun (t : Unit) => Sum.inr (Sum.inr t)))) : Option ((Int) ⊕ (Bool ⊕ Unit)))) LL 0

def laws_eqIntS_n5 (x7894 : List Int) (x7895 : List Int) : Option (Unit ⊕ Bool) :=
  (laws_eqIntS_n4 x7894 x7895).map (Sum.elim (fun (t : Bool) => (Sum.inr t)) (fun (t : Unit) => (Sum.inl ())))

def laws_eqIntS_n6 (x7894 : List Int) (x7895 : List Int) : Option (Unit ⊕ Bool) :=
  (laws_eqIntS_n2).bind (fun (t : Unit) => laws_eqIntS_n5 x7894 x7895)

def laws_eqIntS_n7 : Option (Bool) :=
  some true

def laws_eqIntS_n8 (x7894 : List Int) (x7895 : List Int) : Option (Bool) :=
  (laws_eqIntS_n6 x7894 x7895).bind (Sum.elim (fun (t : Unit) => laws_eqIntS_n7) (fun e => some ((fun (t : Bool) => t) e)))

def laws_eqIntS_n9 (x7894 : List Int) (x7895 : List Int) : Option (Bool) :=
  (laws_eqIntS_n1 x7894 x7895).bind (Sum.elim (fun (t : Unit) => laws_eqIntS_n8 x7894 x7895) (fun e => some ((fun (t : Bool) => t) e)))

@[irreducible] def laws_eqIntS (x7894 : List Int) (x7895 : List Int) : Option (Bool) :=
  laws_eqIntS_n9 x7894 x7895

def laws_FnExactExchangesFor_n1 (x8443 : List Int) : Option (Bool) :=
  cond (decide ((((List.length x8443 : Nat) : Int)) > 1048576)) (some true) ((laws_toIntS x8443).bind fun (v8490 : List Int) => (spec_ExchangesFor v8490).bind fun (v8491 : Int) => (laws_toIntS x8443).bind fun (v8492 : List Int) => (impl_ExchangesFor v8492).bind fun (v8493 : Int) => cond (v8493 != v8491) (some false) ((laws_toIntS x8443).bind fun (v8495 : List Int) => (laws_eqIntS v8492 v8495).bind fun (v8496 : Bool) => cond (!v8496) (some false) (some true)))

@[irreducible] def laws_FnExactExchangesFor (x8443 : List Int) : Option (Bool) :=
  laws_FnExactExchangesFor_n1 x8443

end Go.Rv
