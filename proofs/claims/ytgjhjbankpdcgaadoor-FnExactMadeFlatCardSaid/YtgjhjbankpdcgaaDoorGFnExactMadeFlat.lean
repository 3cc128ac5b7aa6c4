/-
  Plain functions, written by program for functions of the checked code. Conditions: none.
-/
import Derived.Test.YtgjhjbankpdcgaaDoorFB
set_option linter.unusedVariables false
namespace Go.Rv
def impl_oneRoot_n1 : Option (Unit) :=
  some ()

def impl_oneRoot_n2 (x840 : List Int) : Option (Int) :=
  some (((List.length x840 : Nat) : Int))

def impl_oneRoot_n3 (x840 : List Int) (x862 : Int) (x841 : Int) (x863 : Int) : Option ((Int × Int) ⊕ Bool ⊕ Int) :=
  cond (decide (x863 < x841)) ((idx x840 x863).bind fun (v874 : Int) => cond (decide (v874 < 0)) (some (Sum.inr (Sum.inl false))) (cond (decide (v874 > (((List.length x840 : Nat) : Int)))) (some (Sum.inr (Sum.inl false))) (cond (v874 == 0) (some (Sum.inl ((IntKind.wrap .i64 (x862 + 1)), (IntKind.wrap .i64 (x863 + 1))))) (some (Sum.inl (x862, (IntKind.wrap .i64 (x863 + 1)))))))) (some (Sum.inr (Sum.inr x862)))

def impl_oneRoot_n4 (x840 : List Int) (x841 : Int) : Option (Bool ⊕ Int) :=
  nloop (fun (s : Int × Int) => ((impl_oneRoot_n3 x840 s.1 x841 s.2).map (Sum.elim (fun (t : Int × Int) => Sum.inl (t.1, t.2)) (Sum.elim (fun (t : Bool) => Sum.inr (Sum.inl t)) (fun (t : Int) => Sum.inr (Sum.inr t)))) : Option ((Int × Int) ⊕ (Bool ⊕ Int)))) LL (0, 0)

def impl_oneRoot_n5 (x840 : List Int) (x841 : Int) : Option (Int ⊕ Bool) :=
  (impl_oneRoot_n4 x840 x841).map (Sum.elim (fun (t : Bool) => (Sum.inr t)) (fun (t : Int) => (Sum.inl t)))

def impl_oneRoot_n6 (x840 : List Int) : Option (Int ⊕ Bool) :=
  (impl_oneRoot_n2 x840).bind (fun (t : Int) => impl_oneRoot_n5 x840 t)

def impl_oneRoot_n7 (x862 : Int) : Option (Bool) :=
  some (x862 == 1)

def impl_oneRoot_n8 (x840 : List Int) : Option (Bool) :=
  (impl_oneRoot_n6 x840).bind (Sum.elim (fun (t : Int) => impl_oneRoot_n7 t) (fun e => some ((fun (t : Bool) => t) e)))

def impl_oneRoot_n9 (x840 : List Int) : Option (Bool) :=
  (impl_oneRoot_n1).bind (fun (t : Unit) => impl_oneRoot_n8 x840)

@[irreducible] def impl_oneRoot (x840 : List Int) : Option (Bool) :=
  impl_oneRoot_n9 x840

def impl_walker_up_n1 (x896 : List Int) (x897 : Int) (x898 : Int) : Option ((Bool × Int × Int)) :=
  (idx x896 (IntKind.wrap .i64 (x897 - 1))).bind fun (v916 : Int) => cond (v916 == 0) (some (false, x897, x898)) (some (true, v916, (IntKind.wrap .i64 (x898 + 1))))

@[irreducible] def impl_walker_up (x896 : List Int) (x897 : Int) (x898 : Int) : Option (Bool × Int × Int) :=
  impl_walker_up_n1 x896 x897 x898

def impl_stepsToRoot_n1 : Option (Unit) :=
  some ()

def impl_stepsToRoot_n2 (x894 : List Int) (x932 : Int) (x933 : Int) : Option ((Int × Int) ⊕ (Int × Bool) ⊕ (Int × Int)) :=
  (impl_walker_up x894 x932 x933).bind fun (v938 : Bool × Int × Int) => cond (v938.1) (cond (decide ((v938.2.2) ≥ (((List.length x894 : Nat) : Int)))) (some (Sum.inr (Sum.inl (0, false)))) (some (Sum.inl ((v938.2.1), (v938.2.2))))) (some (Sum.inr (Sum.inr ((v938.2.1), (v938.2.2)))))

def impl_stepsToRoot_n3 (x894 : List Int) (x895 : Int) : Option ((Int × Bool) ⊕ (Int × Int)) :=
  nloop (fun (s : Int × Int) => ((impl_stepsToRoot_n2 x894 s.1 s.2).map (Sum.elim (fun (t : Int × Int) => Sum.inl (t.1, t.2)) (Sum.elim (fun (t : Int × Bool) => Sum.inr (Sum.inl t)) (fun (t : Int × Int) => Sum.inr (Sum.inr t)))) : Option ((Int × Int) ⊕ ((Int × Bool) ⊕ (Int × Int))))) LL (x895, 0)

def impl_stepsToRoot_n4 (x894 : List Int) (x895 : Int) : Option ((Int × Int) ⊕ (Int × Bool)) :=
  (impl_stepsToRoot_n3 x894 x895).map (Sum.elim (fun (t : Int × Bool) => (Sum.inr t)) (fun (t : Int × Int) => (Sum.inl (t.1, t.2))))

def impl_stepsToRoot_n5 (x941 : Int) : Option ((Int × Bool)) :=
  some (x941, true)

def impl_stepsToRoot_n6 (x894 : List Int) (x895 : Int) : Option ((Int × Bool)) :=
  (impl_stepsToRoot_n4 x894 x895).bind (Sum.elim (fun (t : Int × Int) => impl_stepsToRoot_n5 t.2) (fun e => some ((fun (t : Int × Bool) => t) e)))

def impl_stepsToRoot_n7 (x894 : List Int) (x895 : Int) : Option ((Int × Bool)) :=
  (impl_stepsToRoot_n1).bind (fun (t : Unit) => impl_stepsToRoot_n6 x894 x895)

@[irreducible] def impl_stepsToRoot (x894 : List Int) (x895 : Int) : Option (Int × Bool) :=
  impl_stepsToRoot_n7 x894 x895

def impl_TreeOk_n1 (x834 : List Int) : Option (Unit ⊕ Bool) :=
  cond (decide ((((List.length x834 : Nat) : Int)) < 1)) (some (Sum.inr false)) (cond (decide ((((List.length x834 : Nat) : Int)) > 8)) (some (Sum.inr false)) ((impl_oneRoot x834).bind fun (v887 : Bool) => cond (!v887) (some (Sum.inr false)) (some (Sum.inl ()))))

def impl_TreeOk_n2 (x834 : List Int) : Option (Int) :=
  some (((List.length x834 : Nat) : Int))

def impl_TreeOk_n3 (x834 : List Int) (x889 : Int) (x957 : Int) : Option (Int ⊕ Bool ⊕ Unit) :=
  cond (decide (x957 < x889)) ((impl_stepsToRoot x834 (IntKind.wrap .i64 (x957 + 1))).bind fun (v968 : Int × Bool) => cond (!(v968.2)) (some (Sum.inr (Sum.inl false))) (some (Sum.inl (IntKind.wrap .i64 (x957 + 1))))) (some (Sum.inr (Sum.inr ())))

def impl_TreeOk_n4 (x834 : List Int) (x889 : Int) : Option (Bool ⊕ Unit) :=
  nloop (fun (s : Int) => ((impl_TreeOk_n3 x834 x889 s).map (Sum.elim (fun (t : Int) => Sum.inl t) (Sum.elim (fun (t : Bool) => Sum.inr (Sum.inl t)) (fun (t : Unit) => Sum.inr (Sum.inr t)))) : Option ((Int) ⊕ (Bool ⊕ Unit)))) LL 0

def impl_TreeOk_n5 (x834 : List Int) (x889 : Int) : Option (Unit ⊕ Bool) :=
  (impl_TreeOk_n4 x834 x889).map (Sum.elim (fun (t : Bool) => (Sum.inr t)) (fun (t : Unit) => (Sum.inl ())))

def impl_TreeOk_n6 (x834 : List Int) : Option (Unit ⊕ Bool) :=
  (impl_TreeOk_n2 x834).bind (fun (t : Int) => impl_TreeOk_n5 x834 t)

def impl_TreeOk_n7 : Option (Bool) :=
  some true

def impl_TreeOk_n8 (x834 : List Int) : Option (Bool) :=
  (impl_TreeOk_n6 x834).bind (Sum.elim (fun (t : Unit) => impl_TreeOk_n7) (fun e => some ((fun (t : Bool) => t) e)))

def impl_TreeOk_n9 (x834 : List Int) : Option (Bool) :=
  (impl_TreeOk_n1 x834).bind (Sum.elim (fun (t : Unit) => impl_TreeOk_n8 x834) (fun e => some ((fun (t : Bool) => t) e)))

@[irreducible] def impl_TreeOk (x834 : List Int) : Option (Bool) :=
  impl_TreeOk_n9 x834

def impl_only_n1 (x998 : Int) : Option (Int) :=
  (shl .u64 1 (IntKind.wrap .i64 (x998 - 1))).bind fun (v1002 : Int) => some v1002

@[irreducible] def impl_only (x998 : Int) : Option (Int) :=
  impl_only_n1 x998

def impl_dependents_n1 : Option (Unit) :=
  some ()

def impl_dependents_n2 (x989 : List Int) : Option (Int) :=
  some (((List.length x989 : Nat) : Int))

def impl_dependents_n3 (x989 : List Int) (x990 : Int) (x1015 : Int) (x991 : Int) (x1016 : Int) : Option ((Int × Int) ⊕ Int) :=
  cond (decide (x1016 < x991)) ((idx x989 x1016).bind fun (v1026 : Int) => cond (v1026 == x990) ((impl_only (IntKind.wrap .i64 (x1016 + 1))).bind fun (v1029 : Int) => some (Sum.inl ((ior .u64 x1015 v1029), (IntKind.wrap .i64 (x1016 + 1))))) (some (Sum.inl (x1015, (IntKind.wrap .i64 (x1016 + 1)))))) (some (Sum.inr x1015))

def impl_dependents_n4 (x989 : List Int) (x990 : Int) (x991 : Int) : Option (Int) :=
  nloop (fun (s : Int × Int) => ((impl_dependents_n3 x989 x990 s.1 x991 s.2).map (Sum.elim (fun (t : Int × Int) => Sum.inl (t.1, t.2)) (fun (t : Int) => Sum.inr t)) : Option ((Int × Int) ⊕ (Int)))) LL (0, 0)

def impl_dependents_n5 (x989 : List Int) (x990 : Int) (x991 : Int) : Option (Int) :=
  (impl_dependents_n4 x989 x990 x991).map (fun (t : Int) => t)

def impl_dependents_n6 (x989 : List Int) (x990 : Int) : Option (Int) :=
  (impl_dependents_n2 x989).bind (fun (t : Int) => impl_dependents_n5 x989 x990 t)

def impl_dependents_n7 (x1015 : Int) : Option (Int) :=
  some x1015

def impl_dependents_n8 (x989 : List Int) (x990 : Int) : Option (Int) :=
  (impl_dependents_n6 x989 x990).bind (fun (t : Int) => impl_dependents_n7 t)

def impl_dependents_n9 (x989 : List Int) (x990 : Int) : Option (Int) :=
  (impl_dependents_n1).bind (fun (t : Unit) => impl_dependents_n8 x989 x990)

@[irreducible] def impl_dependents (x989 : List Int) (x990 : Int) : Option (Int) :=
  impl_dependents_n9 x989 x990

def impl_before_n1 (x1037 : Int) : Option (Int) :=
  (impl_only x1037).bind fun (v1040 : Int) => some (IntKind.wrap .u64 (v1040 - 1))

@[irreducible] def impl_before (x1037 : Int) : Option (Int) :=
  impl_before_n1 x1037

def impl_dependentsBeside_n1 (x987 : List Int) (x988 : Int) : Option ((Int × Int)) :=
  (impl_dependents x987 x988).bind fun (v1046 : Int) => (impl_before x988).bind fun (v1047 : Int) => (impl_before x988).bind fun (v1049 : Int) => some ((iand .u64 v1046 v1047), (iandn .u64 v1046 v1049))

@[irreducible] def impl_dependentsBeside (x987 : List Int) (x988 : Int) : Option (Int × Int) :=
  impl_dependentsBeside_n1 x987 x988

def math_bits_OnesCount64_n1 (x1061 : Int) : Option (Int) :=
  (shr .u64 x1061 1).bind fun (v1062 : Int) => some (IntKind.wrap .u64 ((iand .u64 v1062 6148914691236517205) + (iand .u64 x1061 6148914691236517205)))

def math_bits_OnesCount64_n2 (x1066 : Int) : Option (Int) :=
  (shr .u64 x1066 2).bind fun (v1080 : Int) => some (IntKind.wrap .u64 ((iand .u64 v1080 3689348814741910323) + (iand .u64 x1066 3689348814741910323)))

def math_bits_OnesCount64_n3 (x1083 : Int) : Option (Int) :=
  (shr .u64 x1083 4).bind fun (v1088 : Int) => some (iand .u64 (IntKind.wrap .u64 (v1088 + x1083)) 1085102592571150095)

def math_bits_OnesCount64_n4 (x1090 : Int) : Option (Int) :=
  (shr .u64 x1090 8).bind fun (v1093 : Int) => some (IntKind.wrap .u64 (x1090 + v1093))

def math_bits_OnesCount64_n5 (x1094 : Int) : Option (Int) :=
  (shr .u64 x1094 16).bind fun (v1098 : Int) => some (IntKind.wrap .u64 (x1094 + v1098))

def math_bits_OnesCount64_n6 (x1099 : Int) : Option (Int) :=
  (shr .u64 x1099 32).bind fun (v1103 : Int) => some (IntKind.wrap .u64 (x1099 + v1103))

def math_bits_OnesCount64_n7 (x1104 : Int) : Option (Int) :=
  some (iand .i64 (IntKind.wrap .i64 x1104) 127)

def math_bits_OnesCount64_n8 (x1109 : Int) : Option (Int) :=
  some x1109

def math_bits_OnesCount64_n9 (x1104 : Int) : Option (Int) :=
  (math_bits_OnesCount64_n7 x1104).bind (fun (t : Int) => math_bits_OnesCount64_n8 t)

def math_bits_OnesCount64_n10 (x1099 : Int) : Option (Int) :=
  (math_bits_OnesCount64_n6 x1099).bind (fun (t : Int) => math_bits_OnesCount64_n9 t)

def math_bits_OnesCount64_n11 (x1094 : Int) : Option (Int) :=
  (math_bits_OnesCount64_n5 x1094).bind (fun (t : Int) => math_bits_OnesCount64_n10 t)

def math_bits_OnesCount64_n12 (x1090 : Int) : Option (Int) :=
  (math_bits_OnesCount64_n4 x1090).bind (fun (t : Int) => math_bits_OnesCount64_n11 t)

def math_bits_OnesCount64_n13 (x1083 : Int) : Option (Int) :=
  (math_bits_OnesCount64_n3 x1083).bind (fun (t : Int) => math_bits_OnesCount64_n12 t)

def math_bits_OnesCount64_n14 (x1066 : Int) : Option (Int) :=
  (math_bits_OnesCount64_n2 x1066).bind (fun (t : Int) => math_bits_OnesCount64_n13 t)

def math_bits_OnesCount64_n15 (x1061 : Int) : Option (Int) :=
  (math_bits_OnesCount64_n1 x1061).bind (fun (t : Int) => math_bits_OnesCount64_n14 t)

@[irreducible] def math_bits_OnesCount64 (x1061 : Int) : Option (Int) :=
  math_bits_OnesCount64_n15 x1061

def math_bits_OnesCount_n1 (x1060 : Int) : Option (Int) :=
  (math_bits_OnesCount64 x1060).bind fun (v1111 : Int) => some v1111

@[irreducible] def math_bits_OnesCount (x1060 : Int) : Option (Int) :=
  math_bits_OnesCount_n1 x1060

def impl_wordSet_count_n1 (x1059 : Int) : Option (Int) :=
  (math_bits_OnesCount x1059).bind fun (v1113 : Int) => some v1113

@[irreducible] def impl_wordSet_count (x1059 : Int) : Option (Int) :=
  impl_wordSet_count_n1 x1059

def spec_l1In_n1 (x1144 : Int) (x1145 : Int) (x1146 : Int) : Option (Bool) :=
  cond (decide (x1144 ≥ x1145)) (some (decide (x1144 ≤ x1146))) (some false)

@[irreducible] def spec_l1In (x1144 : Int) (x1145 : Int) (x1146 : Int) : Option (Bool) :=
  spec_l1In_n1 x1144 x1145 x1146

def spec_TreeOk_n1 (x1141 : List Int) : Option (Int ⊕ Bool) :=
  (spec_l1In (((List.length x1141 : Nat) : Int)) 1 8).bind fun (v1155 : Bool) => cond (!v1155) (some (Sum.inr false)) (some (Sum.inl (((List.length x1141 : Nat) : Int))))

def spec_TreeOk_n2 : Option (Unit) :=
  some ()

def spec_TreeOk_n3 (x1154 : Int) (x1221 : Int) (x1222 : Int) : Option (Unit ⊕ Int) :=
  cond (decide (x1222 < x1154)) (some (Sum.inl ())) (some (Sum.inr x1221))

def spec_TreeOk_n4 (x1141 : List Int) (x1154 : Int) (x1221 : Int) (x1222 : Int) : Option ((Int × Int) ⊕ Bool) :=
  (idx x1141 x1222).bind fun (v1239 : Int) => (spec_l1In v1239 0 x1154).bind fun (v1240 : Bool) => cond (!v1240) (some (Sum.inr false)) ((idx x1141 x1222).bind fun (v1242 : Int) => cond (v1242 == (IntKind.wrap .i64 (x1222 + 1))) (some (Sum.inr false)) ((idx x1141 x1222).bind fun (v1245 : Int) => cond (v1245 == 0) (some (Sum.inl ((IntKind.wrap .i64 (x1221 + 1)), (IntKind.wrap .i64 (x1222 + 1))))) (some (Sum.inl (x1221, (IntKind.wrap .i64 (x1222 + 1)))))))

def spec_TreeOk_n5 : Option (Unit) :=
  some ()

def spec_TreeOk_n6 (x1141 : List Int) (x1154 : Int) (x1267 : Int) (x1268 : Int) : Option ((Int × Int) ⊕ Bool ⊕ Int) :=
  cond (decide (x1267 > 0)) (cond (decide (x1268 < x1154)) ((idx x1141 (IntKind.wrap .i64 (x1267 - 1))).bind fun (v1280 : Int) => (spec_l1In v1280 0 x1154).bind fun (v1281 : Bool) => cond (!v1281) (some (Sum.inr (Sum.inl false))) (some (Sum.inl (v1280, (IntKind.wrap .i64 (x1268 + 1)))))) (some (Sum.inr (Sum.inr x1267)))) (some (Sum.inr (Sum.inr x1267)))

def spec_TreeOk_n7 (x1141 : List Int) (x1154 : Int) (x1251 : Int) : Option (Bool ⊕ Int) :=
  nloop (fun (s : Int × Int) => ((spec_TreeOk_n6 x1141 x1154 s.1 s.2).map (Sum.elim (fun (t : Int × Int) => Sum.inl (t.1, t.2)) (Sum.elim (fun (t : Bool) => Sum.inr (Sum.inl t)) (fun (t : Int) => Sum.inr (Sum.inr t)))) : Option ((Int × Int) ⊕ (Bool ⊕ Int)))) LL (x1251, 0)

def spec_TreeOk_n8 (x1141 : List Int) (x1154 : Int) (x1251 : Int) : Option (Int ⊕ Bool) :=
  (spec_TreeOk_n7 x1141 x1154 x1251).map (Sum.elim (fun (t : Bool) => (Sum.inr t)) (fun (t : Int) => (Sum.inl t)))

def spec_TreeOk_n9 (x1141 : List Int) (x1154 : Int) (x1251 : Int) : Option (Int ⊕ Bool) :=
  (spec_TreeOk_n5).bind (fun (t : Unit) => spec_TreeOk_n8 x1141 x1154 x1251)

def spec_TreeOk_n10 (x1267 : Int) : Option (Unit ⊕ Bool) :=
  cond (decide (x1267 > 0)) (some (Sum.inr false)) (some (Sum.inl ()))

def spec_TreeOk_n11 (x1141 : List Int) (x1154 : Int) (x1251 : Int) : Option (Unit ⊕ Bool) :=
  (spec_TreeOk_n9 x1141 x1154 x1251).bind (Sum.elim (fun (t : Int) => spec_TreeOk_n10 t) (fun e => some ((fun (t : Bool) => (Sum.inr t)) e)))

def spec_TreeOk_n12 (x1141 : List Int) (x1154 : Int) (x1221 : Int) (x1222 : Int) : Option (Int ⊕ Bool) :=
  (spec_TreeOk_n4 x1141 x1154 x1221 x1222).bind (Sum.elim (fun (t : Int × Int) => (spec_TreeOk_n11 x1141 x1154 t.2).map (Sum.elim (fun (u : Unit) => (Sum.inl t.1)) (fun (u : Bool) => (Sum.inr u)))) (fun e => some ((fun (t : Bool) => (Sum.inr t)) e)))

def spec_TreeOk_n13 (x1141 : List Int) (x1154 : Int) (x1221 : Int) (x1222 : Int) : Option (Int ⊕ Bool) :=
  (spec_TreeOk_n12 x1141 x1154 x1221 x1222).map (Sum.elim (fun (t : Int) => (Sum.inl t)) (fun (t : Bool) => (Sum.inr t)))

def spec_TreeOk_n14 (x1222 : Int) : Option (Int) :=
  some (IntKind.wrap .i64 (x1222 + 1))

def spec_TreeOk_n15 (x1141 : List Int) (x1154 : Int) (x1221 : Int) (x1222 : Int) : Option ((Int × Int) ⊕ Bool) :=
  (spec_TreeOk_n13 x1141 x1154 x1221 x1222).bind (Sum.elim (fun (t : Int) => (spec_TreeOk_n14 x1222).map (fun (u : Int) => (Sum.inl (t, u)))) (fun e => some ((fun (t : Bool) => (Sum.inr t)) e)))

def spec_TreeOk_n16 (x1141 : List Int) (x1154 : Int) (x1221 : Int) (x1222 : Int) : Option ((Int × Int) ⊕ Bool ⊕ Int) :=
  (spec_TreeOk_n3 x1154 x1221 x1222).bind (Sum.elim (fun (t : Unit) => (spec_TreeOk_n15 x1141 x1154 x1221 x1222).map (Sum.elim (fun (t : Int × Int) => (Sum.inl (t.1, t.2))) (fun (t : Bool) => (Sum.inr (Sum.inl t))))) (fun e => some ((fun (t : Int) => (Sum.inr (Sum.inr t))) e)))

def spec_TreeOk_n17 (x1141 : List Int) (x1154 : Int) : Option (Bool ⊕ Int) :=
  nloop (fun (s : Int × Int) => ((spec_TreeOk_n16 x1141 x1154 s.1 s.2).map (Sum.elim (fun (t : Int × Int) => Sum.inl (t.1, t.2)) (Sum.elim (fun (t : Bool) => Sum.inr (Sum.inl t)) (fun (t : Int) => Sum.inr (Sum.inr t)))) : Option ((Int × Int) ⊕ (Bool ⊕ Int)))) LL (0, 0)

def spec_TreeOk_n18 (x1141 : List Int) (x1154 : Int) : Option (Int ⊕ Bool) :=
  (spec_TreeOk_n17 x1141 x1154).map (Sum.elim (fun (t : Bool) => (Sum.inr t)) (fun (t : Int) => (Sum.inl t)))

def spec_TreeOk_n19 (x1141 : List Int) (x1154 : Int) : Option (Int ⊕ Bool) :=
  (spec_TreeOk_n2).bind (fun (t : Unit) => spec_TreeOk_n18 x1141 x1154)

def spec_TreeOk_n20 (x1221 : Int) : Option (Bool) :=
  some (x1221 == 1)

def spec_TreeOk_n21 (x1141 : List Int) (x1154 : Int) : Option (Bool) :=
  (spec_TreeOk_n19 x1141 x1154).bind (Sum.elim (fun (t : Int) => spec_TreeOk_n20 t) (fun e => some ((fun (t : Bool) => t) e)))

def spec_TreeOk_n22 (x1141 : List Int) : Option (Bool) :=
  (spec_TreeOk_n1 x1141).bind (Sum.elim (fun (t : Int) => spec_TreeOk_n21 x1141 t) (fun e => some ((fun (t : Bool) => t) e)))

@[irreducible] def spec_TreeOk (x1141 : List Int) : Option (Bool) :=
  spec_TreeOk_n22 x1141

def math_bits_TrailingZeros64_n1 (x1559 : Int) : Option (Int) :=
  cond (x1559 == 0) (some 64) ((shr .u64 (IntKind.wrap .u64 ((iand .u64 x1559 (IntKind.wrap .u64 (0 - x1559))) * 285870213051353865)) 58).bind fun (v1576 : Int) => (same (List.length tab1) 64).bind fun (v1577 : Unit) => (idx tab1 v1576).bind fun (v1578 : Int) => some (IntKind.wrap .i64 v1578))

@[irreducible] def math_bits_TrailingZeros64 (x1559 : Int) : Option (Int) :=
  math_bits_TrailingZeros64_n1 x1559

def math_bits_TrailingZeros_n1 (x1558 : Int) : Option (Int) :=
  (math_bits_TrailingZeros64 x1558).bind fun (v1582 : Int) => some v1582

@[irreducible] def math_bits_TrailingZeros (x1558 : Int) : Option (Int) :=
  math_bits_TrailingZeros_n1 x1558

def impl_wordSet_list_n1 (x1552 : Int) : Option (((List Int))) :=
  (impl_wordSet_count x1552).bind fun (v1553 : Int) => (mk 0 v1553).bind fun (v1554 : Nat) => some (List.replicate v1554 (0 : Int))

def impl_wordSet_list_n2 : Option (Unit) :=
  some ()

def impl_wordSet_list_n3 (x1598 : Int) (x1599 : List Int) : Option ((Int × (List Int)) ⊕ ((List Int))) :=
  cond (x1598 != 0) ((math_bits_TrailingZeros x1598).bind fun (v1609 : Int) => (room ((List.length x1599) + List.length ([(IntKind.wrap .i64 (v1609 + 1))]))).bind fun (v1613 : Unit) => some (Sum.inl ((iand .u64 x1598 (IntKind.wrap .u64 (x1598 - 1))), (x1599 ++ ([(IntKind.wrap .i64 (v1609 + 1))]))))) (some (Sum.inr x1599))

def impl_wordSet_list_n4 (x1552 : Int) (x1555 : List Int) : Option (((List Int))) :=
  nloop (fun (s : Int × (List Int)) => ((impl_wordSet_list_n3 s.1 s.2).map (Sum.elim (fun (t : Int × (List Int)) => Sum.inl (t.1, t.2)) (fun (t : (List Int)) => Sum.inr t)) : Option ((Int × (List Int)) ⊕ (((List Int)))))) LL (x1552, x1555)

def impl_wordSet_list_n5 (x1552 : Int) (x1555 : List Int) : Option (((List Int))) :=
  (impl_wordSet_list_n4 x1552 x1555).map (fun (t : (List Int)) => t)

def impl_wordSet_list_n6 (x1552 : Int) (x1555 : List Int) : Option (((List Int))) :=
  (impl_wordSet_list_n2).bind (fun (t : Unit) => impl_wordSet_list_n5 x1552 x1555)

def impl_wordSet_list_n7 (x1599 : List Int) : Option (((List Int))) :=
  some x1599

def impl_wordSet_list_n8 (x1552 : Int) (x1555 : List Int) : Option (((List Int))) :=
  (impl_wordSet_list_n6 x1552 x1555).bind (fun (t : (List Int)) => impl_wordSet_list_n7 t)

def impl_wordSet_list_n9 (x1552 : Int) : Option (((List Int))) :=
  (impl_wordSet_list_n1 x1552).bind (fun (t : (List Int)) => impl_wordSet_list_n8 x1552 t)

@[irreducible] def impl_wordSet_list (x1552 : Int) : Option ((List Int)) :=
  impl_wordSet_list_n9 x1552

def impl_RootOf_n1 (x3172 : List Int) : Option (Unit ⊕ Int) :=
  (impl_TreeOk x3172).bind fun (v3175 : Bool) => cond (!v3175) (some (Sum.inr (-1))) (some (Sum.inl ()))

def impl_RootOf_n2 (x3172 : List Int) (x3185 : Int) (x3186 : Int) : Option ((Int × Int) ⊕ (Int × Int)) :=
  (impl_walker_up x3172 x3185 x3186).bind fun (v3191 : Bool × Int × Int) => cond (v3191.1) (some (Sum.inl ((v3191.2.1), (v3191.2.2)))) (some (Sum.inr ((v3191.2.1), (v3191.2.2))))

def impl_RootOf_n3 (x3172 : List Int) : Option ((Int × Int)) :=
  nloop (fun (s : Int × Int) => ((impl_RootOf_n2 x3172 s.1 s.2).map (Sum.elim (fun (t : Int × Int) => Sum.inl (t.1, t.2)) (fun (t : Int × Int) => Sum.inr t)) : Option ((Int × Int) ⊕ ((Int × Int))))) LL (1, 0)

def impl_RootOf_n4 (x3172 : List Int) : Option ((Int × Int)) :=
  (impl_RootOf_n3 x3172).map (fun (t : Int × Int) => (t.1, t.2))

def impl_RootOf_n5 (x3193 : Int) : Option (Int) :=
  some x3193

def impl_RootOf_n6 (x3172 : List Int) : Option (Int) :=
  (impl_RootOf_n4 x3172).bind (fun (t : Int × Int) => impl_RootOf_n5 t.1)

def impl_RootOf_n7 (x3172 : List Int) : Option (Int) :=
  (impl_RootOf_n1 x3172).bind (Sum.elim (fun (t : Unit) => impl_RootOf_n6 x3172) (fun e => some ((fun (t : Int) => t) e)))

@[irreducible] def impl_RootOf (x3172 : List Int) : Option (Int) :=
  impl_RootOf_n7 x3172

def spec_RootOf_n1 : Option (Unit) :=
  some ()

def spec_RootOf_n2 : Option (Unit) :=
  some ()

def spec_RootOf_n3 (x4097 : List Int) (x4114 : Int) : Option (Int ⊕ Int ⊕ Unit) :=
  cond (decide (x4114 < (((List.length x4097 : Nat) : Int)))) ((spec_TreeOk x4097).bind fun (v4126 : Bool) => cond v4126 ((idx x4097 x4114).bind fun (v4127 : Int) => cond (v4127 == 0) (some (Sum.inr (Sum.inl (IntKind.wrap .i64 (x4114 + 1))))) (some (Sum.inl (IntKind.wrap .i64 (x4114 + 1))))) (some (Sum.inr (Sum.inr ())))) (some (Sum.inr (Sum.inr ())))

def spec_RootOf_n4 (x4097 : List Int) : Option (Int ⊕ Unit) :=
  nloop (fun (s : Int) => ((spec_RootOf_n3 x4097 s).map (Sum.elim (fun (t : Int) => Sum.inl t) (Sum.elim (fun (t : Int) => Sum.inr (Sum.inl t)) (fun (t : Unit) => Sum.inr (Sum.inr t)))) : Option ((Int) ⊕ (Int ⊕ Unit)))) LL 0

def spec_RootOf_n5 (x4097 : List Int) : Option (Unit ⊕ Int) :=
  (spec_RootOf_n4 x4097).map (Sum.elim (fun (t : Int) => (Sum.inr t)) (fun (t : Unit) => (Sum.inl ())))

def spec_RootOf_n6 (x4097 : List Int) : Option (Unit ⊕ Int) :=
  (spec_RootOf_n2).bind (fun (t : Unit) => spec_RootOf_n5 x4097)

def spec_RootOf_n7 : Option (Int) :=
  some (-1)

def spec_RootOf_n8 (x4097 : List Int) : Option (Int) :=
  (spec_RootOf_n6 x4097).bind (Sum.elim (fun (t : Unit) => spec_RootOf_n7) (fun e => some ((fun (t : Int) => t) e)))

def spec_RootOf_n9 (x4097 : List Int) : Option (Int) :=
  (spec_RootOf_n1).bind (fun (t : Unit) => spec_RootOf_n8 x4097)

@[irreducible] def spec_RootOf (x4097 : List Int) : Option (Int) :=
  spec_RootOf_n9 x4097

def spec_OrderOk_n1 : Option (Unit) :=
  some ()

def spec_OrderOk_n2 : Option (Unit) :=
  some ()

def spec_OrderOk_n3 (x4798 : List Int) (x4830 : Int) : Option (Unit ⊕ Unit) :=
  cond (decide (x4830 < (((List.length x4798 : Nat) : Int)))) (some (Sum.inl ())) (some (Sum.inr ()))

def spec_OrderOk_n4 (x4798 : List Int) (x4799 : Int) (x4830 : Int) : Option (Unit ⊕ Bool) :=
  (idx x4798 x4830).bind fun (v4836 : Int) => (spec_l1In v4836 1 x4799).bind fun (v4837 : Bool) => cond (!v4837) (some (Sum.inr false)) (some (Sum.inl ()))

def spec_OrderOk_n5 (x4798 : List Int) (x4830 : Int) (x4849 : Int) : Option (Int ⊕ Bool ⊕ Unit) :=
  cond (decide (x4849 < x4830)) ((idx x4798 x4849).bind fun (v4856 : Int) => (idx x4798 x4830).bind fun (v4857 : Int) => cond (v4856 == v4857) (some (Sum.inr (Sum.inl false))) (some (Sum.inl (IntKind.wrap .i64 (x4849 + 1))))) (some (Sum.inr (Sum.inr ())))

def spec_OrderOk_n6 (x4798 : List Int) (x4830 : Int) : Option (Bool ⊕ Unit) :=
  nloop (fun (s : Int) => ((spec_OrderOk_n5 x4798 x4830 s).map (Sum.elim (fun (t : Int) => Sum.inl t) (Sum.elim (fun (t : Bool) => Sum.inr (Sum.inl t)) (fun (t : Unit) => Sum.inr (Sum.inr t)))) : Option ((Int) ⊕ (Bool ⊕ Unit)))) LL 0

def spec_OrderOk_n7 (x4798 : List Int) (x4830 : Int) : Option (Unit ⊕ Bool) :=
  (spec_OrderOk_n6 x4798 x4830).map (Sum.elim (fun (t : Bool) => (Sum.inr t)) (fun (t : Unit) => (Sum.inl ())))

def spec_OrderOk_n8 (x4798 : List Int) (x4799 : Int) (x4830 : Int) : Option (Unit ⊕ Bool) :=
  (spec_OrderOk_n4 x4798 x4799 x4830).bind (Sum.elim (fun (t : Unit) => spec_OrderOk_n7 x4798 x4830) (fun e => some ((fun (t : Bool) => (Sum.inr t)) e)))

def spec_OrderOk_n9 (x4798 : List Int) (x4799 : Int) (x4830 : Int) : Option (Unit ⊕ Bool) :=
  (spec_OrderOk_n8 x4798 x4799 x4830).map (Sum.elim (fun (t : Unit) => (Sum.inl ())) (fun (t : Bool) => (Sum.inr t)))

def spec_OrderOk_n10 (x4830 : Int) : Option (Int) :=
  some (IntKind.wrap .i64 (x4830 + 1))

def spec_OrderOk_n11 (x4798 : List Int) (x4799 : Int) (x4830 : Int) : Option (Int ⊕ Bool) :=
  (spec_OrderOk_n9 x4798 x4799 x4830).bind (Sum.elim (fun (t : Unit) => (spec_OrderOk_n10 x4830).map (fun (t : Int) => (Sum.inl t))) (fun e => some ((fun (t : Bool) => (Sum.inr t)) e)))

def spec_OrderOk_n12 (x4798 : List Int) (x4799 : Int) (x4830 : Int) : Option (Int ⊕ Bool ⊕ Unit) :=
  (spec_OrderOk_n3 x4798 x4830).bind (Sum.elim (fun (t : Unit) => (spec_OrderOk_n11 x4798 x4799 x4830).map (Sum.elim (fun (t : Int) => (Sum.inl t)) (fun (t : Bool) => (Sum.inr (Sum.inl t))))) (fun e => some ((fun (t : Unit) => (Sum.inr (Sum.inr t))) e)))

def spec_OrderOk_n13 (x4798 : List Int) (x4799 : Int) : Option (Bool ⊕ Unit) :=
  nloop (fun (s : Int) => ((spec_OrderOk_n12 x4798 x4799 s).map (Sum.elim (fun (t : Int) => Sum.inl t) (Sum.elim (fun (t : Bool) => Sum.inr (Sum.inl t)) (fun (t : Unit) => Sum.inr (Sum.inr t)))) : Option ((Int) ⊕ (Bool ⊕ Unit)))) LL 0

def spec_OrderOk_n14 (x4798 : List Int) (x4799 : Int) : Option (Unit ⊕ Bool) :=
  (spec_OrderOk_n13 x4798 x4799).map (Sum.elim (fun (t : Bool) => (Sum.inr t)) (fun (t : Unit) => (Sum.inl ())))

def spec_OrderOk_n15 (x4798 : List Int) (x4799 : Int) : Option (Unit ⊕ Bool) :=
  (spec_OrderOk_n2).bind (fun (t : Unit) => spec_OrderOk_n14 x4798 x4799)

def spec_OrderOk_n16 (x4798 : List Int) (x4799 : Int) : Option (Bool) :=
  (spec_l1In x4799 1 8).bind fun (v4864 : Bool) => cond v4864 (some ((((List.length x4798 : Nat) : Int)) == x4799)) (some false)

def spec_OrderOk_n17 (x4798 : List Int) (x4799 : Int) : Option (Bool) :=
  (spec_OrderOk_n15 x4798 x4799).bind (Sum.elim (fun (t : Unit) => spec_OrderOk_n16 x4798 x4799) (fun e => some ((fun (t : Bool) => t) e)))

def spec_OrderOk_n18 (x4798 : List Int) (x4799 : Int) : Option (Bool) :=
  (spec_OrderOk_n1).bind (fun (t : Unit) => spec_OrderOk_n17 x4798 x4799)

@[irreducible] def spec_OrderOk (x4798 : List Int) (x4799 : Int) : Option (Bool) :=
  spec_OrderOk_n18 x4798 x4799

def spec_PutInOrder_n1 (x4793 : List Int) (x4794 : List Int) : Option (((List Int)) ⊕ (Bool × (List Int))) :=
  (spec_TreeOk x4793).bind fun (v4870 : Bool) => cond (!v4870) (some (Sum.inr (false, ([] : List Int)))) ((spec_OrderOk x4794 (((List.length x4793 : Nat) : Int))).bind fun (v4873 : Bool) => cond (!v4873) (some (Sum.inr (false, ([] : List Int)))) ((mk (IntKind.wrap .i64 ((((List.length x4793 : Nat) : Int)) + 1)) (IntKind.wrap .i64 ((((List.length x4793 : Nat) : Int)) + 1))).bind fun (v4877 : Nat) => some (Sum.inl (List.replicate v4877 (0 : Int)))))

def spec_PutInOrder_n2 : Option (Unit) :=
  some ()

def spec_PutInOrder_n3 (x4794 : List Int) (x4894 : Int) (x4895 : List Int) : Option ((Int × (List Int)) ⊕ ((List Int))) :=
  cond (decide (x4894 < (((List.length x4794 : Nat) : Int)))) ((idx x4794 x4894).bind fun (v4906 : Int) => (inb v4906 (List.length x4895)).bind fun (v4908 : Nat) => some (Sum.inl ((IntKind.wrap .i64 (x4894 + 1)), (x4895.set v4908 (IntKind.wrap .i64 (x4894 + 1)))))) (some (Sum.inr x4895))

def spec_PutInOrder_n4 (x4794 : List Int) (x4878 : List Int) : Option (((List Int))) :=
  nloop (fun (s : Int × (List Int)) => ((spec_PutInOrder_n3 x4794 s.1 s.2).map (Sum.elim (fun (t : Int × (List Int)) => Sum.inl (t.1, t.2)) (fun (t : (List Int)) => Sum.inr t)) : Option ((Int × (List Int)) ⊕ (((List Int)))))) LL (0, x4878)

def spec_PutInOrder_n5 (x4794 : List Int) (x4878 : List Int) : Option (((List Int))) :=
  (spec_PutInOrder_n4 x4794 x4878).map (fun (t : (List Int)) => t)

def spec_PutInOrder_n6 (x4794 : List Int) (x4878 : List Int) : Option (((List Int))) :=
  (spec_PutInOrder_n2).bind (fun (t : Unit) => spec_PutInOrder_n5 x4794 x4878)

def spec_PutInOrder_n7 : Option (Unit) :=
  some ()

def spec_PutInOrder_n8 : Option (Unit) :=
  some ()

def spec_PutInOrder_n9 (x4793 : List Int) (x4794 : List Int) (x4936 : Int) (x4895 : List Int) (x4937 : List Int) : Option ((Int × (List Int)) ⊕ ((List Int))) :=
  cond (decide (x4936 < (((List.length x4794 : Nat) : Int)))) ((idx x4794 x4936).bind fun (v4953 : Int) => (idx x4793 (IntKind.wrap .i64 (v4953 - 1))).bind fun (v4955 : Int) => (inb v4955 (List.length x4895)).bind fun (v4956 : Nat) => (x4895[v4956]?).bind fun (v4957 : Int) => (room ((List.length x4937) + List.length ([v4957]))).bind fun (v4960 : Unit) => some (Sum.inl ((IntKind.wrap .i64 (x4936 + 1)), (x4937 ++ ([v4957]))))) (some (Sum.inr x4937))

def spec_PutInOrder_n10 (x4793 : List Int) (x4794 : List Int) (x4895 : List Int) : Option (((List Int))) :=
  nloop (fun (s : Int × (List Int)) => ((spec_PutInOrder_n9 x4793 x4794 s.1 x4895 s.2).map (Sum.elim (fun (t : Int × (List Int)) => Sum.inl (t.1, t.2)) (fun (t : (List Int)) => Sum.inr t)) : Option ((Int × (List Int)) ⊕ (((List Int)))))) LL (0, ([] : List Int))

def spec_PutInOrder_n11 (x4793 : List Int) (x4794 : List Int) (x4895 : List Int) : Option (((List Int))) :=
  (spec_PutInOrder_n10 x4793 x4794 x4895).map (fun (t : (List Int)) => t)

def spec_PutInOrder_n12 (x4793 : List Int) (x4794 : List Int) (x4895 : List Int) : Option (((List Int))) :=
  (spec_PutInOrder_n8).bind (fun (t : Unit) => spec_PutInOrder_n11 x4793 x4794 x4895)

def spec_PutInOrder_n13 (x4937 : List Int) : Option ((Bool × (List Int))) :=
  some (true, x4937)

def spec_PutInOrder_n14 (x4793 : List Int) (x4794 : List Int) (x4895 : List Int) : Option ((Bool × (List Int))) :=
  (spec_PutInOrder_n12 x4793 x4794 x4895).bind (fun (t : (List Int)) => spec_PutInOrder_n13 t)

def spec_PutInOrder_n15 (x4793 : List Int) (x4794 : List Int) (x4895 : List Int) : Option ((Bool × (List Int))) :=
  (spec_PutInOrder_n7).bind (fun (t : Unit) => spec_PutInOrder_n14 x4793 x4794 x4895)

def spec_PutInOrder_n16 (x4793 : List Int) (x4794 : List Int) (x4878 : List Int) : Option ((Bool × (List Int))) :=
  (spec_PutInOrder_n6 x4794 x4878).bind (fun (t : (List Int)) => spec_PutInOrder_n15 x4793 x4794 t)

def spec_PutInOrder_n17 (x4793 : List Int) (x4794 : List Int) : Option ((Bool × (List Int))) :=
  (spec_PutInOrder_n1 x4793 x4794).bind (Sum.elim (fun (t : (List Int)) => spec_PutInOrder_n16 x4793 x4794 t) (fun e => some ((fun (t : Bool × (List Int)) => t) e)))

@[irreducible] def spec_PutInOrder (x4793 : List Int) (x4794 : List Int) : Option (Bool × (List Int)) :=
  spec_PutInOrder_n17 x4793 x4794

def impl_appendFlat_n1 (R0 : (List Int) → Int → (List Int) → Option ((List Int))) (R1 : (List Int) → Int → (List Int) → Option ((List Int))) (x5085 : List Int) (x5086 : Int) (x5087 : List Int) : Option (((List Int))) :=
  (impl_dependentsBeside x5085 x5086).bind fun (v5209 : Int × Int) => (R1 x5085 (v5209.1) x5087).bind fun (v5212 : List Int) => (room ((List.length v5212) + List.length ([x5086]))).bind fun (v5215 : Unit) => (R1 x5085 (v5209.2) (v5212 ++ ([x5086]))).bind fun (v5217 : List Int) => some v5217

def impl_appendFlat_one (R0 : (List Int) → Int → (List Int) → Option ((List Int))) (R1 : (List Int) → Int → (List Int) → Option ((List Int))) (x5085 : List Int) (x5086 : Int) (x5087 : List Int) : Option ((List Int)) :=
  impl_appendFlat_n1 R0 R1 x5085 x5086 x5087

def impl_appendEachFlat_n1 (R0 : (List Int) → Int → (List Int) → Option ((List Int))) (R1 : (List Int) → Int → (List Int) → Option ((List Int))) : Option (Unit) :=
  some ()

def impl_appendEachFlat_n2 (R0 : (List Int) → Int → (List Int) → Option ((List Int))) (R1 : (List Int) → Int → (List Int) → Option ((List Int))) (x5141 : Int) : Option ((Int × (List Int))) :=
  (impl_wordSet_list x5141).bind fun (v5169 : List Int) => some ((((List.length v5169 : Nat) : Int)), v5169)

def impl_appendEachFlat_n3 (R0 : (List Int) → Int → (List Int) → Option ((List Int))) (R1 : (List Int) → Int → (List Int) → Option ((List Int))) (x5140 : List Int) (x5170 : Int) (x5182 : Int) (x5183 : List Int) (x5169 : List Int) : Option ((Int × (List Int)) ⊕ ((List Int))) :=
  cond (decide (x5182 < x5170)) ((inb x5182 (List.length x5169)).bind fun (v5191 : Nat) => (x5169[v5191]?).bind fun (v5192 : Int) => (R0 x5140 v5192 x5183).bind fun (v5193 : List Int) => some (Sum.inl ((IntKind.wrap .i64 (x5182 + 1)), v5193))) (some (Sum.inr x5183))

def impl_appendEachFlat_n4 (R0 : (List Int) → Int → (List Int) → Option ((List Int))) (R1 : (List Int) → Int → (List Int) → Option ((List Int))) (x5140 : List Int) (x5170 : Int) (x5142 : List Int) (x5169 : List Int) : Option (((List Int))) :=
  nloop (fun (s : Int × (List Int)) => ((impl_appendEachFlat_n3 R0 R1 x5140 x5170 s.1 s.2 x5169).map (Sum.elim (fun (t : Int × (List Int)) => Sum.inl (t.1, t.2)) (fun (t : (List Int)) => Sum.inr t)) : Option ((Int × (List Int)) ⊕ (((List Int)))))) LL (0, x5142)

def impl_appendEachFlat_n5 (R0 : (List Int) → Int → (List Int) → Option ((List Int))) (R1 : (List Int) → Int → (List Int) → Option ((List Int))) (x5140 : List Int) (x5170 : Int) (x5142 : List Int) (x5169 : List Int) : Option (((List Int))) :=
  (impl_appendEachFlat_n4 R0 R1 x5140 x5170 x5142 x5169).map (fun (t : (List Int)) => t)

def impl_appendEachFlat_n6 (R0 : (List Int) → Int → (List Int) → Option ((List Int))) (R1 : (List Int) → Int → (List Int) → Option ((List Int))) (x5140 : List Int) (x5141 : Int) (x5142 : List Int) : Option (((List Int))) :=
  (impl_appendEachFlat_n2 R0 R1 x5141).bind (fun (t : Int × (List Int)) => impl_appendEachFlat_n5 R0 R1 x5140 t.1 x5142 t.2)

def impl_appendEachFlat_n7 (R0 : (List Int) → Int → (List Int) → Option ((List Int))) (R1 : (List Int) → Int → (List Int) → Option ((List Int))) (x5183 : List Int) : Option (((List Int))) :=
  some x5183

def impl_appendEachFlat_n8 (R0 : (List Int) → Int → (List Int) → Option ((List Int))) (R1 : (List Int) → Int → (List Int) → Option ((List Int))) (x5140 : List Int) (x5141 : Int) (x5142 : List Int) : Option (((List Int))) :=
  (impl_appendEachFlat_n6 R0 R1 x5140 x5141 x5142).bind (fun (t : (List Int)) => impl_appendEachFlat_n7 R0 R1 t)

def impl_appendEachFlat_n9 (R0 : (List Int) → Int → (List Int) → Option ((List Int))) (R1 : (List Int) → Int → (List Int) → Option ((List Int))) (x5140 : List Int) (x5141 : Int) (x5142 : List Int) : Option (((List Int))) :=
  (impl_appendEachFlat_n1 R0 R1).bind (fun (t : Unit) => impl_appendEachFlat_n8 R0 R1 x5140 x5141 x5142)

def impl_appendEachFlat_one (R0 : (List Int) → Int → (List Int) → Option ((List Int))) (R1 : (List Int) → Int → (List Int) → Option ((List Int))) (x5140 : List Int) (x5141 : Int) (x5142 : List Int) : Option ((List Int)) :=
  impl_appendEachFlat_n9 R0 R1 x5140 x5141 x5142

def impl_appendFlat_knot : Nat → ((List Int) → Int → (List Int) → Option ((List Int))) × ((List Int) → Int → (List Int) → Option ((List Int)))
  | 0 => ((fun _ _ _ => none), (fun _ _ _ => none))
  | n + 1 => ((fun y0 y1 y2 => impl_appendFlat_one (impl_appendFlat_knot n).1 (impl_appendFlat_knot n).2 y0 y1 y2), (fun y0 y1 y2 => impl_appendEachFlat_one (impl_appendFlat_knot n).1 (impl_appendFlat_knot n).2 y0 y1 y2))

def impl_appendFlat_fuel (n : Nat) : (List Int) → Int → (List Int) → Option ((List Int)) := (impl_appendFlat_knot n).1

@[irreducible] def impl_appendFlat (x5085 : List Int) (x5086 : Int) (x5087 : List Int) : Option ((List Int)) := impl_appendFlat_fuel RR x5085 x5086 x5087

def impl_appendEachFlat_fuel (n : Nat) : (List Int) → Int → (List Int) → Option ((List Int)) := (impl_appendFlat_knot n).2

@[irreducible] def impl_appendEachFlat (x5140 : List Int) (x5141 : Int) (x5142 : List Int) : Option ((List Int)) := impl_appendEachFlat_fuel RR x5140 x5141 x5142

def impl_FlatOrder_n1 (x5068 : List Int) : Option (((List Int))) :=
  (impl_TreeOk x5068).bind fun (v5227 : Bool) => cond (!v5227) (some ([] : List Int)) ((impl_RootOf x5068).bind fun (v5230 : Int) => (mk 0 (((List.length x5068 : Nat) : Int))).bind fun (v5231 : Nat) => (impl_appendFlat x5068 v5230 (List.replicate v5231 (0 : Int))).bind fun (v5233 : List Int) => some v5233)

@[irreducible] def impl_FlatOrder (x5068 : List Int) : Option ((List Int)) :=
  impl_FlatOrder_n1 x5068

def spec_l8Walk_n1 (R0 : (List Int) → Int → Option ((List Int))) : Option (Unit) :=
  some ()

def spec_l8Walk_n2 (R0 : (List Int) → Int → Option ((List Int))) : Option (Unit) :=
  some ()

def spec_l8Walk_n3 (R0 : (List Int) → Int → Option ((List Int))) (x5246 : List Int) (x5247 : Int) (x5322 : Int) (x5323 : List Int) : Option ((Int × (List Int)) ⊕ ((List Int))) :=
  cond (decide (x5322 < x5247)) ((idx x5246 (IntKind.wrap .i64 (x5322 - 1))).bind fun (v5335 : Int) => cond (v5335 == x5247) ((R0 x5246 x5322).bind fun (v5337 : List Int) => (room ((List.length x5323) + List.length v5337)).bind fun (v5339 : Unit) => some (Sum.inl ((IntKind.wrap .i64 (x5322 + 1)), (x5323 ++ v5337)))) (some (Sum.inl ((IntKind.wrap .i64 (x5322 + 1)), x5323)))) (some (Sum.inr x5323))

def spec_l8Walk_n4 (R0 : (List Int) → Int → Option ((List Int))) (x5246 : List Int) (x5247 : Int) : Option (((List Int))) :=
  nloop (fun (s : Int × (List Int)) => ((spec_l8Walk_n3 R0 x5246 x5247 s.1 s.2).map (Sum.elim (fun (t : Int × (List Int)) => Sum.inl (t.1, t.2)) (fun (t : (List Int)) => Sum.inr t)) : Option ((Int × (List Int)) ⊕ (((List Int)))))) LL (1, ([] : List Int))

def spec_l8Walk_n5 (R0 : (List Int) → Int → Option ((List Int))) (x5246 : List Int) (x5247 : Int) : Option (((List Int))) :=
  (spec_l8Walk_n4 R0 x5246 x5247).map (fun (t : (List Int)) => t)

def spec_l8Walk_n6 (R0 : (List Int) → Int → Option ((List Int))) (x5246 : List Int) (x5247 : Int) : Option (((List Int))) :=
  (spec_l8Walk_n2 R0).bind (fun (t : Unit) => spec_l8Walk_n5 R0 x5246 x5247)

def spec_l8Walk_n7 (R0 : (List Int) → Int → Option ((List Int))) (x5247 : Int) (x5323 : List Int) : Option (((List Int))) :=
  (room ((List.length x5323) + List.length ([x5247]))).bind fun (v5347 : Unit) => some (x5323 ++ ([x5247]))

def spec_l8Walk_n8 (R0 : (List Int) → Int → Option ((List Int))) (x5247 : Int) : Option (Int) :=
  some (IntKind.wrap .i64 (x5247 + 1))

def spec_l8Walk_n9 (R0 : (List Int) → Int → Option ((List Int))) (x5246 : List Int) (x5247 : Int) (x5374 : Int) (x5375 : List Int) : Option ((Int × (List Int)) ⊕ ((List Int))) :=
  cond (decide (x5374 ≤ (((List.length x5246 : Nat) : Int)))) ((idx x5246 (IntKind.wrap .i64 (x5374 - 1))).bind fun (v5390 : Int) => cond (v5390 == x5247) ((R0 x5246 x5374).bind fun (v5392 : List Int) => (room ((List.length x5375) + List.length v5392)).bind fun (v5394 : Unit) => some (Sum.inl ((IntKind.wrap .i64 (x5374 + 1)), (x5375 ++ v5392)))) (some (Sum.inl ((IntKind.wrap .i64 (x5374 + 1)), x5375)))) (some (Sum.inr x5375))

def spec_l8Walk_n10 (R0 : (List Int) → Int → Option ((List Int))) (x5246 : List Int) (x5247 : Int) (x5349 : Int) (x5348 : List Int) : Option (((List Int))) :=
  nloop (fun (s : Int × (List Int)) => ((spec_l8Walk_n9 R0 x5246 x5247 s.1 s.2).map (Sum.elim (fun (t : Int × (List Int)) => Sum.inl (t.1, t.2)) (fun (t : (List Int)) => Sum.inr t)) : Option ((Int × (List Int)) ⊕ (((List Int)))))) LL (x5349, x5348)

def spec_l8Walk_n11 (R0 : (List Int) → Int → Option ((List Int))) (x5246 : List Int) (x5247 : Int) (x5349 : Int) (x5348 : List Int) : Option (((List Int))) :=
  (spec_l8Walk_n10 R0 x5246 x5247 x5349 x5348).map (fun (t : (List Int)) => t)

def spec_l8Walk_n12 (R0 : (List Int) → Int → Option ((List Int))) (x5246 : List Int) (x5247 : Int) (x5348 : List Int) : Option (((List Int))) :=
  (spec_l8Walk_n8 R0 x5247).bind (fun (t : Int) => spec_l8Walk_n11 R0 x5246 x5247 t x5348)

def spec_l8Walk_n13 (R0 : (List Int) → Int → Option ((List Int))) (x5375 : List Int) : Option (((List Int))) :=
  some x5375

def spec_l8Walk_n14 (R0 : (List Int) → Int → Option ((List Int))) (x5246 : List Int) (x5247 : Int) (x5348 : List Int) : Option (((List Int))) :=
  (spec_l8Walk_n12 R0 x5246 x5247 x5348).bind (fun (t : (List Int)) => spec_l8Walk_n13 R0 t)

def spec_l8Walk_n15 (R0 : (List Int) → Int → Option ((List Int))) (x5246 : List Int) (x5247 : Int) (x5323 : List Int) : Option (((List Int))) :=
  (spec_l8Walk_n7 R0 x5247 x5323).bind (fun (t : (List Int)) => spec_l8Walk_n14 R0 x5246 x5247 t)

def spec_l8Walk_n16 (R0 : (List Int) → Int → Option ((List Int))) (x5246 : List Int) (x5247 : Int) : Option (((List Int))) :=
  (spec_l8Walk_n6 R0 x5246 x5247).bind (fun (t : (List Int)) => spec_l8Walk_n15 R0 x5246 x5247 t)

def spec_l8Walk_n17 (R0 : (List Int) → Int → Option ((List Int))) (x5246 : List Int) (x5247 : Int) : Option (((List Int))) :=
  (spec_l8Walk_n1 R0).bind (fun (t : Unit) => spec_l8Walk_n16 R0 x5246 x5247)

def spec_l8Walk_one (R0 : (List Int) → Int → Option ((List Int))) (x5246 : List Int) (x5247 : Int) : Option ((List Int)) :=
  spec_l8Walk_n17 R0 x5246 x5247

def spec_l8Walk_knot : Nat → ((List Int) → Int → Option ((List Int)))
  | 0 => (fun _ _ => none)
  | n + 1 => (fun y0 y1 => spec_l8Walk_one (spec_l8Walk_knot n) y0 y1)

def spec_l8Walk_fuel (n : Nat) : (List Int) → Int → Option ((List Int)) := (spec_l8Walk_knot n)

@[irreducible] def spec_l8Walk (x5246 : List Int) (x5247 : Int) : Option ((List Int)) := spec_l8Walk_fuel RR x5246 x5247

def spec_FlatOrder_n1 (x5240 : List Int) : Option (((List Int))) :=
  (spec_TreeOk x5240).bind fun (v5401 : Bool) => cond (!v5401) (some ([] : List Int)) ((spec_RootOf x5240).bind fun (v5403 : Int) => (spec_l8Walk x5240 v5403).bind fun (v5404 : List Int) => some v5404)

@[irreducible] def spec_FlatOrder (x5240 : List Int) : Option ((List Int)) :=
  spec_FlatOrder_n1 x5240

def impl_OrderOk_n1 (x5438 : List Int) (x5439 : Int) : Option (Unit ⊕ Bool) :=
  cond (decide (x5439 < 1)) (some (Sum.inr false)) (cond (decide (x5439 > 8)) (some (Sum.inr false)) (cond ((((List.length x5438 : Nat) : Int)) != x5439) (some (Sum.inr false)) (some (Sum.inl ()))))

def impl_OrderOk_n2 (x5438 : List Int) : Option (Int) :=
  some (((List.length x5438 : Nat) : Int))

def impl_OrderOk_n3 (x5439 : Int) (x5438 : List Int) (x5449 : Int) (x5473 : Int) (x5474 : List Bool) : Option ((Int × (List Bool)) ⊕ Bool ⊕ Unit) :=
  cond (decide (x5473 < x5449)) ((idx x5438 x5473).bind fun (v5488 : Int) => cond (decide (v5488 < 1)) (some (Sum.inr (Sum.inl false))) (cond (decide (v5488 > x5439)) (some (Sum.inr (Sum.inl false))) ((same (List.length x5474) 9).bind fun (v5491 : Unit) => (inb v5488 9).bind fun (v5492 : Nat) => (x5474[v5492]?).bind fun (v5493 : Bool) => cond v5493 (some (Sum.inr (Sum.inl false))) ((same (List.length x5474) 9).bind fun (v5494 : Unit) => (inb v5488 9).bind fun (v5495 : Nat) => some (Sum.inl ((IntKind.wrap .i64 (x5473 + 1)), (x5474.set v5495 true))))))) (some (Sum.inr (Sum.inr ())))

def impl_OrderOk_n4 (x5439 : Int) (x5438 : List Int) (x5449 : Int) : Option (Bool ⊕ Unit) :=
  nloop (fun (s : Int × (List Bool)) => ((impl_OrderOk_n3 x5439 x5438 x5449 s.1 s.2).map (Sum.elim (fun (t : Int × (List Bool)) => Sum.inl (t.1, t.2)) (Sum.elim (fun (t : Bool) => Sum.inr (Sum.inl t)) (fun (t : Unit) => Sum.inr (Sum.inr t)))) : Option ((Int × (List Bool)) ⊕ (Bool ⊕ Unit)))) LL (0, (List.replicate 9 false))

def impl_OrderOk_n5 (x5439 : Int) (x5438 : List Int) (x5449 : Int) : Option (Unit ⊕ Bool) :=
  (impl_OrderOk_n4 x5439 x5438 x5449).map (Sum.elim (fun (t : Bool) => (Sum.inr t)) (fun (t : Unit) => (Sum.inl ())))

def impl_OrderOk_n6 (x5438 : List Int) (x5439 : Int) : Option (Unit ⊕ Bool) :=
  (impl_OrderOk_n2 x5438).bind (fun (t : Int) => impl_OrderOk_n5 x5439 x5438 t)

def impl_OrderOk_n7 : Option (Bool) :=
  some true

def impl_OrderOk_n8 (x5438 : List Int) (x5439 : Int) : Option (Bool) :=
  (impl_OrderOk_n6 x5438 x5439).bind (Sum.elim (fun (t : Unit) => impl_OrderOk_n7) (fun e => some ((fun (t : Bool) => t) e)))

def impl_OrderOk_n9 (x5438 : List Int) (x5439 : Int) : Option (Bool) :=
  (impl_OrderOk_n1 x5438 x5439).bind (Sum.elim (fun (t : Unit) => impl_OrderOk_n8 x5438 x5439) (fun e => some ((fun (t : Bool) => t) e)))

@[irreducible] def impl_OrderOk (x5438 : List Int) (x5439 : Int) : Option (Bool) :=
  impl_OrderOk_n9 x5438 x5439

def impl_placesIn_n1 (x5506 : List Int) : Option (((List Int))) :=
  (mk (IntKind.wrap .i64 ((((List.length x5506 : Nat) : Int)) + 1)) (IntKind.wrap .i64 ((((List.length x5506 : Nat) : Int)) + 1))).bind fun (v5509 : Nat) => some (List.replicate v5509 (0 : Int))

def impl_placesIn_n2 (x5506 : List Int) : Option (Int) :=
  some (((List.length x5506 : Nat) : Int))

def impl_placesIn_n3 (x5506 : List Int) (x5511 : Int) (x5525 : Int) (x5526 : List Int) : Option ((Int × (List Int)) ⊕ ((List Int))) :=
  cond (decide (x5525 < x5511)) ((idx x5506 x5525).bind fun (v5535 : Int) => (inb v5535 (List.length x5526)).bind fun (v5537 : Nat) => some (Sum.inl ((IntKind.wrap .i64 (x5525 + 1)), (x5526.set v5537 (IntKind.wrap .i64 (x5525 + 1)))))) (some (Sum.inr x5526))

def impl_placesIn_n4 (x5506 : List Int) (x5511 : Int) (x5510 : List Int) : Option (((List Int))) :=
  nloop (fun (s : Int × (List Int)) => ((impl_placesIn_n3 x5506 x5511 s.1 s.2).map (Sum.elim (fun (t : Int × (List Int)) => Sum.inl (t.1, t.2)) (fun (t : (List Int)) => Sum.inr t)) : Option ((Int × (List Int)) ⊕ (((List Int)))))) LL (0, x5510)

def impl_placesIn_n5 (x5506 : List Int) (x5511 : Int) (x5510 : List Int) : Option (((List Int))) :=
  (impl_placesIn_n4 x5506 x5511 x5510).map (fun (t : (List Int)) => t)

def impl_placesIn_n6 (x5506 : List Int) (x5510 : List Int) : Option (((List Int))) :=
  (impl_placesIn_n2 x5506).bind (fun (t : Int) => impl_placesIn_n5 x5506 t x5510)

def impl_placesIn_n7 (x5526 : List Int) : Option (((List Int))) :=
  some x5526

def impl_placesIn_n8 (x5506 : List Int) (x5510 : List Int) : Option (((List Int))) :=
  (impl_placesIn_n6 x5506 x5510).bind (fun (t : (List Int)) => impl_placesIn_n7 t)

def impl_placesIn_n9 (x5506 : List Int) : Option (((List Int))) :=
  (impl_placesIn_n1 x5506).bind (fun (t : (List Int)) => impl_placesIn_n8 x5506 t)

@[irreducible] def impl_placesIn (x5506 : List Int) : Option ((List Int)) :=
  impl_placesIn_n9 x5506

def impl_PutInOrder_1_n1 (x5560 : Int) (x5561 : List Int) : Option (Int) :=
  (inb x5560 (List.length x5561)).bind fun (v5564 : Nat) => (x5561[v5564]?).bind fun (v5565 : Int) => some v5565

@[irreducible] def impl_PutInOrder_1 (x5560 : Int) (x5561 : List Int) : Option (Int) :=
  impl_PutInOrder_1_n1 x5560 x5561

def impl_renamed_int_n1 (x5548 : List Int) : Option (((List Int))) :=
  (mk (((List.length x5548 : Nat) : Int)) (((List.length x5548 : Nat) : Int))).bind fun (v5551 : Nat) => some (List.replicate v5551 (0 : Int))

def impl_renamed_int_n2 (x5548 : List Int) : Option (Int) :=
  some (((List.length x5548 : Nat) : Int))

def impl_renamed_int_n3 (x5547 : List Int) (x5548 : List Int) (x5553 : Int) (x5577 : Int) (x5549 : List Int) (x5578 : List Int) : Option ((Int × (List Int)) ⊕ ((List Int))) :=
  cond (decide (x5577 < x5553)) ((idx x5548 x5577).bind fun (v5589 : Int) => (idx x5547 (IntKind.wrap .i64 (v5589 - 1))).bind fun (v5591 : Int) => (impl_PutInOrder_1 v5591 x5549).bind fun (v5592 : Int) => (inb x5577 (List.length x5578)).bind fun (v5593 : Nat) => some (Sum.inl ((IntKind.wrap .i64 (x5577 + 1)), (x5578.set v5593 v5592)))) (some (Sum.inr x5578))

def impl_renamed_int_n4 (x5547 : List Int) (x5548 : List Int) (x5553 : Int) (x5549 : List Int) (x5552 : List Int) : Option (((List Int))) :=
  nloop (fun (s : Int × (List Int)) => ((impl_renamed_int_n3 x5547 x5548 x5553 s.1 x5549 s.2).map (Sum.elim (fun (t : Int × (List Int)) => Sum.inl (t.1, t.2)) (fun (t : (List Int)) => Sum.inr t)) : Option ((Int × (List Int)) ⊕ (((List Int)))))) LL (0, x5552)

def impl_renamed_int_n5 (x5547 : List Int) (x5548 : List Int) (x5553 : Int) (x5549 : List Int) (x5552 : List Int) : Option (((List Int))) :=
  (impl_renamed_int_n4 x5547 x5548 x5553 x5549 x5552).map (fun (t : (List Int)) => t)

def impl_renamed_int_n6 (x5547 : List Int) (x5548 : List Int) (x5549 : List Int) (x5552 : List Int) : Option (((List Int))) :=
  (impl_renamed_int_n2 x5548).bind (fun (t : Int) => impl_renamed_int_n5 x5547 x5548 t x5549 x5552)

def impl_renamed_int_n7 (x5578 : List Int) : Option (((List Int))) :=
  some x5578

def impl_renamed_int_n8 (x5547 : List Int) (x5548 : List Int) (x5549 : List Int) (x5552 : List Int) : Option (((List Int))) :=
  (impl_renamed_int_n6 x5547 x5548 x5549 x5552).bind (fun (t : (List Int)) => impl_renamed_int_n7 t)

def impl_renamed_int_n9 (x5547 : List Int) (x5548 : List Int) (x5549 : List Int) : Option (((List Int))) :=
  (impl_renamed_int_n1 x5548).bind (fun (t : (List Int)) => impl_renamed_int_n8 x5547 x5548 x5549 t)

@[irreducible] def impl_renamed_int (x5547 : List Int) (x5548 : List Int) (x5549 : List Int) : Option ((List Int)) :=
  impl_renamed_int_n9 x5547 x5548 x5549

def impl_PutInOrder_n1 (x5433 : List Int) (x5434 : List Int) : Option ((Bool × (List Int))) :=
  (impl_TreeOk x5433).bind fun (v5597 : Bool) => cond (!v5597) (some (false, ([] : List Int))) ((impl_OrderOk x5434 (((List.length x5433 : Nat) : Int))).bind fun (v5600 : Bool) => cond (!v5600) (some (false, ([] : List Int))) ((impl_placesIn x5434).bind fun (v5602 : List Int) => (impl_renamed_int x5433 x5434 v5602).bind fun (v5603 : List Int) => some (true, v5603)))

@[irreducible] def impl_PutInOrder (x5433 : List Int) (x5434 : List Int) : Option (Bool × (List Int)) :=
  impl_PutInOrder_n1 x5433 x5434

def impl_MadeFlat_n1 (x6479 : List Int) : Option (((List Int))) :=
  (impl_FlatOrder x6479).bind fun (v6488 : List Int) => (impl_PutInOrder x6479 v6488).bind fun (v6489 : Bool × (List Int)) => some (v6489.2)

@[irreducible] def impl_MadeFlat (x6479 : List Int) : Option ((List Int)) :=
  impl_MadeFlat_n1 x6479

def spec_MadeFlat_n1 (x6543 : List Int) : Option (((List Int))) :=
  (spec_FlatOrder x6543).bind fun (v6552 : List Int) => (spec_PutInOrder x6543 v6552).bind fun (v6553 : Bool × (List Int)) => some (v6553.2)

@[irreducible] def spec_MadeFlat (x6543 : List Int) : Option ((List Int)) :=
  spec_MadeFlat_n1 x6543

def laws_toIntS_n1 (x7834 : List Int) : Option (((List Int))) :=
  (mk (((List.length x7834 : Nat) : Int)) (((List.length x7834 : Nat) : Int))).bind fun (v7836 : Nat) => some (List.replicate v7836 (0 : Int))

def laws_toIntS_n2 : Option (Unit) :=
  some ()

def laws_toIntS_n3 (x7834 : List Int) (x7851 : Int) (x7852 : List Int) : Option ((Int × (List Int)) ⊕ ((List Int))) :=
  cond (decide (x7851 < (((List.length x7834 : Nat) : Int)))) ((idx x7834 x7851).bind fun (v7862 : Int) => (inb x7851 (List.length x7852)).bind fun (v7863 : Nat) => some (Sum.inl ((IntKind.wrap .i64 (x7851 + 1)), (x7852.set v7863 v7862)))) (some (Sum.inr x7852))

def laws_toIntS_n4 (x7834 : List Int) (x7837 : List Int) : Option (((List Int))) :=
  nloop (fun (s : Int × (List Int)) => ((laws_toIntS_n3 x7834 s.1 s.2).map (Sum.elim (fun (t : Int × (List Int)) => Sum.inl (t.1, t.2)) (fun (t : (List Int)) => Sum.inr t)) : Option ((Int × (List Int)) ⊕ (((List Int)))))) LL (0, x7837)

def laws_toIntS_n5 (x7834 : List Int) (x7837 : List Int) : Option (((List Int))) :=
  (laws_toIntS_n4 x7834 x7837).map (fun (t : (List Int)) => t)

def laws_toIntS_n6 (x7834 : List Int) (x7837 : List Int) : Option (((List Int))) :=
  (laws_toIntS_n2).bind (fun (t : Unit) => laws_toIntS_n5 x7834 x7837)

def laws_toIntS_n7 (x7852 : List Int) : Option (((List Int))) :=
  some x7852

def laws_toIntS_n8 (x7834 : List Int) (x7837 : List Int) : Option (((List Int))) :=
  (laws_toIntS_n6 x7834 x7837).bind (fun (t : (List Int)) => laws_toIntS_n7 t)

def laws_toIntS_n9 (x7834 : List Int) : Option (((List Int))) :=
  (laws_toIntS_n1 x7834).bind (fun (t : (List Int)) => laws_toIntS_n8 x7834 t)

@[irreducible] def laws_toIntS (x7834 : List Int) : Option ((List Int)) :=
  laws_toIntS_n9 x7834

def laws_eqIntS_n1 (x7894 : List Int) (x7895 : List Int) : Option (Unit ⊕ Bool) :=
  cond ((((List.length x7894 : Nat) : Int)) != (((List.length x7895 : Nat) : Int))) (some (Sum.inr false)) (some (Sum.inl ()))

def laws_eqIntS_n2 : Option (Unit) :=
  some ()

def laws_eqIntS_n3 (x7894 : List Int) (x7895 : List Int) (x7912 : Int) : Option (Int ⊕ Bool ⊕ Unit) :=
  cond (decide (x7912 < (((List.length x7894 : Nat) : Int)))) ((idx x7894 x7912).bind fun (v7922 : Int) => (idx x7895 x7912).bind fun (v7923 : Int) => cond (v7922 != v7923) (some (Sum.inr (Sum.inl false))) (some (Sum.inl (IntKind.wrap .i64 (x7912 + 1))))) (some (Sum.inr (Sum.inr ())))

def laws_eqIntS_n4 (x7894 : List Int) (x7895 : List Int) : Option (Bool ⊕ Unit) :=
  nloop (fun (s : Int) => ((laws_eqIntS_n3 x7894 x7895 s).map (Sum.elim (fun (t : Int) => Sum.inl t) (Sum.elim (fun (t : Bool) => Sum.inr (Sum.inl t)) (fun (t : Unit) => Sum.inr (Sum.inr t)))) : Option ((Int) ⊕ (Bool ⊕ Unit)))) LL 0

def laws_eqIntS_n5 (x7894 : List Int) (x7895 : List Int) : Option (Unit ⊕ Bool) :=
  (laws_eqIntS_n4 x7894 x7895).map (Sum.elim (fun (t : Bool) => (Sum.inr t)) (fun (t : Unit) => (Sum.inl ())))

def laws_eqIntS_n6 (x7894 : List Int) (x7895 : List Int) : Option (Unit ⊕ Bool) :=
  (laws_eqIntS_n2).bind (fun (t : Unit) => laws_eqIntS_n5 x7894 x7895)

def laws_eqIntS_n7 : Option (Bool) :=
  some true

def laws_eqIntS_n8 (x7894 : List Int) (x7895 : List Int) : Option (Bool) :=
  (laws_eqIntS_n6 x7894 x7895).bind (Sum.elim (fun (t : Unit) => laws_eqIntS_n7) (fun e => some ((fun (t : Bool) => t) e)))

def laws_eqIntS_n9 (x7894 : List Int) (x7895 : List Int) : Option (Bool) :=
  (laws_eqIntS_n1 x7894 x7895).bind (Sum.elim (fun (t : Unit) => laws_eqIntS_n8 x7894 x7895) (fun e => some ((fun (t : Bool) => t) e)))

@[irreducible] def laws_eqIntS (x7894 : List Int) (x7895 : List Int) : Option (Bool) :=
  laws_eqIntS_n9 x7894 x7895

def laws_markIntS_n1 : Option (Unit) :=
  some ()

def laws_markIntS_n2 : Option (Unit) :=
  some ()

def laws_markIntS_n3 (x8025 : Int) (x8026 : Int) (x8027 : List Int) : Option ((Int × Int × (List Int)) ⊕ (Int × (List Int))) :=
  cond (decide (x8026 < (((List.length x8027 : Nat) : Int)))) ((inb x8026 (List.length x8027)).bind fun (v8037 : Nat) => some (Sum.inl ((IntKind.wrap .i64 (x8025 + 1)), (IntKind.wrap .i64 (x8026 + 1)), (x8027.set v8037 x8025)))) (some (Sum.inr (x8025, x8027)))

def laws_markIntS_n4 (x8010 : Int) (x8011 : List Int) : Option ((Int × (List Int))) :=
  nloop (fun (s : Int × Int × (List Int)) => ((laws_markIntS_n3 s.1 s.2.1 s.2.2).map (Sum.elim (fun (t : Int × Int × (List Int)) => Sum.inl (t.1, t.2.1, t.2.2)) (fun (t : Int × (List Int)) => Sum.inr t)) : Option ((Int × Int × (List Int)) ⊕ ((Int × (List Int)))))) LL (x8010, 0, x8011)

def laws_markIntS_n5 (x8010 : Int) (x8011 : List Int) : Option ((Int × (List Int))) :=
  (laws_markIntS_n4 x8010 x8011).map (fun (t : Int × (List Int)) => (t.1, t.2))

def laws_markIntS_n6 (x8010 : Int) (x8011 : List Int) : Option ((Int × (List Int))) :=
  (laws_markIntS_n2).bind (fun (t : Unit) => laws_markIntS_n5 x8010 x8011)

def laws_markIntS_n7 (x8025 : Int) (x8027 : List Int) : Option ((Int × (List Int))) :=
  some (x8025, x8027)

def laws_markIntS_n8 (x8010 : Int) (x8011 : List Int) : Option ((Int × (List Int))) :=
  (laws_markIntS_n6 x8010 x8011).bind (fun (t : Int × (List Int)) => laws_markIntS_n7 t.1 t.2)

def laws_markIntS_n9 (x8010 : Int) (x8011 : List Int) : Option ((Int × (List Int))) :=
  (laws_markIntS_n1).bind (fun (t : Unit) => laws_markIntS_n8 x8010 x8011)

@[irreducible] def laws_markIntS (x8010 : Int) (x8011 : List Int) : Option (Int × (List Int)) :=
  laws_markIntS_n9 x8010 x8011

def laws_heldIntS_n1 : Option (Unit) :=
  some ()

def laws_heldIntS_n2 : Option (Unit) :=
  some ()

def laws_heldIntS_n3 (x8138 : List Int) (x8153 : Int) (x8154 : Int) : Option ((Int × Int) ⊕ Int ⊕ Int) :=
  cond (decide (x8154 < (((List.length x8138 : Nat) : Int)))) ((idx x8138 x8154).bind fun (v8164 : Int) => cond (v8164 != x8153) (some (Sum.inr (Sum.inl (-1)))) (some (Sum.inl ((IntKind.wrap .i64 (x8153 + 1)), (IntKind.wrap .i64 (x8154 + 1)))))) (some (Sum.inr (Sum.inr x8153)))

def laws_heldIntS_n4 (x8138 : List Int) (x8139 : Int) : Option (Int ⊕ Int) :=
  nloop (fun (s : Int × Int) => ((laws_heldIntS_n3 x8138 s.1 s.2).map (Sum.elim (fun (t : Int × Int) => Sum.inl (t.1, t.2)) (Sum.elim (fun (t : Int) => Sum.inr (Sum.inl t)) (fun (t : Int) => Sum.inr (Sum.inr t)))) : Option ((Int × Int) ⊕ (Int ⊕ Int)))) LL (x8139, 0)

def laws_heldIntS_n5 (x8138 : List Int) (x8139 : Int) : Option (Int ⊕ Int) :=
  (laws_heldIntS_n4 x8138 x8139).map (Sum.elim (fun (t : Int) => (Sum.inr t)) (fun (t : Int) => (Sum.inl t)))

def laws_heldIntS_n6 (x8138 : List Int) (x8139 : Int) : Option (Int ⊕ Int) :=
  (laws_heldIntS_n2).bind (fun (t : Unit) => laws_heldIntS_n5 x8138 x8139)

def laws_heldIntS_n7 (x8153 : Int) : Option (Int) :=
  some x8153

def laws_heldIntS_n8 (x8138 : List Int) (x8139 : Int) : Option (Int) :=
  (laws_heldIntS_n6 x8138 x8139).bind (Sum.elim (fun (t : Int) => laws_heldIntS_n7 t) (fun e => some ((fun (t : Int) => t) e)))

def laws_heldIntS_n9 (x8138 : List Int) (x8139 : Int) : Option (Int) :=
  (laws_heldIntS_n1).bind (fun (t : Unit) => laws_heldIntS_n8 x8138 x8139)

@[irreducible] def laws_heldIntS (x8138 : List Int) (x8139 : Int) : Option (Int) :=
  laws_heldIntS_n9 x8138 x8139

def laws_FnExactMadeFlat_n1 (x8500 : List Int) : Option (Bool) :=
  cond (decide ((((List.length x8500 : Nat) : Int)) > 1048576)) (some true) ((laws_toIntS x8500).bind fun (v8900 : List Int) => (spec_MadeFlat v8900).bind fun (v8901 : List Int) => (laws_toIntS x8500).bind fun (v8902 : List Int) => (impl_MadeFlat v8902).bind fun (v8903 : List Int) => (laws_eqIntS v8903 v8901).bind fun (v8904 : Bool) => cond (!v8904) (some false) ((laws_toIntS x8500).bind fun (v8906 : List Int) => (laws_eqIntS v8902 v8906).bind fun (v8907 : Bool) => cond (!v8907) (some false) ((laws_markIntS 1 v8902).bind fun (v8909 : Int × (List Int)) => cond (decide ((v8909.1) < 0)) (some false) ((laws_eqIntS v8903 v8901).bind fun (v8913 : Bool) => cond (!v8913) (some false) ((laws_markIntS 1 v8903).bind fun (v8915 : Int × (List Int)) => (laws_heldIntS (v8915.2) 1).bind fun (v8918 : Int) => cond (decide (v8918 < 0)) (some false) (cond (v8918 != (v8915.1)) (some false) ((laws_toIntS x8500).bind fun (v8921 : List Int) => (impl_MadeFlat v8921).bind fun (v8922 : List Int) => (laws_eqIntS v8922 v8901).bind fun (v8923 : Bool) => cond (!v8923) (some false) ((laws_heldIntS (v8915.2) 1).bind fun (v8925 : Int) => cond (decide (v8925 < 0)) (some false) (cond (v8925 != (v8915.1)) (some false) (some true))))))))))

@[irreducible] def laws_FnExactMadeFlat (x8500 : List Int) : Option (Bool) :=
  laws_FnExactMadeFlat_n1 x8500

end Go.Rv
