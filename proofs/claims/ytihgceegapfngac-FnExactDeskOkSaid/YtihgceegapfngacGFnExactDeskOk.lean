/-
  Plain functions, written by program for functions of the checked code. Conditions: none.
-/
import Derived.Test.YtihgceegapfngacFB
set_option linter.unusedVariables false
namespace Go.Rv
def laws_szIntS_n1 (x779 : List Int) (x780 : Int) : Option (Int) :=
  cond (decide ((IntKind.wrap .i64 (x780 - (((List.length x779 : Nat) : Int)))) < 0)) (some (-1)) (some (IntKind.wrap .i64 (x780 - (((List.length x779 : Nat) : Int)))))

@[irreducible] def laws_szIntS (x779 : List Int) (x780 : Int) : Option (Int) :=
  laws_szIntS_n1 x779 x780

def laws_szIntSS_n1 (x798 : List (List Int)) (x799 : Int) : Option (Int ⊕ Int) :=
  cond (decide ((IntKind.wrap .i64 (x799 - (((List.length x798 : Nat) : Int)))) < 0)) (some (Sum.inr (-1))) (some (Sum.inl (IntKind.wrap .i64 (x799 - (((List.length x798 : Nat) : Int))))))

def laws_szIntSS_n2 : Option (Unit) :=
  some ()

def laws_szIntSS_n3 (x798 : List (List Int)) (x818 : Int) (x819 : Int) : Option ((Int × Int) ⊕ Int ⊕ Int) :=
  cond (decide (x819 < (((List.length x798 : Nat) : Int)))) ((idx x798 x819).bind fun (v829 : List Int) => (laws_szIntS v829 x818).bind fun (v830 : Int) => cond (decide (v830 < 0)) (some (Sum.inr (Sum.inl (-1)))) (some (Sum.inl (v830, (IntKind.wrap .i64 (x819 + 1)))))) (some (Sum.inr (Sum.inr x818)))

def laws_szIntSS_n4 (x798 : List (List Int)) (x803 : Int) : Option (Int ⊕ Int) :=
  nloop (fun (s : Int × Int) => ((laws_szIntSS_n3 x798 s.1 s.2).map (Sum.elim (fun (t : Int × Int) => Sum.inl (t.1, t.2)) (Sum.elim (fun (t : Int) => Sum.inr (Sum.inl t)) (fun (t : Int) => Sum.inr (Sum.inr t)))) : Option ((Int × Int) ⊕ (Int ⊕ Int)))) LL (x803, 0)

def laws_szIntSS_n5 (x798 : List (List Int)) (x803 : Int) : Option (Int ⊕ Int) :=
  (laws_szIntSS_n4 x798 x803).map (Sum.elim (fun (t : Int) => (Sum.inr t)) (fun (t : Int) => (Sum.inl t)))

def laws_szIntSS_n6 (x798 : List (List Int)) (x803 : Int) : Option (Int ⊕ Int) :=
  (laws_szIntSS_n2).bind (fun (t : Unit) => laws_szIntSS_n5 x798 x803)

def laws_szIntSS_n7 (x818 : Int) : Option (Int) :=
  some x818

def laws_szIntSS_n8 (x798 : List (List Int)) (x803 : Int) : Option (Int) :=
  (laws_szIntSS_n6 x798 x803).bind (Sum.elim (fun (t : Int) => laws_szIntSS_n7 t) (fun e => some ((fun (t : Int) => t) e)))

def laws_szIntSS_n9 (x798 : List (List Int)) (x799 : Int) : Option (Int) :=
  (laws_szIntSS_n1 x798 x799).bind (Sum.elim (fun (t : Int) => laws_szIntSS_n8 x798 t) (fun e => some ((fun (t : Int) => t) e)))

@[irreducible] def laws_szIntSS (x798 : List (List Int)) (x799 : Int) : Option (Int) :=
  laws_szIntSS_n9 x798 x799

def laws_szDesk_n1 (x776 : List Int) (x777 : List (List Int)) (x778 : Int) : Option (Int) :=
  (laws_szIntS x776 x778).bind fun (v843 : Int) => cond (decide (v843 < 0)) (some (-1)) ((laws_szIntSS x777 v843).bind fun (v845 : Int) => cond (decide (v845 < 0)) (some (-1)) (some v845))

@[irreducible] def laws_szDesk (x776 : List Int) (x777 : List (List Int)) (x778 : Int) : Option (Int) :=
  laws_szDesk_n1 x776 x777 x778

def laws_toIntS_n1 (x855 : List Int) : Option (((List Int))) :=
  (mk (((List.length x855 : Nat) : Int)) (((List.length x855 : Nat) : Int))).bind fun (v857 : Nat) => some (List.replicate v857 (0 : Int))

def laws_toIntS_n2 : Option (Unit) :=
  some ()

def laws_toIntS_n3 (x855 : List Int) (x872 : Int) (x873 : List Int) : Option ((Int × (List Int)) ⊕ ((List Int))) :=
  cond (decide (x872 < (((List.length x855 : Nat) : Int)))) ((idx x855 x872).bind fun (v883 : Int) => (inb x872 (List.length x873)).bind fun (v884 : Nat) => some (Sum.inl ((IntKind.wrap .i64 (x872 + 1)), (x873.set v884 v883)))) (some (Sum.inr x873))

def laws_toIntS_n4 (x855 : List Int) (x858 : List Int) : Option (((List Int))) :=
  nloop (fun (s : Int × (List Int)) => ((laws_toIntS_n3 x855 s.1 s.2).map (Sum.elim (fun (t : Int × (List Int)) => Sum.inl (t.1, t.2)) (fun (t : (List Int)) => Sum.inr t)) : Option ((Int × (List Int)) ⊕ (((List Int)))))) LL (0, x858)

def laws_toIntS_n5 (x855 : List Int) (x858 : List Int) : Option (((List Int))) :=
  (laws_toIntS_n4 x855 x858).map (fun (t : (List Int)) => t)

def laws_toIntS_n6 (x855 : List Int) (x858 : List Int) : Option (((List Int))) :=
  (laws_toIntS_n2).bind (fun (t : Unit) => laws_toIntS_n5 x855 x858)

def laws_toIntS_n7 (x873 : List Int) : Option (((List Int))) :=
  some x873

def laws_toIntS_n8 (x855 : List Int) (x858 : List Int) : Option (((List Int))) :=
  (laws_toIntS_n6 x855 x858).bind (fun (t : (List Int)) => laws_toIntS_n7 t)

def laws_toIntS_n9 (x855 : List Int) : Option (((List Int))) :=
  (laws_toIntS_n1 x855).bind (fun (t : (List Int)) => laws_toIntS_n8 x855 t)

@[irreducible] def laws_toIntS (x855 : List Int) : Option ((List Int)) :=
  laws_toIntS_n9 x855

def laws_toIntSS_n1 (x889 : List (List Int)) : Option (((List (List Int)))) :=
  (mk (((List.length x889 : Nat) : Int)) (((List.length x889 : Nat) : Int))).bind fun (v901 : Nat) => some (List.replicate v901 [])

def laws_toIntSS_n2 : Option (Unit) :=
  some ()

def laws_toIntSS_n3 (x889 : List (List Int)) (x918 : Int) (x919 : List (List Int)) : Option ((Int × (List (List Int))) ⊕ ((List (List Int)))) :=
  cond (decide (x918 < (((List.length x889 : Nat) : Int)))) ((idx x889 x918).bind fun (v930 : List Int) => (laws_toIntS v930).bind fun (v931 : List Int) => (inb x918 (List.length x919)).bind fun (v932 : Nat) => some (Sum.inl ((IntKind.wrap .i64 (x918 + 1)), (x919.set v932 v931)))) (some (Sum.inr x919))

def laws_toIntSS_n4 (x889 : List (List Int)) (x902 : List (List Int)) : Option (((List (List Int)))) :=
  nloop (fun (s : Int × (List (List Int))) => ((laws_toIntSS_n3 x889 s.1 s.2).map (Sum.elim (fun (t : Int × (List (List Int))) => Sum.inl (t.1, t.2)) (fun (t : (List (List Int))) => Sum.inr t)) : Option ((Int × (List (List Int))) ⊕ (((List (List Int))))))) LL (0, x902)

def laws_toIntSS_n5 (x889 : List (List Int)) (x902 : List (List Int)) : Option (((List (List Int)))) :=
  (laws_toIntSS_n4 x889 x902).map (fun (t : (List (List Int))) => t)

def laws_toIntSS_n6 (x889 : List (List Int)) (x902 : List (List Int)) : Option (((List (List Int)))) :=
  (laws_toIntSS_n2).bind (fun (t : Unit) => laws_toIntSS_n5 x889 x902)

def laws_toIntSS_n7 (x919 : List (List Int)) : Option (((List (List Int)))) :=
  some x919

def laws_toIntSS_n8 (x889 : List (List Int)) (x902 : List (List Int)) : Option (((List (List Int)))) :=
  (laws_toIntSS_n6 x889 x902).bind (fun (t : (List (List Int))) => laws_toIntSS_n7 t)

def laws_toIntSS_n9 (x889 : List (List Int)) : Option (((List (List Int)))) :=
  (laws_toIntSS_n1 x889).bind (fun (t : (List (List Int))) => laws_toIntSS_n8 x889 t)

@[irreducible] def laws_toIntSS (x889 : List (List Int)) : Option ((List (List Int))) :=
  laws_toIntSS_n9 x889

def laws_toDesk_n1 (x853 : List Int) (x854 : List (List Int)) : Option (((List Int) × (List (List Int)))) :=
  (laws_toIntS x853).bind fun (v938 : List Int) => (laws_toIntSS x854).bind fun (v939 : List (List Int)) => some (v938, v939)

@[irreducible] def laws_toDesk (x853 : List Int) (x854 : List (List Int)) : Option ((List Int) × (List (List Int))) :=
  laws_toDesk_n1 x853 x854

def spec_l1In_n1 (x953 : Int) (x954 : Int) (x955 : Int) : Option (Bool) :=
  cond (decide (x953 ≥ x954)) (some (decide (x953 ≤ x955))) (some false)

@[irreducible] def spec_l1In (x953 : Int) (x954 : Int) (x955 : Int) : Option (Bool) :=
  spec_l1In_n1 x953 x954 x955

def spec_TreeOk_n1 (x950 : List Int) : Option (Int ⊕ Bool) :=
  (spec_l1In (((List.length x950 : Nat) : Int)) 1 8).bind fun (v964 : Bool) => cond (!v964) (some (Sum.inr false)) (some (Sum.inl (((List.length x950 : Nat) : Int))))

def spec_TreeOk_n2 : Option (Unit) :=
  some ()

def spec_TreeOk_n3 (x963 : Int) (x1030 : Int) (x1031 : Int) : Option (Unit ⊕ Int) :=
  cond (decide (x1031 < x963)) (some (Sum.inl ())) (some (Sum.inr x1030))

def spec_TreeOk_n4 (x950 : List Int) (x963 : Int) (x1030 : Int) (x1031 : Int) : Option ((Int × Int) ⊕ Bool) :=
  (idx x950 x1031).bind fun (v1048 : Int) => (spec_l1In v1048 0 x963).bind fun (v1049 : Bool) => cond (!v1049) (some (Sum.inr false)) ((idx x950 x1031).bind fun (v1051 : Int) => cond (v1051 == (IntKind.wrap .i64 (x1031 + 1))) (some (Sum.inr false)) ((idx x950 x1031).bind fun (v1054 : Int) => cond (v1054 == 0) (some (Sum.inl ((IntKind.wrap .i64 (x1030 + 1)), (IntKind.wrap .i64 (x1031 + 1))))) (some (Sum.inl (x1030, (IntKind.wrap .i64 (x1031 + 1)))))))

def spec_TreeOk_n5 : Option (Unit) :=
  some ()

def spec_TreeOk_n6 (x950 : List Int) (x963 : Int) (x1076 : Int) (x1077 : Int) : Option ((Int × Int) ⊕ Bool ⊕ Int) :=
  cond (decide (x1076 > 0)) (cond (decide (x1077 < x963)) ((idx x950 (IntKind.wrap .i64 (x1076 - 1))).bind fun (v1089 : Int) => (spec_l1In v1089 0 x963).bind fun (v1090 : Bool) => cond (!v1090) (some (Sum.inr (Sum.inl false))) (some (Sum.inl (v1089, (IntKind.wrap .i64 (x1077 + 1)))))) (some (Sum.inr (Sum.inr x1076)))) (some (Sum.inr (Sum.inr x1076)))

def spec_TreeOk_n7 (x950 : List Int) (x963 : Int) (x1060 : Int) : Option (Bool ⊕ Int) :=
  nloop (fun (s : Int × Int) => ((spec_TreeOk_n6 x950 x963 s.1 s.2).map (Sum.elim (fun (t : Int × Int) => Sum.inl (t.1, t.2)) (Sum.elim (fun (t : Bool) => Sum.inr (Sum.inl t)) (fun (t : Int) => Sum.inr (Sum.inr t)))) : Option ((Int × Int) ⊕ (Bool ⊕ Int)))) LL (x1060, 0)

def spec_TreeOk_n8 (x950 : List Int) (x963 : Int) (x1060 : Int) : Option (Int ⊕ Bool) :=
  (spec_TreeOk_n7 x950 x963 x1060).map (Sum.elim (fun (t : Bool) => (Sum.inr t)) (fun (t : Int) => (Sum.inl t)))

def spec_TreeOk_n9 (x950 : List Int) (x963 : Int) (x1060 : Int) : Option (Int ⊕ Bool) :=
  (spec_TreeOk_n5).bind (fun (t : Unit) => spec_TreeOk_n8 x950 x963 x1060)

def spec_TreeOk_n10 (x1076 : Int) : Option (Unit ⊕ Bool) :=
  cond (decide (x1076 > 0)) (some (Sum.inr false)) (some (Sum.inl ()))

def spec_TreeOk_n11 (x950 : List Int) (x963 : Int) (x1060 : Int) : Option (Unit ⊕ Bool) :=
  (spec_TreeOk_n9 x950 x963 x1060).bind (Sum.elim (fun (t : Int) => spec_TreeOk_n10 t) (fun e => some ((fun (t : Bool) => (Sum.inr t)) e)))

def spec_TreeOk_n12 (x950 : List Int) (x963 : Int) (x1030 : Int) (x1031 : Int) : Option (Int ⊕ Bool) :=
  (spec_TreeOk_n4 x950 x963 x1030 x1031).bind (Sum.elim (fun (t : Int × Int) => (spec_TreeOk_n11 x950 x963 t.2).map (Sum.elim (fun (u : Unit) => (Sum.inl t.1)) (fun (u : Bool) => (Sum.inr u)))) (fun e => some ((fun (t : Bool) => (Sum.inr t)) e)))

def spec_TreeOk_n13 (x950 : List Int) (x963 : Int) (x1030 : Int) (x1031 : Int) : Option (Int ⊕ Bool) :=
  (spec_TreeOk_n12 x950 x963 x1030 x1031).map (Sum.elim (fun (t : Int) => (Sum.inl t)) (fun (t : Bool) => (Sum.inr t)))

def spec_TreeOk_n14 (x1031 : Int) : Option (Int) :=
  some (IntKind.wrap .i64 (x1031 + 1))

def spec_TreeOk_n15 (x950 : List Int) (x963 : Int) (x1030 : Int) (x1031 : Int) : Option ((Int × Int) ⊕ Bool) :=
  (spec_TreeOk_n13 x950 x963 x1030 x1031).bind (Sum.elim (fun (t : Int) => (spec_TreeOk_n14 x1031).map (fun (u : Int) => (Sum.inl (t, u)))) (fun e => some ((fun (t : Bool) => (Sum.inr t)) e)))

def spec_TreeOk_n16 (x950 : List Int) (x963 : Int) (x1030 : Int) (x1031 : Int) : Option ((Int × Int) ⊕ Bool ⊕ Int) :=
  (spec_TreeOk_n3 x963 x1030 x1031).bind (Sum.elim (fun (t : Unit) => (spec_TreeOk_n15 x950 x963 x1030 x1031).map (Sum.elim (fun (t : Int × Int) => (Sum.inl (t.1, t.2))) (fun (t : Bool) => (Sum.inr (Sum.inl t))))) (fun e => some ((fun (t : Int) => (Sum.inr (Sum.inr t))) e)))

def spec_TreeOk_n17 (x950 : List Int) (x963 : Int) : Option (Bool ⊕ Int) :=
  nloop (fun (s : Int × Int) => ((spec_TreeOk_n16 x950 x963 s.1 s.2).map (Sum.elim (fun (t : Int × Int) => Sum.inl (t.1, t.2)) (Sum.elim (fun (t : Bool) => Sum.inr (Sum.inl t)) (fun (t : Int) => Sum.inr (Sum.inr t)))) : Option ((Int × Int) ⊕ (Bool ⊕ Int)))) LL (0, 0)

def spec_TreeOk_n18 (x950 : List Int) (x963 : Int) : Option (Int ⊕ Bool) :=
  (spec_TreeOk_n17 x950 x963).map (Sum.elim (fun (t : Bool) => (Sum.inr t)) (fun (t : Int) => (Sum.inl t)))

def spec_TreeOk_n19 (x950 : List Int) (x963 : Int) : Option (Int ⊕ Bool) :=
  (spec_TreeOk_n2).bind (fun (t : Unit) => spec_TreeOk_n18 x950 x963)

def spec_TreeOk_n20 (x1030 : Int) : Option (Bool) :=
  some (x1030 == 1)

def spec_TreeOk_n21 (x950 : List Int) (x963 : Int) : Option (Bool) :=
  (spec_TreeOk_n19 x950 x963).bind (Sum.elim (fun (t : Int) => spec_TreeOk_n20 t) (fun e => some ((fun (t : Bool) => t) e)))

def spec_TreeOk_n22 (x950 : List Int) : Option (Bool) :=
  (spec_TreeOk_n1 x950).bind (Sum.elim (fun (t : Int) => spec_TreeOk_n21 x950 t) (fun e => some ((fun (t : Bool) => t) e)))

@[irreducible] def spec_TreeOk (x950 : List Int) : Option (Bool) :=
  spec_TreeOk_n22 x950

def spec_DeskOk_n1 : Option (Unit) :=
  some ()

def spec_DeskOk_n2 : Option (Unit) :=
  some ()

def spec_DeskOk_n3 (x1107 : Int) (x944 : List (List Int)) : Option (Int ⊕ Bool ⊕ Unit) :=
  cond (decide (x1107 < (((List.length x944 : Nat) : Int)))) ((idx x944 x1107).bind fun (v1117 : List Int) => (spec_TreeOk v1117).bind fun (v1118 : Bool) => cond (!v1118) (some (Sum.inr (Sum.inl false))) (some (Sum.inl (IntKind.wrap .i64 (x1107 + 1))))) (some (Sum.inr (Sum.inr ())))

def spec_DeskOk_n4 (x944 : List (List Int)) : Option (Bool ⊕ Unit) :=
  nloop (fun (s : Int) => ((spec_DeskOk_n3 s x944).map (Sum.elim (fun (t : Int) => Sum.inl t) (Sum.elim (fun (t : Bool) => Sum.inr (Sum.inl t)) (fun (t : Unit) => Sum.inr (Sum.inr t)))) : Option ((Int) ⊕ (Bool ⊕ Unit)))) LL 0

def spec_DeskOk_n5 (x944 : List (List Int)) : Option (Unit ⊕ Bool) :=
  (spec_DeskOk_n4 x944).map (Sum.elim (fun (t : Bool) => (Sum.inr t)) (fun (t : Unit) => (Sum.inl ())))

def spec_DeskOk_n6 (x944 : List (List Int)) : Option (Unit ⊕ Bool) :=
  (spec_DeskOk_n2).bind (fun (t : Unit) => spec_DeskOk_n5 x944)

def spec_DeskOk_n7 (x943 : List Int) (x944 : List (List Int)) : Option (Bool) :=
  (spec_TreeOk x943).bind fun (v1124 : Bool) => cond v1124 (some (decide ((((List.length x944 : Nat) : Int)) ≤ 8))) (some false)

def spec_DeskOk_n8 (x943 : List Int) (x944 : List (List Int)) : Option (Bool) :=
  (spec_DeskOk_n6 x944).bind (Sum.elim (fun (t : Unit) => spec_DeskOk_n7 x943 x944) (fun e => some ((fun (t : Bool) => t) e)))

def spec_DeskOk_n9 (x943 : List Int) (x944 : List (List Int)) : Option (Bool) :=
  (spec_DeskOk_n1).bind (fun (t : Unit) => spec_DeskOk_n8 x943 x944)

@[irreducible] def spec_DeskOk (x943 : List Int) (x944 : List (List Int)) : Option (Bool) :=
  spec_DeskOk_n9 x943 x944

def impl_oneRoot_n1 : Option (Unit) :=
  some ()

def impl_oneRoot_n2 (x1154 : List Int) : Option (Int) :=
  some (((List.length x1154 : Nat) : Int))

def impl_oneRoot_n3 (x1154 : List Int) (x1176 : Int) (x1155 : Int) (x1177 : Int) : Option ((Int × Int) ⊕ Bool ⊕ Int) :=
  cond (decide (x1177 < x1155)) ((idx x1154 x1177).bind fun (v1188 : Int) => cond (decide (v1188 < 0)) (some (Sum.inr (Sum.inl false))) (cond (decide (v1188 > (((List.length x1154 : Nat) : Int)))) (some (Sum.inr (Sum.inl false))) (cond (v1188 == 0) (some (Sum.inl ((IntKind.wrap .i64 (x1176 + 1)), (IntKind.wrap .i64 (x1177 + 1))))) (some (Sum.inl (x1176, (IntKind.wrap .i64 (x1177 + 1)))))))) (some (Sum.inr (Sum.inr x1176)))

def impl_oneRoot_n4 (x1154 : List Int) (x1155 : Int) : Option (Bool ⊕ Int) :=
  nloop (fun (s : Int × Int) => ((impl_oneRoot_n3 x1154 s.1 x1155 s.2).map (Sum.elim (fun (t : Int × Int) => Sum.inl (t.1, t.2)) (Sum.elim (fun (t : Bool) => Sum.inr (Sum.inl t)) (fun (t : Int) => Sum.inr (Sum.inr t)))) : Option ((Int × Int) ⊕ (Bool ⊕ Int)))) LL (0, 0)

def impl_oneRoot_n5 (x1154 : List Int) (x1155 : Int) : Option (Int ⊕ Bool) :=
  (impl_oneRoot_n4 x1154 x1155).map (Sum.elim (fun (t : Bool) => (Sum.inr t)) (fun (t : Int) => (Sum.inl t)))

def impl_oneRoot_n6 (x1154 : List Int) : Option (Int ⊕ Bool) :=
  (impl_oneRoot_n2 x1154).bind (fun (t : Int) => impl_oneRoot_n5 x1154 t)

def impl_oneRoot_n7 (x1176 : Int) : Option (Bool) :=
  some (x1176 == 1)

def impl_oneRoot_n8 (x1154 : List Int) : Option (Bool) :=
  (impl_oneRoot_n6 x1154).bind (Sum.elim (fun (t : Int) => impl_oneRoot_n7 t) (fun e => some ((fun (t : Bool) => t) e)))

def impl_oneRoot_n9 (x1154 : List Int) : Option (Bool) :=
  (impl_oneRoot_n1).bind (fun (t : Unit) => impl_oneRoot_n8 x1154)

@[irreducible] def impl_oneRoot (x1154 : List Int) : Option (Bool) :=
  impl_oneRoot_n9 x1154

def impl_walker_up_n1 (x1210 : List Int) (x1211 : Int) (x1212 : Int) : Option ((Bool × Int × Int)) :=
  (idx x1210 (IntKind.wrap .i64 (x1211 - 1))).bind fun (v1230 : Int) => cond (v1230 == 0) (some (false, x1211, x1212)) (some (true, v1230, (IntKind.wrap .i64 (x1212 + 1))))

@[irreducible] def impl_walker_up (x1210 : List Int) (x1211 : Int) (x1212 : Int) : Option (Bool × Int × Int) :=
  impl_walker_up_n1 x1210 x1211 x1212

def impl_stepsToRoot_n1 : Option (Unit) :=
  some ()

def impl_stepsToRoot_n2 (x1208 : List Int) (x1246 : Int) (x1247 : Int) : Option ((Int × Int) ⊕ (Int × Bool) ⊕ (Int × Int)) :=
  (impl_walker_up x1208 x1246 x1247).bind fun (v1252 : Bool × Int × Int) => cond (v1252.1) (cond (decide ((v1252.2.2) ≥ (((List.length x1208 : Nat) : Int)))) (some (Sum.inr (Sum.inl (0, false)))) (some (Sum.inl ((v1252.2.1), (v1252.2.2))))) (some (Sum.inr (Sum.inr ((v1252.2.1), (v1252.2.2)))))

def impl_stepsToRoot_n3 (x1208 : List Int) (x1209 : Int) : Option ((Int × Bool) ⊕ (Int × Int)) :=
  nloop (fun (s : Int × Int) => ((impl_stepsToRoot_n2 x1208 s.1 s.2).map (Sum.elim (fun (t : Int × Int) => Sum.inl (t.1, t.2)) (Sum.elim (fun (t : Int × Bool) => Sum.inr (Sum.inl t)) (fun (t : Int × Int) => Sum.inr (Sum.inr t)))) : Option ((Int × Int) ⊕ ((Int × Bool) ⊕ (Int × Int))))) LL (x1209, 0)

def impl_stepsToRoot_n4 (x1208 : List Int) (x1209 : Int) : Option ((Int × Int) ⊕ (Int × Bool)) :=
  (impl_stepsToRoot_n3 x1208 x1209).map (Sum.elim (fun (t : Int × Bool) => (Sum.inr t)) (fun (t : Int × Int) => (Sum.inl (t.1, t.2))))

def impl_stepsToRoot_n5 (x1255 : Int) : Option ((Int × Bool)) :=
  some (x1255, true)

def impl_stepsToRoot_n6 (x1208 : List Int) (x1209 : Int) : Option ((Int × Bool)) :=
  (impl_stepsToRoot_n4 x1208 x1209).bind (Sum.elim (fun (t : Int × Int) => impl_stepsToRoot_n5 t.2) (fun e => some ((fun (t : Int × Bool) => t) e)))

def impl_stepsToRoot_n7 (x1208 : List Int) (x1209 : Int) : Option ((Int × Bool)) :=
  (impl_stepsToRoot_n1).bind (fun (t : Unit) => impl_stepsToRoot_n6 x1208 x1209)

@[irreducible] def impl_stepsToRoot (x1208 : List Int) (x1209 : Int) : Option (Int × Bool) :=
  impl_stepsToRoot_n7 x1208 x1209

def impl_TreeOk_n1 (x1149 : List Int) : Option (Unit ⊕ Bool) :=
  cond (decide ((((List.length x1149 : Nat) : Int)) < 1)) (some (Sum.inr false)) (cond (decide ((((List.length x1149 : Nat) : Int)) > 8)) (some (Sum.inr false)) ((impl_oneRoot x1149).bind fun (v1201 : Bool) => cond (!v1201) (some (Sum.inr false)) (some (Sum.inl ()))))

def impl_TreeOk_n2 (x1149 : List Int) : Option (Int) :=
  some (((List.length x1149 : Nat) : Int))

def impl_TreeOk_n3 (x1149 : List Int) (x1203 : Int) (x1271 : Int) : Option (Int ⊕ Bool ⊕ Unit) :=
  cond (decide (x1271 < x1203)) ((impl_stepsToRoot x1149 (IntKind.wrap .i64 (x1271 + 1))).bind fun (v1282 : Int × Bool) => cond (!(v1282.2)) (some (Sum.inr (Sum.inl false))) (some (Sum.inl (IntKind.wrap .i64 (x1271 + 1))))) (some (Sum.inr (Sum.inr ())))

def impl_TreeOk_n4 (x1149 : List Int) (x1203 : Int) : Option (Bool ⊕ Unit) :=
  nloop (fun (s : Int) => ((impl_TreeOk_n3 x1149 x1203 s).map (Sum.elim (fun (t : Int) => Sum.inl t) (Sum.elim (fun (t : Bool) => Sum.inr (Sum.inl t)) (fun (t : Unit) => Sum.inr (Sum.inr t)))) : Option ((Int) ⊕ (Bool ⊕ Unit)))) LL 0

def impl_TreeOk_n5 (x1149 : List Int) (x1203 : Int) : Option (Unit ⊕ Bool) :=
  (impl_TreeOk_n4 x1149 x1203).map (Sum.elim (fun (t : Bool) => (Sum.inr t)) (fun (t : Unit) => (Sum.inl ())))

def impl_TreeOk_n6 (x1149 : List Int) : Option (Unit ⊕ Bool) :=
  (impl_TreeOk_n2 x1149).bind (fun (t : Int) => impl_TreeOk_n5 x1149 t)

def impl_TreeOk_n7 : Option (Bool) :=
  some true

def impl_TreeOk_n8 (x1149 : List Int) : Option (Bool) :=
  (impl_TreeOk_n6 x1149).bind (Sum.elim (fun (t : Unit) => impl_TreeOk_n7) (fun e => some ((fun (t : Bool) => t) e)))

def impl_TreeOk_n9 (x1149 : List Int) : Option (Bool) :=
  (impl_TreeOk_n1 x1149).bind (Sum.elim (fun (t : Unit) => impl_TreeOk_n8 x1149) (fun e => some ((fun (t : Bool) => t) e)))

@[irreducible] def impl_TreeOk (x1149 : List Int) : Option (Bool) :=
  impl_TreeOk_n9 x1149

def impl_DeskOk_n1 (x1147 : List Int) (x1148 : List (List Int)) : Option (Unit ⊕ Bool) :=
  (impl_TreeOk x1147).bind fun (v1288 : Bool) => cond (!v1288) (some (Sum.inr false)) (cond (decide ((((List.length x1148 : Nat) : Int)) > 8)) (some (Sum.inr false)) (some (Sum.inl ())))

def impl_DeskOk_n2 (x1148 : List (List Int)) : Option (Int) :=
  some (((List.length x1148 : Nat) : Int))

def impl_DeskOk_n3 (x1148 : List (List Int)) (x1292 : Int) (x1304 : Int) : Option (Int ⊕ Bool ⊕ Unit) :=
  cond (decide (x1304 < x1292)) ((idx x1148 x1304).bind fun (v1312 : List Int) => (impl_TreeOk v1312).bind fun (v1313 : Bool) => cond (!v1313) (some (Sum.inr (Sum.inl false))) (some (Sum.inl (IntKind.wrap .i64 (x1304 + 1))))) (some (Sum.inr (Sum.inr ())))

def impl_DeskOk_n4 (x1148 : List (List Int)) (x1292 : Int) : Option (Bool ⊕ Unit) :=
  nloop (fun (s : Int) => ((impl_DeskOk_n3 x1148 x1292 s).map (Sum.elim (fun (t : Int) => Sum.inl t) (Sum.elim (fun (t : Bool) => Sum.inr (Sum.inl t)) (fun (t : Unit) => Sum.inr (Sum.inr t)))) : Option ((Int) ⊕ (Bool ⊕ Unit)))) LL 0

def impl_DeskOk_n5 (x1148 : List (List Int)) (x1292 : Int) : Option (Unit ⊕ Bool) :=
  (impl_DeskOk_n4 x1148 x1292).map (Sum.elim (fun (t : Bool) => (Sum.inr t)) (fun (t : Unit) => (Sum.inl ())))

def impl_DeskOk_n6 (x1148 : List (List Int)) : Option (Unit ⊕ Bool) :=
  (impl_DeskOk_n2 x1148).bind (fun (t : Int) => impl_DeskOk_n5 x1148 t)

def impl_DeskOk_n7 : Option (Bool) :=
  some true

def impl_DeskOk_n8 (x1148 : List (List Int)) : Option (Bool) :=
  (impl_DeskOk_n6 x1148).bind (Sum.elim (fun (t : Unit) => impl_DeskOk_n7) (fun e => some ((fun (t : Bool) => t) e)))

def impl_DeskOk_n9 (x1147 : List Int) (x1148 : List (List Int)) : Option (Bool) :=
  (impl_DeskOk_n1 x1147 x1148).bind (Sum.elim (fun (t : Unit) => impl_DeskOk_n8 x1148) (fun e => some ((fun (t : Bool) => t) e)))

@[irreducible] def impl_DeskOk (x1147 : List Int) (x1148 : List (List Int)) : Option (Bool) :=
  impl_DeskOk_n9 x1147 x1148

def laws_eqIntS_n1 (x1347 : List Int) (x1348 : List Int) : Option (Unit ⊕ Bool) :=
  cond ((((List.length x1347 : Nat) : Int)) != (((List.length x1348 : Nat) : Int))) (some (Sum.inr false)) (some (Sum.inl ()))

def laws_eqIntS_n2 : Option (Unit) :=
  some ()

def laws_eqIntS_n3 (x1347 : List Int) (x1348 : List Int) (x1365 : Int) : Option (Int ⊕ Bool ⊕ Unit) :=
  cond (decide (x1365 < (((List.length x1347 : Nat) : Int)))) ((idx x1347 x1365).bind fun (v1375 : Int) => (idx x1348 x1365).bind fun (v1376 : Int) => cond (v1375 != v1376) (some (Sum.inr (Sum.inl false))) (some (Sum.inl (IntKind.wrap .i64 (x1365 + 1))))) (some (Sum.inr (Sum.inr ())))

def laws_eqIntS_n4 (x1347 : List Int) (x1348 : List Int) : Option (Bool ⊕ Unit) :=
  nloop (fun (s : Int) => ((laws_eqIntS_n3 x1347 x1348 s).map (Sum.elim (fun (t : Int) => Sum.inl t) (Sum.elim (fun (t : Bool) => Sum.inr (Sum.inl t)) (fun (t : Unit) => Sum.inr (Sum.inr t)))) : Option ((Int) ⊕ (Bool ⊕ Unit)))) LL 0

def laws_eqIntS_n5 (x1347 : List Int) (x1348 : List Int) : Option (Unit ⊕ Bool) :=
  (laws_eqIntS_n4 x1347 x1348).map (Sum.elim (fun (t : Bool) => (Sum.inr t)) (fun (t : Unit) => (Sum.inl ())))

def laws_eqIntS_n6 (x1347 : List Int) (x1348 : List Int) : Option (Unit ⊕ Bool) :=
  (laws_eqIntS_n2).bind (fun (t : Unit) => laws_eqIntS_n5 x1347 x1348)

def laws_eqIntS_n7 : Option (Bool) :=
  some true

def laws_eqIntS_n8 (x1347 : List Int) (x1348 : List Int) : Option (Bool) :=
  (laws_eqIntS_n6 x1347 x1348).bind (Sum.elim (fun (t : Unit) => laws_eqIntS_n7) (fun e => some ((fun (t : Bool) => t) e)))

def laws_eqIntS_n9 (x1347 : List Int) (x1348 : List Int) : Option (Bool) :=
  (laws_eqIntS_n1 x1347 x1348).bind (Sum.elim (fun (t : Unit) => laws_eqIntS_n8 x1347 x1348) (fun e => some ((fun (t : Bool) => t) e)))

@[irreducible] def laws_eqIntS (x1347 : List Int) (x1348 : List Int) : Option (Bool) :=
  laws_eqIntS_n9 x1347 x1348

def laws_eqIntSS_n1 (x1384 : List (List Int)) (x1385 : List (List Int)) : Option (Unit ⊕ Bool) :=
  cond ((((List.length x1384 : Nat) : Int)) != (((List.length x1385 : Nat) : Int))) (some (Sum.inr false)) (some (Sum.inl ()))

def laws_eqIntSS_n2 : Option (Unit) :=
  some ()

def laws_eqIntSS_n3 (x1384 : List (List Int)) (x1385 : List (List Int)) (x1404 : Int) : Option (Int ⊕ Bool ⊕ Unit) :=
  cond (decide (x1404 < (((List.length x1384 : Nat) : Int)))) ((idx x1384 x1404).bind fun (v1415 : List Int) => (idx x1385 x1404).bind fun (v1416 : List Int) => (laws_eqIntS v1415 v1416).bind fun (v1417 : Bool) => cond (!v1417) (some (Sum.inr (Sum.inl false))) (some (Sum.inl (IntKind.wrap .i64 (x1404 + 1))))) (some (Sum.inr (Sum.inr ())))

def laws_eqIntSS_n4 (x1384 : List (List Int)) (x1385 : List (List Int)) : Option (Bool ⊕ Unit) :=
  nloop (fun (s : Int) => ((laws_eqIntSS_n3 x1384 x1385 s).map (Sum.elim (fun (t : Int) => Sum.inl t) (Sum.elim (fun (t : Bool) => Sum.inr (Sum.inl t)) (fun (t : Unit) => Sum.inr (Sum.inr t)))) : Option ((Int) ⊕ (Bool ⊕ Unit)))) LL 0

def laws_eqIntSS_n5 (x1384 : List (List Int)) (x1385 : List (List Int)) : Option (Unit ⊕ Bool) :=
  (laws_eqIntSS_n4 x1384 x1385).map (Sum.elim (fun (t : Bool) => (Sum.inr t)) (fun (t : Unit) => (Sum.inl ())))

def laws_eqIntSS_n6 (x1384 : List (List Int)) (x1385 : List (List Int)) : Option (Unit ⊕ Bool) :=
  (laws_eqIntSS_n2).bind (fun (t : Unit) => laws_eqIntSS_n5 x1384 x1385)

def laws_eqIntSS_n7 : Option (Bool) :=
  some true

def laws_eqIntSS_n8 (x1384 : List (List Int)) (x1385 : List (List Int)) : Option (Bool) :=
  (laws_eqIntSS_n6 x1384 x1385).bind (Sum.elim (fun (t : Unit) => laws_eqIntSS_n7) (fun e => some ((fun (t : Bool) => t) e)))

def laws_eqIntSS_n9 (x1384 : List (List Int)) (x1385 : List (List Int)) : Option (Bool) :=
  (laws_eqIntSS_n1 x1384 x1385).bind (Sum.elim (fun (t : Unit) => laws_eqIntSS_n8 x1384 x1385) (fun e => some ((fun (t : Bool) => t) e)))

@[irreducible] def laws_eqIntSS (x1384 : List (List Int)) (x1385 : List (List Int)) : Option (Bool) :=
  laws_eqIntSS_n9 x1384 x1385

def laws_eqDesk_n1 (x1343 : List Int) (x1344 : List (List Int)) (x1345 : List Int) (x1346 : List (List Int)) : Option (Bool) :=
  (laws_eqIntS x1343 x1345).bind fun (v1427 : Bool) => cond (!v1427) (some false) ((laws_eqIntSS x1344 x1346).bind fun (v1429 : Bool) => cond (!v1429) (some false) (some true))

@[irreducible] def laws_eqDesk (x1343 : List Int) (x1344 : List (List Int)) (x1345 : List Int) (x1346 : List (List Int)) : Option (Bool) :=
  laws_eqDesk_n1 x1343 x1344 x1345 x1346

def laws_eqDesk_v2_n1 (x1629 : List Int) (x1630 : List (List Int)) (x1631 : List Int) : Option (Bool) :=
  (laws_eqIntS x1629 x1631).bind fun (v1642 : Bool) => cond (!v1642) (some false) ((laws_eqIntSS x1630 ([] : List (List Int))).bind fun (v1644 : Bool) => cond (!v1644) (some false) (some true))

@[irreducible] def laws_eqDesk_v2 (x1629 : List Int) (x1630 : List (List Int)) (x1631 : List Int) : Option (Bool) :=
  laws_eqDesk_v2_n1 x1629 x1630 x1631

def laws_FnExactDeskOk_n1 (x774 : List Int) (x775 : List (List Int)) : Option (Bool) :=
  (laws_szDesk x774 x775 1048576).bind fun (v1450 : Int) => cond (decide (v1450 < 0)) (some true) ((laws_toDesk x774 x775).bind fun (v1452 : (List Int) × (List (List Int))) => (spec_DeskOk (v1452.1) (v1452.2)).bind fun (v1455 : Bool) => (laws_toDesk x774 x775).bind fun (v1456 : (List Int) × (List (List Int))) => (impl_DeskOk (v1456.1) (v1456.2)).bind fun (v1459 : Bool) => cond (v1459 != v1455) (some false) ((laws_toDesk x774 x775).bind fun (v1461 : (List Int) × (List (List Int))) => (laws_eqDesk (v1456.1) (v1456.2) (v1461.1) (v1461.2)).bind fun (v1464 : Bool) => cond (!v1464) (some false) (some true)))

@[irreducible] def laws_FnExactDeskOk (x774 : List Int) (x775 : List (List Int)) : Option (Bool) :=
  laws_FnExactDeskOk_n1 x774 x775

end Go.Rv
