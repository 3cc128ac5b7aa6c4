/-
  Plain functions, written by program for functions of the checked code. Conditions: none.
-/
import Derived.Test.YtegmjhjihbhakaaFB
set_option linter.unusedVariables false
namespace Go.Rv
/-! loop.example/headtrees/spec.l20Open -/

def spec_l20Open_n1 (x12 : List Int) : Option (((List Int))) :=
  cond (decide ((((List.length x12 : Nat) : Int)) > 2000)) ((inc 2000 (List.length x12)).bind fun (v28 : Nat) => some ((x12.take v28).drop 0)) (some x12)

@[irreducible] def spec_l20Open (x12 : List Int) : Option ((List Int)) :=
  spec_l20Open_n1 x12

/-! (*loop.example/headtrees/spec.l20Rd).pick -/

def spec_l20Rd_pick_n1 (x34 : Int) (x35 : List Int) (x36 : Int) : Option ((Int × Int)) :=
  cond (decide (x34 < 1)) (some (0, (IntKind.wrap .i64 (x36 + 1)))) (cond ((((List.length x35 : Nat) : Int)) == 0) (some (0, (IntKind.wrap .i64 (x36 + 1)))) (cond (decide ((IntKind.wrap .i64 ((IntKind.wrap .i64 (x36 + 1)) - 1)) < (((List.length x35 : Nat) : Int)))) ((idx x35 (IntKind.wrap .i64 ((IntKind.wrap .i64 (x36 + 1)) - 1))).bind fun (v164 : Int) => (rem (IntKind.wrap .i64 v164) x34).bind fun (v166 : Int) => some (v166, (IntKind.wrap .i64 (x36 + 1)))) ((rem (IntKind.wrap .i64 ((IntKind.wrap .i64 (x36 + 1)) - 1)) (((List.length x35 : Nat) : Int))).bind fun (v168 : Int) => (idx x35 v168).bind fun (v169 : Int) => (rem (IntKind.wrap .i64 ((IntKind.wrap .i64 ((IntKind.wrap .i64 ((IntKind.wrap .i64 (x36 + 1)) - 1)) * 7)) + 3)) (((List.length x35 : Nat) : Int))).bind fun (v175 : Int) => (idx x35 v175).bind fun (v176 : Int) => (quo .i64 (IntKind.wrap .i64 ((IntKind.wrap .i64 (x36 + 1)) - 1)) (((List.length x35 : Nat) : Int))).bind fun (v183 : Int) => (quo .i64 (IntKind.wrap .i64 ((IntKind.wrap .i64 ((IntKind.wrap .i64 ((IntKind.wrap .i64 ((IntKind.wrap .i64 v169) * 131)) + (IntKind.wrap .i64 ((IntKind.wrap .i64 v176) * 1117)))) + (IntKind.wrap .i64 ((IntKind.wrap .i64 ((IntKind.wrap .i64 (x36 + 1)) - 1)) * 29)))) + (IntKind.wrap .i64 (v183 * 53)))) 64).bind fun (v186 : Int) => (rem (ixor .i64 (IntKind.wrap .i64 ((IntKind.wrap .i64 ((IntKind.wrap .i64 ((IntKind.wrap .i64 ((IntKind.wrap .i64 v169) * 131)) + (IntKind.wrap .i64 ((IntKind.wrap .i64 v176) * 1117)))) + (IntKind.wrap .i64 ((IntKind.wrap .i64 ((IntKind.wrap .i64 (x36 + 1)) - 1)) * 29)))) + (IntKind.wrap .i64 (v183 * 53)))) v186) x34).bind fun (v188 : Int) => some (v188, (IntKind.wrap .i64 (x36 + 1))))))

@[irreducible] def spec_l20Rd_pick (x34 : Int) (x35 : List Int) (x36 : Int) : Option (Int × Int) :=
  spec_l20Rd_pick_n1 x34 x35 x36

/-! loop.example/headtrees/spec.DrawCrossOk -/

def spec_DrawCrossOk_n1 (x10 : List Int) : Option ((Int × Int × Int × Int)) :=
  (spec_l20Open x10).bind fun (v205 : List Int) => (spec_l20Rd_pick 8 v205 0).bind fun (v206 : Int × Int) => (spec_l20Rd_pick 8 v205 (v206.2)).bind fun (v209 : Int × Int) => (spec_l20Rd_pick 8 v205 (v209.2)).bind fun (v213 : Int × Int) => (spec_l20Rd_pick 8 v205 (v213.2)).bind fun (v217 : Int × Int) => some ((v206.1), (IntKind.wrap .i64 (1 + (v209.1))), (IntKind.wrap .i64 (1 + (v213.1))), (IntKind.wrap .i64 (1 + (v217.1))))

@[irreducible] def spec_DrawCrossOk (x10 : List Int) : Option (Int × Int × Int × Int) :=
  spec_DrawCrossOk_n1 x10

/-! loop.example/headtrees/impl.arcBetween -/

def impl_arcBetween_n1 (x237 : Int) (x238 : Int) : Option ((Bool × Int × Int)) :=
  cond (decide (x237 < 1)) (some (false, 0, 0)) (cond (decide (x238 < 1)) (some (false, 0, 0)) (cond (x237 == x238) (some (false, 0, 0)) (some (true, (imin x237 x238), (imax x237 x238)))))

@[irreducible] def impl_arcBetween (x237 : Int) (x238 : Int) : Option (Bool × Int × Int) :=
  impl_arcBetween_n1 x237 x238

/-! (loop.example/headtrees/impl.arc).covers -/

def impl_arc_covers_n1 (x279 : Int) (x280 : Int) (x281 : Int) : Option (Bool) :=
  cond (decide (x279 < x281)) (some (decide (x281 < x280))) (some false)

@[irreducible] def impl_arc_covers (x279 : Int) (x280 : Int) (x281 : Int) : Option (Bool) :=
  impl_arc_covers_n1 x279 x280 x281

/-! (loop.example/headtrees/impl.arc).leavesOut -/

def impl_arc_leavesOut_n1 (x288 : Int) (x289 : Int) (x290 : Int) : Option (Bool) :=
  cond (decide (x290 < x288)) (some true) (some (decide (x289 < x290)))

@[irreducible] def impl_arc_leavesOut (x288 : Int) (x289 : Int) (x290 : Int) : Option (Bool) :=
  impl_arc_leavesOut_n1 x288 x289 x290

/-! (loop.example/headtrees/impl.arc).crosses -/

def impl_arc_crosses_n1 (x275 : Int) (x276 : Int) (x277 : Int) (x278 : Int) : Option (Bool) :=
  (impl_arc_covers x275 x276 x277).bind fun (v301 : Bool) => cond v301 ((impl_arc_leavesOut x275 x276 x278).bind fun (v302 : Bool) => cond v302 (some true) ((impl_arc_covers x275 x276 x278).bind fun (v303 : Bool) => cond v303 ((impl_arc_leavesOut x275 x276 x277).bind fun (v304 : Bool) => some v304) (some false))) ((impl_arc_covers x275 x276 x278).bind fun (v305 : Bool) => cond v305 ((impl_arc_leavesOut x275 x276 x277).bind fun (v306 : Bool) => some v306) (some false))

@[irreducible] def impl_arc_crosses (x275 : Int) (x276 : Int) (x277 : Int) (x278 : Int) : Option (Bool) :=
  impl_arc_crosses_n1 x275 x276 x277 x278

/-! loop.example/headtrees/impl.CrossOk -/

def impl_CrossOk_n1 (x233 : Int) (x234 : Int) (x235 : Int) (x236 : Int) : Option (Bool) :=
  (impl_arcBetween x233 x234).bind fun (v309 : Bool × Int × Int) => (impl_arcBetween x235 x236).bind fun (v313 : Bool × Int × Int) => cond (v309.1) (cond (v313.1) ((impl_arc_crosses (v309.2.1) (v309.2.2) (v313.2.1) (v313.2.2)).bind fun (v317 : Bool) => some v317) (some false)) (some false)

@[irreducible] def impl_CrossOk (x233 : Int) (x234 : Int) (x235 : Int) (x236 : Int) : Option (Bool) :=
  impl_CrossOk_n1 x233 x234 x235 x236

/-! loop.example/headtrees/spec.CrossOk -/

def spec_CrossOk_n1 (x328 : Int) (x329 : Int) (x330 : Int) (x331 : Int) : Option ((Int × Int × Int × Int) ⊕ Bool) :=
  cond (decide (x328 < 1)) (some (Sum.inr false)) (cond (decide (x329 < 1)) (some (Sum.inr false)) (cond (decide (x330 < 1)) (some (Sum.inr false)) (cond (decide (x331 < 1)) (some (Sum.inr false)) (cond (x328 == x329) (some (Sum.inr false)) (cond (x330 == x331) (some (Sum.inr false)) (some (Sum.inl ((imin x328 x329), (imax x328 x329), (imin x330 x331), (imax x330 x331)))))))))

def spec_CrossOk_n2 (x368 : Int) (x369 : Int) (x370 : Int) (x371 : Int) : Option (Bool) :=
  cond (decide (x368 < x370)) (cond (decide (x370 < x369)) (cond (decide (x369 < x371)) (some true) (cond (decide (x370 < x368)) (cond (decide (x368 < x371)) (some (decide (x371 < x369))) (some false)) (some false))) (cond (decide (x370 < x368)) (cond (decide (x368 < x371)) (some (decide (x371 < x369))) (some false)) (some false))) (cond (decide (x370 < x368)) (cond (decide (x368 < x371)) (some (decide (x371 < x369))) (some false)) (some false))

def spec_CrossOk_n3 (x328 : Int) (x329 : Int) (x330 : Int) (x331 : Int) : Option (Bool) :=
  (spec_CrossOk_n1 x328 x329 x330 x331).bind (Sum.elim (fun (t : Int × Int × Int × Int) => spec_CrossOk_n2 t.1 t.2.1 t.2.2.1 t.2.2.2) (fun e => some ((fun (t : Bool) => t) e)))

@[irreducible] def spec_CrossOk (x328 : Int) (x329 : Int) (x330 : Int) (x331 : Int) : Option (Bool) :=
  spec_CrossOk_n3 x328 x329 x330 x331

/-! loop.example/headtrees/laws.FnCrossOk -/

def laws_FnCrossOk_n1 (x2 : List Int) : Option (Bool) :=
  cond (decide ((((List.length x2 : Nat) : Int)) > 1048576)) (some true) ((spec_DrawCrossOk x2).bind fun (v450 : Int × Int × Int × Int) => (impl_CrossOk (v450.1) (v450.2.1) (v450.2.2.1) (v450.2.2.2)).bind fun (v455 : Bool) => (spec_CrossOk (v450.1) (v450.2.1) (v450.2.2.1) (v450.2.2.2)).bind fun (v456 : Bool) => cond (v455 != v456) (some false) ((impl_CrossOk (v450.2.2.1) (v450.2.2.2) (v450.1) (v450.2.1)).bind fun (v458 : Bool) => cond (v458 == v455) ((impl_CrossOk (v450.2.1) (v450.1) (v450.2.2.1) (v450.2.2.2)).bind fun (v460 : Bool) => cond (v460 == v455) (cond (!v455) ((impl_CrossOk 1 3 2 4).bind fun (v463 : Bool) => cond v463 ((impl_CrossOk 1 4 2 3).bind fun (v464 : Bool) => some (!v464)) (some false)) (cond ((v450.1) != (v450.2.2.1)) (cond ((v450.1) != (v450.2.2.2)) (cond ((v450.2.1) != (v450.2.2.1)) (cond ((v450.2.1) != (v450.2.2.2)) ((impl_CrossOk 1 3 2 4).bind fun (v470 : Bool) => cond v470 ((impl_CrossOk 1 4 2 3).bind fun (v471 : Bool) => some (!v471)) (some false)) (some false)) (some false)) (some false)) (some false))) (some false)) (some false)))

@[irreducible] def laws_FnCrossOk (x2 : List Int) : Option (Bool) :=
  laws_FnCrossOk_n1 x2

/-! loop.example/headtrees/spec.l20Order -/

def spec_l20Order_n1 (x504 : List Int) (x505 : Int) : Option ((Int × Int)) :=
  (spec_l20Rd_pick 2 x504 x505).bind fun (v506 : Int × Int) => some ((v506.1), (v506.2))

def spec_l20Order_n2 : Option (Unit) :=
  some ()

def spec_l20Order_n3 (x503 : Int) (x507 : Int) (x650 : Int) (x504 : List Int) (x651 : Int) (x652 : List Int) : Option ((Int × Int × (List Int)) ⊕ (Int × (List Int))) :=
  cond (decide (x650 ≤ x503)) (cond (x507 == 0) ((spec_l20Rd_pick x650 x504 x651).bind fun (v724 : Int × Int) => (inc (v724.1) (List.length x652)).bind fun (v728 : Nat) => (room ((List.length ([] : List Int)) + List.length ((x652.drop 0).take (v728 - 0)))).bind fun (v732 : Unit) => (room ((List.length (([] : List Int) ++ ((x652.drop 0).take (v728 - 0)))) + List.length ([x650]))).bind fun (v736 : Unit) => (inc (v724.1) (List.length x652)).bind fun (v739 : Nat) => (room ((List.length ((([] : List Int) ++ ((x652.drop 0).take (v728 - 0))) ++ ([x650]))) + List.length ((x652.drop v739).take ((List.length x652) - v739)))).bind fun (v743 : Unit) => some (Sum.inl ((IntKind.wrap .i64 (x650 + 1)), (v724.2), (((([] : List Int) ++ ((x652.drop 0).take (v728 - 0))) ++ ([x650])) ++ ((x652.drop v739).take ((List.length x652) - v739)))))) ((spec_l20Rd_pick 3 x504 x651).bind fun (v746 : Int × Int) => cond ((v746.1) == 0) ((spec_l20Rd_pick x650 x504 (v746.2)).bind fun (v750 : Int × Int) => (inc (v750.1) (List.length x652)).bind fun (v754 : Nat) => (room ((List.length ([] : List Int)) + List.length ((x652.drop 0).take (v754 - 0)))).bind fun (v758 : Unit) => (room ((List.length (([] : List Int) ++ ((x652.drop 0).take (v754 - 0)))) + List.length ([x650]))).bind fun (v762 : Unit) => (inc (v750.1) (List.length x652)).bind fun (v765 : Nat) => (room ((List.length ((([] : List Int) ++ ((x652.drop 0).take (v754 - 0))) ++ ([x650]))) + List.length ((x652.drop v765).take ((List.length x652) - v765)))).bind fun (v769 : Unit) => some (Sum.inl ((IntKind.wrap .i64 (x650 + 1)), (v750.2), (((([] : List Int) ++ ((x652.drop 0).take (v754 - 0))) ++ ([x650])) ++ ((x652.drop v765).take ((List.length x652) - v765)))))) ((inc (((List.length x652 : Nat) : Int)) (List.length x652)).bind fun (v773 : Nat) => (room ((List.length ([] : List Int)) + List.length ((x652.drop 0).take (v773 - 0)))).bind fun (v777 : Unit) => (room ((List.length (([] : List Int) ++ ((x652.drop 0).take (v773 - 0)))) + List.length ([x650]))).bind fun (v781 : Unit) => (inc (((List.length x652 : Nat) : Int)) (List.length x652)).bind fun (v784 : Nat) => (room ((List.length ((([] : List Int) ++ ((x652.drop 0).take (v773 - 0))) ++ ([x650]))) + List.length ((x652.drop v784).take ((List.length x652) - v784)))).bind fun (v788 : Unit) => some (Sum.inl ((IntKind.wrap .i64 (x650 + 1)), (v746.2), (((([] : List Int) ++ ((x652.drop 0).take (v773 - 0))) ++ ([x650])) ++ ((x652.drop v784).take ((List.length x652) - v784)))))))) (some (Sum.inr (x651, x652)))

def spec_l20Order_n4 (x503 : Int) (x507 : Int) (x504 : List Int) (x508 : Int) : Option ((Int × (List Int))) :=
  nloop (fun (s : Int × Int × (List Int)) => ((spec_l20Order_n3 x503 x507 s.1 x504 s.2.1 s.2.2).map (Sum.elim (fun (t : Int × Int × (List Int)) => Sum.inl (t.1, t.2.1, t.2.2)) (fun (t : Int × (List Int)) => Sum.inr t)) : Option ((Int × Int × (List Int)) ⊕ ((Int × (List Int)))))) LL (1, x508, ([] : List Int))

def spec_l20Order_n5 (x503 : Int) (x507 : Int) (x504 : List Int) (x508 : Int) : Option ((Int × (List Int))) :=
  (spec_l20Order_n4 x503 x507 x504 x508).map (fun (t : Int × (List Int)) => (t.1, t.2))

def spec_l20Order_n6 (x503 : Int) (x507 : Int) (x504 : List Int) (x508 : Int) : Option ((Int × (List Int))) :=
  (spec_l20Order_n2).bind (fun (t : Unit) => spec_l20Order_n5 x503 x507 x504 x508)

def spec_l20Order_n7 (x651 : Int) (x652 : List Int) : Option ((Int × (List Int))) :=
  some (x651, x652)

def spec_l20Order_n8 (x503 : Int) (x507 : Int) (x504 : List Int) (x508 : Int) : Option ((Int × (List Int))) :=
  (spec_l20Order_n6 x503 x507 x504 x508).bind (fun (t : Int × (List Int)) => spec_l20Order_n7 t.1 t.2)

def spec_l20Order_n9 (x503 : Int) (x504 : List Int) (x505 : Int) : Option ((Int × (List Int))) :=
  (spec_l20Order_n1 x504 x505).bind (fun (t : Int × Int) => spec_l20Order_n8 x503 t.1 x504 t.2)

@[irreducible] def spec_l20Order (x503 : Int) (x504 : List Int) (x505 : Int) : Option (Int × (List Int)) :=
  spec_l20Order_n9 x503 x504 x505

/-! (*loop.example/headtrees/spec.l20Rd).odd -/

def spec_l20Rd_odd_n1 (x959 : Int) (x960 : List Int) (x961 : Int) : Option ((Bool × Int)) :=
  cond (decide (x959 > 0)) ((spec_l20Rd_pick x959 x960 x961).bind fun (v969 : Int × Int) => some (((v969.1) == (IntKind.wrap .i64 (x959 - 1))), (v969.2))) (some (false, x961))

@[irreducible] def spec_l20Rd_odd (x959 : Int) (x960 : List Int) (x961 : Int) : Option (Bool × Int) :=
  spec_l20Rd_odd_n1 x959 x960 x961

/-! loop.example/headtrees/spec.l20Tree -/

def spec_l20Tree_n1 (x493 : List Int) (x494 : Int) : Option ((Int × Int × Int × (List Int) × (List Int))) :=
  (spec_l20Rd_pick 7 x493 x494).bind fun (v806 : Int × Int) => (spec_l20Order (IntKind.wrap .i64 (1 + (v806.1))) x493 (v806.2)).bind fun (v810 : Int × (List Int)) => (mk (IntKind.wrap .i64 (1 + (v806.1))) (IntKind.wrap .i64 (1 + (v806.1)))).bind fun (v813 : Nat) => (spec_l20Rd_pick 2 x493 (v810.1)).bind fun (v815 : Int × Int) => some ((IntKind.wrap .i64 (1 + (v806.1))), (v815.1), (v815.2), (v810.2), (List.replicate v813 (0 : Int)))

def spec_l20Tree_n2 : Option (Unit) :=
  some ()

def spec_l20Tree_n3 (x809 : Int) (x816 : Int) (x887 : Int) (x493 : List Int) (x888 : Int) (x812 : List Int) (x889 : List Int) : Option ((Int × Int × (List Int)) ⊕ (Int × (List Int))) :=
  cond (decide (x887 < x809)) ((spec_l20Rd_pick x887 x493 x888).bind fun (v923 : Int × Int) => cond (x816 == 1) ((spec_l20Rd_pick 2 x493 (v923.2)).bind fun (v927 : Int × Int) => cond ((v927.1) == 0) ((inb x887 (List.length x812)).bind fun (v932 : Nat) => (x812[v932]?).bind fun (v933 : Int) => (inb (IntKind.wrap .i64 (x887 - 1)) (List.length x812)).bind fun (v935 : Nat) => (x812[v935]?).bind fun (v936 : Int) => (inb (IntKind.wrap .i64 (v933 - 1)) (List.length x889)).bind fun (v937 : Nat) => some (Sum.inl ((IntKind.wrap .i64 (x887 + 1)), (v927.2), (x889.set v937 v936)))) ((inb x887 (List.length x812)).bind fun (v940 : Nat) => (x812[v940]?).bind fun (v941 : Int) => (inb (v923.1) (List.length x812)).bind fun (v943 : Nat) => (x812[v943]?).bind fun (v944 : Int) => (inb (IntKind.wrap .i64 (v941 - 1)) (List.length x889)).bind fun (v945 : Nat) => some (Sum.inl ((IntKind.wrap .i64 (x887 + 1)), (v927.2), (x889.set v945 v944))))) ((inb x887 (List.length x812)).bind fun (v948 : Nat) => (x812[v948]?).bind fun (v949 : Int) => (inb (v923.1) (List.length x812)).bind fun (v951 : Nat) => (x812[v951]?).bind fun (v952 : Int) => (inb (IntKind.wrap .i64 (v949 - 1)) (List.length x889)).bind fun (v953 : Nat) => some (Sum.inl ((IntKind.wrap .i64 (x887 + 1)), (v923.2), (x889.set v953 v952))))) (some (Sum.inr (x888, x889)))

def spec_l20Tree_n4 (x809 : Int) (x816 : Int) (x493 : List Int) (x817 : Int) (x812 : List Int) (x814 : List Int) : Option ((Int × (List Int))) :=
  nloop (fun (s : Int × Int × (List Int)) => ((spec_l20Tree_n3 x809 x816 s.1 x493 s.2.1 x812 s.2.2).map (Sum.elim (fun (t : Int × Int × (List Int)) => Sum.inl (t.1, t.2.1, t.2.2)) (fun (t : Int × (List Int)) => Sum.inr t)) : Option ((Int × Int × (List Int)) ⊕ ((Int × (List Int)))))) LL (1, x817, x814)

def spec_l20Tree_n5 (x809 : Int) (x816 : Int) (x493 : List Int) (x817 : Int) (x812 : List Int) (x814 : List Int) : Option ((Int × (List Int))) :=
  (spec_l20Tree_n4 x809 x816 x493 x817 x812 x814).map (fun (t : Int × (List Int)) => (t.1, t.2))

def spec_l20Tree_n6 (x809 : Int) (x816 : Int) (x493 : List Int) (x817 : Int) (x812 : List Int) (x814 : List Int) : Option ((Int × (List Int))) :=
  (spec_l20Tree_n2).bind (fun (t : Unit) => spec_l20Tree_n5 x809 x816 x493 x817 x812 x814)

def spec_l20Tree_n7 (x492 : Int) (x809 : Int) (x493 : List Int) (x888 : Int) (x889 : List Int) : Option ((Int × (List Int))) :=
  (spec_l20Rd_odd x492 x493 x888).bind fun (v1033 : Bool × Int) => cond (v1033.1) ((spec_l20Rd_pick 4 x493 (v1033.2)).bind fun (v1036 : Int × Int) => cond ((v1036.1) == 0) (some ((v1036.2), ([] : List Int))) (cond ((v1036.1) == 1) (some ((v1036.2), ([2, 1, 0]))) (cond ((v1036.1) == 2) ((spec_l20Rd_pick x809 x493 (v1036.2)).bind fun (v1043 : Int × Int) => (inb (v1043.1) (List.length x889)).bind fun (v1046 : Nat) => (room ((List.length (x889.set v1046 0)) + List.length ([0]))).bind fun (v1050 : Unit) => some ((v1043.2), ((x889.set v1046 0) ++ ([0])))) ((spec_l20Rd_pick 3 x493 (v1036.2)).bind fun (v1054 : Int × Int) => (inb (v1054.1) (List.length ([1, (IntKind.wrap .i64 (x809 + 1)), (-1)]))).bind fun (v1057 : Nat) => (([1, (IntKind.wrap .i64 (x809 + 1)), (-1)])[v1057]?).bind fun (v1058 : Int) => (inb 0 (List.length x889)).bind fun (v1059 : Nat) => some ((v1054.2), (x889.set v1059 v1058)))))) (some ((v1033.2), x889))

def spec_l20Tree_n8 (x492 : Int) (x809 : Int) (x816 : Int) (x493 : List Int) (x817 : Int) (x812 : List Int) (x814 : List Int) : Option ((Int × (List Int))) :=
  (spec_l20Tree_n6 x809 x816 x493 x817 x812 x814).bind (fun (t : Int × (List Int)) => spec_l20Tree_n7 x492 x809 x493 t.1 t.2)

def spec_l20Tree_n9 (x492 : Int) (x493 : List Int) (x494 : Int) : Option ((Int × (List Int))) :=
  (spec_l20Tree_n1 x493 x494).bind (fun (t : Int × Int × Int × (List Int) × (List Int)) => spec_l20Tree_n8 x492 t.1 t.2.1 x493 t.2.2.1 t.2.2.2.1 t.2.2.2.2)

@[irreducible] def spec_l20Tree (x492 : Int) (x493 : List Int) (x494 : Int) : Option (Int × (List Int)) :=
  spec_l20Tree_n9 x492 x493 x494

/-! loop.example/headtrees/spec.l20Fill -/

def spec_l20Fill_n1 (R0 : Int → Int → Int → (List Int) → Int → (List Int) → Option (Int × (List Int))) (x1103 : Int) (x1104 : Int) (x1105 : Int) (x1106 : List Int) (x1107 : Int) (x1108 : List Int) : Option ((Int × Int × (List Int)) ⊕ (Int × (List Int))) :=
  cond (decide (x1103 > x1104)) (some (Sum.inr (x1107, x1108))) ((spec_l20Rd_pick (IntKind.wrap .i64 ((IntKind.wrap .i64 (x1104 - x1103)) + 1)) x1106 x1107).bind fun (v1176 : Int × Int) => (inb (IntKind.wrap .i64 ((IntKind.wrap .i64 (x1103 + (v1176.1))) - 1)) (List.length x1108)).bind fun (v1181 : Nat) => some (Sum.inl ((IntKind.wrap .i64 (x1103 + (v1176.1))), (v1176.2), (x1108.set v1181 x1105))))

def spec_l20Fill_n2 (R0 : Int → Int → Int → (List Int) → Int → (List Int) → Option (Int × (List Int))) (x1179 : Int) (x1194 : Int) (x1106 : List Int) (x1195 : Int) (x1196 : List Int) : Option ((Int × Int × (List Int)) ⊕ (Int × (List Int))) :=
  cond (decide (x1194 < x1179)) ((spec_l20Rd_pick (IntKind.wrap .i64 (x1179 - x1194)) x1106 x1195).bind fun (v1200 : Int × Int) => (R0 x1194 (IntKind.wrap .i64 (x1194 + (v1200.1))) x1179 x1106 (v1200.2) x1196).bind fun (v1204 : Int × (List Int)) => some (Sum.inl ((IntKind.wrap .i64 ((IntKind.wrap .i64 (x1194 + (v1200.1))) + 1)), (v1204.1), (v1204.2)))) (some (Sum.inr (x1195, x1196)))

def spec_l20Fill_n3 (R0 : Int → Int → Int → (List Int) → Int → (List Int) → Option (Int × (List Int))) (x1179 : Int) (x1103 : Int) (x1106 : List Int) (x1178 : Int) (x1182 : List Int) : Option ((Int × (List Int))) :=
  nloop (fun (s : Int × Int × (List Int)) => ((spec_l20Fill_n2 R0 x1179 s.1 x1106 s.2.1 s.2.2).map (Sum.elim (fun (t : Int × Int × (List Int)) => Sum.inl (t.1, t.2.1, t.2.2)) (fun (t : Int × (List Int)) => Sum.inr t)) : Option ((Int × Int × (List Int)) ⊕ ((Int × (List Int)))))) LL (x1103, x1178, x1182)

def spec_l20Fill_n4 (R0 : Int → Int → Int → (List Int) → Int → (List Int) → Option (Int × (List Int))) (x1179 : Int) (x1103 : Int) (x1106 : List Int) (x1178 : Int) (x1182 : List Int) : Option ((Int × (List Int))) :=
  (spec_l20Fill_n3 R0 x1179 x1103 x1106 x1178 x1182).map (fun (t : Int × (List Int)) => (t.1, t.2))

def spec_l20Fill_n5 (R0 : Int → Int → Int → (List Int) → Int → (List Int) → Option (Int × (List Int))) (x1179 : Int) : Option (Int) :=
  some (IntKind.wrap .i64 (x1179 + 1))

def spec_l20Fill_n6 (R0 : Int → Int → Int → (List Int) → Int → (List Int) → Option (Int × (List Int))) (x1104 : Int) (x1179 : Int) (x1221 : Int) (x1106 : List Int) (x1222 : Int) (x1223 : List Int) : Option ((Int × Int × (List Int)) ⊕ (Int × (List Int))) :=
  cond (decide (x1221 ≤ x1104)) ((spec_l20Rd_pick (IntKind.wrap .i64 ((IntKind.wrap .i64 (x1104 - x1221)) + 1)) x1106 x1222).bind fun (v1228 : Int × Int) => (R0 x1221 (IntKind.wrap .i64 (x1221 + (v1228.1))) x1179 x1106 (v1228.2) x1223).bind fun (v1232 : Int × (List Int)) => some (Sum.inl ((IntKind.wrap .i64 ((IntKind.wrap .i64 (x1221 + (v1228.1))) + 1)), (v1232.1), (v1232.2)))) (some (Sum.inr (x1222, x1223)))

def spec_l20Fill_n7 (R0 : Int → Int → Int → (List Int) → Int → (List Int) → Option (Int × (List Int))) (x1104 : Int) (x1179 : Int) (x1208 : Int) (x1106 : List Int) (x1195 : Int) (x1196 : List Int) : Option ((Int × (List Int))) :=
  nloop (fun (s : Int × Int × (List Int)) => ((spec_l20Fill_n6 R0 x1104 x1179 s.1 x1106 s.2.1 s.2.2).map (Sum.elim (fun (t : Int × Int × (List Int)) => Sum.inl (t.1, t.2.1, t.2.2)) (fun (t : Int × (List Int)) => Sum.inr t)) : Option ((Int × Int × (List Int)) ⊕ ((Int × (List Int)))))) LL (x1208, x1195, x1196)

def spec_l20Fill_n8 (R0 : Int → Int → Int → (List Int) → Int → (List Int) → Option (Int × (List Int))) (x1104 : Int) (x1179 : Int) (x1208 : Int) (x1106 : List Int) (x1195 : Int) (x1196 : List Int) : Option ((Int × (List Int))) :=
  (spec_l20Fill_n7 R0 x1104 x1179 x1208 x1106 x1195 x1196).map (fun (t : Int × (List Int)) => (t.1, t.2))

def spec_l20Fill_n9 (R0 : Int → Int → Int → (List Int) → Int → (List Int) → Option (Int × (List Int))) (x1104 : Int) (x1179 : Int) (x1106 : List Int) (x1195 : Int) (x1196 : List Int) : Option ((Int × (List Int))) :=
  (spec_l20Fill_n5 R0 x1179).bind (fun (t : Int) => spec_l20Fill_n8 R0 x1104 x1179 t x1106 x1195 x1196)

def spec_l20Fill_n10 (R0 : Int → Int → Int → (List Int) → Int → (List Int) → Option (Int × (List Int))) (x1104 : Int) (x1179 : Int) (x1103 : Int) (x1106 : List Int) (x1178 : Int) (x1182 : List Int) : Option ((Int × (List Int))) :=
  (spec_l20Fill_n4 R0 x1179 x1103 x1106 x1178 x1182).bind (fun (t : Int × (List Int)) => spec_l20Fill_n9 R0 x1104 x1179 x1106 t.1 t.2)

def spec_l20Fill_n11 (R0 : Int → Int → Int → (List Int) → Int → (List Int) → Option (Int × (List Int))) (x1103 : Int) (x1104 : Int) (x1105 : Int) (x1106 : List Int) (x1107 : Int) (x1108 : List Int) : Option ((Int × (List Int)) ⊕ (Int × (List Int))) :=
  (spec_l20Fill_n1 R0 x1103 x1104 x1105 x1106 x1107 x1108).bind (Sum.elim (fun (t : Int × Int × (List Int)) => (spec_l20Fill_n10 R0 x1104 t.1 x1103 x1106 t.2.1 t.2.2).map (fun (u : Int × (List Int)) => (Sum.inl (u.1, u.2)))) (fun e => some ((fun (t : Int × (List Int)) => (Sum.inr t)) e)))

def spec_l20Fill_one (R0 : Int → Int → Int → (List Int) → Int → (List Int) → Option (Int × (List Int))) (x1103 : Int) (x1104 : Int) (x1105 : Int) (x1106 : List Int) (x1107 : Int) (x1108 : List Int) : Option (Int × (List Int)) :=
  (spec_l20Fill_n11 R0 x1103 x1104 x1105 x1106 x1107 x1108).map (Sum.elim (fun (t : Int × (List Int)) => (t.1, t.2)) (fun (t : Int × (List Int)) => t))

def spec_l20Fill_knot : Nat → (Int → Int → Int → (List Int) → Int → (List Int) → Option (Int × (List Int)))
  | 0 => (fun _ _ _ _ _ _ => none)
  | n + 1 => (fun y0 y1 y2 y3 y4 y5 => spec_l20Fill_one (spec_l20Fill_knot n) y0 y1 y2 y3 y4 y5)

def spec_l20Fill_fuel (n : Nat) : Int → Int → Int → (List Int) → Int → (List Int) → Option (Int × (List Int)) := (spec_l20Fill_knot n)

@[irreducible] def spec_l20Fill (x1103 : Int) (x1104 : Int) (x1105 : Int) (x1106 : List Int) (x1107 : Int) (x1108 : List Int) : Option (Int × (List Int)) := spec_l20Fill_fuel RR x1103 x1104 x1105 x1106 x1107 x1108

/-! loop.example/headtrees/spec.l20Flat -/

def spec_l20Flat_n1 (x485 : Int) (x486 : List Int) (x487 : Int) : Option ((Int × (List Int))) :=
  (spec_l20Rd_pick 3 x486 x487).bind fun (v1257 : Int × Int) => cond ((v1257.1) == 0) ((spec_l20Tree x485 x486 (v1257.2)).bind fun (v1261 : Int × (List Int)) => some ((v1261.1), (v1261.2))) ((spec_l20Rd_pick 7 x486 (v1257.2)).bind fun (v1264 : Int × Int) => (mk (IntKind.wrap .i64 (1 + (v1264.1))) (IntKind.wrap .i64 (1 + (v1264.1)))).bind fun (v1268 : Nat) => (spec_l20Fill 1 (IntKind.wrap .i64 (1 + (v1264.1))) 0 x486 (v1264.2) (List.replicate v1268 (0 : Int))).bind fun (v1270 : Int × (List Int)) => some ((v1270.1), (v1270.2)))

@[irreducible] def spec_l20Flat (x485 : Int) (x486 : List Int) (x487 : Int) : Option (Int × (List Int)) :=
  spec_l20Flat_n1 x485 x486 x487

/-! loop.example/headtrees/spec.DrawCoveredOk -/

def spec_DrawCoveredOk_n1 (x480 : List Int) : Option ((Int × (List Int))) :=
  (spec_l20Open x480).bind fun (v1287 : List Int) => (spec_l20Flat 9 v1287 0).bind fun (v1288 : Int × (List Int)) => (spec_l20Rd_pick (IntKind.wrap .i64 ((((List.length (v1288.2) : Nat) : Int)) + 2)) v1287 (v1288.1)).bind fun (v1293 : Int × Int) => some ((v1293.1), (v1288.2))

@[irreducible] def spec_DrawCoveredOk (x480 : List Int) : Option (Int × (List Int)) :=
  spec_DrawCoveredOk_n1 x480

/-! loop.example/headtrees/impl.oneRoot -/

def impl_oneRoot_n1 : Option (Unit) :=
  some ()

def impl_oneRoot_n2 (x1313 : List Int) : Option (Int) :=
  some (((List.length x1313 : Nat) : Int))

def impl_oneRoot_n3 (x1313 : List Int) (x1335 : Int) (x1314 : Int) (x1336 : Int) : Option ((Int × Int) ⊕ Bool ⊕ Int) :=
  cond (decide (x1336 < x1314)) ((idx x1313 x1336).bind fun (v1347 : Int) => cond (decide (v1347 < 0)) (some (Sum.inr (Sum.inl false))) (cond (decide (v1347 > (((List.length x1313 : Nat) : Int)))) (some (Sum.inr (Sum.inl false))) (cond (v1347 == 0) (some (Sum.inl ((IntKind.wrap .i64 (x1335 + 1)), (IntKind.wrap .i64 (x1336 + 1))))) (some (Sum.inl (x1335, (IntKind.wrap .i64 (x1336 + 1)))))))) (some (Sum.inr (Sum.inr x1335)))

def impl_oneRoot_n4 (x1313 : List Int) (x1314 : Int) : Option (Bool ⊕ Int) :=
  nloop (fun (s : Int × Int) => ((impl_oneRoot_n3 x1313 s.1 x1314 s.2).map (Sum.elim (fun (t : Int × Int) => Sum.inl (t.1, t.2)) (Sum.elim (fun (t : Bool) => Sum.inr (Sum.inl t)) (fun (t : Int) => Sum.inr (Sum.inr t)))) : Option ((Int × Int) ⊕ (Bool ⊕ Int)))) LL (0, 0)

def impl_oneRoot_n5 (x1313 : List Int) (x1314 : Int) : Option (Int ⊕ Bool) :=
  (impl_oneRoot_n4 x1313 x1314).map (Sum.elim (fun (t : Bool) => (Sum.inr t)) (fun (t : Int) => (Sum.inl t)))

def impl_oneRoot_n6 (x1313 : List Int) : Option (Int ⊕ Bool) :=
  (impl_oneRoot_n2 x1313).bind (fun (t : Int) => impl_oneRoot_n5 x1313 t)

def impl_oneRoot_n7 (x1335 : Int) : Option (Bool) :=
  some (x1335 == 1)

def impl_oneRoot_n8 (x1313 : List Int) : Option (Bool) :=
  (impl_oneRoot_n6 x1313).bind (Sum.elim (fun (t : Int) => impl_oneRoot_n7 t) (fun e => some ((fun (t : Bool) => t) e)))

def impl_oneRoot_n9 (x1313 : List Int) : Option (Bool) :=
  (impl_oneRoot_n1).bind (fun (t : Unit) => impl_oneRoot_n8 x1313)

@[irreducible] def impl_oneRoot (x1313 : List Int) : Option (Bool) :=
  impl_oneRoot_n9 x1313

/-! (*loop.example/headtrees/impl.walker).up -/

def impl_walker_up_n1 (x1369 : List Int) (x1370 : Int) (x1371 : Int) : Option ((Bool × Int × Int)) :=
  (idx x1369 (IntKind.wrap .i64 (x1370 - 1))).bind fun (v1389 : Int) => cond (v1389 == 0) (some (false, x1370, x1371)) (some (true, v1389, (IntKind.wrap .i64 (x1371 + 1))))

@[irreducible] def impl_walker_up (x1369 : List Int) (x1370 : Int) (x1371 : Int) : Option (Bool × Int × Int) :=
  impl_walker_up_n1 x1369 x1370 x1371

/-! loop.example/headtrees/impl.stepsToRoot -/

def impl_stepsToRoot_n1 : Option (Unit) :=
  some ()

def impl_stepsToRoot_n2 (x1367 : List Int) (x1405 : Int) (x1406 : Int) : Option ((Int × Int) ⊕ (Int × Bool) ⊕ (Int × Int)) :=
  (impl_walker_up x1367 x1405 x1406).bind fun (v1411 : Bool × Int × Int) => cond (v1411.1) (cond (decide ((v1411.2.2) ≥ (((List.length x1367 : Nat) : Int)))) (some (Sum.inr (Sum.inl (0, false)))) (some (Sum.inl ((v1411.2.1), (v1411.2.2))))) (some (Sum.inr (Sum.inr ((v1411.2.1), (v1411.2.2)))))

def impl_stepsToRoot_n3 (x1367 : List Int) (x1368 : Int) : Option ((Int × Bool) ⊕ (Int × Int)) :=
  nloop (fun (s : Int × Int) => ((impl_stepsToRoot_n2 x1367 s.1 s.2).map (Sum.elim (fun (t : Int × Int) => Sum.inl (t.1, t.2)) (Sum.elim (fun (t : Int × Bool) => Sum.inr (Sum.inl t)) (fun (t : Int × Int) => Sum.inr (Sum.inr t)))) : Option ((Int × Int) ⊕ ((Int × Bool) ⊕ (Int × Int))))) LL (x1368, 0)

def impl_stepsToRoot_n4 (x1367 : List Int) (x1368 : Int) : Option ((Int × Int) ⊕ (Int × Bool)) :=
  (impl_stepsToRoot_n3 x1367 x1368).map (Sum.elim (fun (t : Int × Bool) => (Sum.inr t)) (fun (t : Int × Int) => (Sum.inl (t.1, t.2))))

def impl_stepsToRoot_n5 (x1414 : Int) : Option ((Int × Bool)) :=
  some (x1414, true)

def impl_stepsToRoot_n6 (x1367 : List Int) (x1368 : Int) : Option ((Int × Bool)) :=
  (impl_stepsToRoot_n4 x1367 x1368).bind (Sum.elim (fun (t : Int × Int) => impl_stepsToRoot_n5 t.2) (fun e => some ((fun (t : Int × Bool) => t) e)))

def impl_stepsToRoot_n7 (x1367 : List Int) (x1368 : Int) : Option ((Int × Bool)) :=
  (impl_stepsToRoot_n1).bind (fun (t : Unit) => impl_stepsToRoot_n6 x1367 x1368)

@[irreducible] def impl_stepsToRoot (x1367 : List Int) (x1368 : Int) : Option (Int × Bool) :=
  impl_stepsToRoot_n7 x1367 x1368

/-! loop.example/headtrees/impl.TreeOk -/

def impl_TreeOk_n1 (x1308 : List Int) : Option (Unit ⊕ Bool) :=
  cond (decide ((((List.length x1308 : Nat) : Int)) < 1)) (some (Sum.inr false)) (cond (decide ((((List.length x1308 : Nat) : Int)) > 8)) (some (Sum.inr false)) ((impl_oneRoot x1308).bind fun (v1360 : Bool) => cond (!v1360) (some (Sum.inr false)) (some (Sum.inl ()))))

def impl_TreeOk_n2 (x1308 : List Int) : Option (Int) :=
  some (((List.length x1308 : Nat) : Int))

def impl_TreeOk_n3 (x1308 : List Int) (x1362 : Int) (x1430 : Int) : Option (Int ⊕ Bool ⊕ Unit) :=
  cond (decide (x1430 < x1362)) ((impl_stepsToRoot x1308 (IntKind.wrap .i64 (x1430 + 1))).bind fun (v1441 : Int × Bool) => cond (!(v1441.2)) (some (Sum.inr (Sum.inl false))) (some (Sum.inl (IntKind.wrap .i64 (x1430 + 1))))) (some (Sum.inr (Sum.inr ())))

def impl_TreeOk_n4 (x1308 : List Int) (x1362 : Int) : Option (Bool ⊕ Unit) :=
  nloop (fun (s : Int) => ((impl_TreeOk_n3 x1308 x1362 s).map (Sum.elim (fun (t : Int) => Sum.inl t) (Sum.elim (fun (t : Bool) => Sum.inr (Sum.inl t)) (fun (t : Unit) => Sum.inr (Sum.inr t)))) : Option ((Int) ⊕ (Bool ⊕ Unit)))) LL 0

def impl_TreeOk_n5 (x1308 : List Int) (x1362 : Int) : Option (Unit ⊕ Bool) :=
  (impl_TreeOk_n4 x1308 x1362).map (Sum.elim (fun (t : Bool) => (Sum.inr t)) (fun (t : Unit) => (Sum.inl ())))

def impl_TreeOk_n6 (x1308 : List Int) : Option (Unit ⊕ Bool) :=
  (impl_TreeOk_n2 x1308).bind (fun (t : Int) => impl_TreeOk_n5 x1308 t)

def impl_TreeOk_n7 : Option (Bool) :=
  some true

def impl_TreeOk_n8 (x1308 : List Int) : Option (Bool) :=
  (impl_TreeOk_n6 x1308).bind (Sum.elim (fun (t : Unit) => impl_TreeOk_n7) (fun e => some ((fun (t : Bool) => t) e)))

def impl_TreeOk_n9 (x1308 : List Int) : Option (Bool) :=
  (impl_TreeOk_n1 x1308).bind (Sum.elim (fun (t : Unit) => impl_TreeOk_n8 x1308) (fun e => some ((fun (t : Bool) => t) e)))

@[irreducible] def impl_TreeOk (x1308 : List Int) : Option (Bool) :=
  impl_TreeOk_n9 x1308

/-! loop.example/headtrees/impl.wordOk -/

def impl_wordOk_n1 (x1306 : List Int) (x1307 : Int) : Option (Bool) :=
  (impl_TreeOk x1306).bind fun (v1451 : Bool) => cond v1451 (cond (decide (x1307 ≥ 1)) (some (decide (x1307 ≤ (((List.length x1306 : Nat) : Int))))) (some false)) (some false)

@[irreducible] def impl_wordOk (x1306 : List Int) (x1307 : Int) : Option (Bool) :=
  impl_wordOk_n1 x1306 x1307

/-! loop.example/headtrees/impl.arcsOf -/

def impl_arcsOf_n1 (x1458 : List Int) : Option (((List (Int × Int × Unit)))) :=
  (mk 0 (((List.length x1458 : Nat) : Int))).bind fun (v1461 : Nat) => some (List.replicate v1461 ((0 : Int), ((0 : Int), ())))

def impl_arcsOf_n2 (x1458 : List Int) : Option (Int) :=
  some (((List.length x1458 : Nat) : Int))

def impl_arcsOf_n3 (x1458 : List Int) (x1463 : Int) (x1497 : Int) (x1498 : List (Int × Int × Unit)) : Option ((Int × (List (Int × Int × Unit))) ⊕ ((List (Int × Int × Unit)))) :=
  cond (decide (x1497 < x1463)) ((idx x1458 x1497).bind fun (v1515 : Int) => (impl_arcBetween (IntKind.wrap .i64 (x1497 + 1)) v1515).bind fun (v1517 : Bool × Int × Int) => cond (v1517.1) ((room ((List.length x1498) + List.length ([((v1517.2.1), ((v1517.2.2), ()))]))).bind fun (v1525 : Unit) => some (Sum.inl ((IntKind.wrap .i64 (x1497 + 1)), (x1498 ++ ([((v1517.2.1), ((v1517.2.2), ()))]))))) (some (Sum.inl ((IntKind.wrap .i64 (x1497 + 1)), x1498)))) (some (Sum.inr x1498))

def impl_arcsOf_n4 (x1458 : List Int) (x1463 : Int) (x1462 : List (Int × Int × Unit)) : Option (((List (Int × Int × Unit)))) :=
  nloop (fun (s : Int × (List (Int × Int × Unit))) => ((impl_arcsOf_n3 x1458 x1463 s.1 s.2).map (Sum.elim (fun (t : Int × (List (Int × Int × Unit))) => Sum.inl (t.1, t.2)) (fun (t : (List (Int × Int × Unit))) => Sum.inr t)) : Option ((Int × (List (Int × Int × Unit))) ⊕ (((List (Int × Int × Unit))))))) LL (0, x1462)

def impl_arcsOf_n5 (x1458 : List Int) (x1463 : Int) (x1462 : List (Int × Int × Unit)) : Option (((List (Int × Int × Unit)))) :=
  (impl_arcsOf_n4 x1458 x1463 x1462).map (fun (t : (List (Int × Int × Unit))) => t)

def impl_arcsOf_n6 (x1458 : List Int) (x1462 : List (Int × Int × Unit)) : Option (((List (Int × Int × Unit)))) :=
  (impl_arcsOf_n2 x1458).bind (fun (t : Int) => impl_arcsOf_n5 x1458 t x1462)

def impl_arcsOf_n7 (x1498 : List (Int × Int × Unit)) : Option (((List (Int × Int × Unit)))) :=
  some x1498

def impl_arcsOf_n8 (x1458 : List Int) (x1462 : List (Int × Int × Unit)) : Option (((List (Int × Int × Unit)))) :=
  (impl_arcsOf_n6 x1458 x1462).bind (fun (t : (List (Int × Int × Unit))) => impl_arcsOf_n7 t)

def impl_arcsOf_n9 (x1458 : List Int) : Option (((List (Int × Int × Unit)))) :=
  (impl_arcsOf_n1 x1458).bind (fun (t : (List (Int × Int × Unit))) => impl_arcsOf_n8 x1458 t)

@[irreducible] def impl_arcsOf (x1458 : List Int) : Option ((List (Int × Int × Unit))) :=
  impl_arcsOf_n9 x1458

/-! loop.example/headtrees/impl.CoveredOk -/

def impl_CoveredOk_n1 (x1304 : List Int) (x1305 : Int) : Option (Unit ⊕ Bool) :=
  (impl_wordOk x1304 x1305).bind fun (v1456 : Bool) => cond (!v1456) (some (Sum.inr false)) (some (Sum.inl ()))

def impl_CoveredOk_n2 (x1304 : List Int) : Option ((Int × (List (Int × Int × Unit)))) :=
  (impl_arcsOf x1304).bind fun (v1531 : List (Int × Int × Unit)) => some ((((List.length v1531 : Nat) : Int)), v1531)

def impl_CoveredOk_n3 (x1305 : Int) (x1532 : Int) (x1552 : Int) (x1531 : List (Int × Int × Unit)) : Option (Int ⊕ Bool ⊕ Unit) :=
  cond (decide (x1552 < x1532)) ((inb x1552 (List.length x1531)).bind fun (v1564 : Nat) => (x1531[v1564]?).bind fun (v1565 : Int × Int × Unit) => (impl_arc_covers (v1565.1) ((v1565.2).1) x1305).bind fun (v1570 : Bool) => cond v1570 (some (Sum.inr (Sum.inl true))) (some (Sum.inl (IntKind.wrap .i64 (x1552 + 1))))) (some (Sum.inr (Sum.inr ())))

def impl_CoveredOk_n4 (x1305 : Int) (x1532 : Int) (x1531 : List (Int × Int × Unit)) : Option (Bool ⊕ Unit) :=
  nloop (fun (s : Int) => ((impl_CoveredOk_n3 x1305 x1532 s x1531).map (Sum.elim (fun (t : Int) => Sum.inl t) (Sum.elim (fun (t : Bool) => Sum.inr (Sum.inl t)) (fun (t : Unit) => Sum.inr (Sum.inr t)))) : Option ((Int) ⊕ (Bool ⊕ Unit)))) LL 0

def impl_CoveredOk_n5 (x1305 : Int) (x1532 : Int) (x1531 : List (Int × Int × Unit)) : Option (Unit ⊕ Bool) :=
  (impl_CoveredOk_n4 x1305 x1532 x1531).map (Sum.elim (fun (t : Bool) => (Sum.inr t)) (fun (t : Unit) => (Sum.inl ())))

def impl_CoveredOk_n6 (x1304 : List Int) (x1305 : Int) : Option (Unit ⊕ Bool) :=
  (impl_CoveredOk_n2 x1304).bind (fun (t : Int × (List (Int × Int × Unit))) => impl_CoveredOk_n5 x1305 t.1 t.2)

def impl_CoveredOk_n7 : Option (Bool) :=
  some false

def impl_CoveredOk_n8 (x1304 : List Int) (x1305 : Int) : Option (Bool) :=
  (impl_CoveredOk_n6 x1304 x1305).bind (Sum.elim (fun (t : Unit) => impl_CoveredOk_n7) (fun e => some ((fun (t : Bool) => t) e)))

def impl_CoveredOk_n9 (x1304 : List Int) (x1305 : Int) : Option (Bool) :=
  (impl_CoveredOk_n1 x1304 x1305).bind (Sum.elim (fun (t : Unit) => impl_CoveredOk_n8 x1304 x1305) (fun e => some ((fun (t : Bool) => t) e)))

@[irreducible] def impl_CoveredOk (x1304 : List Int) (x1305 : Int) : Option (Bool) :=
  impl_CoveredOk_n9 x1304 x1305

/-! loop.example/headtrees/spec.l3Arcs -/

def spec_l3Arcs_n1 : Option (Unit) :=
  some ()

def spec_l3Arcs_n2 : Option (Unit) :=
  some ()

def spec_l3Arcs_n3 (x1582 : List Int) (x1633 : Int) (x1634 : List (List Int)) : Option ((Int × (List (List Int))) ⊕ ((List (List Int)))) :=
  cond (decide (x1633 < (((List.length x1582 : Nat) : Int)))) ((idx x1582 x1633).bind fun (v1654 : Int) => cond (decide (v1654 > 0)) ((idx x1582 x1633).bind fun (v1657 : Int) => (idx x1582 x1633).bind fun (v1660 : Int) => (room ((List.length x1634) + List.length ([([(imin (IntKind.wrap .i64 (x1633 + 1)) v1657), (imax (IntKind.wrap .i64 (x1633 + 1)) v1660)])]))).bind fun (v1665 : Unit) => some (Sum.inl ((IntKind.wrap .i64 (x1633 + 1)), (x1634 ++ ([([(imin (IntKind.wrap .i64 (x1633 + 1)) v1657), (imax (IntKind.wrap .i64 (x1633 + 1)) v1660)])]))))) (some (Sum.inl ((IntKind.wrap .i64 (x1633 + 1)), x1634)))) (some (Sum.inr x1634))

def spec_l3Arcs_n4 (x1582 : List Int) : Option (((List (List Int)))) :=
  nloop (fun (s : Int × (List (List Int))) => ((spec_l3Arcs_n3 x1582 s.1 s.2).map (Sum.elim (fun (t : Int × (List (List Int))) => Sum.inl (t.1, t.2)) (fun (t : (List (List Int))) => Sum.inr t)) : Option ((Int × (List (List Int))) ⊕ (((List (List Int))))))) LL (0, ([] : List (List Int)))

def spec_l3Arcs_n5 (x1582 : List Int) : Option (((List (List Int)))) :=
  (spec_l3Arcs_n4 x1582).map (fun (t : (List (List Int))) => t)

def spec_l3Arcs_n6 (x1582 : List Int) : Option (((List (List Int)))) :=
  (spec_l3Arcs_n2).bind (fun (t : Unit) => spec_l3Arcs_n5 x1582)

def spec_l3Arcs_n7 (x1634 : List (List Int)) : Option (((List (List Int)))) :=
  some x1634

def spec_l3Arcs_n8 (x1582 : List Int) : Option (((List (List Int)))) :=
  (spec_l3Arcs_n6 x1582).bind (fun (t : (List (List Int))) => spec_l3Arcs_n7 t)

def spec_l3Arcs_n9 (x1582 : List Int) : Option (((List (List Int)))) :=
  (spec_l3Arcs_n1).bind (fun (t : Unit) => spec_l3Arcs_n8 x1582)

@[irreducible] def spec_l3Arcs (x1582 : List Int) : Option ((List (List Int))) :=
  spec_l3Arcs_n9 x1582

/-! loop.example/headtrees/spec.l1In -/

def spec_l1In_n1 (x1677 : Int) (x1678 : Int) (x1679 : Int) : Option (Bool) :=
  cond (decide (x1677 ≥ x1678)) (some (decide (x1677 ≤ x1679))) (some false)

@[irreducible] def spec_l1In (x1677 : Int) (x1678 : Int) (x1679 : Int) : Option (Bool) :=
  spec_l1In_n1 x1677 x1678 x1679

/-! loop.example/headtrees/spec.TreeOk -/

def spec_TreeOk_n1 (x1674 : List Int) : Option (Int ⊕ Bool) :=
  (spec_l1In (((List.length x1674 : Nat) : Int)) 1 8).bind fun (v1688 : Bool) => cond (!v1688) (some (Sum.inr false)) (some (Sum.inl (((List.length x1674 : Nat) : Int))))

def spec_TreeOk_n2 : Option (Unit) :=
  some ()

def spec_TreeOk_n3 (x1687 : Int) (x1754 : Int) (x1755 : Int) : Option (Unit ⊕ Int) :=
  cond (decide (x1755 < x1687)) (some (Sum.inl ())) (some (Sum.inr x1754))

def spec_TreeOk_n4 (x1674 : List Int) (x1687 : Int) (x1754 : Int) (x1755 : Int) : Option ((Int × Int) ⊕ Bool) :=
  (idx x1674 x1755).bind fun (v1772 : Int) => (spec_l1In v1772 0 x1687).bind fun (v1773 : Bool) => cond (!v1773) (some (Sum.inr false)) ((idx x1674 x1755).bind fun (v1775 : Int) => cond (v1775 == (IntKind.wrap .i64 (x1755 + 1))) (some (Sum.inr false)) ((idx x1674 x1755).bind fun (v1778 : Int) => cond (v1778 == 0) (some (Sum.inl ((IntKind.wrap .i64 (x1754 + 1)), (IntKind.wrap .i64 (x1755 + 1))))) (some (Sum.inl (x1754, (IntKind.wrap .i64 (x1755 + 1)))))))

def spec_TreeOk_n5 : Option (Unit) :=
  some ()

def spec_TreeOk_n6 (x1674 : List Int) (x1687 : Int) (x1800 : Int) (x1801 : Int) : Option ((Int × Int) ⊕ Bool ⊕ Int) :=
  cond (decide (x1800 > 0)) (cond (decide (x1801 < x1687)) ((idx x1674 (IntKind.wrap .i64 (x1800 - 1))).bind fun (v1813 : Int) => (spec_l1In v1813 0 x1687).bind fun (v1814 : Bool) => cond (!v1814) (some (Sum.inr (Sum.inl false))) (some (Sum.inl (v1813, (IntKind.wrap .i64 (x1801 + 1)))))) (some (Sum.inr (Sum.inr x1800)))) (some (Sum.inr (Sum.inr x1800)))

def spec_TreeOk_n7 (x1674 : List Int) (x1687 : Int) (x1784 : Int) : Option (Bool ⊕ Int) :=
  nloop (fun (s : Int × Int) => ((spec_TreeOk_n6 x1674 x1687 s.1 s.2).map (Sum.elim (fun (t : Int × Int) => Sum.inl (t.1, t.2)) (Sum.elim (fun (t : Bool) => Sum.inr (Sum.inl t)) (fun (t : Int) => Sum.inr (Sum.inr t)))) : Option ((Int × Int) ⊕ (Bool ⊕ Int)))) LL (x1784, 0)

def spec_TreeOk_n8 (x1674 : List Int) (x1687 : Int) (x1784 : Int) : Option (Int ⊕ Bool) :=
  (spec_TreeOk_n7 x1674 x1687 x1784).map (Sum.elim (fun (t : Bool) => (Sum.inr t)) (fun (t : Int) => (Sum.inl t)))

def spec_TreeOk_n9 (x1674 : List Int) (x1687 : Int) (x1784 : Int) : Option (Int ⊕ Bool) :=
  (spec_TreeOk_n5).bind (fun (t : Unit) => spec_TreeOk_n8 x1674 x1687 x1784)

def spec_TreeOk_n10 (x1800 : Int) : Option (Unit ⊕ Bool) :=
  cond (decide (x1800 > 0)) (some (Sum.inr false)) (some (Sum.inl ()))

def spec_TreeOk_n11 (x1674 : List Int) (x1687 : Int) (x1784 : Int) : Option (Unit ⊕ Bool) :=
  (spec_TreeOk_n9 x1674 x1687 x1784).bind (Sum.elim (fun (t : Int) => spec_TreeOk_n10 t) (fun e => some ((fun (t : Bool) => (Sum.inr t)) e)))

def spec_TreeOk_n12 (x1674 : List Int) (x1687 : Int) (x1754 : Int) (x1755 : Int) : Option (Int ⊕ Bool) :=
  (spec_TreeOk_n4 x1674 x1687 x1754 x1755).bind (Sum.elim (fun (t : Int × Int) => (spec_TreeOk_n11 x1674 x1687 t.2).map (Sum.elim (fun (u : Unit) => (Sum.inl t.1)) (fun (u : Bool) => (Sum.inr u)))) (fun e => some ((fun (t : Bool) => (Sum.inr t)) e)))

def spec_TreeOk_n13 (x1674 : List Int) (x1687 : Int) (x1754 : Int) (x1755 : Int) : Option (Int ⊕ Bool) :=
  (spec_TreeOk_n12 x1674 x1687 x1754 x1755).map (Sum.elim (fun (t : Int) => (Sum.inl t)) (fun (t : Bool) => (Sum.inr t)))

def spec_TreeOk_n14 (x1755 : Int) : Option (Int) :=
  some (IntKind.wrap .i64 (x1755 + 1))

def spec_TreeOk_n15 (x1674 : List Int) (x1687 : Int) (x1754 : Int) (x1755 : Int) : Option ((Int × Int) ⊕ Bool) :=
  (spec_TreeOk_n13 x1674 x1687 x1754 x1755).bind (Sum.elim (fun (t : Int) => (spec_TreeOk_n14 x1755).map (fun (u : Int) => (Sum.inl (t, u)))) (fun e => some ((fun (t : Bool) => (Sum.inr t)) e)))

def spec_TreeOk_n16 (x1674 : List Int) (x1687 : Int) (x1754 : Int) (x1755 : Int) : Option ((Int × Int) ⊕ Bool ⊕ Int) :=
  (spec_TreeOk_n3 x1687 x1754 x1755).bind (Sum.elim (fun (t : Unit) => (spec_TreeOk_n15 x1674 x1687 x1754 x1755).map (Sum.elim (fun (t : Int × Int) => (Sum.inl (t.1, t.2))) (fun (t : Bool) => (Sum.inr (Sum.inl t))))) (fun e => some ((fun (t : Int) => (Sum.inr (Sum.inr t))) e)))

def spec_TreeOk_n17 (x1674 : List Int) (x1687 : Int) : Option (Bool ⊕ Int) :=
  nloop (fun (s : Int × Int) => ((spec_TreeOk_n16 x1674 x1687 s.1 s.2).map (Sum.elim (fun (t : Int × Int) => Sum.inl (t.1, t.2)) (Sum.elim (fun (t : Bool) => Sum.inr (Sum.inl t)) (fun (t : Int) => Sum.inr (Sum.inr t)))) : Option ((Int × Int) ⊕ (Bool ⊕ Int)))) LL (0, 0)

def spec_TreeOk_n18 (x1674 : List Int) (x1687 : Int) : Option (Int ⊕ Bool) :=
  (spec_TreeOk_n17 x1674 x1687).map (Sum.elim (fun (t : Bool) => (Sum.inr t)) (fun (t : Int) => (Sum.inl t)))

def spec_TreeOk_n19 (x1674 : List Int) (x1687 : Int) : Option (Int ⊕ Bool) :=
  (spec_TreeOk_n2).bind (fun (t : Unit) => spec_TreeOk_n18 x1674 x1687)

def spec_TreeOk_n20 (x1754 : Int) : Option (Bool) :=
  some (x1754 == 1)

def spec_TreeOk_n21 (x1674 : List Int) (x1687 : Int) : Option (Bool) :=
  (spec_TreeOk_n19 x1674 x1687).bind (Sum.elim (fun (t : Int) => spec_TreeOk_n20 t) (fun e => some ((fun (t : Bool) => t) e)))

def spec_TreeOk_n22 (x1674 : List Int) : Option (Bool) :=
  (spec_TreeOk_n1 x1674).bind (Sum.elim (fun (t : Int) => spec_TreeOk_n21 x1674 t) (fun e => some ((fun (t : Bool) => t) e)))

@[irreducible] def spec_TreeOk (x1674 : List Int) : Option (Bool) :=
  spec_TreeOk_n22 x1674

/-! loop.example/headtrees/spec.CoveredOk -/

def spec_CoveredOk_n1 (x1580 : List Int) : Option (((List (List Int)))) :=
  (spec_l3Arcs x1580).bind fun (v1671 : List (List Int)) => some v1671

def spec_CoveredOk_n2 : Option (Unit) :=
  some ()

def spec_CoveredOk_n3 (x1580 : List Int) (x1581 : Int) (x1855 : Int) (x1671 : List (List Int)) : Option (Int ⊕ Bool ⊕ Unit) :=
  cond (decide (x1855 < (((List.length x1671 : Nat) : Int)))) ((spec_TreeOk x1580).bind fun (v1876 : Bool) => cond v1876 ((spec_l1In x1581 1 (((List.length x1580 : Nat) : Int))).bind fun (v1878 : Bool) => cond v1878 ((inb x1855 (List.length x1671)).bind fun (v1879 : Nat) => (x1671[v1879]?).bind fun (v1880 : List Int) => (idx v1880 0).bind fun (v1881 : Int) => cond (decide (v1881 < x1581)) ((inb x1855 (List.length x1671)).bind fun (v1883 : Nat) => (x1671[v1883]?).bind fun (v1884 : List Int) => (idx v1884 1).bind fun (v1885 : Int) => cond (decide (x1581 < v1885)) (some (Sum.inr (Sum.inl true))) (some (Sum.inl (IntKind.wrap .i64 (x1855 + 1))))) (some (Sum.inl (IntKind.wrap .i64 (x1855 + 1))))) (some (Sum.inr (Sum.inr ())))) (some (Sum.inr (Sum.inr ())))) (some (Sum.inr (Sum.inr ())))

def spec_CoveredOk_n4 (x1580 : List Int) (x1581 : Int) (x1671 : List (List Int)) : Option (Bool ⊕ Unit) :=
  nloop (fun (s : Int) => ((spec_CoveredOk_n3 x1580 x1581 s x1671).map (Sum.elim (fun (t : Int) => Sum.inl t) (Sum.elim (fun (t : Bool) => Sum.inr (Sum.inl t)) (fun (t : Unit) => Sum.inr (Sum.inr t)))) : Option ((Int) ⊕ (Bool ⊕ Unit)))) LL 0

def spec_CoveredOk_n5 (x1580 : List Int) (x1581 : Int) (x1671 : List (List Int)) : Option (Unit ⊕ Bool) :=
  (spec_CoveredOk_n4 x1580 x1581 x1671).map (Sum.elim (fun (t : Bool) => (Sum.inr t)) (fun (t : Unit) => (Sum.inl ())))

def spec_CoveredOk_n6 (x1580 : List Int) (x1581 : Int) (x1671 : List (List Int)) : Option (Unit ⊕ Bool) :=
  (spec_CoveredOk_n2).bind (fun (t : Unit) => spec_CoveredOk_n5 x1580 x1581 x1671)

def spec_CoveredOk_n7 : Option (Bool) :=
  some false

def spec_CoveredOk_n8 (x1580 : List Int) (x1581 : Int) (x1671 : List (List Int)) : Option (Bool) :=
  (spec_CoveredOk_n6 x1580 x1581 x1671).bind (Sum.elim (fun (t : Unit) => spec_CoveredOk_n7) (fun e => some ((fun (t : Bool) => t) e)))

def spec_CoveredOk_n9 (x1580 : List Int) (x1581 : Int) : Option (Bool) :=
  (spec_CoveredOk_n1 x1580).bind (fun (t : (List (List Int))) => spec_CoveredOk_n8 x1580 x1581 t)

@[irreducible] def spec_CoveredOk (x1580 : List Int) (x1581 : Int) : Option (Bool) :=
  spec_CoveredOk_n9 x1580 x1581

/-! loop.example/headtrees/laws.alive -/

def laws_alive_n1 : Option (Bool) :=
  (impl_TreeOk ([0])).bind fun (v1910 : Bool) => cond v1910 ((impl_TreeOk ([1])).bind fun (v1912 : Bool) => some (!v1912)) (some false)

@[irreducible] def laws_alive : Option (Bool) :=
  laws_alive_n1

/-! loop.example/headtrees/laws.FnCoveredOk -/

def laws_FnCoveredOk_n1 (x475 : List Int) : Option (((List Int)) ⊕ Bool) :=
  cond (decide ((((List.length x475 : Nat) : Int)) > 1048576)) (some (Sum.inr true)) ((spec_DrawCoveredOk x475).bind fun (v1895 : Int × (List Int)) => (impl_CoveredOk (v1895.2) (v1895.1)).bind fun (v1898 : Bool) => (spec_CoveredOk (v1895.2) (v1895.1)).bind fun (v1899 : Bool) => cond (v1898 != v1899) (some (Sum.inr false)) ((spec_TreeOk (v1895.2)).bind fun (v1901 : Bool) => cond (!v1901) (cond (!v1898) ((laws_alive).bind fun (v1915 : Bool) => some (Sum.inr v1915)) (some (Sum.inr false))) (some (Sum.inl (v1895.2)))))

def laws_FnCoveredOk_n2 : Option (Unit) :=
  some ()

def laws_FnCoveredOk_n3 (x1950 : Int) (x1897 : List Int) : Option (Int ⊕ Bool ⊕ Unit) :=
  cond (decide (x1950 ≤ (((List.length x1897 : Nat) : Int)))) ((inb (IntKind.wrap .i64 (x1950 - 1)) (List.length x1897)).bind fun (v1970 : Nat) => (x1897[v1970]?).bind fun (v1971 : Int) => cond (decide (v1971 > 0)) ((inb (IntKind.wrap .i64 (x1950 - 1)) (List.length x1897)).bind fun (v1974 : Nat) => (x1897[v1974]?).bind fun (v1975 : Int) => cond (decide (v1975 < (IntKind.wrap .i64 (x1950 - 1)))) ((impl_CoveredOk x1897 (IntKind.wrap .i64 (x1950 - 1))).bind fun (v1979 : Bool) => cond (!v1979) (some (Sum.inr (Sum.inl false))) (some (Sum.inl (IntKind.wrap .i64 (x1950 + 1))))) (some (Sum.inl (IntKind.wrap .i64 (x1950 + 1))))) (some (Sum.inl (IntKind.wrap .i64 (x1950 + 1))))) (some (Sum.inr (Sum.inr ())))

def laws_FnCoveredOk_n4 (x1897 : List Int) : Option (Bool ⊕ Unit) :=
  nloop (fun (s : Int) => ((laws_FnCoveredOk_n3 s x1897).map (Sum.elim (fun (t : Int) => Sum.inl t) (Sum.elim (fun (t : Bool) => Sum.inr (Sum.inl t)) (fun (t : Unit) => Sum.inr (Sum.inr t)))) : Option ((Int) ⊕ (Bool ⊕ Unit)))) LL 2

def laws_FnCoveredOk_n5 (x1897 : List Int) : Option (Unit ⊕ Bool) :=
  (laws_FnCoveredOk_n4 x1897).map (Sum.elim (fun (t : Bool) => (Sum.inr t)) (fun (t : Unit) => (Sum.inl ())))

def laws_FnCoveredOk_n6 (x1897 : List Int) : Option (Unit ⊕ Bool) :=
  (laws_FnCoveredOk_n2).bind (fun (t : Unit) => laws_FnCoveredOk_n5 x1897)

def laws_FnCoveredOk_n7 (x1897 : List Int) : Option (Bool) :=
  (impl_CoveredOk x1897 1).bind fun (v1991 : Bool) => cond (!v1991) ((impl_CoveredOk x1897 (((List.length x1897 : Nat) : Int))).bind fun (v1994 : Bool) => cond (!v1994) ((laws_alive).bind fun (v1996 : Bool) => some v1996) (some false)) (some false)

def laws_FnCoveredOk_n8 (x1897 : List Int) : Option (Bool) :=
  (laws_FnCoveredOk_n6 x1897).bind (Sum.elim (fun (t : Unit) => laws_FnCoveredOk_n7 x1897) (fun e => some ((fun (t : Bool) => t) e)))

def laws_FnCoveredOk_n9 (x475 : List Int) : Option (Bool) :=
  (laws_FnCoveredOk_n1 x475).bind (Sum.elim (fun (t : (List Int)) => laws_FnCoveredOk_n8 t) (fun e => some ((fun (t : Bool) => t) e)))

@[irreducible] def laws_FnCoveredOk (x475 : List Int) : Option (Bool) :=
  laws_FnCoveredOk_n9 x475

/-! loop.example/headtrees/laws.toIntS -/

def laws_toIntS_n1 (x2006 : List Int) : Option (((List Int))) :=
  (mk (((List.length x2006 : Nat) : Int)) (((List.length x2006 : Nat) : Int))).bind fun (v2008 : Nat) => some (List.replicate v2008 (0 : Int))

def laws_toIntS_n2 : Option (Unit) :=
  some ()

def laws_toIntS_n3 (x2006 : List Int) (x2023 : Int) (x2024 : List Int) : Option ((Int × (List Int)) ⊕ ((List Int))) :=
  cond (decide (x2023 < (((List.length x2006 : Nat) : Int)))) ((idx x2006 x2023).bind fun (v2034 : Int) => (inb x2023 (List.length x2024)).bind fun (v2035 : Nat) => some (Sum.inl ((IntKind.wrap .i64 (x2023 + 1)), (x2024.set v2035 v2034)))) (some (Sum.inr x2024))

def laws_toIntS_n4 (x2006 : List Int) (x2009 : List Int) : Option (((List Int))) :=
  nloop (fun (s : Int × (List Int)) => ((laws_toIntS_n3 x2006 s.1 s.2).map (Sum.elim (fun (t : Int × (List Int)) => Sum.inl (t.1, t.2)) (fun (t : (List Int)) => Sum.inr t)) : Option ((Int × (List Int)) ⊕ (((List Int)))))) LL (0, x2009)

def laws_toIntS_n5 (x2006 : List Int) (x2009 : List Int) : Option (((List Int))) :=
  (laws_toIntS_n4 x2006 x2009).map (fun (t : (List Int)) => t)

def laws_toIntS_n6 (x2006 : List Int) (x2009 : List Int) : Option (((List Int))) :=
  (laws_toIntS_n2).bind (fun (t : Unit) => laws_toIntS_n5 x2006 x2009)

def laws_toIntS_n7 (x2024 : List Int) : Option (((List Int))) :=
  some x2024

def laws_toIntS_n8 (x2006 : List Int) (x2009 : List Int) : Option (((List Int))) :=
  (laws_toIntS_n6 x2006 x2009).bind (fun (t : (List Int)) => laws_toIntS_n7 t)

def laws_toIntS_n9 (x2006 : List Int) : Option (((List Int))) :=
  (laws_toIntS_n1 x2006).bind (fun (t : (List Int)) => laws_toIntS_n8 x2006 t)

@[irreducible] def laws_toIntS (x2006 : List Int) : Option ((List Int)) :=
  laws_toIntS_n9 x2006

/-! loop.example/headtrees/spec.SidesOf -/

def spec_SidesOf_n1 (x2039 : List Int) (x2040 : Int) : Option (Unit ⊕ (Int × Int × Bool)) :=
  (spec_TreeOk x2039).bind fun (v2051 : Bool) => cond (!v2051) (some (Sum.inr ((-1), (-1), false))) ((spec_l1In x2040 1 (((List.length x2039 : Nat) : Int))).bind fun (v2054 : Bool) => cond (!v2054) (some (Sum.inr ((-1), (-1), false))) (some (Sum.inl ())))

def spec_SidesOf_n2 : Option (Unit) :=
  some ()

def spec_SidesOf_n3 (x2039 : List Int) (x2040 : Int) (x2114 : Int) (x2115 : Int) (x2116 : Int) : Option ((Int × Int × Int) ⊕ (Int × Int)) :=
  cond (decide (x2116 < (((List.length x2039 : Nat) : Int)))) ((idx x2039 x2116).bind fun (v2143 : Int) => cond (v2143 == x2040) (cond (decide ((IntKind.wrap .i64 (x2116 + 1)) < x2040)) ((idx x2039 x2116).bind fun (v2148 : Int) => cond (v2148 == x2040) (cond (decide ((IntKind.wrap .i64 (x2116 + 1)) > x2040)) (some (Sum.inl ((IntKind.wrap .i64 (x2114 + 1)), (IntKind.wrap .i64 (x2115 + 1)), (IntKind.wrap .i64 (x2116 + 1))))) (some (Sum.inl ((IntKind.wrap .i64 (x2114 + 1)), x2115, (IntKind.wrap .i64 (x2116 + 1)))))) (some (Sum.inl ((IntKind.wrap .i64 (x2114 + 1)), x2115, (IntKind.wrap .i64 (x2116 + 1)))))) ((idx x2039 x2116).bind fun (v2156 : Int) => cond (v2156 == x2040) (cond (decide ((IntKind.wrap .i64 (x2116 + 1)) > x2040)) (some (Sum.inl (x2114, (IntKind.wrap .i64 (x2115 + 1)), (IntKind.wrap .i64 (x2116 + 1))))) (some (Sum.inl (x2114, x2115, (IntKind.wrap .i64 (x2116 + 1)))))) (some (Sum.inl (x2114, x2115, (IntKind.wrap .i64 (x2116 + 1))))))) ((idx x2039 x2116).bind fun (v2164 : Int) => cond (v2164 == x2040) (cond (decide ((IntKind.wrap .i64 (x2116 + 1)) > x2040)) (some (Sum.inl (x2114, (IntKind.wrap .i64 (x2115 + 1)), (IntKind.wrap .i64 (x2116 + 1))))) (some (Sum.inl (x2114, x2115, (IntKind.wrap .i64 (x2116 + 1)))))) (some (Sum.inl (x2114, x2115, (IntKind.wrap .i64 (x2116 + 1))))))) (some (Sum.inr (x2114, x2115)))

def spec_SidesOf_n4 (x2039 : List Int) (x2040 : Int) : Option ((Int × Int)) :=
  nloop (fun (s : Int × Int × Int) => ((spec_SidesOf_n3 x2039 x2040 s.1 s.2.1 s.2.2).map (Sum.elim (fun (t : Int × Int × Int) => Sum.inl (t.1, t.2.1, t.2.2)) (fun (t : Int × Int) => Sum.inr t)) : Option ((Int × Int × Int) ⊕ ((Int × Int))))) LL (0, 0, 0)

def spec_SidesOf_n5 (x2039 : List Int) (x2040 : Int) : Option ((Int × Int)) :=
  (spec_SidesOf_n4 x2039 x2040).map (fun (t : Int × Int) => (t.1, t.2))

def spec_SidesOf_n6 (x2039 : List Int) (x2040 : Int) : Option ((Int × Int)) :=
  (spec_SidesOf_n2).bind (fun (t : Unit) => spec_SidesOf_n5 x2039 x2040)

def spec_SidesOf_n7 (x2114 : Int) (x2115 : Int) : Option ((Int × Int × Bool)) :=
  some (x2114, x2115, true)

def spec_SidesOf_n8 (x2039 : List Int) (x2040 : Int) : Option ((Int × Int × Bool)) :=
  (spec_SidesOf_n6 x2039 x2040).bind (fun (t : Int × Int) => spec_SidesOf_n7 t.1 t.2)

def spec_SidesOf_n9 (x2039 : List Int) (x2040 : Int) : Option ((Int × Int × Bool)) :=
  (spec_SidesOf_n1 x2039 x2040).bind (Sum.elim (fun (t : Unit) => spec_SidesOf_n8 x2039 x2040) (fun e => some ((fun (t : Int × Int × Bool) => t) e)))

@[irreducible] def spec_SidesOf (x2039 : List Int) (x2040 : Int) : Option (Int × Int × Bool) :=
  spec_SidesOf_n9 x2039 x2040

/-! loop.example/headtrees/impl.only -/

def impl_only_n1 (x2213 : Int) : Option (Int) :=
  (shl .u64 1 (IntKind.wrap .i64 (x2213 - 1))).bind fun (v2217 : Int) => some v2217

@[irreducible] def impl_only (x2213 : Int) : Option (Int) :=
  impl_only_n1 x2213

/-! loop.example/headtrees/impl.dependents -/

def impl_dependents_n1 : Option (Unit) :=
  some ()

def impl_dependents_n2 (x2204 : List Int) : Option (Int) :=
  some (((List.length x2204 : Nat) : Int))

def impl_dependents_n3 (x2204 : List Int) (x2205 : Int) (x2230 : Int) (x2206 : Int) (x2231 : Int) : Option ((Int × Int) ⊕ Int) :=
  cond (decide (x2231 < x2206)) ((idx x2204 x2231).bind fun (v2241 : Int) => cond (v2241 == x2205) ((impl_only (IntKind.wrap .i64 (x2231 + 1))).bind fun (v2244 : Int) => some (Sum.inl ((ior .u64 x2230 v2244), (IntKind.wrap .i64 (x2231 + 1))))) (some (Sum.inl (x2230, (IntKind.wrap .i64 (x2231 + 1)))))) (some (Sum.inr x2230))

def impl_dependents_n4 (x2204 : List Int) (x2205 : Int) (x2206 : Int) : Option (Int) :=
  nloop (fun (s : Int × Int) => ((impl_dependents_n3 x2204 x2205 s.1 x2206 s.2).map (Sum.elim (fun (t : Int × Int) => Sum.inl (t.1, t.2)) (fun (t : Int) => Sum.inr t)) : Option ((Int × Int) ⊕ (Int)))) LL (0, 0)

def impl_dependents_n5 (x2204 : List Int) (x2205 : Int) (x2206 : Int) : Option (Int) :=
  (impl_dependents_n4 x2204 x2205 x2206).map (fun (t : Int) => t)

def impl_dependents_n6 (x2204 : List Int) (x2205 : Int) : Option (Int) :=
  (impl_dependents_n2 x2204).bind (fun (t : Int) => impl_dependents_n5 x2204 x2205 t)

def impl_dependents_n7 (x2230 : Int) : Option (Int) :=
  some x2230

def impl_dependents_n8 (x2204 : List Int) (x2205 : Int) : Option (Int) :=
  (impl_dependents_n6 x2204 x2205).bind (fun (t : Int) => impl_dependents_n7 t)

def impl_dependents_n9 (x2204 : List Int) (x2205 : Int) : Option (Int) :=
  (impl_dependents_n1).bind (fun (t : Unit) => impl_dependents_n8 x2204 x2205)

@[irreducible] def impl_dependents (x2204 : List Int) (x2205 : Int) : Option (Int) :=
  impl_dependents_n9 x2204 x2205

/-! loop.example/headtrees/impl.before -/

def impl_before_n1 (x2254 : Int) : Option (Int) :=
  (impl_only x2254).bind fun (v2257 : Int) => some (IntKind.wrap .u64 (v2257 - 1))

@[irreducible] def impl_before (x2254 : Int) : Option (Int) :=
  impl_before_n1 x2254

/-! math/bits.OnesCount64 -/

def math_bits_OnesCount64_n1 (x2263 : Int) : Option (Int) :=
  (shr .u64 x2263 1).bind fun (v2264 : Int) => some (IntKind.wrap .u64 ((iand .u64 v2264 6148914691236517205) + (iand .u64 x2263 6148914691236517205)))

def math_bits_OnesCount64_n2 (x2268 : Int) : Option (Int) :=
  (shr .u64 x2268 2).bind fun (v2282 : Int) => some (IntKind.wrap .u64 ((iand .u64 v2282 3689348814741910323) + (iand .u64 x2268 3689348814741910323)))

def math_bits_OnesCount64_n3 (x2285 : Int) : Option (Int) :=
  (shr .u64 x2285 4).bind fun (v2290 : Int) => some (iand .u64 (IntKind.wrap .u64 (v2290 + x2285)) 1085102592571150095)

def math_bits_OnesCount64_n4 (x2292 : Int) : Option (Int) :=
  (shr .u64 x2292 8).bind fun (v2295 : Int) => some (IntKind.wrap .u64 (x2292 + v2295))

def math_bits_OnesCount64_n5 (x2296 : Int) : Option (Int) :=
  (shr .u64 x2296 16).bind fun (v2300 : Int) => some (IntKind.wrap .u64 (x2296 + v2300))

def math_bits_OnesCount64_n6 (x2301 : Int) : Option (Int) :=
  (shr .u64 x2301 32).bind fun (v2305 : Int) => some (IntKind.wrap .u64 (x2301 + v2305))

def math_bits_OnesCount64_n7 (x2306 : Int) : Option (Int) :=
  some (iand .i64 (IntKind.wrap .i64 x2306) 127)

def math_bits_OnesCount64_n8 (x2311 : Int) : Option (Int) :=
  some x2311

def math_bits_OnesCount64_n9 (x2306 : Int) : Option (Int) :=
  (math_bits_OnesCount64_n7 x2306).bind (fun (t : Int) => math_bits_OnesCount64_n8 t)

def math_bits_OnesCount64_n10 (x2301 : Int) : Option (Int) :=
  (math_bits_OnesCount64_n6 x2301).bind (fun (t : Int) => math_bits_OnesCount64_n9 t)

def math_bits_OnesCount64_n11 (x2296 : Int) : Option (Int) :=
  (math_bits_OnesCount64_n5 x2296).bind (fun (t : Int) => math_bits_OnesCount64_n10 t)

def math_bits_OnesCount64_n12 (x2292 : Int) : Option (Int) :=
  (math_bits_OnesCount64_n4 x2292).bind (fun (t : Int) => math_bits_OnesCount64_n11 t)

def math_bits_OnesCount64_n13 (x2285 : Int) : Option (Int) :=
  (math_bits_OnesCount64_n3 x2285).bind (fun (t : Int) => math_bits_OnesCount64_n12 t)

def math_bits_OnesCount64_n14 (x2268 : Int) : Option (Int) :=
  (math_bits_OnesCount64_n2 x2268).bind (fun (t : Int) => math_bits_OnesCount64_n13 t)

def math_bits_OnesCount64_n15 (x2263 : Int) : Option (Int) :=
  (math_bits_OnesCount64_n1 x2263).bind (fun (t : Int) => math_bits_OnesCount64_n14 t)

@[irreducible] def math_bits_OnesCount64 (x2263 : Int) : Option (Int) :=
  math_bits_OnesCount64_n15 x2263

/-! math/bits.OnesCount -/

def math_bits_OnesCount_n1 (x2262 : Int) : Option (Int) :=
  (math_bits_OnesCount64 x2262).bind fun (v2313 : Int) => some v2313

@[irreducible] def math_bits_OnesCount (x2262 : Int) : Option (Int) :=
  math_bits_OnesCount_n1 x2262

/-! (loop.example/headtrees/impl.wordSet).count -/

def impl_wordSet_count_n1 (x2261 : Int) : Option (Int) :=
  (math_bits_OnesCount x2261).bind fun (v2315 : Int) => some v2315

@[irreducible] def impl_wordSet_count (x2261 : Int) : Option (Int) :=
  impl_wordSet_count_n1 x2261

/-! loop.example/headtrees/impl.SidesOf -/

def impl_SidesOf_n1 (x2198 : List Int) (x2199 : Int) : Option ((Int × Int × Bool)) :=
  (impl_wordOk x2198 x2199).bind fun (v2320 : Bool) => cond (!v2320) (some ((-1), (-1), false)) ((impl_dependents x2198 x2199).bind fun (v2322 : Int) => (impl_before x2199).bind fun (v2323 : Int) => (impl_wordSet_count (iand .u64 v2322 v2323)).bind fun (v2325 : Int) => (impl_before x2199).bind fun (v2326 : Int) => (impl_wordSet_count (iandn .u64 v2322 v2326)).bind fun (v2328 : Int) => some (v2325, v2328, true))

@[irreducible] def impl_SidesOf (x2198 : List Int) (x2199 : Int) : Option (Int × Int × Bool) :=
  impl_SidesOf_n1 x2198 x2199

/-! loop.example/headtrees/laws.eqIntS -/

def laws_eqIntS_n1 (x2367 : List Int) (x2368 : List Int) : Option (Unit ⊕ Bool) :=
  cond ((((List.length x2367 : Nat) : Int)) != (((List.length x2368 : Nat) : Int))) (some (Sum.inr false)) (some (Sum.inl ()))

def laws_eqIntS_n2 : Option (Unit) :=
  some ()

def laws_eqIntS_n3 (x2367 : List Int) (x2368 : List Int) (x2385 : Int) : Option (Int ⊕ Bool ⊕ Unit) :=
  cond (decide (x2385 < (((List.length x2367 : Nat) : Int)))) ((idx x2367 x2385).bind fun (v2395 : Int) => (idx x2368 x2385).bind fun (v2396 : Int) => cond (v2395 != v2396) (some (Sum.inr (Sum.inl false))) (some (Sum.inl (IntKind.wrap .i64 (x2385 + 1))))) (some (Sum.inr (Sum.inr ())))

def laws_eqIntS_n4 (x2367 : List Int) (x2368 : List Int) : Option (Bool ⊕ Unit) :=
  nloop (fun (s : Int) => ((laws_eqIntS_n3 x2367 x2368 s).map (Sum.elim (fun (t : Int) => Sum.inl t) (Sum.elim (fun (t : Bool) => Sum.inr (Sum.inl t)) (fun (t : Unit) => Sum.inr (Sum.inr t)))) : Option ((Int) ⊕ (Bool ⊕ Unit)))) LL 0

def laws_eqIntS_n5 (x2367 : List Int) (x2368 : List Int) : Option (Unit ⊕ Bool) :=
  (laws_eqIntS_n4 x2367 x2368).map (Sum.elim (fun (t : Bool) => (Sum.inr t)) (fun (t : Unit) => (Sum.inl ())))

def laws_eqIntS_n6 (x2367 : List Int) (x2368 : List Int) : Option (Unit ⊕ Bool) :=
  (laws_eqIntS_n2).bind (fun (t : Unit) => laws_eqIntS_n5 x2367 x2368)

def laws_eqIntS_n7 : Option (Bool) :=
  some true

def laws_eqIntS_n8 (x2367 : List Int) (x2368 : List Int) : Option (Bool) :=
  (laws_eqIntS_n6 x2367 x2368).bind (Sum.elim (fun (t : Unit) => laws_eqIntS_n7) (fun e => some ((fun (t : Bool) => t) e)))

def laws_eqIntS_n9 (x2367 : List Int) (x2368 : List Int) : Option (Bool) :=
  (laws_eqIntS_n1 x2367 x2368).bind (Sum.elim (fun (t : Unit) => laws_eqIntS_n8 x2367 x2368) (fun e => some ((fun (t : Bool) => t) e)))

@[irreducible] def laws_eqIntS (x2367 : List Int) (x2368 : List Int) : Option (Bool) :=
  laws_eqIntS_n9 x2367 x2368

/-! loop.example/headtrees/laws.FnExactSidesOf -/

def laws_FnExactSidesOf_n1 (x2000 : List Int) (x2001 : Int) : Option (Bool) :=
  cond (decide ((((List.length x2000 : Nat) : Int)) > 1048576)) (some true) ((laws_toIntS x2000).bind fun (v2422 : List Int) => (spec_SidesOf v2422 x2001).bind fun (v2423 : Int × Int × Bool) => (laws_toIntS x2000).bind fun (v2427 : List Int) => (impl_SidesOf v2427 x2001).bind fun (v2428 : Int × Int × Bool) => cond ((v2428.1) != (v2423.1)) (some false) (cond ((v2428.2.1) != (v2423.2.1)) (some false) (cond ((v2428.2.2) != (v2423.2.2)) (some false) ((laws_toIntS x2000).bind fun (v2435 : List Int) => (laws_eqIntS v2427 v2435).bind fun (v2436 : Bool) => cond (!v2436) (some false) (some true)))))

@[irreducible] def laws_FnExactSidesOf (x2000 : List Int) (x2001 : Int) : Option (Bool) :=
  laws_FnExactSidesOf_n1 x2000 x2001

/-! loop.example/headtrees/laws.FnExactCrossOk -/

def laws_FnExactCrossOk_n1 (x2443 : Int) (x2444 : Int) (x2445 : Int) (x2446 : Int) : Option (Bool) :=
  (spec_CrossOk x2443 x2444 x2445 x2446).bind fun (v2456 : Bool) => (impl_CrossOk x2443 x2444 x2445 x2446).bind fun (v2457 : Bool) => cond (v2457 != v2456) (some false) (some true)

@[irreducible] def laws_FnExactCrossOk (x2443 : Int) (x2444 : Int) (x2445 : Int) (x2446 : Int) : Option (Bool) :=
  laws_FnExactCrossOk_n1 x2443 x2444 x2445 x2446

/-! loop.example/headtrees/spec.CrossingsOf -/

def spec_CrossingsOf_n1 (x2467 : List Int) : Option (((List (List Int))) ⊕ Int) :=
  (spec_TreeOk x2467).bind fun (v2472 : Bool) => cond (!v2472) (some (Sum.inr (-1))) ((spec_l3Arcs x2467).bind fun (v2474 : List (List Int)) => some (Sum.inl v2474))

def spec_CrossingsOf_n2 : Option (Unit) :=
  some ()

def spec_CrossingsOf_n3 (x2550 : Int) (x2551 : Int) (x2474 : List (List Int)) : Option (Unit ⊕ Int) :=
  cond (decide (x2551 < (((List.length x2474 : Nat) : Int)))) (some (Sum.inl ())) (some (Sum.inr x2550))

def spec_CrossingsOf_n4 : Option (Unit) :=
  some ()

def spec_CrossingsOf_n5 (x2589 : Int) (x2551 : Int) (x2590 : Int) (x2474 : List (List Int)) : Option ((Int × Int) ⊕ Int) :=
  cond (decide (x2590 < x2551)) ((inb x2590 (List.length x2474)).bind fun (v2608 : Nat) => (x2474[v2608]?).bind fun (v2609 : List Int) => (idx v2609 0).bind fun (v2610 : Int) => (inb x2590 (List.length x2474)).bind fun (v2611 : Nat) => (x2474[v2611]?).bind fun (v2612 : List Int) => (idx v2612 1).bind fun (v2613 : Int) => (inb x2551 (List.length x2474)).bind fun (v2614 : Nat) => (x2474[v2614]?).bind fun (v2615 : List Int) => (idx v2615 0).bind fun (v2616 : Int) => (inb x2551 (List.length x2474)).bind fun (v2617 : Nat) => (x2474[v2617]?).bind fun (v2618 : List Int) => (idx v2618 1).bind fun (v2619 : Int) => (spec_CrossOk v2610 v2613 v2616 v2619).bind fun (v2620 : Bool) => cond v2620 (some (Sum.inl ((IntKind.wrap .i64 (x2589 + 1)), (IntKind.wrap .i64 (x2590 + 1))))) (some (Sum.inl (x2589, (IntKind.wrap .i64 (x2590 + 1)))))) (some (Sum.inr x2589))

def spec_CrossingsOf_n6 (x2550 : Int) (x2551 : Int) (x2474 : List (List Int)) : Option (Int) :=
  nloop (fun (s : Int × Int) => ((spec_CrossingsOf_n5 s.1 x2551 s.2 x2474).map (Sum.elim (fun (t : Int × Int) => Sum.inl (t.1, t.2)) (fun (t : Int) => Sum.inr t)) : Option ((Int × Int) ⊕ (Int)))) LL (x2550, 0)

def spec_CrossingsOf_n7 (x2550 : Int) (x2551 : Int) (x2474 : List (List Int)) : Option (Int) :=
  (spec_CrossingsOf_n6 x2550 x2551 x2474).map (fun (t : Int) => t)

def spec_CrossingsOf_n8 (x2550 : Int) (x2551 : Int) (x2474 : List (List Int)) : Option (Int) :=
  (spec_CrossingsOf_n4).bind (fun (t : Unit) => spec_CrossingsOf_n7 x2550 x2551 x2474)

def spec_CrossingsOf_n9 (x2550 : Int) (x2551 : Int) (x2474 : List (List Int)) : Option (Int) :=
  (spec_CrossingsOf_n8 x2550 x2551 x2474).map (fun (t : Int) => t)

def spec_CrossingsOf_n10 (x2551 : Int) : Option (Int) :=
  some (IntKind.wrap .i64 (x2551 + 1))

def spec_CrossingsOf_n11 (x2550 : Int) (x2551 : Int) (x2474 : List (List Int)) : Option ((Int × Int)) :=
  (spec_CrossingsOf_n9 x2550 x2551 x2474).bind (fun (t : Int) => (spec_CrossingsOf_n10 x2551).map (fun (u : Int) => (t, u)))

def spec_CrossingsOf_n12 (x2550 : Int) (x2551 : Int) (x2474 : List (List Int)) : Option ((Int × Int) ⊕ Int) :=
  (spec_CrossingsOf_n3 x2550 x2551 x2474).bind (Sum.elim (fun (t : Unit) => (spec_CrossingsOf_n11 x2550 x2551 x2474).map (fun (t : Int × Int) => (Sum.inl (t.1, t.2)))) (fun e => some ((fun (t : Int) => (Sum.inr t)) e)))

def spec_CrossingsOf_n13 (x2474 : List (List Int)) : Option (Int) :=
  nloop (fun (s : Int × Int) => ((spec_CrossingsOf_n12 s.1 s.2 x2474).map (Sum.elim (fun (t : Int × Int) => Sum.inl (t.1, t.2)) (fun (t : Int) => Sum.inr t)) : Option ((Int × Int) ⊕ (Int)))) LL (0, 0)

def spec_CrossingsOf_n14 (x2474 : List (List Int)) : Option (Int) :=
  (spec_CrossingsOf_n13 x2474).map (fun (t : Int) => t)

def spec_CrossingsOf_n15 (x2474 : List (List Int)) : Option (Int) :=
  (spec_CrossingsOf_n2).bind (fun (t : Unit) => spec_CrossingsOf_n14 x2474)

def spec_CrossingsOf_n16 (x2550 : Int) : Option (Int) :=
  some x2550

def spec_CrossingsOf_n17 (x2474 : List (List Int)) : Option (Int) :=
  (spec_CrossingsOf_n15 x2474).bind (fun (t : Int) => spec_CrossingsOf_n16 t)

def spec_CrossingsOf_n18 (x2467 : List Int) : Option (Int) :=
  (spec_CrossingsOf_n1 x2467).bind (Sum.elim (fun (t : (List (List Int))) => spec_CrossingsOf_n17 t) (fun e => some ((fun (t : Int) => t) e)))

@[irreducible] def spec_CrossingsOf (x2467 : List Int) : Option (Int) :=
  spec_CrossingsOf_n18 x2467

/-! loop.example/headtrees/impl.countPairs[loop.example/headtrees/impl.arc] -/

def impl_countPairs_impl_arc_n1 : Option (Unit) :=
  some ()

def impl_countPairs_impl_arc_n2 (x2645 : List (Int × Int × Unit)) : Option (Int) :=
  some (((List.length x2645 : Nat) : Int))

def impl_countPairs_impl_arc_n3 (x2711 : Int) (x2646 : Int) (x2712 : Int) : Option (Unit ⊕ Int) :=
  cond (decide (x2712 < x2646)) (some (Sum.inl ())) (some (Sum.inr x2711))

def impl_countPairs_impl_arc_n4 (x2645 : List (Int × Int × Unit)) (x2712 : Int) : Option (((List (Int × Int × Unit)) × Int × Int × Int)) :=
  (idx x2645 x2712).bind fun (v2720 : Int × Int × Unit) => (inc (IntKind.wrap .i64 (x2712 + 1)) (List.length x2645)).bind fun (v2727 : Nat) => some (((x2645.take (List.length x2645)).drop v2727), (((List.length ((x2645.take (List.length x2645)).drop v2727) : Nat) : Int)), (v2720.1), ((v2720.2).1))

def impl_countPairs_impl_arc_n5 (x2752 : Int) (x2728 : List (Int × Int × Unit)) (x2729 : Int) (x2753 : Int) (x2721 : Int) (x2723 : Int) : Option ((Int × Int) ⊕ Int) :=
  cond (decide (x2753 < x2729)) ((idx x2728 x2753).bind fun (v2765 : Int × Int × Unit) => (impl_arc_crosses x2721 x2723 (v2765.1) ((v2765.2).1)).bind fun (v2770 : Bool) => cond v2770 (some (Sum.inl ((IntKind.wrap .i64 (x2752 + 1)), (IntKind.wrap .i64 (x2753 + 1))))) (some (Sum.inl (x2752, (IntKind.wrap .i64 (x2753 + 1)))))) (some (Sum.inr x2752))

def impl_countPairs_impl_arc_n6 (x2711 : Int) (x2728 : List (Int × Int × Unit)) (x2729 : Int) (x2721 : Int) (x2723 : Int) : Option (Int) :=
  nloop (fun (s : Int × Int) => ((impl_countPairs_impl_arc_n5 s.1 x2728 x2729 s.2 x2721 x2723).map (Sum.elim (fun (t : Int × Int) => Sum.inl (t.1, t.2)) (fun (t : Int) => Sum.inr t)) : Option ((Int × Int) ⊕ (Int)))) LL (x2711, 0)

def impl_countPairs_impl_arc_n7 (x2711 : Int) (x2728 : List (Int × Int × Unit)) (x2729 : Int) (x2721 : Int) (x2723 : Int) : Option (Int) :=
  (impl_countPairs_impl_arc_n6 x2711 x2728 x2729 x2721 x2723).map (fun (t : Int) => t)

def impl_countPairs_impl_arc_n8 (x2645 : List (Int × Int × Unit)) (x2711 : Int) (x2712 : Int) : Option (Int) :=
  (impl_countPairs_impl_arc_n4 x2645 x2712).bind (fun (t : (List (Int × Int × Unit)) × Int × Int × Int) => impl_countPairs_impl_arc_n7 x2711 t.1 t.2.1 t.2.2.1 t.2.2.2)

def impl_countPairs_impl_arc_n9 (x2645 : List (Int × Int × Unit)) (x2711 : Int) (x2712 : Int) : Option (Int) :=
  (impl_countPairs_impl_arc_n8 x2645 x2711 x2712).map (fun (t : Int) => t)

def impl_countPairs_impl_arc_n10 (x2712 : Int) : Option (Int) :=
  some (IntKind.wrap .i64 (x2712 + 1))

def impl_countPairs_impl_arc_n11 (x2645 : List (Int × Int × Unit)) (x2711 : Int) (x2712 : Int) : Option ((Int × Int)) :=
  (impl_countPairs_impl_arc_n9 x2645 x2711 x2712).bind (fun (t : Int) => (impl_countPairs_impl_arc_n10 x2712).map (fun (u : Int) => (t, u)))

def impl_countPairs_impl_arc_n12 (x2645 : List (Int × Int × Unit)) (x2711 : Int) (x2646 : Int) (x2712 : Int) : Option ((Int × Int) ⊕ Int) :=
  (impl_countPairs_impl_arc_n3 x2711 x2646 x2712).bind (Sum.elim (fun (t : Unit) => (impl_countPairs_impl_arc_n11 x2645 x2711 x2712).map (fun (t : Int × Int) => (Sum.inl (t.1, t.2)))) (fun e => some ((fun (t : Int) => (Sum.inr t)) e)))

def impl_countPairs_impl_arc_n13 (x2645 : List (Int × Int × Unit)) (x2646 : Int) : Option (Int) :=
  nloop (fun (s : Int × Int) => ((impl_countPairs_impl_arc_n12 x2645 s.1 x2646 s.2).map (Sum.elim (fun (t : Int × Int) => Sum.inl (t.1, t.2)) (fun (t : Int) => Sum.inr t)) : Option ((Int × Int) ⊕ (Int)))) LL (0, 0)

def impl_countPairs_impl_arc_n14 (x2645 : List (Int × Int × Unit)) (x2646 : Int) : Option (Int) :=
  (impl_countPairs_impl_arc_n13 x2645 x2646).map (fun (t : Int) => t)

def impl_countPairs_impl_arc_n15 (x2645 : List (Int × Int × Unit)) : Option (Int) :=
  (impl_countPairs_impl_arc_n2 x2645).bind (fun (t : Int) => impl_countPairs_impl_arc_n14 x2645 t)

def impl_countPairs_impl_arc_n16 (x2711 : Int) : Option (Int) :=
  some x2711

def impl_countPairs_impl_arc_n17 (x2645 : List (Int × Int × Unit)) : Option (Int) :=
  (impl_countPairs_impl_arc_n15 x2645).bind (fun (t : Int) => impl_countPairs_impl_arc_n16 t)

def impl_countPairs_impl_arc_n18 (x2645 : List (Int × Int × Unit)) : Option (Int) :=
  (impl_countPairs_impl_arc_n1).bind (fun (t : Unit) => impl_countPairs_impl_arc_n17 x2645)

@[irreducible] def impl_countPairs_impl_arc (x2645 : List (Int × Int × Unit)) : Option (Int) :=
  impl_countPairs_impl_arc_n18 x2645

/-! loop.example/headtrees/impl.CrossingsOf -/

def impl_CrossingsOf_n1 (x2639 : List Int) : Option (Int) :=
  (impl_TreeOk x2639).bind fun (v2778 : Bool) => cond (!v2778) (some (-1)) ((impl_arcsOf x2639).bind fun (v2780 : List (Int × Int × Unit)) => (impl_countPairs_impl_arc v2780).bind fun (v2781 : Int) => some v2781)

@[irreducible] def impl_CrossingsOf (x2639 : List Int) : Option (Int) :=
  impl_CrossingsOf_n1 x2639

/-! loop.example/headtrees/laws.FnExactCrossingsOf -/

def laws_FnExactCrossingsOf_n1 (x2461 : List Int) : Option (Bool) :=
  cond (decide ((((List.length x2461 : Nat) : Int)) > 1048576)) (some true) ((laws_toIntS x2461).bind fun (v2813 : List Int) => (spec_CrossingsOf v2813).bind fun (v2814 : Int) => (laws_toIntS x2461).bind fun (v2815 : List Int) => (impl_CrossingsOf v2815).bind fun (v2816 : Int) => cond (v2816 != v2814) (some false) ((laws_toIntS x2461).bind fun (v2818 : List Int) => (laws_eqIntS v2815 v2818).bind fun (v2819 : Bool) => cond (!v2819) (some false) (some true)))

@[irreducible] def laws_FnExactCrossingsOf (x2461 : List Int) : Option (Bool) :=
  laws_FnExactCrossingsOf_n1 x2461

/-! loop.example/headtrees/laws.FnExactCoveredOk -/

def laws_FnExactCoveredOk_n1 (x2824 : List Int) (x2825 : Int) : Option (Bool) :=
  cond (decide ((((List.length x2824 : Nat) : Int)) > 1048576)) (some true) ((laws_toIntS x2824).bind fun (v2872 : List Int) => (spec_CoveredOk v2872 x2825).bind fun (v2873 : Bool) => (laws_toIntS x2824).bind fun (v2874 : List Int) => (impl_CoveredOk v2874 x2825).bind fun (v2875 : Bool) => cond (v2875 != v2873) (some false) ((laws_toIntS x2824).bind fun (v2877 : List Int) => (laws_eqIntS v2874 v2877).bind fun (v2878 : Bool) => cond (!v2878) (some false) (some true)))

@[irreducible] def laws_FnExactCoveredOk (x2824 : List Int) (x2825 : Int) : Option (Bool) :=
  laws_FnExactCoveredOk_n1 x2824 x2825

/-! loop.example/headtrees/spec.BackOf -/

def spec_BackOf_n1 (x2888 : List Int) : Option (Int) :=
  some (((List.length x2888 : Nat) : Int))

def spec_BackOf_n2 (x2889 : Int) : Option (Int) :=
  some (IntKind.wrap .i64 (x2889 - 1))

def spec_BackOf_n3 (x2888 : List Int) (x2889 : Int) (x2927 : Int) (x2928 : List Int) : Option ((Int × (List Int)) ⊕ ((List Int))) :=
  cond (decide (x2927 ≥ 0)) ((spec_TreeOk x2888).bind fun (v2947 : Bool) => cond v2947 ((idx x2888 x2927).bind fun (v2948 : Int) => cond (v2948 == 0) ((room ((List.length x2928) + List.length ([0]))).bind fun (v2952 : Unit) => some (Sum.inl ((IntKind.wrap .i64 (x2927 - 1)), (x2928 ++ ([0]))))) ((idx x2888 x2927).bind fun (v2956 : Int) => (room ((List.length x2928) + List.length ([(IntKind.wrap .i64 ((IntKind.wrap .i64 (x2889 + 1)) - v2956))]))).bind fun (v2960 : Unit) => some (Sum.inl ((IntKind.wrap .i64 (x2927 - 1)), (x2928 ++ ([(IntKind.wrap .i64 ((IntKind.wrap .i64 (x2889 + 1)) - v2956))])))))) (some (Sum.inr x2928))) (some (Sum.inr x2928))

def spec_BackOf_n4 (x2888 : List Int) (x2889 : Int) (x2890 : Int) : Option (((List Int))) :=
  nloop (fun (s : Int × (List Int)) => ((spec_BackOf_n3 x2888 x2889 s.1 s.2).map (Sum.elim (fun (t : Int × (List Int)) => Sum.inl (t.1, t.2)) (fun (t : (List Int)) => Sum.inr t)) : Option ((Int × (List Int)) ⊕ (((List Int)))))) LL (x2890, ([] : List Int))

def spec_BackOf_n5 (x2888 : List Int) (x2889 : Int) (x2890 : Int) : Option (((List Int))) :=
  (spec_BackOf_n4 x2888 x2889 x2890).map (fun (t : (List Int)) => t)

def spec_BackOf_n6 (x2888 : List Int) (x2889 : Int) : Option (((List Int))) :=
  (spec_BackOf_n2 x2889).bind (fun (t : Int) => spec_BackOf_n5 x2888 x2889 t)

def spec_BackOf_n7 (x2928 : List Int) : Option (((List Int))) :=
  some x2928

def spec_BackOf_n8 (x2888 : List Int) (x2889 : Int) : Option (((List Int))) :=
  (spec_BackOf_n6 x2888 x2889).bind (fun (t : (List Int)) => spec_BackOf_n7 t)

def spec_BackOf_n9 (x2888 : List Int) : Option (((List Int))) :=
  (spec_BackOf_n1 x2888).bind (fun (t : Int) => spec_BackOf_n8 x2888 t)

@[irreducible] def spec_BackOf (x2888 : List Int) : Option ((List Int)) :=
  spec_BackOf_n9 x2888

/-! loop.example/headtrees/impl.lastToFirst -/

def impl_lastToFirst_n1 (x2982 : Int) : Option (((List Int))) :=
  (mk x2982 x2982).bind fun (v2983 : Nat) => some (List.replicate v2983 (0 : Int))

def impl_lastToFirst_n2 (x2984 : List Int) : Option (Int) :=
  some (((List.length x2984 : Nat) : Int))

def impl_lastToFirst_n3 (x2982 : Int) (x2985 : Int) (x2997 : Int) (x2998 : List Int) : Option ((Int × (List Int)) ⊕ ((List Int))) :=
  cond (decide (x2997 < x2985)) ((inb x2997 (List.length x2998)).bind fun (v3007 : Nat) => some (Sum.inl ((IntKind.wrap .i64 (x2997 + 1)), (x2998.set v3007 (IntKind.wrap .i64 (x2982 - x2997)))))) (some (Sum.inr x2998))

def impl_lastToFirst_n4 (x2982 : Int) (x2985 : Int) (x2984 : List Int) : Option (((List Int))) :=
  nloop (fun (s : Int × (List Int)) => ((impl_lastToFirst_n3 x2982 x2985 s.1 s.2).map (Sum.elim (fun (t : Int × (List Int)) => Sum.inl (t.1, t.2)) (fun (t : (List Int)) => Sum.inr t)) : Option ((Int × (List Int)) ⊕ (((List Int)))))) LL (0, x2984)

def impl_lastToFirst_n5 (x2982 : Int) (x2985 : Int) (x2984 : List Int) : Option (((List Int))) :=
  (impl_lastToFirst_n4 x2982 x2985 x2984).map (fun (t : (List Int)) => t)

def impl_lastToFirst_n6 (x2982 : Int) (x2984 : List Int) : Option (((List Int))) :=
  (impl_lastToFirst_n2 x2984).bind (fun (t : Int) => impl_lastToFirst_n5 x2982 t x2984)

def impl_lastToFirst_n7 (x2998 : List Int) : Option (((List Int))) :=
  some x2998

def impl_lastToFirst_n8 (x2982 : Int) (x2984 : List Int) : Option (((List Int))) :=
  (impl_lastToFirst_n6 x2982 x2984).bind (fun (t : (List Int)) => impl_lastToFirst_n7 t)

def impl_lastToFirst_n9 (x2982 : Int) : Option (((List Int))) :=
  (impl_lastToFirst_n1 x2982).bind (fun (t : (List Int)) => impl_lastToFirst_n8 x2982 t)

@[irreducible] def impl_lastToFirst (x2982 : Int) : Option ((List Int)) :=
  impl_lastToFirst_n9 x2982

/-! loop.example/headtrees/impl.OrderOk -/

def impl_OrderOk_n1 (x3016 : List Int) (x3017 : Int) : Option (Unit ⊕ Bool) :=
  cond (decide (x3017 < 1)) (some (Sum.inr false)) (cond (decide (x3017 > 8)) (some (Sum.inr false)) (cond ((((List.length x3016 : Nat) : Int)) != x3017) (some (Sum.inr false)) (some (Sum.inl ()))))

def impl_OrderOk_n2 (x3016 : List Int) : Option (Int) :=
  some (((List.length x3016 : Nat) : Int))

def impl_OrderOk_n3 (x3017 : Int) (x3016 : List Int) (x3027 : Int) (x3051 : Int) (x3052 : List Bool) : Option ((Int × (List Bool)) ⊕ Bool ⊕ Unit) :=
  cond (decide (x3051 < x3027)) ((idx x3016 x3051).bind fun (v3066 : Int) => cond (decide (v3066 < 1)) (some (Sum.inr (Sum.inl false))) (cond (decide (v3066 > x3017)) (some (Sum.inr (Sum.inl false))) ((same (List.length x3052) 9).bind fun (v3069 : Unit) => (inb v3066 9).bind fun (v3070 : Nat) => (x3052[v3070]?).bind fun (v3071 : Bool) => cond v3071 (some (Sum.inr (Sum.inl false))) ((same (List.length x3052) 9).bind fun (v3072 : Unit) => (inb v3066 9).bind fun (v3073 : Nat) => some (Sum.inl ((IntKind.wrap .i64 (x3051 + 1)), (x3052.set v3073 true))))))) (some (Sum.inr (Sum.inr ())))

def impl_OrderOk_n4 (x3017 : Int) (x3016 : List Int) (x3027 : Int) : Option (Bool ⊕ Unit) :=
  nloop (fun (s : Int × (List Bool)) => ((impl_OrderOk_n3 x3017 x3016 x3027 s.1 s.2).map (Sum.elim (fun (t : Int × (List Bool)) => Sum.inl (t.1, t.2)) (Sum.elim (fun (t : Bool) => Sum.inr (Sum.inl t)) (fun (t : Unit) => Sum.inr (Sum.inr t)))) : Option ((Int × (List Bool)) ⊕ (Bool ⊕ Unit)))) LL (0, (List.replicate 9 false))

def impl_OrderOk_n5 (x3017 : Int) (x3016 : List Int) (x3027 : Int) : Option (Unit ⊕ Bool) :=
  (impl_OrderOk_n4 x3017 x3016 x3027).map (Sum.elim (fun (t : Bool) => (Sum.inr t)) (fun (t : Unit) => (Sum.inl ())))

def impl_OrderOk_n6 (x3016 : List Int) (x3017 : Int) : Option (Unit ⊕ Bool) :=
  (impl_OrderOk_n2 x3016).bind (fun (t : Int) => impl_OrderOk_n5 x3017 x3016 t)

def impl_OrderOk_n7 : Option (Bool) :=
  some true

def impl_OrderOk_n8 (x3016 : List Int) (x3017 : Int) : Option (Bool) :=
  (impl_OrderOk_n6 x3016 x3017).bind (Sum.elim (fun (t : Unit) => impl_OrderOk_n7) (fun e => some ((fun (t : Bool) => t) e)))

def impl_OrderOk_n9 (x3016 : List Int) (x3017 : Int) : Option (Bool) :=
  (impl_OrderOk_n1 x3016 x3017).bind (Sum.elim (fun (t : Unit) => impl_OrderOk_n8 x3016 x3017) (fun e => some ((fun (t : Bool) => t) e)))

@[irreducible] def impl_OrderOk (x3016 : List Int) (x3017 : Int) : Option (Bool) :=
  impl_OrderOk_n9 x3016 x3017

/-! loop.example/headtrees/impl.placesIn -/

def impl_placesIn_n1 (x3084 : List Int) : Option (((List Int))) :=
  (mk (IntKind.wrap .i64 ((((List.length x3084 : Nat) : Int)) + 1)) (IntKind.wrap .i64 ((((List.length x3084 : Nat) : Int)) + 1))).bind fun (v3087 : Nat) => some (List.replicate v3087 (0 : Int))

def impl_placesIn_n2 (x3084 : List Int) : Option (Int) :=
  some (((List.length x3084 : Nat) : Int))

def impl_placesIn_n3 (x3084 : List Int) (x3089 : Int) (x3103 : Int) (x3104 : List Int) : Option ((Int × (List Int)) ⊕ ((List Int))) :=
  cond (decide (x3103 < x3089)) ((idx x3084 x3103).bind fun (v3113 : Int) => (inb v3113 (List.length x3104)).bind fun (v3115 : Nat) => some (Sum.inl ((IntKind.wrap .i64 (x3103 + 1)), (x3104.set v3115 (IntKind.wrap .i64 (x3103 + 1)))))) (some (Sum.inr x3104))

def impl_placesIn_n4 (x3084 : List Int) (x3089 : Int) (x3088 : List Int) : Option (((List Int))) :=
  nloop (fun (s : Int × (List Int)) => ((impl_placesIn_n3 x3084 x3089 s.1 s.2).map (Sum.elim (fun (t : Int × (List Int)) => Sum.inl (t.1, t.2)) (fun (t : (List Int)) => Sum.inr t)) : Option ((Int × (List Int)) ⊕ (((List Int)))))) LL (0, x3088)

def impl_placesIn_n5 (x3084 : List Int) (x3089 : Int) (x3088 : List Int) : Option (((List Int))) :=
  (impl_placesIn_n4 x3084 x3089 x3088).map (fun (t : (List Int)) => t)

def impl_placesIn_n6 (x3084 : List Int) (x3088 : List Int) : Option (((List Int))) :=
  (impl_placesIn_n2 x3084).bind (fun (t : Int) => impl_placesIn_n5 x3084 t x3088)

def impl_placesIn_n7 (x3104 : List Int) : Option (((List Int))) :=
  some x3104

def impl_placesIn_n8 (x3084 : List Int) (x3088 : List Int) : Option (((List Int))) :=
  (impl_placesIn_n6 x3084 x3088).bind (fun (t : (List Int)) => impl_placesIn_n7 t)

def impl_placesIn_n9 (x3084 : List Int) : Option (((List Int))) :=
  (impl_placesIn_n1 x3084).bind (fun (t : (List Int)) => impl_placesIn_n8 x3084 t)

@[irreducible] def impl_placesIn (x3084 : List Int) : Option ((List Int)) :=
  impl_placesIn_n9 x3084

/-! loop.example/headtrees/impl.PutInOrder$1 -/

def impl_PutInOrder_1_n1 (x3138 : Int) (x3139 : List Int) : Option (Int) :=
  (inb x3138 (List.length x3139)).bind fun (v3142 : Nat) => (x3139[v3142]?).bind fun (v3143 : Int) => some v3143

@[irreducible] def impl_PutInOrder_1 (x3138 : Int) (x3139 : List Int) : Option (Int) :=
  impl_PutInOrder_1_n1 x3138 x3139

/-! loop.example/headtrees/impl.renamed[int] -/

def impl_renamed_int_n1 (x3126 : List Int) : Option (((List Int))) :=
  (mk (((List.length x3126 : Nat) : Int)) (((List.length x3126 : Nat) : Int))).bind fun (v3129 : Nat) => some (List.replicate v3129 (0 : Int))

def impl_renamed_int_n2 (x3126 : List Int) : Option (Int) :=
  some (((List.length x3126 : Nat) : Int))

def impl_renamed_int_n3 (x3125 : List Int) (x3126 : List Int) (x3131 : Int) (x3155 : Int) (x3127 : List Int) (x3156 : List Int) : Option ((Int × (List Int)) ⊕ ((List Int))) :=
  cond (decide (x3155 < x3131)) ((idx x3126 x3155).bind fun (v3167 : Int) => (idx x3125 (IntKind.wrap .i64 (v3167 - 1))).bind fun (v3169 : Int) => (impl_PutInOrder_1 v3169 x3127).bind fun (v3170 : Int) => (inb x3155 (List.length x3156)).bind fun (v3171 : Nat) => some (Sum.inl ((IntKind.wrap .i64 (x3155 + 1)), (x3156.set v3171 v3170)))) (some (Sum.inr x3156))

def impl_renamed_int_n4 (x3125 : List Int) (x3126 : List Int) (x3131 : Int) (x3127 : List Int) (x3130 : List Int) : Option (((List Int))) :=
  nloop (fun (s : Int × (List Int)) => ((impl_renamed_int_n3 x3125 x3126 x3131 s.1 x3127 s.2).map (Sum.elim (fun (t : Int × (List Int)) => Sum.inl (t.1, t.2)) (fun (t : (List Int)) => Sum.inr t)) : Option ((Int × (List Int)) ⊕ (((List Int)))))) LL (0, x3130)

def impl_renamed_int_n5 (x3125 : List Int) (x3126 : List Int) (x3131 : Int) (x3127 : List Int) (x3130 : List Int) : Option (((List Int))) :=
  (impl_renamed_int_n4 x3125 x3126 x3131 x3127 x3130).map (fun (t : (List Int)) => t)

def impl_renamed_int_n6 (x3125 : List Int) (x3126 : List Int) (x3127 : List Int) (x3130 : List Int) : Option (((List Int))) :=
  (impl_renamed_int_n2 x3126).bind (fun (t : Int) => impl_renamed_int_n5 x3125 x3126 t x3127 x3130)

def impl_renamed_int_n7 (x3156 : List Int) : Option (((List Int))) :=
  some x3156

def impl_renamed_int_n8 (x3125 : List Int) (x3126 : List Int) (x3127 : List Int) (x3130 : List Int) : Option (((List Int))) :=
  (impl_renamed_int_n6 x3125 x3126 x3127 x3130).bind (fun (t : (List Int)) => impl_renamed_int_n7 t)

def impl_renamed_int_n9 (x3125 : List Int) (x3126 : List Int) (x3127 : List Int) : Option (((List Int))) :=
  (impl_renamed_int_n1 x3126).bind (fun (t : (List Int)) => impl_renamed_int_n8 x3125 x3126 x3127 t)

@[irreducible] def impl_renamed_int (x3125 : List Int) (x3126 : List Int) (x3127 : List Int) : Option ((List Int)) :=
  impl_renamed_int_n9 x3125 x3126 x3127

/-! loop.example/headtrees/impl.PutInOrder -/

def impl_PutInOrder_n1 (x3011 : List Int) (x3012 : List Int) : Option ((Bool × (List Int))) :=
  (impl_TreeOk x3011).bind fun (v3175 : Bool) => cond (!v3175) (some (false, ([] : List Int))) ((impl_OrderOk x3012 (((List.length x3011 : Nat) : Int))).bind fun (v3178 : Bool) => cond (!v3178) (some (false, ([] : List Int))) ((impl_placesIn x3012).bind fun (v3180 : List Int) => (impl_renamed_int x3011 x3012 v3180).bind fun (v3181 : List Int) => some (true, v3181)))

@[irreducible] def impl_PutInOrder (x3011 : List Int) (x3012 : List Int) : Option (Bool × (List Int)) :=
  impl_PutInOrder_n1 x3011 x3012

/-! loop.example/headtrees/impl.BackOf -/

def impl_BackOf_n1 (x2976 : List Int) : Option (((List Int))) :=
  (impl_TreeOk x2976).bind fun (v3194 : Bool) => cond (!v3194) (some ([] : List Int)) ((impl_lastToFirst (((List.length x2976 : Nat) : Int))).bind fun (v3197 : List Int) => (impl_PutInOrder x2976 v3197).bind fun (v3198 : Bool × (List Int)) => some (v3198.2))

@[irreducible] def impl_BackOf (x2976 : List Int) : Option ((List Int)) :=
  impl_BackOf_n1 x2976

/-! loop.example/headtrees/laws.markIntS -/

def laws_markIntS_n1 : Option (Unit) :=
  some ()

def laws_markIntS_n2 : Option (Unit) :=
  some ()

def laws_markIntS_n3 (x3259 : Int) (x3260 : Int) (x3261 : List Int) : Option ((Int × Int × (List Int)) ⊕ (Int × (List Int))) :=
  cond (decide (x3260 < (((List.length x3261 : Nat) : Int)))) ((inb x3260 (List.length x3261)).bind fun (v3271 : Nat) => some (Sum.inl ((IntKind.wrap .i64 (x3259 + 1)), (IntKind.wrap .i64 (x3260 + 1)), (x3261.set v3271 x3259)))) (some (Sum.inr (x3259, x3261)))

def laws_markIntS_n4 (x3244 : Int) (x3245 : List Int) : Option ((Int × (List Int))) :=
  nloop (fun (s : Int × Int × (List Int)) => ((laws_markIntS_n3 s.1 s.2.1 s.2.2).map (Sum.elim (fun (t : Int × Int × (List Int)) => Sum.inl (t.1, t.2.1, t.2.2)) (fun (t : Int × (List Int)) => Sum.inr t)) : Option ((Int × Int × (List Int)) ⊕ ((Int × (List Int)))))) LL (x3244, 0, x3245)

def laws_markIntS_n5 (x3244 : Int) (x3245 : List Int) : Option ((Int × (List Int))) :=
  (laws_markIntS_n4 x3244 x3245).map (fun (t : Int × (List Int)) => (t.1, t.2))

def laws_markIntS_n6 (x3244 : Int) (x3245 : List Int) : Option ((Int × (List Int))) :=
  (laws_markIntS_n2).bind (fun (t : Unit) => laws_markIntS_n5 x3244 x3245)

def laws_markIntS_n7 (x3259 : Int) (x3261 : List Int) : Option ((Int × (List Int))) :=
  some (x3259, x3261)

def laws_markIntS_n8 (x3244 : Int) (x3245 : List Int) : Option ((Int × (List Int))) :=
  (laws_markIntS_n6 x3244 x3245).bind (fun (t : Int × (List Int)) => laws_markIntS_n7 t.1 t.2)

def laws_markIntS_n9 (x3244 : Int) (x3245 : List Int) : Option ((Int × (List Int))) :=
  (laws_markIntS_n1).bind (fun (t : Unit) => laws_markIntS_n8 x3244 x3245)

@[irreducible] def laws_markIntS (x3244 : Int) (x3245 : List Int) : Option (Int × (List Int)) :=
  laws_markIntS_n9 x3244 x3245

/-! loop.example/headtrees/laws.heldIntS -/

def laws_heldIntS_n1 : Option (Unit) :=
  some ()

def laws_heldIntS_n2 : Option (Unit) :=
  some ()

def laws_heldIntS_n3 (x3372 : List Int) (x3387 : Int) (x3388 : Int) : Option ((Int × Int) ⊕ Int ⊕ Int) :=
  cond (decide (x3388 < (((List.length x3372 : Nat) : Int)))) ((idx x3372 x3388).bind fun (v3398 : Int) => cond (v3398 != x3387) (some (Sum.inr (Sum.inl (-1)))) (some (Sum.inl ((IntKind.wrap .i64 (x3387 + 1)), (IntKind.wrap .i64 (x3388 + 1)))))) (some (Sum.inr (Sum.inr x3387)))

def laws_heldIntS_n4 (x3372 : List Int) (x3373 : Int) : Option (Int ⊕ Int) :=
  nloop (fun (s : Int × Int) => ((laws_heldIntS_n3 x3372 s.1 s.2).map (Sum.elim (fun (t : Int × Int) => Sum.inl (t.1, t.2)) (Sum.elim (fun (t : Int) => Sum.inr (Sum.inl t)) (fun (t : Int) => Sum.inr (Sum.inr t)))) : Option ((Int × Int) ⊕ (Int ⊕ Int)))) LL (x3373, 0)

def laws_heldIntS_n5 (x3372 : List Int) (x3373 : Int) : Option (Int ⊕ Int) :=
  (laws_heldIntS_n4 x3372 x3373).map (Sum.elim (fun (t : Int) => (Sum.inr t)) (fun (t : Int) => (Sum.inl t)))

def laws_heldIntS_n6 (x3372 : List Int) (x3373 : Int) : Option (Int ⊕ Int) :=
  (laws_heldIntS_n2).bind (fun (t : Unit) => laws_heldIntS_n5 x3372 x3373)

def laws_heldIntS_n7 (x3387 : Int) : Option (Int) :=
  some x3387

def laws_heldIntS_n8 (x3372 : List Int) (x3373 : Int) : Option (Int) :=
  (laws_heldIntS_n6 x3372 x3373).bind (Sum.elim (fun (t : Int) => laws_heldIntS_n7 t) (fun e => some ((fun (t : Int) => t) e)))

def laws_heldIntS_n9 (x3372 : List Int) (x3373 : Int) : Option (Int) :=
  (laws_heldIntS_n1).bind (fun (t : Unit) => laws_heldIntS_n8 x3372 x3373)

@[irreducible] def laws_heldIntS (x3372 : List Int) (x3373 : Int) : Option (Int) :=
  laws_heldIntS_n9 x3372 x3373

/-! loop.example/headtrees/laws.FnExactBackOf -/

def laws_FnExactBackOf_n1 (x2882 : List Int) : Option (Bool) :=
  cond (decide ((((List.length x2882 : Nat) : Int)) > 1048576)) (some true) ((laws_toIntS x2882).bind fun (v3647 : List Int) => (spec_BackOf v3647).bind fun (v3648 : List Int) => (laws_toIntS x2882).bind fun (v3649 : List Int) => (impl_BackOf v3649).bind fun (v3650 : List Int) => (laws_eqIntS v3650 v3648).bind fun (v3651 : Bool) => cond (!v3651) (some false) ((laws_toIntS x2882).bind fun (v3653 : List Int) => (laws_eqIntS v3649 v3653).bind fun (v3654 : Bool) => cond (!v3654) (some false) ((laws_markIntS 1 v3649).bind fun (v3656 : Int × (List Int)) => cond (decide ((v3656.1) < 0)) (some false) ((laws_eqIntS v3650 v3648).bind fun (v3660 : Bool) => cond (!v3660) (some false) ((laws_markIntS 1 v3650).bind fun (v3662 : Int × (List Int)) => (laws_heldIntS (v3662.2) 1).bind fun (v3665 : Int) => cond (decide (v3665 < 0)) (some false) (cond (v3665 != (v3662.1)) (some false) ((laws_toIntS x2882).bind fun (v3668 : List Int) => (impl_BackOf v3668).bind fun (v3669 : List Int) => (laws_eqIntS v3669 v3648).bind fun (v3670 : Bool) => cond (!v3670) (some false) ((laws_heldIntS (v3662.2) 1).bind fun (v3672 : Int) => cond (decide (v3672 < 0)) (some false) (cond (v3672 != (v3662.1)) (some false) (some true))))))))))

@[irreducible] def laws_FnExactBackOf (x2882 : List Int) : Option (Bool) :=
  laws_FnExactBackOf_n1 x2882

end Go.Rv
