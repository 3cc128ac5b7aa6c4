/-
  Plain functions, written by program for functions of the checked code. Conditions: none.
-/
import Derived.Test.YtegmjhjihbhakaaFB
set_option linter.unusedVariables false
namespace Go.Rv
/-! loop.example/headtrees/spec.l20Open -/

def spec_l20Open_n1 (x12 : List Int) : Option (((List Int))) :=
  cond (decide ((((List.length x12 : Nat) : Int)) > 2000)) ((inc 2000 (List.length x12)).bind fun (v28 : Nat) => some ((x12.take v28).drop 0)) (some x12)

@[irreducible] def spec_l20Open (x12 : List Int) : Option ((List Int)) :=
  spec_l20Open_n1 x12

/-! (*loop.example/headtrees/spec.l20Rd).pick -/

def spec_l20Rd_pick_n1 (x34 : Int) (x35 : List Int) (x36 : Int) : Option ((Int × Int)) :=
  cond (decide (x34 < 1)) (some (0, (IntKind.wrap .i64 (x36 + 1)))) (cond ((((List.length x35 : Nat) : Int)) == 0) (some (0, (IntKind.wrap .i64 (x36 + 1)))) (cond (decide ((IntKind.wrap .i64 ((IntKind.wrap .i64 (x36 + 1)) - 1)) < (((List.length x35 : Nat) : Int)))) ((idx x35 (IntKind.wrap .i64 ((IntKind.wrap .i64 (x36 + 1)) - 1))).bind fun (v164 : Int) => (rem (IntKind.wrap .i64 v164) x34).bind fun (v166 : Int) => some (v166, (IntKind.wrap .i64 (x36 + 1)))) ((rem (IntKind.wrap .i64 ((IntKind.wrap .i64 (x36 + 1)) - 1)) (((List.length x35 : Nat) : Int))).bind fun (v168 : Int) => (idx x35 v168).bind fun (v169 : Int) => (rem (IntKind.wrap .i64 ((IntKind.wrap .i64 ((IntKind.wrap .i64 ((IntKind.wrap .i64 (x36 + 1)) - 1)) * 7)) + 3)) (((List.length x35 : Nat) : Int))).bind fun (v175 : Int) => (idx x35 v175).bind fun (v176 : Int) => (quo .i64 (IntKind.wrap .i64 ((IntKind.wrap .i64 (x36 + 1)) - 1)) (((List.length x35 : Nat) : Int))).bind fun (v183 : Int) => (quo .i64 (IntKind.wrap .i64 ((IntKind.wrap .i64 ((IntKind.wrap .i64 ((IntKind.wrap .i64 ((IntKind.wrap .i64 v169) * 131)) + (IntKind.wrap .i64 ((IntKind.wrap .i64 v176) * 1117)))) + (IntKind.wrap .i64 ((IntKind.wrap .i64 ((IntKind.wrap .i64 (x36 + 1)) - 1)) * 29)))) + (IntKind.wrap .i64 (v183 * 53)))) 64).bind fun (v186 : Int) => (rem (ixor .i64 (IntKind.wrap .i64 ((IntKind.wrap .i64 ((IntKind.wrap .i64 ((IntKind.wrap .i64 ((IntKind.wrap .i64 v169) * 131)) + (IntKind.wrap .i64 ((IntKind.wrap .i64 v176) * 1117)))) + (IntKind.wrap .i64 ((IntKind.wrap .i64 ((IntKind.wrap .i64 (x36 + 1)) - 1)) * 29)))) + (IntKind.wrap .i64 (v183 * 53)))) v186) x34).bind fun (v188 : Int) => some (v188, (IntKind.wrap .i64 (x36 + 1))))))

@[irreducible] def spec_l20Rd_pick (x34 : Int) (x35 : List Int) (x36 : Int) : Option (Int × Int) :=
  spec_l20Rd_pick_n1 x34 x35 x36

/-! loop.example/headtrees/spec.DrawCrossOk -/

def spec_DrawCrossOk_n1 (x10 : List Int) : Option ((Int × Int × Int × Int)) :=
  (spec_l20Open x10).bind fun (v205 : List Int) => (spec_l20Rd_pick 8 v205 0).bind fun (v206 : Int × Int) => (spec_l20Rd_pick 8 v205 (v206.2)).bind fun (v209 : Int × Int) => (spec_l20Rd_pick 8 v205 (v209.2)).bind fun (v213 : Int × Int) => (spec_l20Rd_pick 8 v205 (v213.2)).bind fun (v217 : Int × Int) => some ((v206.1), (IntKind.wrap .i64 (1 + (v209.1))), (IntKind.wrap .i64 (1 + (v213.1))), (IntKind.wrap .i64 (1 + (v217.1))))

@[irreducible] def spec_DrawCrossOk (x10 : List Int) : Option (Int × Int × Int × Int) :=
  spec_DrawCrossOk_n1 x10

/-! loop.example/headtrees/impl.arcBetween -/

def impl_arcBetween_n1 (x237 : Int) (x238 : Int) : Option ((Bool × Int × Int)) :=
  cond (decide (x237 < 1)) (some (false, 0, 0)) (cond (decide (x238 < 1)) (some (false, 0, 0)) (cond (x237 == x238) (some (false, 0, 0)) (some (true, (imin x237 x238), (imax x237 x238)))))

@[irreducible] def impl_arcBetween (x237 : Int) (x238 : Int) : Option (Bool × Int × Int) :=
  impl_arcBetween_n1 x237 x238

/-! (loop.example/headtrees/impl.arc).covers -/

def impl_arc_covers_n1 (x279 : Int) (x280 : Int) (x281 : Int) : Option (Bool) :=
  cond (decide (x279 < x281)) (some (decide (x281 < x280))) (some false)

@[irreducible] def impl_arc_covers (x279 : Int) (x280 : Int) (x281 : Int) : Option (Bool) :=
  impl_arc_covers_n1 x279 x280 x281

/-! (loop.example/headtrees/impl.arc).leavesOut -/

def impl_arc_leavesOut_n1 (x288 : Int) (x289 : Int) (x290 : Int) : Option (Bool) :=
  cond (decide (x290 < x288)) (some true) (some (decide (x289 < x290)))

@[irreducible] def impl_arc_leavesOut (x288 : Int) (x289 : Int) (x290 : Int) : Option (Bool) :=
  impl_arc_leavesOut_n1 x288 x289 x290

/-! (loop.example/headtrees/impl.arc).crosses -/

def impl_arc_crosses_n1 (x275 : Int) (x276 : Int) (x277 : Int) (x278 : Int) : Option (Bool) :=
  (impl_arc_covers x275 x276 x277).bind fun (v301 : Bool) => cond v301 ((impl_arc_leavesOut x275 x276 x278).bind fun (v302 : Bool) => cond v302 (some true) ((impl_arc_covers x275 x276 x278).bind fun (v303 : Bool) => cond v303 ((impl_arc_leavesOut x275 x276 x277).bind fun (v304 : Bool) => some v304) (some false))) ((impl_arc_covers x275 x276 x278).bind fun (v305 : Bool) => cond v305 ((impl_arc_leavesOut x275 x276 x277).bind fun (v306 : Bool) => some v306) (some false))

@[irreducible] def impl_arc_crosses (x275 : Int) (x276 : Int) (x277 : Int) (x278 : Int) : Option (Bool) :=
  impl_arc_crosses_n1 x275 x276 x277 x278

/-! loop.example/headtrees/impl.CrossOk -/

def impl_CrossOk_n1 (x233 : Int) (x234 : Int) (x235 : Int) (x236 : Int) : Option (Bool) :=
  (impl_arcBetween x233 x234).bind fun (v309 : Bool × Int × Int) => (impl_arcBetween x235 x236).bind fun (v313 : Bool × Int × Int) => cond (v309.1) (cond (v313.1) ((impl_arc_crosses (v309.2.1) (v309.2.2) (v313.2.1) (v313.2.2)).bind fun (v317 : Bool) => some v317) (some false)) (some false)

@[irreducible] def impl_CrossOk (x233 : Int) (x234 : Int) (x235 : Int) (x236 : Int) : Option (Bool) :=
  impl_CrossOk_n1 x233 x234 x235 x236

/-! loop.example/headtrees/spec.CrossOk -/

def spec_CrossOk_n1 (x328 : Int) (x329 : Int) (x330 : Int) (x331 : Int) : Option ((Int × Int × Int × Int) ⊕ Bool) :=
  cond (decide (x328 < 1)) (some (Sum.inr false)) (cond (decide (x329 < 1)) (some (Sum.inr false)) (cond (decide (x330 < 1)) (some (Sum.inr false)) (cond (decide (x331 < 1)) (some (Sum.inr false)) (cond (x328 == x329) (some (Sum.inr false)) (cond (x330 == x331) (some (Sum.inr false)) (some (Sum.inl ((imin x328 x329), (imax x328 x329), (imin x330 x331), (imax x330 x331)))))))))

def spec_CrossOk_n2 (x368 : Int) (x369 : Int) (x370 : Int) (x371 : Int) : Option (Bool) :=
  cond (decide (x368 < x370)) (cond (decide (x370 < x369)) (cond (decide (x369 < x371)) (some true) (cond (decide (x370 < x368)) (cond (decide (x368 < x371)) (some (decide (x371 < x369))) (some false)) (some false))) (cond (decide (x370 < x368)) (cond (decide (x368 < x371)) (some (decide (x371 < x369))) (some false)) (some false))) (cond (decide (x370 < x368)) (cond (decide (x368 < x371)) (some (decide (x371 < x369))) (some false)) (some false))

def spec_CrossOk_n3 (x328 : Int) (x329 : Int) (x330 : Int) (x331 : Int) : Option (Bool) :=
  (spec_CrossOk_n1 x328 x329 x330 x331).bind (Sum.elim (fun (t : Int × Int × Int × Int) => spec_CrossOk_n2 t.1 t.2.1 t.2.2.1 t.2.2.2) (fun e => some ((fun (t : Bool) => t) e)))

@[irreducible] def spec_CrossOk (x328 : Int) (x329 : Int) (x330 : Int) (x331 : Int) : Option (Bool) :=
  spec_CrossOk_n3 x328 x329 x330 x331

/-! loop.example/headtrees/laws.FnCrossOk -/

def laws_FnCrossOk_n1 (x2 : List Int) : Option (Bool) :=
  cond (decide ((((List.length x2 : Nat) : Int)) > 1048576)) (some true) ((spec_DrawCrossOk x2).bind fun (v450 : Int × Int × Int × Int) => (impl_CrossOk (v450.1) (v450.2.1) (v450.2.2.1) (v450.2.2.2)).bind fun (v455 : Bool) => (spec_CrossOk (v450.1) (v450.2.1) (v450.2.2.1) (v450.2.2.2)).bind fun (v456 : Bool) => cond (v455 != v456) (some false) ((impl_CrossOk (v450.2.2.1) (v450.2.2.2) (v450.1) (v450.2.1)).bind fun (v458 : Bool) => cond (v458 == v455) ((impl_CrossOk (v450.2.1) (v450.1) (v450.2.2.1) (v450.2.2.2)).bind fun (v460 : Bool) => cond (v460 == v455) (cond (!v455) ((impl_CrossOk 1 3 2 4).bind fun (v463 : Bool) => cond v463 ((impl_CrossOk 1 4 2 3).bind fun (v464 : Bool) => some (!v464)) (some false)) (cond ((v450.1) != (v450.2.2.1)) (cond ((v450.1) != (v450.2.2.2)) (cond ((v450.2.1) != (v450.2.2.1)) (cond ((v450.2.1) != (v450.2.2.2)) ((impl_CrossOk 1 3 2 4).bind fun (v470 : Bool) => cond v470 ((impl_CrossOk 1 4 2 3).bind fun (v471 : Bool) => some (!v471)) (some false)) (some false)) (some false)) (some false)) (some false))) (some false)) (some false)))

@[irreducible] def laws_FnCrossOk (x2 : List Int) : Option (Bool) :=
  laws_FnCrossOk_n1 x2

/-! loop.example/headtrees/spec.l20Order -/

def spec_l20Order_n1 (x504 : List Int) (x505 : Int) : Option ((Int × Int)) :=
  (spec_l20Rd_pick 2 x504 x505).bind fun (v506 : Int × Int) => some ((v506.1), (v506.2))

def spec_l20Order_n2 : Option (Unit) :=
  some ()

def spec_l20Order_n3 (x503 : Int) (x507 : Int) (x650 : Int) (x504 : List Int) (x651 : Int) (x652 : List Int) : Option ((Int × Int × (List Int)) ⊕ (Int × (List Int))) :=
  cond (decide (x650 ≤ x503)) (cond (x507 == 0) ((spec_l20Rd_pick x650 x504 x651).bind fun (v724 : Int × Int) => (inc (v724.1) (List.length x652)).bind fun (v728 : Nat) => (room ((List.length ([] : List Int)) + List.length ((x652.drop 0).take (v728 - 0)))).bind fun (v732 : Unit) => (room ((List.length (([] : List Int) ++ ((x652.drop 0).take (v728 - 0)))) + List.length ([x650]))).bind fun (v736 : Unit) => (inc (v724.1) (List.length x652)).bind fun (v739 : Nat) => (room ((List.length ((([] : List Int) ++ ((x652.drop 0).take (v728 - 0))) ++ ([x650]))) + List.length ((x652.drop v739).take ((List.length x652) - v739)))).bind fun (v743 : Unit) => some (Sum.inl ((IntKind.wrap .i64 (x650 + 1)), (v724.2), (((([] : List Int) ++ ((x652.drop 0).take (v728 - 0))) ++ ([x650])) ++ ((x652.drop v739).take ((List.length x652) - v739)))))) ((spec_l20Rd_pick 3 x504 x651).bind fun (v746 : Int × Int) => cond ((v746.1) == 0) ((spec_l20Rd_pick x650 x504 (v746.2)).bind fun (v750 : Int × Int) => (inc (v750.1) (List.length x652)).bind fun (v754 : Nat) => (room ((List.length ([] : List Int)) + List.length ((x652.drop 0).take (v754 - 0)))).bind fun (v758 : Unit) => (room ((List.length (([] : List Int) ++ ((x652.drop 0).take (v754 - 0)))) + List.length ([x650]))).bind fun (v762 : Unit) => (inc (v750.1) (List.length x652)).bind fun (v765 : Nat) => (room ((List.length ((([] : List Int) ++ ((x652.drop 0).take (v754 - 0))) ++ ([x650]))) + List.length ((x652.drop v765).take ((List.length x652) - v765)))).bind fun (v769 : Unit) => some (Sum.inl ((IntKind.wrap .i64 (x650 + 1)), (v750.2), (((([] : List Int) ++ ((x652.drop 0).take (v754 - 0))) ++ ([x650])) ++ ((x652.drop v765).take ((List.length x652) - v765)))))) ((inc (((List.length x652 : Nat) : Int)) (List.length x652)).bind fun (v773 : Nat) => (room ((List.length ([] : List Int)) + List.length ((x652.drop 0).take (v773 - 0)))).bind fun (v777 : Unit) => (room ((List.length (([] : List Int) ++ ((x652.drop 0).take (v773 - 0)))) + List.length ([x650]))).bind fun (v781 : Unit) => (inc (((List.length x652 : Nat) : Int)) (List.length x652)).bind fun (v784 : Nat) => (room ((List.length ((([] : List Int) ++ ((x652.drop 0).take (v773 - 0))) ++ ([x650]))) + List.length ((x652.drop v784).take ((List.length x652) - v784)))).bind fun (v788 : Unit) => some (Sum.inl ((IntKind.wrap .i64 (x650 + 1)), (v746.2), (((([] : List Int) ++ ((x652.drop 0).take (v773 - 0))) ++ ([x650])) ++ ((x652.drop v784).take ((List.length x652) - v784)))))))) (some (Sum.inr (x651, x652)))

def spec_l20Order_n4 (x503 : Int) (x507 : Int) (x504 : List Int) (x508 : Int) : Option ((Int × (List Int))) :=
  nloop (fun (s : Int × Int × (List Int)) => ((spec_l20Order_n3 x503 x507 s.1 x504 s.2.1 s.2.2).map (Sum.elim (fun (t : Int × Int × (List Int)) => Sum.inl (t.1, t.2.1, t.2.2)) (fun (t : Int × (List Int)) => Sum.inr t)) : Option ((Int × Int × (List Int)) ⊕ ((Int × (List Int)))))) LL (1, x508, ([] : List Int))

def spec_l20Order_n5 (x503 : Int) (x507 : Int) (x504 : List Int) (x508 : Int) : Option ((Int × (List Int))) :=
  (spec_l20Order_n4 x503 x507 x504 x508).map (fun (t : Int × (List Int)) => (t.1, t.2))

def spec_l20Order_n6 (x503 : Int) (x507 : Int) (x504 : List Int) (x508 : Int) : Option ((Int × (List Int))) :=
  (spec_l20Order_n2).bind (fun (t : Unit) => spec_l20Order_n5 x503 x507 x504 x508)

def spec_l20Order_n7 (x651 : Int) (x652 : List Int) : Option ((Int × (List Int))) :=
  some (x651, x652)

def spec_l20Order_n8 (x503 : Int) (x507 : Int) (x504 : List Int) (x508 : Int) : Option ((Int × (List Int))) :=
  (spec_l20Order_n6 x503 x507 x504 x508).bind (fun (t : Int × (List Int)) => spec_l20Order_n7 t.1 t.2)

def spec_l20Order_n9 (x503 : Int) (x504 : List Int) (x505 : Int) : Option ((Int × (List Int))) :=
  (spec_l20Order_n1 x504 x505).bind (fun (t : Int × Int) => spec_l20Order_n8 x503 t.1 x504 t.2)

@[irreducible] def spec_l20Order (x503 : Int) (x504 : List Int) (x505 : Int) : Option (Int × (List Int)) :=
  spec_l20Order_n9 x503 x504 x505

/-! (*loop.example/headtrees/spec.l20Rd).odd -/

def spec_l20Rd_odd_n1 (x959 : Int) (x960 : List Int) (x961 : Int) : Option ((Bool × Int)) :=
  cond (decide (x959 > 0)) ((spec_l20Rd_pick x959 x960 x961).bind fun (v969 : Int × Int) => some (((v969.1) == (IntKind.wrap .i64 (x959 - 1))), (v969.2))) (some (false, x961))

@[irreducible] def spec_l20Rd_odd (x959 : Int) (x960 : List Int) (x961 : Int) : Option (Bool × Int) :=
  spec_l20Rd_odd_n1 x959 x960 x961

/-! loop.example/headtrees/spec.l20Tree -/

def spec_l20Tree_n1 (x493 : List Int) (x494 : Int) : Option ((Int × Int × Int × (List Int) × (List Int))) :=
  (spec_l20Rd_pick 7 x493 x494).bind fun (v806 : Int × Int) => (spec_l20Order (IntKind.wrap .i64 (1 + (v806.1))) x493 (v806.2)).bind fun (v810 : Int × (List Int)) => (mk (IntKind.wrap .i64 (1 + (v806.1))) (IntKind.wrap .i64 (1 + (v806.1)))).bind fun (v813 : Nat) => (spec_l20Rd_pick 2 x493 (v810.1)).bind fun (v815 : Int × Int) => some ((IntKind.wrap .i64 (1 + (v806.1))), (v815.1), (v815.2), (v810.2), (List.replicate v813 (0 : Int)))

def spec_l20Tree_n2 : Option (Unit) :=
  some ()

def spec_l20Tree_n3 (x809 : Int) (x816 : Int) (x887 : Int) (x493 : List Int) (x888 : Int) (x812 : List Int) (x889 : List Int) : Option ((Int × Int × (List Int)) ⊕ (Int × (List Int))) :=
  cond (decide (x887 < x809)) ((spec_l20Rd_pick x887 x493 x888).bind fun (v923 : Int × Int) => cond (x816 == 1) ((spec_l20Rd_pick 2 x493 (v923.2)).bind fun (v927 : Int × Int) => cond ((v927.1) == 0) ((inb x887 (List.length x812)).bind fun (v932 : Nat) => (x812[v932]?).bind fun (v933 : Int) => (inb (IntKind.wrap .i64 (x887 - 1)) (List.length x812)).bind fun (v935 : Nat) => (x812[v935]?).bind fun (v936 : Int) => (inb (IntKind.wrap .i64 (v933 - 1)) (List.length x889)).bind fun (v937 : Nat) => some (Sum.inl ((IntKind.wrap .i64 (x887 + 1)), (v927.2), (x889.set v937 v936)))) ((inb x887 (List.length x812)).bind fun (v940 : Nat) => (x812[v940]?).bind fun (v941 : Int) => (inb (v923.1) (List.length x812)).bind fun (v943 : Nat) => (x812[v943]?).bind fun (v944 : Int) => (inb (IntKind.wrap .i64 (v941 - 1)) (List.length x889)).bind fun (v945 : Nat) => some (Sum.inl ((IntKind.wrap .i64 (x887 + 1)), (v927.2), (x889.set v945 v944))))) ((inb x887 (List.length x812)).bind fun (v948 : Nat) => (x812[v948]?).bind fun (v949 : Int) => (inb (v923.1) (List.length x812)).bind fun (v951 : Nat) => (x812[v951]?).bind fun (v952 : Int) => (inb (IntKind.wrap .i64 (v949 - 1)) (List.length x889)).bind fun (v953 : Nat) => some (Sum.inl ((IntKind.wrap .i64 (x887 + 1)), (v923.2), (x889.set v953 v952))))) (some (Sum.inr (x888, x889)))

def spec_l20Tree_n4 (x809 : Int) (x816 : Int) (x493 : List Int) (x817 : Int) (x812 : List Int) (x814 : List Int) : Option ((Int × (List Int))) :=
  nloop (fun (s : Int × Int × (List Int)) => ((spec_l20Tree_n3 x809 x816 s.1 x493 s.2.1 x812 s.2.2).map (Sum.elim (fun (t : Int × Int × (List Int)) => Sum.inl (t.1, t.2.1, t.2.2)) (fun (t : Int × (List Int)) => Sum.inr t)) : Option ((Int × Int × (List Int)) ⊕ ((Int × (List Int)))))) LL (1, x817, x814)

def spec_l20Tree_n5 (x809 : Int) (x816 : Int) (x493 : List Int) (x817 : Int) (x812 : List Int) (x814 : List Int) : Option ((Int × (List Int))) :=
  (spec_l20Tree_n4 x809 x816 x493 x817 x812 x814).map (fun (t : Int × (List Int)) => (t.1, t.2))

def spec_l20Tree_n6 (x809 : Int) (x816 : Int) (x493 : List Int) (x817 : Int) (x812 : List Int) (x814 : List Int) : Option ((Int × (List Int))) :=
  (spec_l20Tree_n2).bind (fun (t : Unit) => spec_l20Tree_n5 x809 x816 x493 x817 x812 x814)

def spec_l20Tree_n7 (x492 : Int) (x809 : Int) (x493 : List Int) (x888 : Int) (x889 : List Int) : Option ((Int × (List Int))) :=
  (spec_l20Rd_odd x492 x493 x888).bind fun (v1033 : Bool × Int) => cond (v1033.1) ((spec_l20Rd_pick 4 x493 (v1033.2)).bind fun (v1036 : Int × Int) => cond ((v1036.1) == 0) (some ((v1036.2), ([] : List Int))) (cond ((v1036.1) == 1) (some ((v1036.2), ([2, 1, 0]))) (cond ((v1036.1) == 2) ((spec_l20Rd_pick x809 x493 (v1036.2)).bind fun (v1043 : Int × Int) => (inb (v1043.1) (List.length x889)).bind fun (v1046 : Nat) => (room ((List.length (x889.set v1046 0)) + List.length ([0]))).bind fun (v1050 : Unit) => some ((v1043.2), ((x889.set v1046 0) ++ ([0])))) ((spec_l20Rd_pick 3 x493 (v1036.2)).bind fun (v1054 : Int × Int) => (inb (v1054.1) (List.length ([1, (IntKind.wrap .i64 (x809 + 1)), (-1)]))).bind fun (v1057 : Nat) => (([1, (IntKind.wrap .i64 (x809 + 1)), (-1)])[v1057]?).bind fun (v1058 : Int) => (inb 0 (List.length x889)).bind fun (v1059 : Nat) => some ((v1054.2), (x889.set v1059 v1058)))))) (some ((v1033.2), x889))

def spec_l20Tree_n8 (x492 : Int) (x809 : Int) (x816 : Int) (x493 : List Int) (x817 : Int) (x812 : List Int) (x814 : List Int) : Option ((Int × (List Int))) :=
  (spec_l20Tree_n6 x809 x816 x493 x817 x812 x814).bind (fun (t : Int × (List Int)) => spec_l20Tree_n7 x492 x809 x493 t.1 t.2)

def spec_l20Tree_n9 (x492 : Int) (x493 : List Int) (x494 : Int) : Option ((Int × (List Int))) :=
  (spec_l20Tree_n1 x493 x494).bind (fun (t : Int × Int × Int × (List Int) × (List Int)) => spec_l20Tree_n8 x492 t.1 t.2.1 x493 t.2.2.1 t.2.2.2.1 t.2.2.2.2)

@[irreducible] def spec_l20Tree (x492 : Int) (x493 : List Int) (x494 : Int) : Option (Int × (List Int)) :=
  spec_l20Tree_n9 x492 x493 x494

/-! loop.example/headtrees/spec.l20Fill -/

def spec_l20Fill_n1 (R0 : Int → Int → Int → (List Int) → Int → (List Int) → Option (Int × (List Int))) (x1103 : Int) (x1104 : Int) (x1105 : Int) (x1106 : List Int) (x1107 : Int) (x1108 : List Int) : Option ((Int × Int × (List Int)) ⊕ (Int × (List Int))) :=
  cond (decide (x1103 > x1104)) (some (Sum.inr (x1107, x1108))) ((spec_l20Rd_pick (IntKind.wrap .i64 ((IntKind.wrap .i64 (x1104 - x1103)) + 1)) x1106 x1107).bind fun (v1176 : Int × Int) => (inb (IntKind.wrap .i64 ((IntKind.wrap .i64 (x1103 + (v1176.1))) - 1)) (List.length x1108)).bind fun (v1181 : Nat) => some (Sum.inl ((IntKind.wrap .i64 (x1103 + (v1176.1))), (v1176.2), (x1108.set v1181 x1105))))

def spec_l20Fill_n2 (R0 : Int → Int → Int → (List Int) → Int → (List Int) → Option (Int × (List Int))) (x1179 : Int) (x1194 : Int) (x1106 : List Int) (x1195 : Int) (x1196 : List Int) : Option ((Int × Int × (List Int)) ⊕ (Int × (List Int))) :=
  cond (decide (x1194 < x1179)) ((spec_l20Rd_pick (IntKind.wrap .i64 (x1179 - x1194)) x1106 x1195).bind fun (v1200 : Int × Int) => (R0 x1194 (IntKind.wrap .i64 (x1194 + (v1200.1))) x1179 x1106 (v1200.2) x1196).bind fun (v1204 : Int × (List Int)) => some (Sum.inl ((IntKind.wrap .i64 ((IntKind.wrap .i64 (x1194 + (v1200.1))) + 1)), (v1204.1), (v1204.2)))) (some (Sum.inr (x1195, x1196)))

def spec_l20Fill_n3 (R0 : Int → Int → Int → (List Int) → Int → (List Int) → Option (Int × (List Int))) (x1179 : Int) (x1103 : Int) (x1106 : List Int) (x1178 : Int) (x1182 : List Int) : Option ((Int × (List Int))) :=
  nloop (fun (s : Int × Int × (List Int)) => ((spec_l20Fill_n2 R0 x1179 s.1 x1106 s.2.1 s.2.2).map (Sum.elim (fun (t : Int × Int × (List Int)) => Sum.inl (t.1, t.2.1, t.2.2)) (fun (t : Int × (List Int)) => Sum.inr t)) : Option ((Int × Int × (List Int)) ⊕ ((Int × (List Int)))))) LL (x1103, x1178, x1182)

def spec_l20Fill_n4 (R0 : Int → Int → Int → (List Int) → Int → (List Int) → Option (Int × (List Int))) (x1179 : Int) (x1103 : Int) (x1106 : List Int) (x1178 : Int) (x1182 : List Int) : Option ((Int × (List Int))) :=
  (spec_l20Fill_n3 R0 x1179 x1103 x1106 x1178 x1182).map (fun (t : Int × (List Int)) => (t.1, t.2))

def spec_l20Fill_n5 (R0 : Int → Int → Int → (List Int) → Int → (List Int) → Option (Int × (List Int))) (x1179 : Int) : Option (Int) :=
  some (IntKind.wrap .i64 (x1179 + 1))

def spec_l20Fill_n6 (R0 : Int → Int → Int → (List Int) → Int → (List Int) → Option (Int × (List Int))) (x1104 : Int) (x1179 : Int) (x1221 : Int) (x1106 : List Int) (x1222 : Int) (x1223 : List Int) : Option ((Int × Int × (List Int)) ⊕ (Int × (List Int))) :=
  cond (decide (x1221 ≤ x1104)) ((spec_l20Rd_pick (IntKind.wrap .i64 ((IntKind.wrap .i64 (x1104 - x1221)) + 1)) x1106 x1222).bind fun (v1228 : Int × Int) => (R0 x1221 (IntKind.wrap .i64 (x1221 + (v1228.1))) x1179 x1106 (v1228.2) x1223).bind fun (v1232 : Int × (List Int)) => some (Sum.inl ((IntKind.wrap .i64 ((IntKind.wrap .i64 (x1221 + (v1228.1))) + 1)), (v1232.1), (v1232.2)))) (some (Sum.inr (x1222, x1223)))

def spec_l20Fill_n7 (R0 : Int → Int → Int → (List Int) → Int → (List Int) → Option (Int × (List Int))) (x1104 : Int) (x1179 : Int) (x1208 : Int) (x1106 : List Int) (x1195 : Int) (x1196 : List Int) : Option ((Int × (List Int))) :=
  nloop (fun (s : Int × Int × (List Int)) => ((spec_l20Fill_n6 R0 x1104 x1179 s.1 x1106 s.2.1 s.2.2).map (Sum.elim (fun (t : Int × Int × (List Int)) => Sum.inl (t.1, t.2.1, t.2.2)) (fun (t : Int × (List Int)) => Sum.inr t)) : Option ((Int × Int × (List Int)) ⊕ ((Int × (List Int)))))) LL (x1208, x1195, x1196)

def spec_l20Fill_n8 (R0 : Int → Int → Int → (List Int) → Int → (List Int) → Option (Int × (List Int))) (x1104 : Int) (x1179 : Int) (x1208 : Int) (x1106 : List Int) (x1195 : Int) (x1196 : List Int) : Option ((Int × (List Int))) :=
  (spec_l20Fill_n7 R0 x1104 x1179 x1208 x1106 x1195 x1196).map (fun (t : Int × (List Int)) => (t.1, t.2))

def spec_l20Fill_n9 (R0 : Int → Int → Int → (List Int) → Int → (List Int) → Option (Int × (List Int))) (x1104 : Int) (x1179 : Int) (x1106 : List Int) (x1195 : Int) (x1196 : List Int) : Option ((Int × (List Int))) :=
  (spec_l20Fill_n5 R0 x1179).bind (fun (t : Int) => spec_l20Fill_n8 R0 x1104 x1179 t x1106 x1195 x1196)

def spec_l20Fill_n10 (R0 : Int → Int → Int → (List Int) → Int → (List Int) → Option (Int × (List Int))) (x1104 : Int) (x1179 : Int) (x1103 : Int) (x1106 : List Int) (x1178 : Int) (x1182 : List Int) : Option ((Int × (List Int))) :=
  (spec_l20Fill_n4 R0 x1179 x1103 x1106 x1178 x1182).bind (fun (t : Int × (List Int)) => spec_l20Fill_n9 R0 x1104 x1179 x1106 t.1 t.2)

def spec_l20Fill_n11 (R0 : Int → Int → Int → (List Int) → Int → (List Int) → Option (Int × (List Int))) (x1103 : Int) (x1104 : Int) (x1105 : Int) (x1106 : List Int) (x1107 : Int) (x1108 : List Int) : Option ((Int × (List Int)) ⊕ (Int × (List Int))) :=
  (spec_l20Fill_n1 R0 x1103 x1104 x1105 x1106 x1107 x1108).bind (Sum.elim (fun (t : Int × Int × (List Int)) => (spec_l20Fill_n10 R0 x1104 t.1 x1103 x1106 t.2.1 t.2.2).map (fun (u : Int × (List Int)) => (Sum.inl (u.1, u.2)))) (fun e => some ((fun (t : Int × (List Int)) => (Sum.inr t)) e)))

def spec_l20Fill_one (R0 : Int → Int → Int → (List Int) → Int → (List Int) → Option (Int × (List Int))) (x1103 : Int) (x1104 : Int) (x1105 : Int) (x1106 : List Int) (x1107 : Int) (x1108 : List Int) : Option (Int × (List Int)) :=
  (spec_l20Fill_n11 R0 x1103 x1104 x1105 x1106 x1107 x1108).map (Sum.elim (fun (t : Int × (List Int)) => (t.1, t.2)) (fun (t : Int × (List Int)) => t))

def spec_l20Fill_knot : Nat → (Int → Int → Int → (List Int) → Int → (List Int) → Option (Int × (List Int)))
  | 0 => (fun _ _ _ _ _ _ => none)
  | n + 1 => (fun y0 y1 y2 y3 y4 y5 => spec_l20Fill_one (spec_l20Fill_knot n) y0 y1 y2 y3 y4 y5)

def spec_l20Fill_fuel (n : Nat) : Int → Int → Int → (List Int) → Int → (List Int) → Option (Int × (List Int)) := (spec_l20Fill_knot n)

@[irreducible] def spec_l20Fill (x1103 : Int) (x1104 : Int) (x1105 : Int) (x1106 : List Int) (x1107 : Int) (x1108 : List Int) : Option (Int × (List Int)) := spec_l20Fill_fuel RR x1103 x1104 x1105 x1106 x1107 x1108

/-! loop.example/headtrees/spec.l20Flat -/

def spec_l20Flat_n1 (x485 : Int) (x486 : List Int) (x487 : Int) : Option ((Int × (List Int))) :=
  (spec_l20Rd_pick 3 x486 x487).bind fun (v1257 : Int × Int) => cond ((v1257.1) == 0) ((spec_l20Tree x485 x486 (v1257.2)).bind fun (v1261 : Int × (List Int)) => some ((v1261.1), (v1261.2))) ((spec_l20Rd_pick 7 x486 (v1257.2)).bind fun (v1264 : Int × Int) => (mk (IntKind.wrap .i64 (1 + (v1264.1))) (IntKind.wrap .i64 (1 + (v1264.1)))).bind fun (v1268 : Nat) => (spec_l20Fill 1 (IntKind.wrap .i64 (1 + (v1264.1))) 0 x486 (v1264.2) (List.replicate v1268 (0 : Int))).bind fun (v1270 : Int × (List Int)) => some ((v1270.1), (v1270.2)))

@[irreducible] def spec_l20Flat (x485 : Int) (x486 : List Int) (x487 : Int) : Option (Int × (List Int)) :=
  spec_l20Flat_n1 x485 x486 x487

/-! loop.example/headtrees/spec.DrawCoveredOk -/

def spec_DrawCoveredOk_n1 (x480 : List Int) : Option ((Int × (List Int))) :=
  (spec_l20Open x480).bind fun (v1287 : List Int) => (spec_l20Flat 9 v1287 0).bind fun (v1288 : Int × (List Int)) => (spec_l20Rd_pick (IntKind.wrap .i64 ((((List.length (v1288.2) : Nat) : Int)) + 2)) v1287 (v1288.1)).bind fun (v1293 : Int × Int) => some ((v1293.1), (v1288.2))

@[irreducible] def spec_DrawCoveredOk (x480 : List Int) : Option (Int × (List Int)) :=
  spec_DrawCoveredOk_n1 x480

/-! loop.example/headtrees/impl.oneRoot -/

def impl_oneRoot_n1 : Option (Unit) :=
  some ()

def impl_oneRoot_n2 (x1313 : List Int) : Option (Int) :=
  some (((List.length x1313 : Nat) : Int))

def impl_oneRoot_n3 (x1313 : List Int) (x1335 : Int) (x1314 : Int) (x1336 : Int) : Option ((Int × Int) ⊕ Bool ⊕ Int) :=
  cond (decide (x1336 < x1314)) ((idx x1313 x1336).bind fun (v1347 : Int) => cond (decide (v1347 < 0)) (some (Sum.inr (Sum.inl false))) (cond (decide (v1347 > (((List.length x1313 : Nat) : Int)))) (some (Sum.inr (Sum.inl false))) (cond (v1347 == 0) (some (Sum.inl ((IntKind.wrap .i64 (x1335 + 1)), (IntKind.wrap .i64 (x1336 + 1))))) (some (Sum.inl (x1335, (IntKind.wrap .i64 (x1336 + 1)))))))) (some (Sum.inr (Sum.inr x1335)))

def impl_oneRoot_n4 (x1313 : List Int) (x1314 : Int) : Option (Bool ⊕ Int) :=
  nloop (fun (s : Int × Int) => ((impl_oneRoot_n3 x1313 s.1 x1314 s.2).map (Sum.elim (fun (t : Int × Int) => Sum.inl (t.1, t.2)) (Sum.elim (fun (t : Bool) => Sum.inr (Sum.inl t)) (fun (t : Int) => Sum.inr (Sum.inr t)))) : Option ((Int × Int) ⊕ (Bool ⊕ Int)))) LL (0, 0)

def impl_oneRoot_n5 (x1313 : List Int) (x1314 : Int) : Option (Int ⊕ Bool) :=
  (impl_oneRoot_n4 x1313 x1314).map (Sum.elim (fun (t : Bool) => (Sum.inr t)) (fun (t : Int) => (Sum.inl t)))

def impl_oneRoot_n6 (x1313 : List Int) : Option (Int ⊕ Bool) :=
  (impl_oneRoot_n2 x1313).bind (fun (t : Int) => impl_oneRoot_n5 x1313 t)

def impl_oneRoot_n7 (x1335 : Int) : Option (Bool) :=
  some (x1335 == 1)

def impl_oneRoot_n8 (x1313 : List Int) : Option (Bool) :=
  (impl_oneRoot_n6 x1313).bind (Sum.elim (fun (t : Int) => impl_oneRoot_n7 t) (fun e => some ((fun (t : Bool) => t) e)))

def impl_oneRoot_n9 (x1313 : List Int) : Option (Bool) :=
  (impl_oneRoot_n1).bind (fun (t : Unit) => impl_oneRoot_n8 x1313)

@[irreducible] def impl_oneRoot (x1313 : List Int) : Option (Bool) :=
  impl_oneRoot_n9 x1313

/-! (*loop.example/headtrees/impl.walker).up -/

def impl_walker_up_n1 (x1369 : List Int) (x1370 : Int) (x1371 : Int) : Option ((Bool × Int × Int)) :=
  (idx x1369 (IntKind.wrap .i64 (x1370 - 1))).bind fun (v1389 : Int) => cond (v1389 == 0) (some (false, x1370, x1371)) (some (true, v1389, (IntKind.wrap .i64 (x1371 + 1))))

@[irreducible] def impl_walker_up (x1369 : List Int) (x1370 : Int) (x1371 : Int) : Option (Bool × Int × Int) :=
  impl_walker_up_n1 x1369 x1370 x1371

/-! loop.example/headtrees/impl.stepsToRoot -/

def impl_stepsToRoot_n1 : Option (Unit) :=
  some ()

def impl_stepsToRoot_n2 (x1367 : List Int) (x1405 : Int) (x1406 : Int) : Option ((Int × Int) ⊕ (Int × Bool) ⊕ (Int × Int)) :=
  (impl_walker_up x1367 x1405 x1406).bind fun (v1411 : Bool × Int × Int) => cond (v1411.1) (cond (decide ((v1411.2.2) ≥ (((List.length x1367 : Nat) : Int)))) (some (Sum.inr (Sum.inl (0, false)))) (some (Sum.inl ((v1411.2.1), (v1411.2.2))))) (some (Sum.inr (Sum.inr ((v1411.2.1), (v1411.2.2)))))

def impl_stepsToRoot_n3 (x1367 : List Int) (x1368 : Int) : Option ((Int × Bool) ⊕ (Int × Int)) :=
  nloop (fun (s : Int × Int) => ((impl_stepsToRoot_n2 x1367 s.1 s.2).map (Sum.elim (fun (t : Int × Int) => Sum.inl (t.1, t.2)) (Sum.elim (fun (t : Int × Bool) => Sum.inr (Sum.inl t)) (fun (t : Int × Int) => Sum.inr (Sum.inr t)))) : Option ((Int × Int) ⊕ ((Int × Bool) ⊕ (Int × Int))))) LL (x1368, 0)

def impl_stepsToRoot_n4 (x1367 : List Int) (x1368 : Int) : Option ((Int × Int) ⊕ (Int × Bool)) :=
  (impl_stepsToRoot_n3 x1367 x1368).map (Sum.elim (fun (t : Int × Bool) => (Sum.inr t)) (fun (t : Int × Int) => (Sum.inl (t.1, t.2))))

def impl_stepsToRoot_n5 (x1414 : Int) : Option ((Int × Bool)) :=
  some (x1414, true)

def impl_stepsToRoot_n6 (x1367 : List Int) (x1368 : Int) : Option ((Int × Bool)) :=
  (impl_stepsToRoot_n4 x1367 x1368).bind (Sum.elim (fun (t : Int × Int) => impl_stepsToRoot_n5 t.2) (fun e => some ((fun (t : Int × Bool) => t) e)))

def impl_stepsToRoot_n7 (x1367 : List Int) (x1368 : Int) : Option ((Int × Bool)) :=
  (impl_stepsToRoot_n1).bind (fun (t : Unit) => impl_stepsToRoot_n6 x1367 x1368)

@[irreducible] def impl_stepsToRoot (x1367 : List Int) (x1368 : Int) : Option (Int × Bool) :=
  impl_stepsToRoot_n7 x1367 x1368

/-! loop.example/headtrees/impl.TreeOk -/

def impl_TreeOk_n1 (x1308 : List Int) : Option (Unit ⊕ Bool) :=
  cond (decide ((((List.length x1308 : Nat) : Int)) < 1)) (some (Sum.inr false)) (cond (decide ((((List.length x1308 : Nat) : Int)) > 8)) (some (Sum.inr false)) ((impl_oneRoot x1308).bind fun (v1360 : Bool) => cond (!v1360) (some (Sum.inr false)) (some (Sum.inl ()))))

def impl_TreeOk_n2 (x1308 : List Int) : Option (Int) :=
  some (((List.length x1308 : Nat) : Int))

def impl_TreeOk_n3 (x1308 : List Int) (x1362 : Int) (x1430 : Int) : Option (Int ⊕ Bool ⊕ Unit) :=
  cond (decide (x1430 < x1362)) ((impl_stepsToRoot x1308 (IntKind.wrap .i64 (x1430 + 1))).bind fun (v1441 : Int × Bool) => cond (!(v1441.2)) (some (Sum.inr (Sum.inl false))) (some (Sum.inl (IntKind.wrap .i64 (x1430 + 1))))) (some (Sum.inr (Sum.inr ())))

def impl_TreeOk_n4 (x1308 : List Int) (x1362 : Int) : Option (Bool ⊕ Unit) :=
  nloop (fun (s : Int) => ((impl_TreeOk_n3 x1308 x1362 s).map (Sum.elim (fun (t : Int) => Sum.inl t) (Sum.elim (fun (t : Bool) => Sum.inr (Sum.inl t)) (fun (t : Unit) => Sum.inr (Sum.inr t)))) : Option ((Int) ⊕ (Bool ⊕ Unit)))) LL 0

def impl_TreeOk_n5 (x1308 : List Int) (x1362 : Int) : Option (Unit ⊕ Bool) :=
  (impl_TreeOk_n4 x1308 x1362).map (Sum.elim (fun (t : Bool) => (Sum.inr t)) (fun (t : Unit) => (Sum.inl ())))

def impl_TreeOk_n6 (x1308 : List Int) : Option (Unit ⊕ Bool) :=
  (impl_TreeOk_n2 x1308).bind (fun (t : Int) => impl_TreeOk_n5 x1308 t)

def impl_TreeOk_n7 : Option (Bool) :=
  some true

def impl_TreeOk_n8 (x1308 : List Int) : Option (Bool) :=
  (impl_TreeOk_n6 x1308).bind (Sum.elim (fun (t : Unit) => impl_TreeOk_n7) (fun e => some ((fun (t : Bool) => t) e)))

def impl_TreeOk_n9 (x1308 : List Int) : Option (Bool) :=
  (impl_TreeOk_n1 x1308).bind (Sum.elim (fun (t : Unit) => impl_TreeOk_n8 x1308) (fun e => some ((fun (t : Bool) => t) e)))

@[irreducible] def impl_TreeOk (x1308 : List Int) : Option (Bool) :=
  impl_TreeOk_n9 x1308

/-! loop.example/headtrees/impl.wordOk -/

def impl_wordOk_n1 (x1306 : List Int) (x1307 : Int) : Option (Bool) :=
  (impl_TreeOk x1306).bind fun (v1451 : Bool) => cond v1451 (cond (decide (x1307 ≥ 1)) (some (decide (x1307 ≤ (((List.length x1306 : Nat) : Int))))) (some false)) (some false)

@[irreducible] def impl_wordOk (x1306 : List Int) (x1307 : Int) : Option (Bool) :=
  impl_wordOk_n1 x1306 x1307

/-! loop.example/headtrees/laws.toIntS -/

def laws_toIntS_n1 (x1469 : List Int) : Option (((List Int))) :=
  (mk (((List.length x1469 : Nat) : Int)) (((List.length x1469 : Nat) : Int))).bind fun (v1471 : Nat) => some (List.replicate v1471 (0 : Int))

def laws_toIntS_n2 : Option (Unit) :=
  some ()

def laws_toIntS_n3 (x1469 : List Int) (x1486 : Int) (x1487 : List Int) : Option ((Int × (List Int)) ⊕ ((List Int))) :=
  cond (decide (x1486 < (((List.length x1469 : Nat) : Int)))) ((idx x1469 x1486).bind fun (v1497 : Int) => (inb x1486 (List.length x1487)).bind fun (v1498 : Nat) => some (Sum.inl ((IntKind.wrap .i64 (x1486 + 1)), (x1487.set v1498 v1497)))) (some (Sum.inr x1487))

def laws_toIntS_n4 (x1469 : List Int) (x1472 : List Int) : Option (((List Int))) :=
  nloop (fun (s : Int × (List Int)) => ((laws_toIntS_n3 x1469 s.1 s.2).map (Sum.elim (fun (t : Int × (List Int)) => Sum.inl (t.1, t.2)) (fun (t : (List Int)) => Sum.inr t)) : Option ((Int × (List Int)) ⊕ (((List Int)))))) LL (0, x1472)

def laws_toIntS_n5 (x1469 : List Int) (x1472 : List Int) : Option (((List Int))) :=
  (laws_toIntS_n4 x1469 x1472).map (fun (t : (List Int)) => t)

def laws_toIntS_n6 (x1469 : List Int) (x1472 : List Int) : Option (((List Int))) :=
  (laws_toIntS_n2).bind (fun (t : Unit) => laws_toIntS_n5 x1469 x1472)

def laws_toIntS_n7 (x1487 : List Int) : Option (((List Int))) :=
  some x1487

def laws_toIntS_n8 (x1469 : List Int) (x1472 : List Int) : Option (((List Int))) :=
  (laws_toIntS_n6 x1469 x1472).bind (fun (t : (List Int)) => laws_toIntS_n7 t)

def laws_toIntS_n9 (x1469 : List Int) : Option (((List Int))) :=
  (laws_toIntS_n1 x1469).bind (fun (t : (List Int)) => laws_toIntS_n8 x1469 t)

@[irreducible] def laws_toIntS (x1469 : List Int) : Option ((List Int)) :=
  laws_toIntS_n9 x1469

/-! loop.example/headtrees/spec.l1In -/

def spec_l1In_n1 (x1507 : Int) (x1508 : Int) (x1509 : Int) : Option (Bool) :=
  cond (decide (x1507 ≥ x1508)) (some (decide (x1507 ≤ x1509))) (some false)

@[irreducible] def spec_l1In (x1507 : Int) (x1508 : Int) (x1509 : Int) : Option (Bool) :=
  spec_l1In_n1 x1507 x1508 x1509

/-! loop.example/headtrees/spec.TreeOk -/

def spec_TreeOk_n1 (x1504 : List Int) : Option (Int ⊕ Bool) :=
  (spec_l1In (((List.length x1504 : Nat) : Int)) 1 8).bind fun (v1518 : Bool) => cond (!v1518) (some (Sum.inr false)) (some (Sum.inl (((List.length x1504 : Nat) : Int))))

def spec_TreeOk_n2 : Option (Unit) :=
  some ()

def spec_TreeOk_n3 (x1517 : Int) (x1584 : Int) (x1585 : Int) : Option (Unit ⊕ Int) :=
  cond (decide (x1585 < x1517)) (some (Sum.inl ())) (some (Sum.inr x1584))

def spec_TreeOk_n4 (x1504 : List Int) (x1517 : Int) (x1584 : Int) (x1585 : Int) : Option ((Int × Int) ⊕ Bool) :=
  (idx x1504 x1585).bind fun (v1602 : Int) => (spec_l1In v1602 0 x1517).bind fun (v1603 : Bool) => cond (!v1603) (some (Sum.inr false)) ((idx x1504 x1585).bind fun (v1605 : Int) => cond (v1605 == (IntKind.wrap .i64 (x1585 + 1))) (some (Sum.inr false)) ((idx x1504 x1585).bind fun (v1608 : Int) => cond (v1608 == 0) (some (Sum.inl ((IntKind.wrap .i64 (x1584 + 1)), (IntKind.wrap .i64 (x1585 + 1))))) (some (Sum.inl (x1584, (IntKind.wrap .i64 (x1585 + 1)))))))

def spec_TreeOk_n5 : Option (Unit) :=
  some ()

def spec_TreeOk_n6 (x1504 : List Int) (x1517 : Int) (x1630 : Int) (x1631 : Int) : Option ((Int × Int) ⊕ Bool ⊕ Int) :=
  cond (decide (x1630 > 0)) (cond (decide (x1631 < x1517)) ((idx x1504 (IntKind.wrap .i64 (x1630 - 1))).bind fun (v1643 : Int) => (spec_l1In v1643 0 x1517).bind fun (v1644 : Bool) => cond (!v1644) (some (Sum.inr (Sum.inl false))) (some (Sum.inl (v1643, (IntKind.wrap .i64 (x1631 + 1)))))) (some (Sum.inr (Sum.inr x1630)))) (some (Sum.inr (Sum.inr x1630)))

def spec_TreeOk_n7 (x1504 : List Int) (x1517 : Int) (x1614 : Int) : Option (Bool ⊕ Int) :=
  nloop (fun (s : Int × Int) => ((spec_TreeOk_n6 x1504 x1517 s.1 s.2).map (Sum.elim (fun (t : Int × Int) => Sum.inl (t.1, t.2)) (Sum.elim (fun (t : Bool) => Sum.inr (Sum.inl t)) (fun (t : Int) => Sum.inr (Sum.inr t)))) : Option ((Int × Int) ⊕ (Bool ⊕ Int)))) LL (x1614, 0)

def spec_TreeOk_n8 (x1504 : List Int) (x1517 : Int) (x1614 : Int) : Option (Int ⊕ Bool) :=
  (spec_TreeOk_n7 x1504 x1517 x1614).map (Sum.elim (fun (t : Bool) => (Sum.inr t)) (fun (t : Int) => (Sum.inl t)))

def spec_TreeOk_n9 (x1504 : List Int) (x1517 : Int) (x1614 : Int) : Option (Int ⊕ Bool) :=
  (spec_TreeOk_n5).bind (fun (t : Unit) => spec_TreeOk_n8 x1504 x1517 x1614)

def spec_TreeOk_n10 (x1630 : Int) : Option (Unit ⊕ Bool) :=
  cond (decide (x1630 > 0)) (some (Sum.inr false)) (some (Sum.inl ()))

def spec_TreeOk_n11 (x1504 : List Int) (x1517 : Int) (x1614 : Int) : Option (Unit ⊕ Bool) :=
  (spec_TreeOk_n9 x1504 x1517 x1614).bind (Sum.elim (fun (t : Int) => spec_TreeOk_n10 t) (fun e => some ((fun (t : Bool) => (Sum.inr t)) e)))

def spec_TreeOk_n12 (x1504 : List Int) (x1517 : Int) (x1584 : Int) (x1585 : Int) : Option (Int ⊕ Bool) :=
  (spec_TreeOk_n4 x1504 x1517 x1584 x1585).bind (Sum.elim (fun (t : Int × Int) => (spec_TreeOk_n11 x1504 x1517 t.2).map (Sum.elim (fun (u : Unit) => (Sum.inl t.1)) (fun (u : Bool) => (Sum.inr u)))) (fun e => some ((fun (t : Bool) => (Sum.inr t)) e)))

def spec_TreeOk_n13 (x1504 : List Int) (x1517 : Int) (x1584 : Int) (x1585 : Int) : Option (Int ⊕ Bool) :=
  (spec_TreeOk_n12 x1504 x1517 x1584 x1585).map (Sum.elim (fun (t : Int) => (Sum.inl t)) (fun (t : Bool) => (Sum.inr t)))

def spec_TreeOk_n14 (x1585 : Int) : Option (Int) :=
  some (IntKind.wrap .i64 (x1585 + 1))

def spec_TreeOk_n15 (x1504 : List Int) (x1517 : Int) (x1584 : Int) (x1585 : Int) : Option ((Int × Int) ⊕ Bool) :=
  (spec_TreeOk_n13 x1504 x1517 x1584 x1585).bind (Sum.elim (fun (t : Int) => (spec_TreeOk_n14 x1585).map (fun (u : Int) => (Sum.inl (t, u)))) (fun e => some ((fun (t : Bool) => (Sum.inr t)) e)))

def spec_TreeOk_n16 (x1504 : List Int) (x1517 : Int) (x1584 : Int) (x1585 : Int) : Option ((Int × Int) ⊕ Bool ⊕ Int) :=
  (spec_TreeOk_n3 x1517 x1584 x1585).bind (Sum.elim (fun (t : Unit) => (spec_TreeOk_n15 x1504 x1517 x1584 x1585).map (Sum.elim (fun (t : Int × Int) => (Sum.inl (t.1, t.2))) (fun (t : Bool) => (Sum.inr (Sum.inl t))))) (fun e => some ((fun (t : Int) => (Sum.inr (Sum.inr t))) e)))

def spec_TreeOk_n17 (x1504 : List Int) (x1517 : Int) : Option (Bool ⊕ Int) :=
  nloop (fun (s : Int × Int) => ((spec_TreeOk_n16 x1504 x1517 s.1 s.2).map (Sum.elim (fun (t : Int × Int) => Sum.inl (t.1, t.2)) (Sum.elim (fun (t : Bool) => Sum.inr (Sum.inl t)) (fun (t : Int) => Sum.inr (Sum.inr t)))) : Option ((Int × Int) ⊕ (Bool ⊕ Int)))) LL (0, 0)

def spec_TreeOk_n18 (x1504 : List Int) (x1517 : Int) : Option (Int ⊕ Bool) :=
  (spec_TreeOk_n17 x1504 x1517).map (Sum.elim (fun (t : Bool) => (Sum.inr t)) (fun (t : Int) => (Sum.inl t)))

def spec_TreeOk_n19 (x1504 : List Int) (x1517 : Int) : Option (Int ⊕ Bool) :=
  (spec_TreeOk_n2).bind (fun (t : Unit) => spec_TreeOk_n18 x1504 x1517)

def spec_TreeOk_n20 (x1584 : Int) : Option (Bool) :=
  some (x1584 == 1)

def spec_TreeOk_n21 (x1504 : List Int) (x1517 : Int) : Option (Bool) :=
  (spec_TreeOk_n19 x1504 x1517).bind (Sum.elim (fun (t : Int) => spec_TreeOk_n20 t) (fun e => some ((fun (t : Bool) => t) e)))

def spec_TreeOk_n22 (x1504 : List Int) : Option (Bool) :=
  (spec_TreeOk_n1 x1504).bind (Sum.elim (fun (t : Int) => spec_TreeOk_n21 x1504 t) (fun e => some ((fun (t : Bool) => t) e)))

@[irreducible] def spec_TreeOk (x1504 : List Int) : Option (Bool) :=
  spec_TreeOk_n22 x1504

/-! loop.example/headtrees/spec.SidesOf -/

def spec_SidesOf_n1 (x1502 : List Int) (x1503 : Int) : Option (Unit ⊕ (Int × Int × Bool)) :=
  (spec_TreeOk x1502).bind fun (v1663 : Bool) => cond (!v1663) (some (Sum.inr ((-1), (-1), false))) ((spec_l1In x1503 1 (((List.length x1502 : Nat) : Int))).bind fun (v1666 : Bool) => cond (!v1666) (some (Sum.inr ((-1), (-1), false))) (some (Sum.inl ())))

def spec_SidesOf_n2 : Option (Unit) :=
  some ()

def spec_SidesOf_n3 (x1502 : List Int) (x1503 : Int) (x1726 : Int) (x1727 : Int) (x1728 : Int) : Option ((Int × Int × Int) ⊕ (Int × Int)) :=
  cond (decide (x1728 < (((List.length x1502 : Nat) : Int)))) ((idx x1502 x1728).bind fun (v1755 : Int) => cond (v1755 == x1503) (cond (decide ((IntKind.wrap .i64 (x1728 + 1)) < x1503)) ((idx x1502 x1728).bind fun (v1760 : Int) => cond (v1760 == x1503) (cond (decide ((IntKind.wrap .i64 (x1728 + 1)) > x1503)) (some (Sum.inl ((IntKind.wrap .i64 (x1726 + 1)), (IntKind.wrap .i64 (x1727 + 1)), (IntKind.wrap .i64 (x1728 + 1))))) (some (Sum.inl ((IntKind.wrap .i64 (x1726 + 1)), x1727, (IntKind.wrap .i64 (x1728 + 1)))))) (some (Sum.inl ((IntKind.wrap .i64 (x1726 + 1)), x1727, (IntKind.wrap .i64 (x1728 + 1)))))) ((idx x1502 x1728).bind fun (v1768 : Int) => cond (v1768 == x1503) (cond (decide ((IntKind.wrap .i64 (x1728 + 1)) > x1503)) (some (Sum.inl (x1726, (IntKind.wrap .i64 (x1727 + 1)), (IntKind.wrap .i64 (x1728 + 1))))) (some (Sum.inl (x1726, x1727, (IntKind.wrap .i64 (x1728 + 1)))))) (some (Sum.inl (x1726, x1727, (IntKind.wrap .i64 (x1728 + 1))))))) ((idx x1502 x1728).bind fun (v1776 : Int) => cond (v1776 == x1503) (cond (decide ((IntKind.wrap .i64 (x1728 + 1)) > x1503)) (some (Sum.inl (x1726, (IntKind.wrap .i64 (x1727 + 1)), (IntKind.wrap .i64 (x1728 + 1))))) (some (Sum.inl (x1726, x1727, (IntKind.wrap .i64 (x1728 + 1)))))) (some (Sum.inl (x1726, x1727, (IntKind.wrap .i64 (x1728 + 1))))))) (some (Sum.inr (x1726, x1727)))

def spec_SidesOf_n4 (x1502 : List Int) (x1503 : Int) : Option ((Int × Int)) :=
  nloop (fun (s : Int × Int × Int) => ((spec_SidesOf_n3 x1502 x1503 s.1 s.2.1 s.2.2).map (Sum.elim (fun (t : Int × Int × Int) => Sum.inl (t.1, t.2.1, t.2.2)) (fun (t : Int × Int) => Sum.inr t)) : Option ((Int × Int × Int) ⊕ ((Int × Int))))) LL (0, 0, 0)

def spec_SidesOf_n5 (x1502 : List Int) (x1503 : Int) : Option ((Int × Int)) :=
  (spec_SidesOf_n4 x1502 x1503).map (fun (t : Int × Int) => (t.1, t.2))

def spec_SidesOf_n6 (x1502 : List Int) (x1503 : Int) : Option ((Int × Int)) :=
  (spec_SidesOf_n2).bind (fun (t : Unit) => spec_SidesOf_n5 x1502 x1503)

def spec_SidesOf_n7 (x1726 : Int) (x1727 : Int) : Option ((Int × Int × Bool)) :=
  some (x1726, x1727, true)

def spec_SidesOf_n8 (x1502 : List Int) (x1503 : Int) : Option ((Int × Int × Bool)) :=
  (spec_SidesOf_n6 x1502 x1503).bind (fun (t : Int × Int) => spec_SidesOf_n7 t.1 t.2)

def spec_SidesOf_n9 (x1502 : List Int) (x1503 : Int) : Option ((Int × Int × Bool)) :=
  (spec_SidesOf_n1 x1502 x1503).bind (Sum.elim (fun (t : Unit) => spec_SidesOf_n8 x1502 x1503) (fun e => some ((fun (t : Int × Int × Bool) => t) e)))

@[irreducible] def spec_SidesOf (x1502 : List Int) (x1503 : Int) : Option (Int × Int × Bool) :=
  spec_SidesOf_n9 x1502 x1503

/-! loop.example/headtrees/impl.only -/

def impl_only_n1 (x1825 : Int) : Option (Int) :=
  (shl .u64 1 (IntKind.wrap .i64 (x1825 - 1))).bind fun (v1829 : Int) => some v1829

@[irreducible] def impl_only (x1825 : Int) : Option (Int) :=
  impl_only_n1 x1825

/-! loop.example/headtrees/impl.dependents -/

def impl_dependents_n1 : Option (Unit) :=
  some ()

def impl_dependents_n2 (x1816 : List Int) : Option (Int) :=
  some (((List.length x1816 : Nat) : Int))

def impl_dependents_n3 (x1816 : List Int) (x1817 : Int) (x1842 : Int) (x1818 : Int) (x1843 : Int) : Option ((Int × Int) ⊕ Int) :=
  cond (decide (x1843 < x1818)) ((idx x1816 x1843).bind fun (v1853 : Int) => cond (v1853 == x1817) ((impl_only (IntKind.wrap .i64 (x1843 + 1))).bind fun (v1856 : Int) => some (Sum.inl ((ior .u64 x1842 v1856), (IntKind.wrap .i64 (x1843 + 1))))) (some (Sum.inl (x1842, (IntKind.wrap .i64 (x1843 + 1)))))) (some (Sum.inr x1842))

def impl_dependents_n4 (x1816 : List Int) (x1817 : Int) (x1818 : Int) : Option (Int) :=
  nloop (fun (s : Int × Int) => ((impl_dependents_n3 x1816 x1817 s.1 x1818 s.2).map (Sum.elim (fun (t : Int × Int) => Sum.inl (t.1, t.2)) (fun (t : Int) => Sum.inr t)) : Option ((Int × Int) ⊕ (Int)))) LL (0, 0)

def impl_dependents_n5 (x1816 : List Int) (x1817 : Int) (x1818 : Int) : Option (Int) :=
  (impl_dependents_n4 x1816 x1817 x1818).map (fun (t : Int) => t)

def impl_dependents_n6 (x1816 : List Int) (x1817 : Int) : Option (Int) :=
  (impl_dependents_n2 x1816).bind (fun (t : Int) => impl_dependents_n5 x1816 x1817 t)

def impl_dependents_n7 (x1842 : Int) : Option (Int) :=
  some x1842

def impl_dependents_n8 (x1816 : List Int) (x1817 : Int) : Option (Int) :=
  (impl_dependents_n6 x1816 x1817).bind (fun (t : Int) => impl_dependents_n7 t)

def impl_dependents_n9 (x1816 : List Int) (x1817 : Int) : Option (Int) :=
  (impl_dependents_n1).bind (fun (t : Unit) => impl_dependents_n8 x1816 x1817)

@[irreducible] def impl_dependents (x1816 : List Int) (x1817 : Int) : Option (Int) :=
  impl_dependents_n9 x1816 x1817

/-! loop.example/headtrees/impl.before -/

def impl_before_n1 (x1866 : Int) : Option (Int) :=
  (impl_only x1866).bind fun (v1869 : Int) => some (IntKind.wrap .u64 (v1869 - 1))

@[irreducible] def impl_before (x1866 : Int) : Option (Int) :=
  impl_before_n1 x1866

/-! math/bits.OnesCount64 -/

def math_bits_OnesCount64_n1 (x1875 : Int) : Option (Int) :=
  (shr .u64 x1875 1).bind fun (v1876 : Int) => some (IntKind.wrap .u64 ((iand .u64 v1876 6148914691236517205) + (iand .u64 x1875 6148914691236517205)))

def math_bits_OnesCount64_n2 (x1880 : Int) : Option (Int) :=
  (shr .u64 x1880 2).bind fun (v1894 : Int) => some (IntKind.wrap .u64 ((iand .u64 v1894 3689348814741910323) + (iand .u64 x1880 3689348814741910323)))

def math_bits_OnesCount64_n3 (x1897 : Int) : Option (Int) :=
  (shr .u64 x1897 4).bind fun (v1902 : Int) => some (iand .u64 (IntKind.wrap .u64 (v1902 + x1897)) 1085102592571150095)

def math_bits_OnesCount64_n4 (x1904 : Int) : Option (Int) :=
  (shr .u64 x1904 8).bind fun (v1907 : Int) => some (IntKind.wrap .u64 (x1904 + v1907))

def math_bits_OnesCount64_n5 (x1908 : Int) : Option (Int) :=
  (shr .u64 x1908 16).bind fun (v1912 : Int) => some (IntKind.wrap .u64 (x1908 + v1912))

def math_bits_OnesCount64_n6 (x1913 : Int) : Option (Int) :=
  (shr .u64 x1913 32).bind fun (v1917 : Int) => some (IntKind.wrap .u64 (x1913 + v1917))

def math_bits_OnesCount64_n7 (x1918 : Int) : Option (Int) :=
  some (iand .i64 (IntKind.wrap .i64 x1918) 127)

def math_bits_OnesCount64_n8 (x1923 : Int) : Option (Int) :=
  some x1923

def math_bits_OnesCount64_n9 (x1918 : Int) : Option (Int) :=
  (math_bits_OnesCount64_n7 x1918).bind (fun (t : Int) => math_bits_OnesCount64_n8 t)

def math_bits_OnesCount64_n10 (x1913 : Int) : Option (Int) :=
  (math_bits_OnesCount64_n6 x1913).bind (fun (t : Int) => math_bits_OnesCount64_n9 t)

def math_bits_OnesCount64_n11 (x1908 : Int) : Option (Int) :=
  (math_bits_OnesCount64_n5 x1908).bind (fun (t : Int) => math_bits_OnesCount64_n10 t)

def math_bits_OnesCount64_n12 (x1904 : Int) : Option (Int) :=
  (math_bits_OnesCount64_n4 x1904).bind (fun (t : Int) => math_bits_OnesCount64_n11 t)

def math_bits_OnesCount64_n13 (x1897 : Int) : Option (Int) :=
  (math_bits_OnesCount64_n3 x1897).bind (fun (t : Int) => math_bits_OnesCount64_n12 t)

def math_bits_OnesCount64_n14 (x1880 : Int) : Option (Int) :=
  (math_bits_OnesCount64_n2 x1880).bind (fun (t : Int) => math_bits_OnesCount64_n13 t)

def math_bits_OnesCount64_n15 (x1875 : Int) : Option (Int) :=
  (math_bits_OnesCount64_n1 x1875).bind (fun (t : Int) => math_bits_OnesCount64_n14 t)

@[irreducible] def math_bits_OnesCount64 (x1875 : Int) : Option (Int) :=
  math_bits_OnesCount64_n15 x1875

/-! math/bits.OnesCount -/

def math_bits_OnesCount_n1 (x1874 : Int) : Option (Int) :=
  (math_bits_OnesCount64 x1874).bind fun (v1925 : Int) => some v1925

@[irreducible] def math_bits_OnesCount (x1874 : Int) : Option (Int) :=
  math_bits_OnesCount_n1 x1874

/-! (loop.example/headtrees/impl.wordSet).count -/

def impl_wordSet_count_n1 (x1873 : Int) : Option (Int) :=
  (math_bits_OnesCount x1873).bind fun (v1927 : Int) => some v1927

@[irreducible] def impl_wordSet_count (x1873 : Int) : Option (Int) :=
  impl_wordSet_count_n1 x1873

/-! loop.example/headtrees/impl.SidesOf -/

def impl_SidesOf_n1 (x1810 : List Int) (x1811 : Int) : Option ((Int × Int × Bool)) :=
  (impl_wordOk x1810 x1811).bind fun (v1932 : Bool) => cond (!v1932) (some ((-1), (-1), false)) ((impl_dependents x1810 x1811).bind fun (v1934 : Int) => (impl_before x1811).bind fun (v1935 : Int) => (impl_wordSet_count (iand .u64 v1934 v1935)).bind fun (v1937 : Int) => (impl_before x1811).bind fun (v1938 : Int) => (impl_wordSet_count (iandn .u64 v1934 v1938)).bind fun (v1940 : Int) => some (v1937, v1940, true))

@[irreducible] def impl_SidesOf (x1810 : List Int) (x1811 : Int) : Option (Int × Int × Bool) :=
  impl_SidesOf_n1 x1810 x1811

/-! loop.example/headtrees/laws.eqIntS -/

def laws_eqIntS_n1 (x1979 : List Int) (x1980 : List Int) : Option (Unit ⊕ Bool) :=
  cond ((((List.length x1979 : Nat) : Int)) != (((List.length x1980 : Nat) : Int))) (some (Sum.inr false)) (some (Sum.inl ()))

def laws_eqIntS_n2 : Option (Unit) :=
  some ()

def laws_eqIntS_n3 (x1979 : List Int) (x1980 : List Int) (x1997 : Int) : Option (Int ⊕ Bool ⊕ Unit) :=
  cond (decide (x1997 < (((List.length x1979 : Nat) : Int)))) ((idx x1979 x1997).bind fun (v2007 : Int) => (idx x1980 x1997).bind fun (v2008 : Int) => cond (v2007 != v2008) (some (Sum.inr (Sum.inl false))) (some (Sum.inl (IntKind.wrap .i64 (x1997 + 1))))) (some (Sum.inr (Sum.inr ())))

def laws_eqIntS_n4 (x1979 : List Int) (x1980 : List Int) : Option (Bool ⊕ Unit) :=
  nloop (fun (s : Int) => ((laws_eqIntS_n3 x1979 x1980 s).map (Sum.elim (fun (t : Int) => Sum.inl t) (Sum.elim (fun (t : Bool) => Sum.inr (Sum.inl t)) (fun (t : Unit) => Sum.inr (Sum.inr t)))) : Option ((Int) ⊕ (Bool ⊕ Unit)))) LL 0

def laws_eqIntS_n5 (x1979 : List Int) (x1980 : List Int) : Option (Unit ⊕ Bool) :=
  (laws_eqIntS_n4 x1979 x1980).map (Sum.elim (fun (t : Bool) => (Sum.inr t)) (fun (t : Unit) => (Sum.inl ())))

def laws_eqIntS_n6 (x1979 : List Int) (x1980 : List Int) : Option (Unit ⊕ Bool) :=
  (laws_eqIntS_n2).bind (fun (t : Unit) => laws_eqIntS_n5 x1979 x1980)

def laws_eqIntS_n7 : Option (Bool) :=
  some true

def laws_eqIntS_n8 (x1979 : List Int) (x1980 : List Int) : Option (Bool) :=
  (laws_eqIntS_n6 x1979 x1980).bind (Sum.elim (fun (t : Unit) => laws_eqIntS_n7) (fun e => some ((fun (t : Bool) => t) e)))

def laws_eqIntS_n9 (x1979 : List Int) (x1980 : List Int) : Option (Bool) :=
  (laws_eqIntS_n1 x1979 x1980).bind (Sum.elim (fun (t : Unit) => laws_eqIntS_n8 x1979 x1980) (fun e => some ((fun (t : Bool) => t) e)))

@[irreducible] def laws_eqIntS (x1979 : List Int) (x1980 : List Int) : Option (Bool) :=
  laws_eqIntS_n9 x1979 x1980

/-! loop.example/headtrees/laws.FnExactSidesOf -/

def laws_FnExactSidesOf_n1 (x1463 : List Int) (x1464 : Int) : Option (Bool) :=
  cond (decide ((((List.length x1463 : Nat) : Int)) > 1048576)) (some true) ((laws_toIntS x1463).bind fun (v2034 : List Int) => (spec_SidesOf v2034 x1464).bind fun (v2035 : Int × Int × Bool) => (laws_toIntS x1463).bind fun (v2039 : List Int) => (impl_SidesOf v2039 x1464).bind fun (v2040 : Int × Int × Bool) => cond ((v2040.1) != (v2035.1)) (some false) (cond ((v2040.2.1) != (v2035.2.1)) (some false) (cond ((v2040.2.2) != (v2035.2.2)) (some false) ((laws_toIntS x1463).bind fun (v2047 : List Int) => (laws_eqIntS v2039 v2047).bind fun (v2048 : Bool) => cond (!v2048) (some false) (some true)))))

@[irreducible] def laws_FnExactSidesOf (x1463 : List Int) (x1464 : Int) : Option (Bool) :=
  laws_FnExactSidesOf_n1 x1463 x1464

/-! loop.example/headtrees/laws.FnExactCrossOk -/

def laws_FnExactCrossOk_n1 (x2055 : Int) (x2056 : Int) (x2057 : Int) (x2058 : Int) : Option (Bool) :=
  (spec_CrossOk x2055 x2056 x2057 x2058).bind fun (v2068 : Bool) => (impl_CrossOk x2055 x2056 x2057 x2058).bind fun (v2069 : Bool) => cond (v2069 != v2068) (some false) (some true)

@[irreducible] def laws_FnExactCrossOk (x2055 : Int) (x2056 : Int) (x2057 : Int) (x2058 : Int) : Option (Bool) :=
  laws_FnExactCrossOk_n1 x2055 x2056 x2057 x2058

/-! loop.example/headtrees/spec.BackOf -/

def spec_BackOf_n1 (x2119 : List Int) : Option (Int) :=
  some (((List.length x2119 : Nat) : Int))

def spec_BackOf_n2 (x2120 : Int) : Option (Int) :=
  some (IntKind.wrap .i64 (x2120 - 1))

def spec_BackOf_n3 (x2119 : List Int) (x2120 : Int) (x2158 : Int) (x2159 : List Int) : Option ((Int × (List Int)) ⊕ ((List Int))) :=
  cond (decide (x2158 ≥ 0)) ((spec_TreeOk x2119).bind fun (v2178 : Bool) => cond v2178 ((idx x2119 x2158).bind fun (v2179 : Int) => cond (v2179 == 0) ((room ((List.length x2159) + List.length ([0]))).bind fun (v2183 : Unit) => some (Sum.inl ((IntKind.wrap .i64 (x2158 - 1)), (x2159 ++ ([0]))))) ((idx x2119 x2158).bind fun (v2187 : Int) => (room ((List.length x2159) + List.length ([(IntKind.wrap .i64 ((IntKind.wrap .i64 (x2120 + 1)) - v2187))]))).bind fun (v2191 : Unit) => some (Sum.inl ((IntKind.wrap .i64 (x2158 - 1)), (x2159 ++ ([(IntKind.wrap .i64 ((IntKind.wrap .i64 (x2120 + 1)) - v2187))])))))) (some (Sum.inr x2159))) (some (Sum.inr x2159))

def spec_BackOf_n4 (x2119 : List Int) (x2120 : Int) (x2121 : Int) : Option (((List Int))) :=
  nloop (fun (s : Int × (List Int)) => ((spec_BackOf_n3 x2119 x2120 s.1 s.2).map (Sum.elim (fun (t : Int × (List Int)) => Sum.inl (t.1, t.2)) (fun (t : (List Int)) => Sum.inr t)) : Option ((Int × (List Int)) ⊕ (((List Int)))))) LL (x2121, ([] : List Int))

def spec_BackOf_n5 (x2119 : List Int) (x2120 : Int) (x2121 : Int) : Option (((List Int))) :=
  (spec_BackOf_n4 x2119 x2120 x2121).map (fun (t : (List Int)) => t)

def spec_BackOf_n6 (x2119 : List Int) (x2120 : Int) : Option (((List Int))) :=
  (spec_BackOf_n2 x2120).bind (fun (t : Int) => spec_BackOf_n5 x2119 x2120 t)

def spec_BackOf_n7 (x2159 : List Int) : Option (((List Int))) :=
  some x2159

def spec_BackOf_n8 (x2119 : List Int) (x2120 : Int) : Option (((List Int))) :=
  (spec_BackOf_n6 x2119 x2120).bind (fun (t : (List Int)) => spec_BackOf_n7 t)

def spec_BackOf_n9 (x2119 : List Int) : Option (((List Int))) :=
  (spec_BackOf_n1 x2119).bind (fun (t : Int) => spec_BackOf_n8 x2119 t)

@[irreducible] def spec_BackOf (x2119 : List Int) : Option ((List Int)) :=
  spec_BackOf_n9 x2119

/-! loop.example/headtrees/impl.lastToFirst -/

def impl_lastToFirst_n1 (x2213 : Int) : Option (((List Int))) :=
  (mk x2213 x2213).bind fun (v2214 : Nat) => some (List.replicate v2214 (0 : Int))

def impl_lastToFirst_n2 (x2215 : List Int) : Option (Int) :=
  some (((List.length x2215 : Nat) : Int))

def impl_lastToFirst_n3 (x2213 : Int) (x2216 : Int) (x2228 : Int) (x2229 : List Int) : Option ((Int × (List Int)) ⊕ ((List Int))) :=
  cond (decide (x2228 < x2216)) ((inb x2228 (List.length x2229)).bind fun (v2238 : Nat) => some (Sum.inl ((IntKind.wrap .i64 (x2228 + 1)), (x2229.set v2238 (IntKind.wrap .i64 (x2213 - x2228)))))) (some (Sum.inr x2229))

def impl_lastToFirst_n4 (x2213 : Int) (x2216 : Int) (x2215 : List Int) : Option (((List Int))) :=
  nloop (fun (s : Int × (List Int)) => ((impl_lastToFirst_n3 x2213 x2216 s.1 s.2).map (Sum.elim (fun (t : Int × (List Int)) => Sum.inl (t.1, t.2)) (fun (t : (List Int)) => Sum.inr t)) : Option ((Int × (List Int)) ⊕ (((List Int)))))) LL (0, x2215)

def impl_lastToFirst_n5 (x2213 : Int) (x2216 : Int) (x2215 : List Int) : Option (((List Int))) :=
  (impl_lastToFirst_n4 x2213 x2216 x2215).map (fun (t : (List Int)) => t)

def impl_lastToFirst_n6 (x2213 : Int) (x2215 : List Int) : Option (((List Int))) :=
  (impl_lastToFirst_n2 x2215).bind (fun (t : Int) => impl_lastToFirst_n5 x2213 t x2215)

def impl_lastToFirst_n7 (x2229 : List Int) : Option (((List Int))) :=
  some x2229

def impl_lastToFirst_n8 (x2213 : Int) (x2215 : List Int) : Option (((List Int))) :=
  (impl_lastToFirst_n6 x2213 x2215).bind (fun (t : (List Int)) => impl_lastToFirst_n7 t)

def impl_lastToFirst_n9 (x2213 : Int) : Option (((List Int))) :=
  (impl_lastToFirst_n1 x2213).bind (fun (t : (List Int)) => impl_lastToFirst_n8 x2213 t)

@[irreducible] def impl_lastToFirst (x2213 : Int) : Option ((List Int)) :=
  impl_lastToFirst_n9 x2213

/-! loop.example/headtrees/impl.OrderOk -/

def impl_OrderOk_n1 (x2247 : List Int) (x2248 : Int) : Option (Unit ⊕ Bool) :=
  cond (decide (x2248 < 1)) (some (Sum.inr false)) (cond (decide (x2248 > 8)) (some (Sum.inr false)) (cond ((((List.length x2247 : Nat) : Int)) != x2248) (some (Sum.inr false)) (some (Sum.inl ()))))

def impl_OrderOk_n2 (x2247 : List Int) : Option (Int) :=
  some (((List.length x2247 : Nat) : Int))

def impl_OrderOk_n3 (x2248 : Int) (x2247 : List Int) (x2258 : Int) (x2282 : Int) (x2283 : List Bool) : Option ((Int × (List Bool)) ⊕ Bool ⊕ Unit) :=
  cond (decide (x2282 < x2258)) ((idx x2247 x2282).bind fun (v2297 : Int) => cond (decide (v2297 < 1)) (some (Sum.inr (Sum.inl false))) (cond (decide (v2297 > x2248)) (some (Sum.inr (Sum.inl false))) ((same (List.length x2283) 9).bind fun (v2300 : Unit) => (inb v2297 9).bind fun (v2301 : Nat) => (x2283[v2301]?).bind fun (v2302 : Bool) => cond v2302 (some (Sum.inr (Sum.inl false))) ((same (List.length x2283) 9).bind fun (v2303 : Unit) => (inb v2297 9).bind fun (v2304 : Nat) => some (Sum.inl ((IntKind.wrap .i64 (x2282 + 1)), (x2283.set v2304 true))))))) (some (Sum.inr (Sum.inr ())))

def impl_OrderOk_n4 (x2248 : Int) (x2247 : List Int) (x2258 : Int) : Option (Bool ⊕ Unit) :=
  nloop (fun (s : Int × (List Bool)) => ((impl_OrderOk_n3 x2248 x2247 x2258 s.1 s.2).map (Sum.elim (fun (t : Int × (List Bool)) => Sum.inl (t.1, t.2)) (Sum.elim (fun (t : Bool) => Sum.inr (Sum.inl t)) (fun (t : Unit) => Sum.inr (Sum.inr t)))) : Option ((Int × (List Bool)) ⊕ (Bool ⊕ Unit)))) LL (0, (List.replicate 9 false))

def impl_OrderOk_n5 (x2248 : Int) (x2247 : List Int) (x2258 : Int) : Option (Unit ⊕ Bool) :=
  (impl_OrderOk_n4 x2248 x2247 x2258).map (Sum.elim (fun (t : Bool) => (Sum.inr t)) (fun (t : Unit) => (Sum.inl ())))

def impl_OrderOk_n6 (x2247 : List Int) (x2248 : Int) : Option (Unit ⊕ Bool) :=
  (impl_OrderOk_n2 x2247).bind (fun (t : Int) => impl_OrderOk_n5 x2248 x2247 t)

def impl_OrderOk_n7 : Option (Bool) :=
  some true

def impl_OrderOk_n8 (x2247 : List Int) (x2248 : Int) : Option (Bool) :=
  (impl_OrderOk_n6 x2247 x2248).bind (Sum.elim (fun (t : Unit) => impl_OrderOk_n7) (fun e => some ((fun (t : Bool) => t) e)))

def impl_OrderOk_n9 (x2247 : List Int) (x2248 : Int) : Option (Bool) :=
  (impl_OrderOk_n1 x2247 x2248).bind (Sum.elim (fun (t : Unit) => impl_OrderOk_n8 x2247 x2248) (fun e => some ((fun (t : Bool) => t) e)))

@[irreducible] def impl_OrderOk (x2247 : List Int) (x2248 : Int) : Option (Bool) :=
  impl_OrderOk_n9 x2247 x2248

/-! loop.example/headtrees/impl.placesIn -/

def impl_placesIn_n1 (x2315 : List Int) : Option (((List Int))) :=
  (mk (IntKind.wrap .i64 ((((List.length x2315 : Nat) : Int)) + 1)) (IntKind.wrap .i64 ((((List.length x2315 : Nat) : Int)) + 1))).bind fun (v2318 : Nat) => some (List.replicate v2318 (0 : Int))

def impl_placesIn_n2 (x2315 : List Int) : Option (Int) :=
  some (((List.length x2315 : Nat) : Int))

def impl_placesIn_n3 (x2315 : List Int) (x2320 : Int) (x2334 : Int) (x2335 : List Int) : Option ((Int × (List Int)) ⊕ ((List Int))) :=
  cond (decide (x2334 < x2320)) ((idx x2315 x2334).bind fun (v2344 : Int) => (inb v2344 (List.length x2335)).bind fun (v2346 : Nat) => some (Sum.inl ((IntKind.wrap .i64 (x2334 + 1)), (x2335.set v2346 (IntKind.wrap .i64 (x2334 + 1)))))) (some (Sum.inr x2335))

def impl_placesIn_n4 (x2315 : List Int) (x2320 : Int) (x2319 : List Int) : Option (((List Int))) :=
  nloop (fun (s : Int × (List Int)) => ((impl_placesIn_n3 x2315 x2320 s.1 s.2).map (Sum.elim (fun (t : Int × (List Int)) => Sum.inl (t.1, t.2)) (fun (t : (List Int)) => Sum.inr t)) : Option ((Int × (List Int)) ⊕ (((List Int)))))) LL (0, x2319)

def impl_placesIn_n5 (x2315 : List Int) (x2320 : Int) (x2319 : List Int) : Option (((List Int))) :=
  (impl_placesIn_n4 x2315 x2320 x2319).map (fun (t : (List Int)) => t)

def impl_placesIn_n6 (x2315 : List Int) (x2319 : List Int) : Option (((List Int))) :=
  (impl_placesIn_n2 x2315).bind (fun (t : Int) => impl_placesIn_n5 x2315 t x2319)

def impl_placesIn_n7 (x2335 : List Int) : Option (((List Int))) :=
  some x2335

def impl_placesIn_n8 (x2315 : List Int) (x2319 : List Int) : Option (((List Int))) :=
  (impl_placesIn_n6 x2315 x2319).bind (fun (t : (List Int)) => impl_placesIn_n7 t)

def impl_placesIn_n9 (x2315 : List Int) : Option (((List Int))) :=
  (impl_placesIn_n1 x2315).bind (fun (t : (List Int)) => impl_placesIn_n8 x2315 t)

@[irreducible] def impl_placesIn (x2315 : List Int) : Option ((List Int)) :=
  impl_placesIn_n9 x2315

/-! loop.example/headtrees/impl.PutInOrder$1 -/

def impl_PutInOrder_1_n1 (x2369 : Int) (x2370 : List Int) : Option (Int) :=
  (inb x2369 (List.length x2370)).bind fun (v2373 : Nat) => (x2370[v2373]?).bind fun (v2374 : Int) => some v2374

@[irreducible] def impl_PutInOrder_1 (x2369 : Int) (x2370 : List Int) : Option (Int) :=
  impl_PutInOrder_1_n1 x2369 x2370

/-! loop.example/headtrees/impl.renamed[int] -/

def impl_renamed_int_n1 (x2357 : List Int) : Option (((List Int))) :=
  (mk (((List.length x2357 : Nat) : Int)) (((List.length x2357 : Nat) : Int))).bind fun (v2360 : Nat) => some (List.replicate v2360 (0 : Int))

def impl_renamed_int_n2 (x2357 : List Int) : Option (Int) :=
  some (((List.length x2357 : Nat) : Int))

def impl_renamed_int_n3 (x2356 : List Int) (x2357 : List Int) (x2362 : Int) (x2386 : Int) (x2358 : List Int) (x2387 : List Int) : Option ((Int × (List Int)) ⊕ ((List Int))) :=
  cond (decide (x2386 < x2362)) ((idx x2357 x2386).bind fun (v2398 : Int) => (idx x2356 (IntKind.wrap .i64 (v2398 - 1))).bind fun (v2400 : Int) => (impl_PutInOrder_1 v2400 x2358).bind fun (v2401 : Int) => (inb x2386 (List.length x2387)).bind fun (v2402 : Nat) => some (Sum.inl ((IntKind.wrap .i64 (x2386 + 1)), (x2387.set v2402 v2401)))) (some (Sum.inr x2387))

def impl_renamed_int_n4 (x2356 : List Int) (x2357 : List Int) (x2362 : Int) (x2358 : List Int) (x2361 : List Int) : Option (((List Int))) :=
  nloop (fun (s : Int × (List Int)) => ((impl_renamed_int_n3 x2356 x2357 x2362 s.1 x2358 s.2).map (Sum.elim (fun (t : Int × (List Int)) => Sum.inl (t.1, t.2)) (fun (t : (List Int)) => Sum.inr t)) : Option ((Int × (List Int)) ⊕ (((List Int)))))) LL (0, x2361)

def impl_renamed_int_n5 (x2356 : List Int) (x2357 : List Int) (x2362 : Int) (x2358 : List Int) (x2361 : List Int) : Option (((List Int))) :=
  (impl_renamed_int_n4 x2356 x2357 x2362 x2358 x2361).map (fun (t : (List Int)) => t)

def impl_renamed_int_n6 (x2356 : List Int) (x2357 : List Int) (x2358 : List Int) (x2361 : List Int) : Option (((List Int))) :=
  (impl_renamed_int_n2 x2357).bind (fun (t : Int) => impl_renamed_int_n5 x2356 x2357 t x2358 x2361)

def impl_renamed_int_n7 (x2387 : List Int) : Option (((List Int))) :=
  some x2387

def impl_renamed_int_n8 (x2356 : List Int) (x2357 : List Int) (x2358 : List Int) (x2361 : List Int) : Option (((List Int))) :=
  (impl_renamed_int_n6 x2356 x2357 x2358 x2361).bind (fun (t : (List Int)) => impl_renamed_int_n7 t)

def impl_renamed_int_n9 (x2356 : List Int) (x2357 : List Int) (x2358 : List Int) : Option (((List Int))) :=
  (impl_renamed_int_n1 x2357).bind (fun (t : (List Int)) => impl_renamed_int_n8 x2356 x2357 x2358 t)

@[irreducible] def impl_renamed_int (x2356 : List Int) (x2357 : List Int) (x2358 : List Int) : Option ((List Int)) :=
  impl_renamed_int_n9 x2356 x2357 x2358

/-! loop.example/headtrees/impl.PutInOrder -/

def impl_PutInOrder_n1 (x2242 : List Int) (x2243 : List Int) : Option ((Bool × (List Int))) :=
  (impl_TreeOk x2242).bind fun (v2406 : Bool) => cond (!v2406) (some (false, ([] : List Int))) ((impl_OrderOk x2243 (((List.length x2242 : Nat) : Int))).bind fun (v2409 : Bool) => cond (!v2409) (some (false, ([] : List Int))) ((impl_placesIn x2243).bind fun (v2411 : List Int) => (impl_renamed_int x2242 x2243 v2411).bind fun (v2412 : List Int) => some (true, v2412)))

@[irreducible] def impl_PutInOrder (x2242 : List Int) (x2243 : List Int) : Option (Bool × (List Int)) :=
  impl_PutInOrder_n1 x2242 x2243

/-! loop.example/headtrees/impl.BackOf -/

def impl_BackOf_n1 (x2207 : List Int) : Option (((List Int))) :=
  (impl_TreeOk x2207).bind fun (v2425 : Bool) => cond (!v2425) (some ([] : List Int)) ((impl_lastToFirst (((List.length x2207 : Nat) : Int))).bind fun (v2428 : List Int) => (impl_PutInOrder x2207 v2428).bind fun (v2429 : Bool × (List Int)) => some (v2429.2))

@[irreducible] def impl_BackOf (x2207 : List Int) : Option ((List Int)) :=
  impl_BackOf_n1 x2207

/-! loop.example/headtrees/laws.markIntS -/

def laws_markIntS_n1 : Option (Unit) :=
  some ()

def laws_markIntS_n2 : Option (Unit) :=
  some ()

def laws_markIntS_n3 (x2490 : Int) (x2491 : Int) (x2492 : List Int) : Option ((Int × Int × (List Int)) ⊕ (Int × (List Int))) :=
  cond (decide (x2491 < (((List.length x2492 : Nat) : Int)))) ((inb x2491 (List.length x2492)).bind fun (v2502 : Nat) => some (Sum.inl ((IntKind.wrap .i64 (x2490 + 1)), (IntKind.wrap .i64 (x2491 + 1)), (x2492.set v2502 x2490)))) (some (Sum.inr (x2490, x2492)))

def laws_markIntS_n4 (x2475 : Int) (x2476 : List Int) : Option ((Int × (List Int))) :=
  nloop (fun (s : Int × Int × (List Int)) => ((laws_markIntS_n3 s.1 s.2.1 s.2.2).map (Sum.elim (fun (t : Int × Int × (List Int)) => Sum.inl (t.1, t.2.1, t.2.2)) (fun (t : Int × (List Int)) => Sum.inr t)) : Option ((Int × Int × (List Int)) ⊕ ((Int × (List Int)))))) LL (x2475, 0, x2476)

def laws_markIntS_n5 (x2475 : Int) (x2476 : List Int) : Option ((Int × (List Int))) :=
  (laws_markIntS_n4 x2475 x2476).map (fun (t : Int × (List Int)) => (t.1, t.2))

def laws_markIntS_n6 (x2475 : Int) (x2476 : List Int) : Option ((Int × (List Int))) :=
  (laws_markIntS_n2).bind (fun (t : Unit) => laws_markIntS_n5 x2475 x2476)

def laws_markIntS_n7 (x2490 : Int) (x2492 : List Int) : Option ((Int × (List Int))) :=
  some (x2490, x2492)

def laws_markIntS_n8 (x2475 : Int) (x2476 : List Int) : Option ((Int × (List Int))) :=
  (laws_markIntS_n6 x2475 x2476).bind (fun (t : Int × (List Int)) => laws_markIntS_n7 t.1 t.2)

def laws_markIntS_n9 (x2475 : Int) (x2476 : List Int) : Option ((Int × (List Int))) :=
  (laws_markIntS_n1).bind (fun (t : Unit) => laws_markIntS_n8 x2475 x2476)

@[irreducible] def laws_markIntS (x2475 : Int) (x2476 : List Int) : Option (Int × (List Int)) :=
  laws_markIntS_n9 x2475 x2476

/-! loop.example/headtrees/laws.heldIntS -/

def laws_heldIntS_n1 : Option (Unit) :=
  some ()

def laws_heldIntS_n2 : Option (Unit) :=
  some ()

def laws_heldIntS_n3 (x2603 : List Int) (x2618 : Int) (x2619 : Int) : Option ((Int × Int) ⊕ Int ⊕ Int) :=
  cond (decide (x2619 < (((List.length x2603 : Nat) : Int)))) ((idx x2603 x2619).bind fun (v2629 : Int) => cond (v2629 != x2618) (some (Sum.inr (Sum.inl (-1)))) (some (Sum.inl ((IntKind.wrap .i64 (x2618 + 1)), (IntKind.wrap .i64 (x2619 + 1)))))) (some (Sum.inr (Sum.inr x2618)))

def laws_heldIntS_n4 (x2603 : List Int) (x2604 : Int) : Option (Int ⊕ Int) :=
  nloop (fun (s : Int × Int) => ((laws_heldIntS_n3 x2603 s.1 s.2).map (Sum.elim (fun (t : Int × Int) => Sum.inl (t.1, t.2)) (Sum.elim (fun (t : Int) => Sum.inr (Sum.inl t)) (fun (t : Int) => Sum.inr (Sum.inr t)))) : Option ((Int × Int) ⊕ (Int ⊕ Int)))) LL (x2604, 0)

def laws_heldIntS_n5 (x2603 : List Int) (x2604 : Int) : Option (Int ⊕ Int) :=
  (laws_heldIntS_n4 x2603 x2604).map (Sum.elim (fun (t : Int) => (Sum.inr t)) (fun (t : Int) => (Sum.inl t)))

def laws_heldIntS_n6 (x2603 : List Int) (x2604 : Int) : Option (Int ⊕ Int) :=
  (laws_heldIntS_n2).bind (fun (t : Unit) => laws_heldIntS_n5 x2603 x2604)

def laws_heldIntS_n7 (x2618 : Int) : Option (Int) :=
  some x2618

def laws_heldIntS_n8 (x2603 : List Int) (x2604 : Int) : Option (Int) :=
  (laws_heldIntS_n6 x2603 x2604).bind (Sum.elim (fun (t : Int) => laws_heldIntS_n7 t) (fun e => some ((fun (t : Int) => t) e)))

def laws_heldIntS_n9 (x2603 : List Int) (x2604 : Int) : Option (Int) :=
  (laws_heldIntS_n1).bind (fun (t : Unit) => laws_heldIntS_n8 x2603 x2604)

@[irreducible] def laws_heldIntS (x2603 : List Int) (x2604 : Int) : Option (Int) :=
  laws_heldIntS_n9 x2603 x2604

/-! loop.example/headtrees/laws.FnExactBackOf -/

def laws_FnExactBackOf_n1 (x2113 : List Int) : Option (Bool) :=
  cond (decide ((((List.length x2113 : Nat) : Int)) > 1048576)) (some true) ((laws_toIntS x2113).bind fun (v2878 : List Int) => (spec_BackOf v2878).bind fun (v2879 : List Int) => (laws_toIntS x2113).bind fun (v2880 : List Int) => (impl_BackOf v2880).bind fun (v2881 : List Int) => (laws_eqIntS v2881 v2879).bind fun (v2882 : Bool) => cond (!v2882) (some false) ((laws_toIntS x2113).bind fun (v2884 : List Int) => (laws_eqIntS v2880 v2884).bind fun (v2885 : Bool) => cond (!v2885) (some false) ((laws_markIntS 1 v2880).bind fun (v2887 : Int × (List Int)) => cond (decide ((v2887.1) < 0)) (some false) ((laws_eqIntS v2881 v2879).bind fun (v2891 : Bool) => cond (!v2891) (some false) ((laws_markIntS 1 v2881).bind fun (v2893 : Int × (List Int)) => (laws_heldIntS (v2893.2) 1).bind fun (v2896 : Int) => cond (decide (v2896 < 0)) (some false) (cond (v2896 != (v2893.1)) (some false) ((laws_toIntS x2113).bind fun (v2899 : List Int) => (impl_BackOf v2899).bind fun (v2900 : List Int) => (laws_eqIntS v2900 v2879).bind fun (v2901 : Bool) => cond (!v2901) (some false) ((laws_heldIntS (v2893.2) 1).bind fun (v2903 : Int) => cond (decide (v2903 < 0)) (some false) (cond (v2903 != (v2893.1)) (some false) (some true))))))))))

@[irreducible] def laws_FnExactBackOf (x2113 : List Int) : Option (Bool) :=
  laws_FnExactBackOf_n1 x2113

end Go.Rv
