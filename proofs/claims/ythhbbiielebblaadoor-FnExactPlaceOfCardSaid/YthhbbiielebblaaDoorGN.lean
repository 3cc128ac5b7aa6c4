/-
  Plain functions, written by program for functions of the checked code. Conditions: none.
-/
import Derived.Test.YthhbbiielebblaaDoorFB
set_option linter.unusedVariables false
namespace Go.Rv
/-! loop.example/headtrees/spec.l20Open -/

def spec_l20Open_n1 (x12 : List Int) : Option (((List Int))) :=
  cond (decide ((((List.length x12 : Nat) : Int)) > 2000)) ((inc 2000 (List.length x12)).bind fun (v28 : Nat) => some ((x12.take v28).drop 0)) (some x12)

@[irreducible] def spec_l20Open (x12 : List Int) : Option ((List Int)) :=
  spec_l20Open_n1 x12

/-! (*loop.example/headtrees/spec.l20Rd).pick -/

def spec_l20Rd_pick_n1 (x34 : Int) (x35 : List Int) (x36 : Int) : Option ((Int × Int)) :=
  cond (decide (x34 < 1)) (some (0, (IntKind.wrap .i64 (x36 + 1)))) (cond ((((List.length x35 : Nat) : Int)) == 0) (some (0, (IntKind.wrap .i64 (x36 + 1)))) (cond (decide ((IntKind.wrap .i64 ((IntKind.wrap .i64 (x36 + 1)) - 1)) < (((List.length x35 : Nat) : Int)))) ((idx x35 (IntKind.wrap .i64 ((IntKind.wrap .i64 (x36 + 1)) - 1))).bind fun (v164 : Int) => (rem (IntKind.wrap .i64 v164) x34).bind fun (v166 : Int) => some (v166, (IntKind.wrap .i64 (x36 + 1)))) ((rem (IntKind.wrap .i64 ((IntKind.wrap .i64 (x36 + 1)) - 1)) (((List.length x35 : Nat) : Int))).bind fun (v168 : Int) => (idx x35 v168).bind fun (v169 : Int) => (rem (IntKind.wrap .i64 ((IntKind.wrap .i64 ((IntKind.wrap .i64 ((IntKind.wrap .i64 (x36 + 1)) - 1)) * 7)) + 3)) (((List.length x35 : Nat) : Int))).bind fun (v175 : Int) => (idx x35 v175).bind fun (v176 : Int) => (quo .i64 (IntKind.wrap .i64 ((IntKind.wrap .i64 (x36 + 1)) - 1)) (((List.length x35 : Nat) : Int))).bind fun (v183 : Int) => (quo .i64 (IntKind.wrap .i64 ((IntKind.wrap .i64 ((IntKind.wrap .i64 ((IntKind.wrap .i64 ((IntKind.wrap .i64 v169) * 131)) + (IntKind.wrap .i64 ((IntKind.wrap .i64 v176) * 1117)))) + (IntKind.wrap .i64 ((IntKind.wrap .i64 ((IntKind.wrap .i64 (x36 + 1)) - 1)) * 29)))) + (IntKind.wrap .i64 (v183 * 53)))) 64).bind fun (v186 : Int) => (rem (ixor .i64 (IntKind.wrap .i64 ((IntKind.wrap .i64 ((IntKind.wrap .i64 ((IntKind.wrap .i64 ((IntKind.wrap .i64 v169) * 131)) + (IntKind.wrap .i64 ((IntKind.wrap .i64 v176) * 1117)))) + (IntKind.wrap .i64 ((IntKind.wrap .i64 ((IntKind.wrap .i64 (x36 + 1)) - 1)) * 29)))) + (IntKind.wrap .i64 (v183 * 53)))) v186) x34).bind fun (v188 : Int) => some (v188, (IntKind.wrap .i64 (x36 + 1))))))

@[irreducible] def spec_l20Rd_pick (x34 : Int) (x35 : List Int) (x36 : Int) : Option (Int × Int) :=
  spec_l20Rd_pick_n1 x34 x35 x36

/-! loop.example/headtrees/spec.l1In -/

def spec_l1In_n1 (x216 : Int) (x217 : Int) (x218 : Int) : Option (Bool) :=
  cond (decide (x216 ≥ x217)) (some (decide (x216 ≤ x218))) (some false)

@[irreducible] def spec_l1In (x216 : Int) (x217 : Int) (x218 : Int) : Option (Bool) :=
  spec_l1In_n1 x216 x217 x218

/-! loop.example/headtrees/spec.l4Flat, loop.example/headtrees/spec.l4Rows -/

def spec_l4Flat_n1 (R0 : Int → Option Int) (R1 : Int → Option Int) : Option (Unit) :=
  some ()

def spec_l4Flat_n2 (R0 : Int → Option Int) (R1 : Int → Option Int) : Option (Unit) :=
  some ()

def spec_l4Flat_n3 (R0 : Int → Option Int) (R1 : Int → Option Int) (x229 : Int) (x332 : Int) (x333 : Int) : Option ((Int × Int) ⊕ Int) :=
  cond (decide (x333 < x229)) ((R1 x333).bind fun (v343 : Int) => (R1 (IntKind.wrap .i64 ((IntKind.wrap .i64 (x229 - 1)) - x333))).bind fun (v346 : Int) => some (Sum.inl ((IntKind.wrap .i64 (x332 + (IntKind.wrap .i64 (v343 * v346)))), (IntKind.wrap .i64 (x333 + 1))))) (some (Sum.inr x332))

def spec_l4Flat_n4 (R0 : Int → Option Int) (R1 : Int → Option Int) (x229 : Int) : Option (Int) :=
  nloop (fun (s : Int × Int) => ((spec_l4Flat_n3 R0 R1 x229 s.1 s.2).map (Sum.elim (fun (t : Int × Int) => Sum.inl (t.1, t.2)) (fun (t : Int) => Sum.inr t)) : Option ((Int × Int) ⊕ (Int)))) LL (0, 0)

def spec_l4Flat_n5 (R0 : Int → Option Int) (R1 : Int → Option Int) (x229 : Int) : Option (Int) :=
  (spec_l4Flat_n4 R0 R1 x229).map (fun (t : Int) => t)

def spec_l4Flat_n6 (R0 : Int → Option Int) (R1 : Int → Option Int) (x229 : Int) : Option (Int) :=
  (spec_l4Flat_n2 R0 R1).bind (fun (t : Unit) => spec_l4Flat_n5 R0 R1 x229)

def spec_l4Flat_n7 (R0 : Int → Option Int) (R1 : Int → Option Int) (x332 : Int) : Option (Int) :=
  some x332

def spec_l4Flat_n8 (R0 : Int → Option Int) (R1 : Int → Option Int) (x229 : Int) : Option (Int) :=
  (spec_l4Flat_n6 R0 R1 x229).bind (fun (t : Int) => spec_l4Flat_n7 R0 R1 t)

def spec_l4Flat_n9 (R0 : Int → Option Int) (R1 : Int → Option Int) (x229 : Int) : Option (Int) :=
  (spec_l4Flat_n1 R0 R1).bind (fun (t : Unit) => spec_l4Flat_n8 R0 R1 x229)

def spec_l4Flat_one (R0 : Int → Option Int) (R1 : Int → Option Int) (x229 : Int) : Option (Int) :=
  spec_l4Flat_n9 R0 R1 x229

def spec_l4Rows_n1 (R0 : Int → Option Int) (R1 : Int → Option Int) (x277 : Int) : Option (Unit ⊕ Int) :=
  cond (x277 == 0) (some (Sum.inr 1)) (some (Sum.inl ()))

def spec_l4Rows_n2 (R0 : Int → Option Int) (R1 : Int → Option Int) : Option (Unit) :=
  some ()

def spec_l4Rows_n3 (R0 : Int → Option Int) (R1 : Int → Option Int) (x277 : Int) (x301 : Int) (x302 : Int) : Option ((Int × Int) ⊕ Int) :=
  cond (decide (x302 ≤ x277)) ((R0 x302).bind fun (v311 : Int) => (R1 (IntKind.wrap .i64 (x277 - x302))).bind fun (v313 : Int) => some (Sum.inl ((IntKind.wrap .i64 (x301 + (IntKind.wrap .i64 (v311 * v313)))), (IntKind.wrap .i64 (x302 + 1))))) (some (Sum.inr x301))

def spec_l4Rows_n4 (R0 : Int → Option Int) (R1 : Int → Option Int) (x277 : Int) : Option (Int) :=
  nloop (fun (s : Int × Int) => ((spec_l4Rows_n3 R0 R1 x277 s.1 s.2).map (Sum.elim (fun (t : Int × Int) => Sum.inl (t.1, t.2)) (fun (t : Int) => Sum.inr t)) : Option ((Int × Int) ⊕ (Int)))) LL (0, 1)

def spec_l4Rows_n5 (R0 : Int → Option Int) (R1 : Int → Option Int) (x277 : Int) : Option (Int) :=
  (spec_l4Rows_n4 R0 R1 x277).map (fun (t : Int) => t)

def spec_l4Rows_n6 (R0 : Int → Option Int) (R1 : Int → Option Int) (x277 : Int) : Option (Int) :=
  (spec_l4Rows_n2 R0 R1).bind (fun (t : Unit) => spec_l4Rows_n5 R0 R1 x277)

def spec_l4Rows_n7 (R0 : Int → Option Int) (R1 : Int → Option Int) (x301 : Int) : Option (Int) :=
  some x301

def spec_l4Rows_n8 (R0 : Int → Option Int) (R1 : Int → Option Int) (x277 : Int) : Option (Int) :=
  (spec_l4Rows_n6 R0 R1 x277).bind (fun (t : Int) => spec_l4Rows_n7 R0 R1 t)

def spec_l4Rows_n9 (R0 : Int → Option Int) (R1 : Int → Option Int) (x277 : Int) : Option (Int) :=
  (spec_l4Rows_n1 R0 R1 x277).bind (Sum.elim (fun (t : Unit) => spec_l4Rows_n8 R0 R1 x277) (fun e => some ((fun (t : Int) => t) e)))

def spec_l4Rows_one (R0 : Int → Option Int) (R1 : Int → Option Int) (x277 : Int) : Option (Int) :=
  spec_l4Rows_n9 R0 R1 x277

def spec_l4Flat_knot : Nat → (Int → Option Int) × (Int → Option Int)
  | 0 => ((fun _ => none), (fun _ => none))
  | n + 1 => ((fun y0 => spec_l4Flat_one (spec_l4Flat_knot n).1 (spec_l4Flat_knot n).2 y0), (fun y0 => spec_l4Rows_one (spec_l4Flat_knot n).1 (spec_l4Flat_knot n).2 y0))

def spec_l4Flat_fuel (n : Nat) : Int → Option Int := (spec_l4Flat_knot n).1

@[irreducible] def spec_l4Flat (x229 : Int) : Option (Int) := spec_l4Flat_fuel RR x229

def spec_l4Rows_fuel (n : Nat) : Int → Option Int := (spec_l4Flat_knot n).2

@[irreducible] def spec_l4Rows (x277 : Int) : Option (Int) := spec_l4Rows_fuel RR x277

/-! loop.example/headtrees/spec.CountFlat -/

def spec_CountFlat_n1 (x214 : Int) : Option (Int) :=
  (spec_l1In x214 1 6).bind fun (v351 : Bool) => cond (!v351) (some (-1)) ((spec_l4Flat x214).bind fun (v353 : Int) => some v353)

@[irreducible] def spec_CountFlat (x214 : Int) : Option (Int) :=
  spec_CountFlat_n1 x214

/-! loop.example/headtrees/spec.DrawFlatAt -/

def spec_DrawFlatAt_n1 (x10 : List Int) : Option ((Int × Int)) :=
  (spec_l20Open x10).bind fun (v375 : List Int) => (spec_l20Rd_pick 5 v375 0).bind fun (v376 : Int × Int) => (spec_l20Rd_pick 20 v375 (v376.2)).bind fun (v380 : Int × Int) => (quo .i64 (v380.1) 19).bind fun (v383 : Int) => (spec_CountFlat (IntKind.wrap .i64 ((IntKind.wrap .i64 (1 + (v376.1))) + (IntKind.wrap .i64 (v383 * 2))))).bind fun (v386 : Int) => (spec_l20Rd_pick (imax v386 1) v375 (v380.2)).bind fun (v388 : Int × Int) => (spec_l20Rd_pick 30 v375 (v388.2)).bind fun (v391 : Int × Int) => (quo .i64 (v391.1) 29).bind fun (v394 : Int) => (spec_l20Rd_pick 30 v375 (v391.2)).bind fun (v397 : Int × Int) => (quo .i64 (v397.1) 29).bind fun (v400 : Int) => some ((IntKind.wrap .i64 ((IntKind.wrap .i64 (1 + (v376.1))) + (IntKind.wrap .i64 (v383 * 2)))), (IntKind.wrap .i64 ((IntKind.wrap .i64 ((v388.1) - (IntKind.wrap .i64 (v394 * 200)))) + (IntKind.wrap .i64 (v400 * 900)))))

@[irreducible] def spec_DrawFlatAt (x10 : List Int) : Option (Int × Int) :=
  spec_DrawFlatAt_n1 x10

/-! (loop.example/headtrees/impl.flatCounts).aroundRoots -/

def impl_flatCounts_aroundRoots_n1 : Option (Unit) :=
  some ()

@[irreducible] def impl_flatCounts_aroundRoots (x431 : Int) (x432 : Int) (x433 : Int) (x434 : Int) (x435 : Int) (x436 : Int) (x437 : Int) (x438 : Int) (x439 : Int) (x440 : Int) (x441 : Int) (x442 : Int) (x443 : Int) (x444 : Int) : Option (Unit) :=
  impl_flatCounts_aroundRoots_n1

/-! (loop.example/headtrees/impl.joins).below -/

def impl_joins_below_n1 : Option (Unit) :=
  some ()

def impl_joins_below_n2 : Option (Unit) :=
  some ()

def impl_joins_below_n3 (x477 : Int) (x498 : Int) (x478 : Int) (x499 : Int) (x463 : Int) (x464 : Int) (x465 : Int) (x466 : Int) (x467 : Int) (x468 : Int) (x469 : Int) (x470 : Int) (x471 : Int) (x472 : Int) (x473 : Int) (x474 : Int) (x475 : Int) (x476 : Int) : Option ((Int × Int) ⊕ Int) :=
  cond (decide (x499 < x478)) ((inb x499 7).bind fun (v511 : Nat) => ([x463, x464, x465, x466, x467, x468, x469, x470, x471, x472, x473, x474, x475, x476][v511]?).bind fun (v512 : Int) => (inb (IntKind.wrap .i64 (x477 - x499)) 7).bind fun (v514 : Nat) => ([x470, x471, x472, x473, x474, x475, x476][v514]?).bind fun (v515 : Int) => some (Sum.inl ((IntKind.wrap .i64 (x498 + (IntKind.wrap .i64 (v512 * v515)))), (IntKind.wrap .i64 (x499 + 1))))) (some (Sum.inr x498))

def impl_joins_below_n4 (x477 : Int) (x478 : Int) (x463 : Int) (x464 : Int) (x465 : Int) (x466 : Int) (x467 : Int) (x468 : Int) (x469 : Int) (x470 : Int) (x471 : Int) (x472 : Int) (x473 : Int) (x474 : Int) (x475 : Int) (x476 : Int) : Option (Int) :=
  nloop (fun (s : Int × Int) => ((impl_joins_below_n3 x477 s.1 x478 s.2 x463 x464 x465 x466 x467 x468 x469 x470 x471 x472 x473 x474 x475 x476).map (Sum.elim (fun (t : Int × Int) => Sum.inl (t.1, t.2)) (fun (t : Int) => Sum.inr t)) : Option ((Int × Int) ⊕ (Int)))) LL (0, 0)

def impl_joins_below_n5 (x477 : Int) (x478 : Int) (x463 : Int) (x464 : Int) (x465 : Int) (x466 : Int) (x467 : Int) (x468 : Int) (x469 : Int) (x470 : Int) (x471 : Int) (x472 : Int) (x473 : Int) (x474 : Int) (x475 : Int) (x476 : Int) : Option (Int) :=
  (impl_joins_below_n4 x477 x478 x463 x464 x465 x466 x467 x468 x469 x470 x471 x472 x473 x474 x475 x476).map (fun (t : Int) => t)

def impl_joins_below_n6 (x477 : Int) (x478 : Int) (x463 : Int) (x464 : Int) (x465 : Int) (x466 : Int) (x467 : Int) (x468 : Int) (x469 : Int) (x470 : Int) (x471 : Int) (x472 : Int) (x473 : Int) (x474 : Int) (x475 : Int) (x476 : Int) : Option (Int) :=
  (impl_joins_below_n2).bind (fun (t : Unit) => impl_joins_below_n5 x477 x478 x463 x464 x465 x466 x467 x468 x469 x470 x471 x472 x473 x474 x475 x476)

def impl_joins_below_n7 (x498 : Int) : Option (Int) :=
  some x498

def impl_joins_below_n8 (x477 : Int) (x478 : Int) (x463 : Int) (x464 : Int) (x465 : Int) (x466 : Int) (x467 : Int) (x468 : Int) (x469 : Int) (x470 : Int) (x471 : Int) (x472 : Int) (x473 : Int) (x474 : Int) (x475 : Int) (x476 : Int) : Option (Int) :=
  (impl_joins_below_n6 x477 x478 x463 x464 x465 x466 x467 x468 x469 x470 x471 x472 x473 x474 x475 x476).bind (fun (t : Int) => impl_joins_below_n7 t)

def impl_joins_below_n9 (x463 : Int) (x464 : Int) (x465 : Int) (x466 : Int) (x467 : Int) (x468 : Int) (x469 : Int) (x470 : Int) (x471 : Int) (x472 : Int) (x473 : Int) (x474 : Int) (x475 : Int) (x476 : Int) (x477 : Int) (x478 : Int) : Option (Int) :=
  (impl_joins_below_n1).bind (fun (t : Unit) => impl_joins_below_n8 x477 x478 x463 x464 x465 x466 x467 x468 x469 x470 x471 x472 x473 x474 x475 x476)

@[irreducible] def impl_joins_below (x463 : Int) (x464 : Int) (x465 : Int) (x466 : Int) (x467 : Int) (x468 : Int) (x469 : Int) (x470 : Int) (x471 : Int) (x472 : Int) (x473 : Int) (x474 : Int) (x475 : Int) (x476 : Int) (x477 : Int) (x478 : Int) : Option (Int) :=
  impl_joins_below_n9 x463 x464 x465 x466 x467 x468 x469 x470 x471 x472 x473 x474 x475 x476 x477 x478

/-! (loop.example/headtrees/impl.joins).count -/

def impl_joins_count_n1 (x447 : Int) (x448 : Int) (x449 : Int) (x450 : Int) (x451 : Int) (x452 : Int) (x453 : Int) (x454 : Int) (x455 : Int) (x456 : Int) (x457 : Int) (x458 : Int) (x459 : Int) (x460 : Int) (x461 : Int) : Option (Int) :=
  (impl_joins_below x447 x448 x449 x450 x451 x452 x453 x454 x455 x456 x457 x458 x459 x460 x461 (IntKind.wrap .i64 (x461 + 1))).bind fun (v521 : Int) => some v521

@[irreducible] def impl_joins_count (x447 : Int) (x448 : Int) (x449 : Int) (x450 : Int) (x451 : Int) (x452 : Int) (x453 : Int) (x454 : Int) (x455 : Int) (x456 : Int) (x457 : Int) (x458 : Int) (x459 : Int) (x460 : Int) (x461 : Int) : Option (Int) :=
  impl_joins_count_n1 x447 x448 x449 x450 x451 x452 x453 x454 x455 x456 x457 x458 x459 x460 x461

/-! (loop.example/headtrees/impl.flatCounts).inRows -/

def impl_flatCounts_inRows_n1 : Option (Unit) :=
  some ()

@[irreducible] def impl_flatCounts_inRows (x539 : Int) (x540 : Int) (x541 : Int) (x542 : Int) (x543 : Int) (x544 : Int) (x545 : Int) (x546 : Int) (x547 : Int) (x548 : Int) (x549 : Int) (x550 : Int) (x551 : Int) (x552 : Int) : Option (Unit) :=
  impl_flatCounts_inRows_n1

/-! loop.example/headtrees/impl.countFlatParts -/

def impl_countFlatParts_n1 : Option ((Int × Int × Int × Int × Int × Int × Int)) :=
  (inb 0 7).bind fun (v420 : Nat) => (within v420 7).bind fun (v428 : Unit) => some ((cond (v420 == 0) 1 0), (cond (v420 == 1) 1 0), (cond (v420 == 2) 1 0), (cond (v420 == 3) 1 0), (cond (v420 == 4) 1 0), (cond (v420 == 5) 1 0), (cond (v420 == 6) 1 0))

def impl_countFlatParts_n2 : Option (Unit) :=
  some ()

def impl_countFlatParts_n3 (x596 : Int) (x597 : Int) (x598 : Int) (x599 : Int) (x600 : Int) (x601 : Int) (x602 : Int) (x603 : Int) (x604 : Int) (x605 : Int) (x606 : Int) (x607 : Int) (x608 : Int) (x609 : Int) (x610 : Int) : Option ((Int × Int × Int × Int × Int × Int × Int × Int × Int × Int × Int × Int × Int × Int × Int) ⊕ (Int × Int × Int × Int × Int × Int × Int × Int × Int × Int × Int × Int × Int × Int)) :=
  cond (decide (x596 ≤ 6)) ((impl_flatCounts_aroundRoots x597 x598 x599 x600 x601 x602 x603 x604 x605 x606 x607 x608 x609 x610).bind fun (v644 : Unit) => (impl_joins_count x604 x605 x606 x607 x608 x609 x610 x604 x605 x606 x607 x608 x609 x610 (IntKind.wrap .i64 (x596 - 1))).bind fun (v646 : Int) => (inb x596 7).bind fun (v647 : Nat) => (within v647 14).bind fun (v662 : Unit) => (impl_flatCounts_inRows (cond (v647 == 0) v646 x597) (cond (v647 == 1) v646 x598) (cond (v647 == 2) v646 x599) (cond (v647 == 3) v646 x600) (cond (v647 == 4) v646 x601) (cond (v647 == 5) v646 x602) (cond (v647 == 6) v646 x603) (cond (v647 == 7) v646 x604) (cond (v647 == 8) v646 x605) (cond (v647 == 9) v646 x606) (cond (v647 == 10) v646 x607) (cond (v647 == 11) v646 x608) (cond (v647 == 12) v646 x609) (cond (v647 == 13) v646 x610)).bind fun (v663 : Unit) => (impl_joins_count (cond (v647 == 0) v646 x597) (cond (v647 == 1) v646 x598) (cond (v647 == 2) v646 x599) (cond (v647 == 3) v646 x600) (cond (v647 == 4) v646 x601) (cond (v647 == 5) v646 x602) (cond (v647 == 6) v646 x603) (cond (v647 == 7) v646 x604) (cond (v647 == 8) v646 x605) (cond (v647 == 9) v646 x606) (cond (v647 == 10) v646 x607) (cond (v647 == 11) v646 x608) (cond (v647 == 12) v646 x609) (cond (v647 == 13) v646 x610) x596).bind fun (v664 : Int) => (inb x596 7).bind fun (v665 : Nat) => (within v665 7).bind fun (v673 : Unit) => some (Sum.inl ((IntKind.wrap .i64 (x596 + 1)), (cond (v647 == 0) v646 x597), (cond (v647 == 1) v646 x598), (cond (v647 == 2) v646 x599), (cond (v647 == 3) v646 x600), (cond (v647 == 4) v646 x601), (cond (v647 == 5) v646 x602), (cond (v647 == 6) v646 x603), (cond (v665 == 0) v664 (cond (v647 == 7) v646 x604)), (cond (v665 == 1) v664 (cond (v647 == 8) v646 x605)), (cond (v665 == 2) v664 (cond (v647 == 9) v646 x606)), (cond (v665 == 3) v664 (cond (v647 == 10) v646 x607)), (cond (v665 == 4) v664 (cond (v647 == 11) v646 x608)), (cond (v665 == 5) v664 (cond (v647 == 12) v646 x609)), (cond (v665 == 6) v664 (cond (v647 == 13) v646 x610))))) (some (Sum.inr (x597, x598, x599, x600, x601, x602, x603, x604, x605, x606, x607, x608, x609, x610)))

def impl_countFlatParts_n4 (x421 : Int) (x422 : Int) (x423 : Int) (x424 : Int) (x425 : Int) (x426 : Int) (x427 : Int) : Option ((Int × Int × Int × Int × Int × Int × Int × Int × Int × Int × Int × Int × Int × Int)) :=
  nloop (fun (s : Int × Int × Int × Int × Int × Int × Int × Int × Int × Int × Int × Int × Int × Int × Int) => ((impl_countFlatParts_n3 s.1 s.2.1 s.2.2.1 s.2.2.2.1 s.2.2.2.2.1 s.2.2.2.2.2.1 s.2.2.2.2.2.2.1 s.2.2.2.2.2.2.2.1 s.2.2.2.2.2.2.2.2.1 s.2.2.2.2.2.2.2.2.2.1 s.2.2.2.2.2.2.2.2.2.2.1 s.2.2.2.2.2.2.2.2.2.2.2.1 s.2.2.2.2.2.2.2.2.2.2.2.2.1 s.2.2.2.2.2.2.2.2.2.2.2.2.2.1 s.2.2.2.2.2.2.2.2.2.2.2.2.2.2).map (Sum.elim (fun (t : Int × Int × Int × Int × Int × Int × Int × Int × Int × Int × Int × Int × Int × Int × Int) => Sum.inl (t.1, t.2.1, t.2.2.1, t.2.2.2.1, t.2.2.2.2.1, t.2.2.2.2.2.1, t.2.2.2.2.2.2.1, t.2.2.2.2.2.2.2.1, t.2.2.2.2.2.2.2.2.1, t.2.2.2.2.2.2.2.2.2.1, t.2.2.2.2.2.2.2.2.2.2.1, t.2.2.2.2.2.2.2.2.2.2.2.1, t.2.2.2.2.2.2.2.2.2.2.2.2.1, t.2.2.2.2.2.2.2.2.2.2.2.2.2.1, t.2.2.2.2.2.2.2.2.2.2.2.2.2.2)) (fun (t : Int × Int × Int × Int × Int × Int × Int × Int × Int × Int × Int × Int × Int × Int) => Sum.inr t)) : Option ((Int × Int × Int × Int × Int × Int × Int × Int × Int × Int × Int × Int × Int × Int × Int) ⊕ ((Int × Int × Int × Int × Int × Int × Int × Int × Int × Int × Int × Int × Int × Int))))) LL (1, 0, 0, 0, 0, 0, 0, 0, x421, x422, x423, x424, x425, x426, x427)

def impl_countFlatParts_n5 (x421 : Int) (x422 : Int) (x423 : Int) (x424 : Int) (x425 : Int) (x426 : Int) (x427 : Int) : Option ((Int × Int × Int × Int × Int × Int × Int × Int × Int × Int × Int × Int × Int × Int)) :=
  (impl_countFlatParts_n4 x421 x422 x423 x424 x425 x426 x427).map (fun (t : Int × Int × Int × Int × Int × Int × Int × Int × Int × Int × Int × Int × Int × Int) => (t.1, t.2.1, t.2.2.1, t.2.2.2.1, t.2.2.2.2.1, t.2.2.2.2.2.1, t.2.2.2.2.2.2.1, t.2.2.2.2.2.2.2.1, t.2.2.2.2.2.2.2.2.1, t.2.2.2.2.2.2.2.2.2.1, t.2.2.2.2.2.2.2.2.2.2.1, t.2.2.2.2.2.2.2.2.2.2.2.1, t.2.2.2.2.2.2.2.2.2.2.2.2.1, t.2.2.2.2.2.2.2.2.2.2.2.2.2))

def impl_countFlatParts_n6 (x421 : Int) (x422 : Int) (x423 : Int) (x424 : Int) (x425 : Int) (x426 : Int) (x427 : Int) : Option ((Int × Int × Int × Int × Int × Int × Int × Int × Int × Int × Int × Int × Int × Int)) :=
  (impl_countFlatParts_n2).bind (fun (t : Unit) => impl_countFlatParts_n5 x421 x422 x423 x424 x425 x426 x427)

def impl_countFlatParts_n7 (x597 : Int) (x598 : Int) (x599 : Int) (x600 : Int) (x601 : Int) (x602 : Int) (x603 : Int) (x604 : Int) (x605 : Int) (x606 : Int) (x607 : Int) (x608 : Int) (x609 : Int) (x610 : Int) : Option ((Int × Int × Int × Int × Int × Int × Int × Int × Int × Int × Int × Int × Int × Int)) :=
  some (x597, x598, x599, x600, x601, x602, x603, x604, x605, x606, x607, x608, x609, x610)

def impl_countFlatParts_n8 (x421 : Int) (x422 : Int) (x423 : Int) (x424 : Int) (x425 : Int) (x426 : Int) (x427 : Int) : Option ((Int × Int × Int × Int × Int × Int × Int × Int × Int × Int × Int × Int × Int × Int)) :=
  (impl_countFlatParts_n6 x421 x422 x423 x424 x425 x426 x427).bind (fun (t : Int × Int × Int × Int × Int × Int × Int × Int × Int × Int × Int × Int × Int × Int) => impl_countFlatParts_n7 t.1 t.2.1 t.2.2.1 t.2.2.2.1 t.2.2.2.2.1 t.2.2.2.2.2.1 t.2.2.2.2.2.2.1 t.2.2.2.2.2.2.2.1 t.2.2.2.2.2.2.2.2.1 t.2.2.2.2.2.2.2.2.2.1 t.2.2.2.2.2.2.2.2.2.2.1 t.2.2.2.2.2.2.2.2.2.2.2.1 t.2.2.2.2.2.2.2.2.2.2.2.2.1 t.2.2.2.2.2.2.2.2.2.2.2.2.2)

def impl_countFlatParts_n9 : Option ((Int × Int × Int × Int × Int × Int × Int × Int × Int × Int × Int × Int × Int × Int)) :=
  (impl_countFlatParts_n1).bind (fun (t : Int × Int × Int × Int × Int × Int × Int) => impl_countFlatParts_n8 t.1 t.2.1 t.2.2.1 t.2.2.2.1 t.2.2.2.2.1 t.2.2.2.2.2.1 t.2.2.2.2.2.2)

@[irreducible] def impl_countFlatParts : Option (Int × Int × Int × Int × Int × Int × Int × Int × Int × Int × Int × Int × Int × Int) :=
  impl_countFlatParts_n9

/-! loop.example/headtrees/impl.CountFlat -/

def impl_CountFlat_n1 (x415 : Int) : Option (Int) :=
  cond (decide (x415 < 1)) (some (-1)) (cond (decide (x415 > 6)) (some (-1)) ((impl_countFlatParts).bind fun (v693 : Int × Int × Int × Int × Int × Int × Int × Int × Int × Int × Int × Int × Int × Int) => (idx [(v693.1), (v693.2.1), (v693.2.2.1), (v693.2.2.2.1), (v693.2.2.2.2.1), (v693.2.2.2.2.2.1), (v693.2.2.2.2.2.2.1)] x415).bind fun (v708 : Int) => some v708))

@[irreducible] def impl_CountFlat (x415 : Int) : Option (Int) :=
  impl_CountFlat_n1 x415

/-! (loop.example/headtrees/impl.joins).partsOf -/

def impl_joins_partsOf_n1 : Option (Unit) :=
  some ()

def impl_joins_partsOf_n2 (x772 : Int) (x773 : Int) (x781 : Int) (x758 : Int) (x759 : Int) (x760 : Int) (x761 : Int) (x762 : Int) (x763 : Int) (x764 : Int) (x765 : Int) (x766 : Int) (x767 : Int) (x768 : Int) (x769 : Int) (x770 : Int) (x771 : Int) : Option (Int ⊕ Int) :=
  (impl_joins_below x758 x759 x760 x761 x762 x763 x764 x765 x766 x767 x768 x769 x770 x771 x772 (IntKind.wrap .i64 (x781 + 1))).bind fun (v786 : Int) => cond (decide (v786 ≤ x773)) (some (Sum.inl (IntKind.wrap .i64 (x781 + 1)))) (some (Sum.inr x781))

def impl_joins_partsOf_n3 (x772 : Int) (x773 : Int) (x758 : Int) (x759 : Int) (x760 : Int) (x761 : Int) (x762 : Int) (x763 : Int) (x764 : Int) (x765 : Int) (x766 : Int) (x767 : Int) (x768 : Int) (x769 : Int) (x770 : Int) (x771 : Int) : Option (Int) :=
  nloop (fun (s : Int) => ((impl_joins_partsOf_n2 x772 x773 s x758 x759 x760 x761 x762 x763 x764 x765 x766 x767 x768 x769 x770 x771).map (Sum.elim (fun (t : Int) => Sum.inl t) (fun (t : Int) => Sum.inr t)) : Option ((Int) ⊕ (Int)))) LL 0

def impl_joins_partsOf_n4 (x772 : Int) (x773 : Int) (x758 : Int) (x759 : Int) (x760 : Int) (x761 : Int) (x762 : Int) (x763 : Int) (x764 : Int) (x765 : Int) (x766 : Int) (x767 : Int) (x768 : Int) (x769 : Int) (x770 : Int) (x771 : Int) : Option (Int) :=
  (impl_joins_partsOf_n3 x772 x773 x758 x759 x760 x761 x762 x763 x764 x765 x766 x767 x768 x769 x770 x771).map (fun (t : Int) => t)

def impl_joins_partsOf_n5 (x772 : Int) (x773 : Int) (x781 : Int) (x758 : Int) (x759 : Int) (x760 : Int) (x761 : Int) (x762 : Int) (x763 : Int) (x764 : Int) (x765 : Int) (x766 : Int) (x767 : Int) (x768 : Int) (x769 : Int) (x770 : Int) (x771 : Int) : Option ((Int × Int × Int × Int)) :=
  (impl_joins_below x758 x759 x760 x761 x762 x763 x764 x765 x766 x767 x768 x769 x770 x771 x772 x781).bind fun (v804 : Int) => (inb (IntKind.wrap .i64 (x772 - x781)) 7).bind fun (v807 : Nat) => ([x765, x766, x767, x768, x769, x770, x771][v807]?).bind fun (v808 : Int) => (quo .i64 (IntKind.wrap .i64 (x773 - v804)) v808).bind fun (v809 : Int) => (rem (IntKind.wrap .i64 (x773 - v804)) v808).bind fun (v811 : Int) => some (x781, v809, (IntKind.wrap .i64 (x772 - x781)), v811)

def impl_joins_partsOf_n6 (x772 : Int) (x773 : Int) (x758 : Int) (x759 : Int) (x760 : Int) (x761 : Int) (x762 : Int) (x763 : Int) (x764 : Int) (x765 : Int) (x766 : Int) (x767 : Int) (x768 : Int) (x769 : Int) (x770 : Int) (x771 : Int) : Option ((Int × Int × Int × Int)) :=
  (impl_joins_partsOf_n4 x772 x773 x758 x759 x760 x761 x762 x763 x764 x765 x766 x767 x768 x769 x770 x771).bind (fun (t : Int) => impl_joins_partsOf_n5 x772 x773 t x758 x759 x760 x761 x762 x763 x764 x765 x766 x767 x768 x769 x770 x771)

def impl_joins_partsOf_n7 (x758 : Int) (x759 : Int) (x760 : Int) (x761 : Int) (x762 : Int) (x763 : Int) (x764 : Int) (x765 : Int) (x766 : Int) (x767 : Int) (x768 : Int) (x769 : Int) (x770 : Int) (x771 : Int) (x772 : Int) (x773 : Int) : Option ((Int × Int × Int × Int)) :=
  (impl_joins_partsOf_n1).bind (fun (t : Unit) => impl_joins_partsOf_n6 x772 x773 x758 x759 x760 x761 x762 x763 x764 x765 x766 x767 x768 x769 x770 x771)

@[irreducible] def impl_joins_partsOf (x758 : Int) (x759 : Int) (x760 : Int) (x761 : Int) (x762 : Int) (x763 : Int) (x764 : Int) (x765 : Int) (x766 : Int) (x767 : Int) (x768 : Int) (x769 : Int) (x770 : Int) (x771 : Int) (x772 : Int) (x773 : Int) : Option (Int × Int × Int × Int) :=
  impl_joins_partsOf_n7 x758 x759 x760 x761 x762 x763 x764 x765 x766 x767 x768 x769 x770 x771 x772 x773

/-! (loop.example/headtrees/impl.flatCounts).tellTree, (loop.example/headtrees/impl.flatCounts).tellRow -/

def impl_flatCounts_tellTree_n1 (R0 : Int → Int → Int → Int → Int → Int → Int → Int → Int → Int → Int → Int → Int → Int → Int → Int → Int → Int → (List Int) → Option ((List Int))) (R1 : Int → Int → Int → Int → Int → Int → Int → Int → Int → Int → Int → Int → Int → Int → Int → Int → Int → Int → (List Int) → Option ((List Int))) (x737 : Int) (x738 : Int) (x739 : Int) (x740 : Int) (x741 : Int) (x742 : Int) (x743 : Int) (x744 : Int) (x745 : Int) (x746 : Int) (x747 : Int) (x748 : Int) (x749 : Int) (x750 : Int) (x751 : Int) (x752 : Int) (x753 : Int) (x754 : Int) (x755 : List Int) : Option (((List Int))) :=
  (impl_flatCounts_aroundRoots x737 x738 x739 x740 x741 x742 x743 x744 x745 x746 x747 x748 x749 x750).bind fun (v1048 : Unit) => (impl_joins_partsOf x744 x745 x746 x747 x748 x749 x750 x744 x745 x746 x747 x748 x749 x750 (IntKind.wrap .i64 (x752 - 1)) x753).bind fun (v1049 : Int × Int × Int × Int) => (inb (IntKind.wrap .i64 ((IntKind.wrap .i64 (x751 + (v1049.1))) - 1)) (List.length x755)).bind fun (v1056 : Nat) => (R1 x737 x738 x739 x740 x741 x742 x743 x744 x745 x746 x747 x748 x749 x750 x751 (v1049.1) (v1049.2.1) (IntKind.wrap .i64 (x751 + (v1049.1))) (x755.set v1056 x754)).bind fun (v1058 : List Int) => (R1 x737 x738 x739 x740 x741 x742 x743 x744 x745 x746 x747 x748 x749 x750 (IntKind.wrap .i64 ((IntKind.wrap .i64 (x751 + (v1049.1))) + 1)) (v1049.2.2.1) (v1049.2.2.2) (IntKind.wrap .i64 (x751 + (v1049.1))) v1058).bind fun (v1060 : List Int) => some v1060

def impl_flatCounts_tellTree_one (R0 : Int → Int → Int → Int → Int → Int → Int → Int → Int → Int → Int → Int → Int → Int → Int → Int → Int → Int → (List Int) → Option ((List Int))) (R1 : Int → Int → Int → Int → Int → Int → Int → Int → Int → Int → Int → Int → Int → Int → Int → Int → Int → Int → (List Int) → Option ((List Int))) (x737 : Int) (x738 : Int) (x739 : Int) (x740 : Int) (x741 : Int) (x742 : Int) (x743 : Int) (x744 : Int) (x745 : Int) (x746 : Int) (x747 : Int) (x748 : Int) (x749 : Int) (x750 : Int) (x751 : Int) (x752 : Int) (x753 : Int) (x754 : Int) (x755 : List Int) : Option ((List Int)) :=
  (impl_flatCounts_tellTree_n1 R0 R1 x737 x738 x739 x740 x741 x742 x743 x744 x745 x746 x747 x748 x749 x750 x751 x752 x753 x754 x755).map (fun (t : (List Int)) => t)

def impl_flatCounts_tellRow_n1 (R0 : Int → Int → Int → Int → Int → Int → Int → Int → Int → Int → Int → Int → Int → Int → Int → Int → Int → Int → (List Int) → Option ((List Int))) (R1 : Int → Int → Int → Int → Int → Int → Int → Int → Int → Int → Int → Int → Int → Int → Int → Int → Int → Int → (List Int) → Option ((List Int))) (x948 : Int) (x949 : Int) (x950 : Int) (x951 : Int) (x952 : Int) (x953 : Int) (x954 : Int) (x955 : Int) (x956 : Int) (x957 : Int) (x958 : Int) (x959 : Int) (x960 : Int) (x961 : Int) (x962 : Int) (x963 : Int) (x964 : Int) (x965 : Int) (x966 : List Int) : Option (((List Int)) ⊕ ((List Int))) :=
  cond (x963 == 0) (some (Sum.inr x966)) ((impl_flatCounts_inRows x948 x949 x950 x951 x952 x953 x954 x955 x956 x957 x958 x959 x960 x961).bind fun (v1036 : Unit) => (impl_joins_partsOf x948 x949 x950 x951 x952 x953 x954 x955 x956 x957 x958 x959 x960 x961 x963 x964).bind fun (v1037 : Int × Int × Int × Int) => (R0 x948 x949 x950 x951 x952 x953 x954 x955 x956 x957 x958 x959 x960 x961 x962 (v1037.1) (v1037.2.1) x965 x966).bind fun (v1042 : List Int) => (R1 x948 x949 x950 x951 x952 x953 x954 x955 x956 x957 x958 x959 x960 x961 (IntKind.wrap .i64 (x962 + (v1037.1))) (v1037.2.2.1) (v1037.2.2.2) x965 v1042).bind fun (v1044 : List Int) => some (Sum.inl v1044))

def impl_flatCounts_tellRow_one (R0 : Int → Int → Int → Int → Int → Int → Int → Int → Int → Int → Int → Int → Int → Int → Int → Int → Int → Int → (List Int) → Option ((List Int))) (R1 : Int → Int → Int → Int → Int → Int → Int → Int → Int → Int → Int → Int → Int → Int → Int → Int → Int → Int → (List Int) → Option ((List Int))) (x948 : Int) (x949 : Int) (x950 : Int) (x951 : Int) (x952 : Int) (x953 : Int) (x954 : Int) (x955 : Int) (x956 : Int) (x957 : Int) (x958 : Int) (x959 : Int) (x960 : Int) (x961 : Int) (x962 : Int) (x963 : Int) (x964 : Int) (x965 : Int) (x966 : List Int) : Option ((List Int)) :=
  (impl_flatCounts_tellRow_n1 R0 R1 x948 x949 x950 x951 x952 x953 x954 x955 x956 x957 x958 x959 x960 x961 x962 x963 x964 x965 x966).map (Sum.elim (fun (t : (List Int)) => t) (fun (t : (List Int)) => t))

def impl_flatCounts_tellTree_knot : Nat → (Int → Int → Int → Int → Int → Int → Int → Int → Int → Int → Int → Int → Int → Int → Int → Int → Int → Int → (List Int) → Option ((List Int))) × (Int → Int → Int → Int → Int → Int → Int → Int → Int → Int → Int → Int → Int → Int → Int → Int → Int → Int → (List Int) → Option ((List Int)))
  | 0 => ((fun _ _ _ _ _ _ _ _ _ _ _ _ _ _ _ _ _ _ _ => none), (fun _ _ _ _ _ _ _ _ _ _ _ _ _ _ _ _ _ _ _ => none))
  | n + 1 => ((fun y0 y1 y2 y3 y4 y5 y6 y7 y8 y9 y10 y11 y12 y13 y14 y15 y16 y17 y18 => impl_flatCounts_tellTree_one (impl_flatCounts_tellTree_knot n).1 (impl_flatCounts_tellTree_knot n).2 y0 y1 y2 y3 y4 y5 y6 y7 y8 y9 y10 y11 y12 y13 y14 y15 y16 y17 y18), (fun y0 y1 y2 y3 y4 y5 y6 y7 y8 y9 y10 y11 y12 y13 y14 y15 y16 y17 y18 => impl_flatCounts_tellRow_one (impl_flatCounts_tellTree_knot n).1 (impl_flatCounts_tellTree_knot n).2 y0 y1 y2 y3 y4 y5 y6 y7 y8 y9 y10 y11 y12 y13 y14 y15 y16 y17 y18))

def impl_flatCounts_tellTree_fuel (n : Nat) : Int → Int → Int → Int → Int → Int → Int → Int → Int → Int → Int → Int → Int → Int → Int → Int → Int → Int → (List Int) → Option ((List Int)) := (impl_flatCounts_tellTree_knot n).1

@[irreducible] def impl_flatCounts_tellTree (x737 : Int) (x738 : Int) (x739 : Int) (x740 : Int) (x741 : Int) (x742 : Int) (x743 : Int) (x744 : Int) (x745 : Int) (x746 : Int) (x747 : Int) (x748 : Int) (x749 : Int) (x750 : Int) (x751 : Int) (x752 : Int) (x753 : Int) (x754 : Int) (x755 : List Int) : Option ((List Int)) := impl_flatCounts_tellTree_fuel RR x737 x738 x739 x740 x741 x742 x743 x744 x745 x746 x747 x748 x749 x750 x751 x752 x753 x754 x755

def impl_flatCounts_tellRow_fuel (n : Nat) : Int → Int → Int → Int → Int → Int → Int → Int → Int → Int → Int → Int → Int → Int → Int → Int → Int → Int → (List Int) → Option ((List Int)) := (impl_flatCounts_tellTree_knot n).2

@[irreducible] def impl_flatCounts_tellRow (x948 : Int) (x949 : Int) (x950 : Int) (x951 : Int) (x952 : Int) (x953 : Int) (x954 : Int) (x955 : Int) (x956 : Int) (x957 : Int) (x958 : Int) (x959 : Int) (x960 : Int) (x961 : Int) (x962 : Int) (x963 : Int) (x964 : Int) (x965 : Int) (x966 : List Int) : Option ((List Int)) := impl_flatCounts_tellRow_fuel RR x948 x949 x950 x951 x952 x953 x954 x955 x956 x957 x958 x959 x960 x961 x962 x963 x964 x965 x966

/-! loop.example/headtrees/impl.FlatAt -/

def impl_FlatAt_n1 (x411 : Int) (x412 : Int) : Option ((Bool × (List Int))) :=
  cond (decide (x412 < 0)) (some (false, ([] : List Int))) ((impl_CountFlat x411).bind fun (v1084 : Int) => cond (decide (x412 ≥ v1084)) (some (false, ([] : List Int))) ((mk x411 x411).bind fun (v1086 : Nat) => (impl_countFlatParts).bind fun (v1088 : Int × Int × Int × Int × Int × Int × Int × Int × Int × Int × Int × Int × Int × Int) => (impl_flatCounts_tellTree (v1088.1) (v1088.2.1) (v1088.2.2.1) (v1088.2.2.2.1) (v1088.2.2.2.2.1) (v1088.2.2.2.2.2.1) (v1088.2.2.2.2.2.2.1) (v1088.2.2.2.2.2.2.2.1) (v1088.2.2.2.2.2.2.2.2.1) (v1088.2.2.2.2.2.2.2.2.2.1) (v1088.2.2.2.2.2.2.2.2.2.2.1) (v1088.2.2.2.2.2.2.2.2.2.2.2.1) (v1088.2.2.2.2.2.2.2.2.2.2.2.2.1) (v1088.2.2.2.2.2.2.2.2.2.2.2.2.2) 1 x411 x412 0 (List.replicate v1086 (0 : Int))).bind fun (v1103 : List Int) => some (true, v1103)))

@[irreducible] def impl_FlatAt (x411 : Int) (x412 : Int) : Option (Bool × (List Int)) :=
  impl_FlatAt_n1 x411 x412

/-! loop.example/headtrees/spec.l4Tree, loop.example/headtrees/spec.l4Row -/

def spec_l4Tree_n1 (R0 : Int → Int → Int → Int → (List Int) → Option ((List Int))) (R1 : Int → Int → Int → Int → (List Int) → Option ((List Int))) : Option (Unit) :=
  some ()

def spec_l4Tree_n2 (R0 : Int → Int → Int → Int → (List Int) → Option ((List Int))) (R1 : Int → Int → Int → Int → (List Int) → Option ((List Int))) (x1141 : Int) (x1142 : Int) (x1143 : Int) (x1543 : Int) (x1544 : Int) (x1145 : List Int) : Option ((Int × Int) ⊕ ((List Int)) ⊕ Unit) :=
  cond (decide (x1544 ≤ x1142)) ((spec_l4Rows (IntKind.wrap .i64 (x1142 - x1544))).bind fun (v1565 : Int) => (spec_l4Rows (IntKind.wrap .i64 (x1544 - x1141))).bind fun (v1567 : Int) => cond (decide (x1543 < (IntKind.wrap .i64 (v1567 * v1565)))) ((inb (IntKind.wrap .i64 (x1544 - 1)) (List.length x1145)).bind fun (v1571 : Nat) => (quo .i64 x1543 v1565).bind fun (v1574 : Int) => (R1 x1141 (IntKind.wrap .i64 (x1544 - 1)) x1544 v1574 (x1145.set v1571 x1143)).bind fun (v1575 : List Int) => (rem x1543 v1565).bind fun (v1577 : Int) => (R1 (IntKind.wrap .i64 (x1544 + 1)) x1142 x1544 v1577 v1575).bind fun (v1578 : List Int) => some (Sum.inr (Sum.inl v1578))) (some (Sum.inl ((IntKind.wrap .i64 (x1543 - (IntKind.wrap .i64 (v1567 * v1565)))), (IntKind.wrap .i64 (x1544 + 1)))))) (some (Sum.inr (Sum.inr ())))

def spec_l4Tree_n3 (R0 : Int → Int → Int → Int → (List Int) → Option ((List Int))) (R1 : Int → Int → Int → Int → (List Int) → Option ((List Int))) (x1141 : Int) (x1142 : Int) (x1143 : Int) (x1144 : Int) (x1145 : List Int) : Option (((List Int)) ⊕ Unit) :=
  nloop (fun (s : Int × Int) => ((spec_l4Tree_n2 R0 R1 x1141 x1142 x1143 s.1 s.2 x1145).map (Sum.elim (fun (t : Int × Int) => Sum.inl (t.1, t.2)) (Sum.elim (fun (t : (List Int)) => Sum.inr (Sum.inl t)) (fun (t : Unit) => Sum.inr (Sum.inr t)))) : Option ((Int × Int) ⊕ (((List Int)) ⊕ Unit)))) LL (x1144, x1141)

def spec_l4Tree_n4 (R0 : Int → Int → Int → Int → (List Int) → Option ((List Int))) (R1 : Int → Int → Int → Int → (List Int) → Option ((List Int))) (x1141 : Int) (x1142 : Int) (x1143 : Int) (x1144 : Int) (x1145 : List Int) : Option (Unit ⊕ ((List Int))) :=
  (spec_l4Tree_n3 R0 R1 x1141 x1142 x1143 x1144 x1145).map (Sum.elim (fun (t : (List Int)) => (Sum.inr t)) (fun (t : Unit) => (Sum.inl ())))

def spec_l4Tree_n5 (R0 : Int → Int → Int → Int → (List Int) → Option ((List Int))) (R1 : Int → Int → Int → Int → (List Int) → Option ((List Int))) (x1141 : Int) (x1142 : Int) (x1143 : Int) (x1144 : Int) (x1145 : List Int) : Option (Unit ⊕ ((List Int))) :=
  (spec_l4Tree_n1 R0 R1).bind (fun (t : Unit) => spec_l4Tree_n4 R0 R1 x1141 x1142 x1143 x1144 x1145)

def spec_l4Tree_one (R0 : Int → Int → Int → Int → (List Int) → Option ((List Int))) (R1 : Int → Int → Int → Int → (List Int) → Option ((List Int))) (x1141 : Int) (x1142 : Int) (x1143 : Int) (x1144 : Int) (x1145 : List Int) : Option ((List Int)) :=
  (spec_l4Tree_n5 R0 R1 x1141 x1142 x1143 x1144 x1145).map (Sum.elim (fun (t : Unit) => x1145) (fun (t : (List Int)) => t))

def spec_l4Row_n1 (R0 : Int → Int → Int → Int → (List Int) → Option ((List Int))) (R1 : Int → Int → Int → Int → (List Int) → Option ((List Int))) : Option (Unit) :=
  some ()

def spec_l4Row_n2 (R0 : Int → Int → Int → Int → (List Int) → Option ((List Int))) (R1 : Int → Int → Int → Int → (List Int) → Option ((List Int))) (x1331 : Int) (x1332 : Int) (x1333 : Int) (x1487 : Int) (x1488 : Int) (x1335 : List Int) : Option ((Int × Int) ⊕ ((List Int)) ⊕ Unit) :=
  cond (decide (x1488 ≤ x1332)) ((spec_l4Rows (IntKind.wrap .i64 (x1332 - x1488))).bind fun (v1506 : Int) => (spec_l4Flat (IntKind.wrap .i64 ((IntKind.wrap .i64 (x1488 - x1331)) + 1))).bind fun (v1509 : Int) => cond (decide (x1487 < (IntKind.wrap .i64 (v1509 * v1506)))) ((quo .i64 x1487 v1506).bind fun (v1512 : Int) => (R0 x1331 x1488 x1333 v1512 x1335).bind fun (v1513 : List Int) => (rem x1487 v1506).bind fun (v1515 : Int) => (R1 (IntKind.wrap .i64 (x1488 + 1)) x1332 x1333 v1515 v1513).bind fun (v1516 : List Int) => some (Sum.inr (Sum.inl v1516))) (some (Sum.inl ((IntKind.wrap .i64 (x1487 - (IntKind.wrap .i64 (v1509 * v1506)))), (IntKind.wrap .i64 (x1488 + 1)))))) (some (Sum.inr (Sum.inr ())))

def spec_l4Row_n3 (R0 : Int → Int → Int → Int → (List Int) → Option ((List Int))) (R1 : Int → Int → Int → Int → (List Int) → Option ((List Int))) (x1331 : Int) (x1332 : Int) (x1333 : Int) (x1334 : Int) (x1335 : List Int) : Option (((List Int)) ⊕ Unit) :=
  nloop (fun (s : Int × Int) => ((spec_l4Row_n2 R0 R1 x1331 x1332 x1333 s.1 s.2 x1335).map (Sum.elim (fun (t : Int × Int) => Sum.inl (t.1, t.2)) (Sum.elim (fun (t : (List Int)) => Sum.inr (Sum.inl t)) (fun (t : Unit) => Sum.inr (Sum.inr t)))) : Option ((Int × Int) ⊕ (((List Int)) ⊕ Unit)))) LL (x1334, x1331)

def spec_l4Row_n4 (R0 : Int → Int → Int → Int → (List Int) → Option ((List Int))) (R1 : Int → Int → Int → Int → (List Int) → Option ((List Int))) (x1331 : Int) (x1332 : Int) (x1333 : Int) (x1334 : Int) (x1335 : List Int) : Option (Unit ⊕ ((List Int))) :=
  (spec_l4Row_n3 R0 R1 x1331 x1332 x1333 x1334 x1335).map (Sum.elim (fun (t : (List Int)) => (Sum.inr t)) (fun (t : Unit) => (Sum.inl ())))

def spec_l4Row_n5 (R0 : Int → Int → Int → Int → (List Int) → Option ((List Int))) (R1 : Int → Int → Int → Int → (List Int) → Option ((List Int))) (x1331 : Int) (x1332 : Int) (x1333 : Int) (x1334 : Int) (x1335 : List Int) : Option (Unit ⊕ ((List Int))) :=
  (spec_l4Row_n1 R0 R1).bind (fun (t : Unit) => spec_l4Row_n4 R0 R1 x1331 x1332 x1333 x1334 x1335)

def spec_l4Row_one (R0 : Int → Int → Int → Int → (List Int) → Option ((List Int))) (R1 : Int → Int → Int → Int → (List Int) → Option ((List Int))) (x1331 : Int) (x1332 : Int) (x1333 : Int) (x1334 : Int) (x1335 : List Int) : Option ((List Int)) :=
  (spec_l4Row_n5 R0 R1 x1331 x1332 x1333 x1334 x1335).map (Sum.elim (fun (t : Unit) => x1335) (fun (t : (List Int)) => t))

def spec_l4Tree_knot : Nat → (Int → Int → Int → Int → (List Int) → Option ((List Int))) × (Int → Int → Int → Int → (List Int) → Option ((List Int)))
  | 0 => ((fun _ _ _ _ _ => none), (fun _ _ _ _ _ => none))
  | n + 1 => ((fun y0 y1 y2 y3 y4 => spec_l4Tree_one (spec_l4Tree_knot n).1 (spec_l4Tree_knot n).2 y0 y1 y2 y3 y4), (fun y0 y1 y2 y3 y4 => spec_l4Row_one (spec_l4Tree_knot n).1 (spec_l4Tree_knot n).2 y0 y1 y2 y3 y4))

def spec_l4Tree_fuel (n : Nat) : Int → Int → Int → Int → (List Int) → Option ((List Int)) := (spec_l4Tree_knot n).1

@[irreducible] def spec_l4Tree (x1141 : Int) (x1142 : Int) (x1143 : Int) (x1144 : Int) (x1145 : List Int) : Option ((List Int)) := spec_l4Tree_fuel RR x1141 x1142 x1143 x1144 x1145

def spec_l4Row_fuel (n : Nat) : Int → Int → Int → Int → (List Int) → Option ((List Int)) := (spec_l4Tree_knot n).2

@[irreducible] def spec_l4Row (x1331 : Int) (x1332 : Int) (x1333 : Int) (x1334 : Int) (x1335 : List Int) : Option ((List Int)) := spec_l4Row_fuel RR x1331 x1332 x1333 x1334 x1335

/-! loop.example/headtrees/spec.FlatAt -/

def spec_FlatAt_n1 (x1117 : Int) (x1118 : Int) : Option ((Bool × (List Int))) :=
  (spec_l1In x1117 1 6).bind fun (v1592 : Bool) => cond (!v1592) (some (false, ([] : List Int))) ((spec_l4Flat x1117).bind fun (v1594 : Int) => (spec_l1In x1118 0 (IntKind.wrap .i64 (v1594 - 1))).bind fun (v1596 : Bool) => cond (!v1596) (some (false, ([] : List Int))) ((mk x1117 x1117).bind fun (v1598 : Nat) => (spec_l4Tree 1 x1117 0 x1118 (List.replicate v1598 (0 : Int))).bind fun (v1600 : List Int) => some (true, v1600)))

@[irreducible] def spec_FlatAt (x1117 : Int) (x1118 : Int) : Option (Bool × (List Int)) :=
  spec_FlatAt_n1 x1117 x1118

/-! loop.example/headtrees/laws.sameInts -/

def laws_sameInts_n1 (x1617 : List Int) (x1618 : List Int) : Option (Unit ⊕ Bool) :=
  cond ((((List.length x1617 : Nat) : Int)) != (((List.length x1618 : Nat) : Int))) (some (Sum.inr false)) (some (Sum.inl ()))

def laws_sameInts_n2 : Option (Unit) :=
  some ()

def laws_sameInts_n3 (x1617 : List Int) (x1618 : List Int) (x1635 : Int) : Option (Int ⊕ Bool ⊕ Unit) :=
  cond (decide (x1635 < (((List.length x1617 : Nat) : Int)))) ((idx x1617 x1635).bind fun (v1645 : Int) => (idx x1618 x1635).bind fun (v1646 : Int) => cond (v1645 != v1646) (some (Sum.inr (Sum.inl false))) (some (Sum.inl (IntKind.wrap .i64 (x1635 + 1))))) (some (Sum.inr (Sum.inr ())))

def laws_sameInts_n4 (x1617 : List Int) (x1618 : List Int) : Option (Bool ⊕ Unit) :=
  nloop (fun (s : Int) => ((laws_sameInts_n3 x1617 x1618 s).map (Sum.elim (fun (t : Int) => Sum.inl t) (Sum.elim (fun (t : Bool) => Sum.inr (Sum.inl t)) (fun (t : Unit) => Sum.inr (Sum.inr t)))) : Option ((Int) ⊕ (Bool ⊕ Unit)))) LL 0

def laws_sameInts_n5 (x1617 : List Int) (x1618 : List Int) : Option (Unit ⊕ Bool) :=
  (laws_sameInts_n4 x1617 x1618).map (Sum.elim (fun (t : Bool) => (Sum.inr t)) (fun (t : Unit) => (Sum.inl ())))

def laws_sameInts_n6 (x1617 : List Int) (x1618 : List Int) : Option (Unit ⊕ Bool) :=
  (laws_sameInts_n2).bind (fun (t : Unit) => laws_sameInts_n5 x1617 x1618)

def laws_sameInts_n7 : Option (Bool) :=
  some true

def laws_sameInts_n8 (x1617 : List Int) (x1618 : List Int) : Option (Bool) :=
  (laws_sameInts_n6 x1617 x1618).bind (Sum.elim (fun (t : Unit) => laws_sameInts_n7) (fun e => some ((fun (t : Bool) => t) e)))

def laws_sameInts_n9 (x1617 : List Int) (x1618 : List Int) : Option (Bool) :=
  (laws_sameInts_n1 x1617 x1618).bind (Sum.elim (fun (t : Unit) => laws_sameInts_n8 x1617 x1618) (fun e => some ((fun (t : Bool) => t) e)))

@[irreducible] def laws_sameInts (x1617 : List Int) (x1618 : List Int) : Option (Bool) :=
  laws_sameInts_n9 x1617 x1618

/-! loop.example/headtrees/impl.oneRoot -/

def impl_oneRoot_n1 : Option (Unit) :=
  some ()

def impl_oneRoot_n2 (x1677 : List Int) : Option (Int) :=
  some (((List.length x1677 : Nat) : Int))

def impl_oneRoot_n3 (x1677 : List Int) (x1699 : Int) (x1678 : Int) (x1700 : Int) : Option ((Int × Int) ⊕ Bool ⊕ Int) :=
  cond (decide (x1700 < x1678)) ((idx x1677 x1700).bind fun (v1711 : Int) => cond (decide (v1711 < 0)) (some (Sum.inr (Sum.inl false))) (cond (decide (v1711 > (((List.length x1677 : Nat) : Int)))) (some (Sum.inr (Sum.inl false))) (cond (v1711 == 0) (some (Sum.inl ((IntKind.wrap .i64 (x1699 + 1)), (IntKind.wrap .i64 (x1700 + 1))))) (some (Sum.inl (x1699, (IntKind.wrap .i64 (x1700 + 1)))))))) (some (Sum.inr (Sum.inr x1699)))

def impl_oneRoot_n4 (x1677 : List Int) (x1678 : Int) : Option (Bool ⊕ Int) :=
  nloop (fun (s : Int × Int) => ((impl_oneRoot_n3 x1677 s.1 x1678 s.2).map (Sum.elim (fun (t : Int × Int) => Sum.inl (t.1, t.2)) (Sum.elim (fun (t : Bool) => Sum.inr (Sum.inl t)) (fun (t : Int) => Sum.inr (Sum.inr t)))) : Option ((Int × Int) ⊕ (Bool ⊕ Int)))) LL (0, 0)

def impl_oneRoot_n5 (x1677 : List Int) (x1678 : Int) : Option (Int ⊕ Bool) :=
  (impl_oneRoot_n4 x1677 x1678).map (Sum.elim (fun (t : Bool) => (Sum.inr t)) (fun (t : Int) => (Sum.inl t)))

def impl_oneRoot_n6 (x1677 : List Int) : Option (Int ⊕ Bool) :=
  (impl_oneRoot_n2 x1677).bind (fun (t : Int) => impl_oneRoot_n5 x1677 t)

def impl_oneRoot_n7 (x1699 : Int) : Option (Bool) :=
  some (x1699 == 1)

def impl_oneRoot_n8 (x1677 : List Int) : Option (Bool) :=
  (impl_oneRoot_n6 x1677).bind (Sum.elim (fun (t : Int) => impl_oneRoot_n7 t) (fun e => some ((fun (t : Bool) => t) e)))

def impl_oneRoot_n9 (x1677 : List Int) : Option (Bool) :=
  (impl_oneRoot_n1).bind (fun (t : Unit) => impl_oneRoot_n8 x1677)

@[irreducible] def impl_oneRoot (x1677 : List Int) : Option (Bool) :=
  impl_oneRoot_n9 x1677

/-! (*loop.example/headtrees/impl.walker).up -/

def impl_walker_up_n1 (x1733 : List Int) (x1734 : Int) (x1735 : Int) : Option ((Bool × Int × Int)) :=
  (idx x1733 (IntKind.wrap .i64 (x1734 - 1))).bind fun (v1753 : Int) => cond (v1753 == 0) (some (false, x1734, x1735)) (some (true, v1753, (IntKind.wrap .i64 (x1735 + 1))))

@[irreducible] def impl_walker_up (x1733 : List Int) (x1734 : Int) (x1735 : Int) : Option (Bool × Int × Int) :=
  impl_walker_up_n1 x1733 x1734 x1735

/-! loop.example/headtrees/impl.stepsToRoot -/

def impl_stepsToRoot_n1 : Option (Unit) :=
  some ()

def impl_stepsToRoot_n2 (x1731 : List Int) (x1769 : Int) (x1770 : Int) : Option ((Int × Int) ⊕ (Int × Bool) ⊕ (Int × Int)) :=
  (impl_walker_up x1731 x1769 x1770).bind fun (v1775 : Bool × Int × Int) => cond (v1775.1) (cond (decide ((v1775.2.2) ≥ (((List.length x1731 : Nat) : Int)))) (some (Sum.inr (Sum.inl (0, false)))) (some (Sum.inl ((v1775.2.1), (v1775.2.2))))) (some (Sum.inr (Sum.inr ((v1775.2.1), (v1775.2.2)))))

def impl_stepsToRoot_n3 (x1731 : List Int) (x1732 : Int) : Option ((Int × Bool) ⊕ (Int × Int)) :=
  nloop (fun (s : Int × Int) => ((impl_stepsToRoot_n2 x1731 s.1 s.2).map (Sum.elim (fun (t : Int × Int) => Sum.inl (t.1, t.2)) (Sum.elim (fun (t : Int × Bool) => Sum.inr (Sum.inl t)) (fun (t : Int × Int) => Sum.inr (Sum.inr t)))) : Option ((Int × Int) ⊕ ((Int × Bool) ⊕ (Int × Int))))) LL (x1732, 0)

def impl_stepsToRoot_n4 (x1731 : List Int) (x1732 : Int) : Option ((Int × Int) ⊕ (Int × Bool)) :=
  (impl_stepsToRoot_n3 x1731 x1732).map (Sum.elim (fun (t : Int × Bool) => (Sum.inr t)) (fun (t : Int × Int) => (Sum.inl (t.1, t.2))))

def impl_stepsToRoot_n5 (x1778 : Int) : Option ((Int × Bool)) :=
  some (x1778, true)

def impl_stepsToRoot_n6 (x1731 : List Int) (x1732 : Int) : Option ((Int × Bool)) :=
  (impl_stepsToRoot_n4 x1731 x1732).bind (Sum.elim (fun (t : Int × Int) => impl_stepsToRoot_n5 t.2) (fun e => some ((fun (t : Int × Bool) => t) e)))

def impl_stepsToRoot_n7 (x1731 : List Int) (x1732 : Int) : Option ((Int × Bool)) :=
  (impl_stepsToRoot_n1).bind (fun (t : Unit) => impl_stepsToRoot_n6 x1731 x1732)

@[irreducible] def impl_stepsToRoot (x1731 : List Int) (x1732 : Int) : Option (Int × Bool) :=
  impl_stepsToRoot_n7 x1731 x1732

/-! loop.example/headtrees/impl.TreeOk -/

def impl_TreeOk_n1 (x1671 : List Int) : Option (Unit ⊕ Bool) :=
  cond (decide ((((List.length x1671 : Nat) : Int)) < 1)) (some (Sum.inr false)) (cond (decide ((((List.length x1671 : Nat) : Int)) > 8)) (some (Sum.inr false)) ((impl_oneRoot x1671).bind fun (v1724 : Bool) => cond (!v1724) (some (Sum.inr false)) (some (Sum.inl ()))))

def impl_TreeOk_n2 (x1671 : List Int) : Option (Int) :=
  some (((List.length x1671 : Nat) : Int))

def impl_TreeOk_n3 (x1671 : List Int) (x1726 : Int) (x1794 : Int) : Option (Int ⊕ Bool ⊕ Unit) :=
  cond (decide (x1794 < x1726)) ((impl_stepsToRoot x1671 (IntKind.wrap .i64 (x1794 + 1))).bind fun (v1805 : Int × Bool) => cond (!(v1805.2)) (some (Sum.inr (Sum.inl false))) (some (Sum.inl (IntKind.wrap .i64 (x1794 + 1))))) (some (Sum.inr (Sum.inr ())))

def impl_TreeOk_n4 (x1671 : List Int) (x1726 : Int) : Option (Bool ⊕ Unit) :=
  nloop (fun (s : Int) => ((impl_TreeOk_n3 x1671 x1726 s).map (Sum.elim (fun (t : Int) => Sum.inl t) (Sum.elim (fun (t : Bool) => Sum.inr (Sum.inl t)) (fun (t : Unit) => Sum.inr (Sum.inr t)))) : Option ((Int) ⊕ (Bool ⊕ Unit)))) LL 0

def impl_TreeOk_n5 (x1671 : List Int) (x1726 : Int) : Option (Unit ⊕ Bool) :=
  (impl_TreeOk_n4 x1671 x1726).map (Sum.elim (fun (t : Bool) => (Sum.inr t)) (fun (t : Unit) => (Sum.inl ())))

def impl_TreeOk_n6 (x1671 : List Int) : Option (Unit ⊕ Bool) :=
  (impl_TreeOk_n2 x1671).bind (fun (t : Int) => impl_TreeOk_n5 x1671 t)

def impl_TreeOk_n7 : Option (Bool) :=
  some true

def impl_TreeOk_n8 (x1671 : List Int) : Option (Bool) :=
  (impl_TreeOk_n6 x1671).bind (Sum.elim (fun (t : Unit) => impl_TreeOk_n7) (fun e => some ((fun (t : Bool) => t) e)))

def impl_TreeOk_n9 (x1671 : List Int) : Option (Bool) :=
  (impl_TreeOk_n1 x1671).bind (Sum.elim (fun (t : Unit) => impl_TreeOk_n8 x1671) (fun e => some ((fun (t : Bool) => t) e)))

@[irreducible] def impl_TreeOk (x1671 : List Int) : Option (Bool) :=
  impl_TreeOk_n9 x1671

/-! loop.example/headtrees/laws.alive -/

def laws_alive_n1 : Option (Bool) :=
  (impl_TreeOk ([0])).bind fun (v1816 : Bool) => cond v1816 ((impl_TreeOk ([1])).bind fun (v1818 : Bool) => some (!v1818)) (some false)

@[irreducible] def laws_alive : Option (Bool) :=
  laws_alive_n1

/-! loop.example/headtrees/impl.RootOf -/

def impl_RootOf_n1 (x1876 : List Int) : Option (Unit ⊕ Int) :=
  (impl_TreeOk x1876).bind fun (v1879 : Bool) => cond (!v1879) (some (Sum.inr (-1))) (some (Sum.inl ()))

def impl_RootOf_n2 (x1876 : List Int) (x1889 : Int) (x1890 : Int) : Option ((Int × Int) ⊕ (Int × Int)) :=
  (impl_walker_up x1876 x1889 x1890).bind fun (v1895 : Bool × Int × Int) => cond (v1895.1) (some (Sum.inl ((v1895.2.1), (v1895.2.2)))) (some (Sum.inr ((v1895.2.1), (v1895.2.2))))

def impl_RootOf_n3 (x1876 : List Int) : Option ((Int × Int)) :=
  nloop (fun (s : Int × Int) => ((impl_RootOf_n2 x1876 s.1 s.2).map (Sum.elim (fun (t : Int × Int) => Sum.inl (t.1, t.2)) (fun (t : Int × Int) => Sum.inr t)) : Option ((Int × Int) ⊕ ((Int × Int))))) LL (1, 0)

def impl_RootOf_n4 (x1876 : List Int) : Option ((Int × Int)) :=
  (impl_RootOf_n3 x1876).map (fun (t : Int × Int) => (t.1, t.2))

def impl_RootOf_n5 (x1897 : Int) : Option (Int) :=
  some x1897

def impl_RootOf_n6 (x1876 : List Int) : Option (Int) :=
  (impl_RootOf_n4 x1876).bind (fun (t : Int × Int) => impl_RootOf_n5 t.1)

def impl_RootOf_n7 (x1876 : List Int) : Option (Int) :=
  (impl_RootOf_n1 x1876).bind (Sum.elim (fun (t : Unit) => impl_RootOf_n6 x1876) (fun e => some ((fun (t : Int) => t) e)))

@[irreducible] def impl_RootOf (x1876 : List Int) : Option (Int) :=
  impl_RootOf_n7 x1876

/-! loop.example/headtrees/impl.only -/

def impl_only_n1 (x1904 : Int) : Option (Int) :=
  (shl .u64 1 (IntKind.wrap .i64 (x1904 - 1))).bind fun (v1908 : Int) => some v1908

@[irreducible] def impl_only (x1904 : Int) : Option (Int) :=
  impl_only_n1 x1904

/-! loop.example/headtrees/impl.dependents -/

def impl_dependents_n1 : Option (Unit) :=
  some ()

def impl_dependents_n2 (x1910 : List Int) : Option (Int) :=
  some (((List.length x1910 : Nat) : Int))

def impl_dependents_n3 (x1910 : List Int) (x1911 : Int) (x1931 : Int) (x1912 : Int) (x1932 : Int) : Option ((Int × Int) ⊕ Int) :=
  cond (decide (x1932 < x1912)) ((idx x1910 x1932).bind fun (v1942 : Int) => cond (v1942 == x1911) ((impl_only (IntKind.wrap .i64 (x1932 + 1))).bind fun (v1945 : Int) => some (Sum.inl ((ior .u64 x1931 v1945), (IntKind.wrap .i64 (x1932 + 1))))) (some (Sum.inl (x1931, (IntKind.wrap .i64 (x1932 + 1)))))) (some (Sum.inr x1931))

def impl_dependents_n4 (x1910 : List Int) (x1911 : Int) (x1912 : Int) : Option (Int) :=
  nloop (fun (s : Int × Int) => ((impl_dependents_n3 x1910 x1911 s.1 x1912 s.2).map (Sum.elim (fun (t : Int × Int) => Sum.inl (t.1, t.2)) (fun (t : Int) => Sum.inr t)) : Option ((Int × Int) ⊕ (Int)))) LL (0, 0)

def impl_dependents_n5 (x1910 : List Int) (x1911 : Int) (x1912 : Int) : Option (Int) :=
  (impl_dependents_n4 x1910 x1911 x1912).map (fun (t : Int) => t)

def impl_dependents_n6 (x1910 : List Int) (x1911 : Int) : Option (Int) :=
  (impl_dependents_n2 x1910).bind (fun (t : Int) => impl_dependents_n5 x1910 x1911 t)

def impl_dependents_n7 (x1931 : Int) : Option (Int) :=
  some x1931

def impl_dependents_n8 (x1910 : List Int) (x1911 : Int) : Option (Int) :=
  (impl_dependents_n6 x1910 x1911).bind (fun (t : Int) => impl_dependents_n7 t)

def impl_dependents_n9 (x1910 : List Int) (x1911 : Int) : Option (Int) :=
  (impl_dependents_n1).bind (fun (t : Unit) => impl_dependents_n8 x1910 x1911)

@[irreducible] def impl_dependents (x1910 : List Int) (x1911 : Int) : Option (Int) :=
  impl_dependents_n9 x1910 x1911

/-! math/bits.OnesCount64 -/

def math_bits_OnesCount64_n1 (x1955 : Int) : Option (Int) :=
  (shr .u64 x1955 1).bind fun (v1956 : Int) => some (IntKind.wrap .u64 ((iand .u64 v1956 6148914691236517205) + (iand .u64 x1955 6148914691236517205)))

def math_bits_OnesCount64_n2 (x1960 : Int) : Option (Int) :=
  (shr .u64 x1960 2).bind fun (v1974 : Int) => some (IntKind.wrap .u64 ((iand .u64 v1974 3689348814741910323) + (iand .u64 x1960 3689348814741910323)))

def math_bits_OnesCount64_n3 (x1977 : Int) : Option (Int) :=
  (shr .u64 x1977 4).bind fun (v1983 : Int) => some (iand .u64 (IntKind.wrap .u64 (v1983 + x1977)) 1085102592571150095)

def math_bits_OnesCount64_n4 (x1985 : Int) : Option (Int) :=
  (shr .u64 x1985 8).bind fun (v1988 : Int) => some (IntKind.wrap .u64 (x1985 + v1988))

def math_bits_OnesCount64_n5 (x1989 : Int) : Option (Int) :=
  (shr .u64 x1989 16).bind fun (v1993 : Int) => some (IntKind.wrap .u64 (x1989 + v1993))

def math_bits_OnesCount64_n6 (x1994 : Int) : Option (Int) :=
  (shr .u64 x1994 32).bind fun (v1998 : Int) => some (IntKind.wrap .u64 (x1994 + v1998))

def math_bits_OnesCount64_n7 (x1999 : Int) : Option (Int) :=
  some (iand .i64 (IntKind.wrap .i64 x1999) 127)

def math_bits_OnesCount64_n8 (x2004 : Int) : Option (Int) :=
  some x2004

def math_bits_OnesCount64_n9 (x1999 : Int) : Option (Int) :=
  (math_bits_OnesCount64_n7 x1999).bind (fun (t : Int) => math_bits_OnesCount64_n8 t)

def math_bits_OnesCount64_n10 (x1994 : Int) : Option (Int) :=
  (math_bits_OnesCount64_n6 x1994).bind (fun (t : Int) => math_bits_OnesCount64_n9 t)

def math_bits_OnesCount64_n11 (x1989 : Int) : Option (Int) :=
  (math_bits_OnesCount64_n5 x1989).bind (fun (t : Int) => math_bits_OnesCount64_n10 t)

def math_bits_OnesCount64_n12 (x1985 : Int) : Option (Int) :=
  (math_bits_OnesCount64_n4 x1985).bind (fun (t : Int) => math_bits_OnesCount64_n11 t)

def math_bits_OnesCount64_n13 (x1977 : Int) : Option (Int) :=
  (math_bits_OnesCount64_n3 x1977).bind (fun (t : Int) => math_bits_OnesCount64_n12 t)

def math_bits_OnesCount64_n14 (x1960 : Int) : Option (Int) :=
  (math_bits_OnesCount64_n2 x1960).bind (fun (t : Int) => math_bits_OnesCount64_n13 t)

def math_bits_OnesCount64_n15 (x1955 : Int) : Option (Int) :=
  (math_bits_OnesCount64_n1 x1955).bind (fun (t : Int) => math_bits_OnesCount64_n14 t)

@[irreducible] def math_bits_OnesCount64 (x1955 : Int) : Option (Int) :=
  math_bits_OnesCount64_n15 x1955

/-! math/bits.OnesCount -/

def math_bits_OnesCount_n1 (x1954 : Int) : Option (Int) :=
  (math_bits_OnesCount64 x1954).bind fun (v2006 : Int) => some v2006

@[irreducible] def math_bits_OnesCount (x1954 : Int) : Option (Int) :=
  math_bits_OnesCount_n1 x1954

/-! (loop.example/headtrees/impl.wordSet).count -/

def impl_wordSet_count_n1 (x1953 : Int) : Option (Int) :=
  (math_bits_OnesCount x1953).bind fun (v2008 : Int) => some v2008

@[irreducible] def impl_wordSet_count (x1953 : Int) : Option (Int) :=
  impl_wordSet_count_n1 x1953

/-! math/bits.TrailingZeros64 -/

def math_bits_TrailingZeros64_n1 (x2015 : Int) : Option (Int) :=
  cond (x2015 == 0) (some 64) ((shr .u64 (IntKind.wrap .u64 ((iand .u64 x2015 (IntKind.wrap .u64 (0 - x2015))) * 285870213051353865)) 58).bind fun (v2032 : Int) => (same (List.length tab1) 64).bind fun (v2033 : Unit) => (idx tab1 v2032).bind fun (v2034 : Int) => some (IntKind.wrap .i64 v2034))

@[irreducible] def math_bits_TrailingZeros64 (x2015 : Int) : Option (Int) :=
  math_bits_TrailingZeros64_n1 x2015

/-! math/bits.TrailingZeros -/

def math_bits_TrailingZeros_n1 (x2014 : Int) : Option (Int) :=
  (math_bits_TrailingZeros64 x2014).bind fun (v2038 : Int) => some v2038

@[irreducible] def math_bits_TrailingZeros (x2014 : Int) : Option (Int) :=
  math_bits_TrailingZeros_n1 x2014

/-! (loop.example/headtrees/impl.wordSet).list -/

def impl_wordSet_list_n1 (x1952 : Int) : Option (((List Int))) :=
  (impl_wordSet_count x1952).bind fun (v2009 : Int) => (mk 0 v2009).bind fun (v2010 : Nat) => some (List.replicate v2010 (0 : Int))

def impl_wordSet_list_n2 : Option (Unit) :=
  some ()

def impl_wordSet_list_n3 (x2054 : Int) (x2055 : List Int) : Option ((Int × (List Int)) ⊕ ((List Int))) :=
  cond (x2054 != 0) ((math_bits_TrailingZeros x2054).bind fun (v2065 : Int) => (room ((List.length x2055) + List.length ([(IntKind.wrap .i64 (v2065 + 1))]))).bind fun (v2069 : Unit) => some (Sum.inl ((iand .u64 x2054 (IntKind.wrap .u64 (x2054 - 1))), (x2055 ++ ([(IntKind.wrap .i64 (v2065 + 1))]))))) (some (Sum.inr x2055))

def impl_wordSet_list_n4 (x1952 : Int) (x2011 : List Int) : Option (((List Int))) :=
  nloop (fun (s : Int × (List Int)) => ((impl_wordSet_list_n3 s.1 s.2).map (Sum.elim (fun (t : Int × (List Int)) => Sum.inl (t.1, t.2)) (fun (t : (List Int)) => Sum.inr t)) : Option ((Int × (List Int)) ⊕ (((List Int)))))) LL (x1952, x2011)

def impl_wordSet_list_n5 (x1952 : Int) (x2011 : List Int) : Option (((List Int))) :=
  (impl_wordSet_list_n4 x1952 x2011).map (fun (t : (List Int)) => t)

def impl_wordSet_list_n6 (x1952 : Int) (x2011 : List Int) : Option (((List Int))) :=
  (impl_wordSet_list_n2).bind (fun (t : Unit) => impl_wordSet_list_n5 x1952 x2011)

def impl_wordSet_list_n7 (x2055 : List Int) : Option (((List Int))) :=
  some x2055

def impl_wordSet_list_n8 (x1952 : Int) (x2011 : List Int) : Option (((List Int))) :=
  (impl_wordSet_list_n6 x1952 x2011).bind (fun (t : (List Int)) => impl_wordSet_list_n7 t)

def impl_wordSet_list_n9 (x1952 : Int) : Option (((List Int))) :=
  (impl_wordSet_list_n1 x1952).bind (fun (t : (List Int)) => impl_wordSet_list_n8 x1952 t)

@[irreducible] def impl_wordSet_list (x1952 : Int) : Option ((List Int)) :=
  impl_wordSet_list_n9 x1952

/-! loop.example/headtrees/impl.fillYields -/

def impl_fillYields_n1 (R0 : (List Int) → Int → (List Int) → Option (Int × (List Int))) (x1902 : Int) : Option (Int) :=
  (impl_only x1902).bind fun (v2089 : Int) => some v2089

def impl_fillYields_n2 (R0 : (List Int) → Int → (List Int) → Option (Int × (List Int))) (x1901 : List Int) (x1902 : Int) : Option ((Int × (List Int))) :=
  (impl_dependents x1901 x1902).bind fun (v2090 : Int) => (impl_wordSet_list v2090).bind fun (v2091 : List Int) => some ((((List.length v2091 : Nat) : Int)), v2091)

def impl_fillYields_n3 (R0 : (List Int) → Int → (List Int) → Option (Int × (List Int))) (x1901 : List Int) (x2110 : Int) (x2092 : Int) (x2111 : Int) (x2112 : List Int) (x2091 : List Int) : Option ((Int × Int × (List Int)) ⊕ (Int × (List Int))) :=
  cond (decide (x2111 < x2092)) ((inb x2111 (List.length x2091)).bind fun (v2123 : Nat) => (x2091[v2123]?).bind fun (v2124 : Int) => (R0 x1901 v2124 x2112).bind fun (v2125 : Int × (List Int)) => some (Sum.inl ((ior .u64 x2110 (v2125.1)), (IntKind.wrap .i64 (x2111 + 1)), (v2125.2)))) (some (Sum.inr (x2110, x2112)))

def impl_fillYields_n4 (R0 : (List Int) → Int → (List Int) → Option (Int × (List Int))) (x1901 : List Int) (x2089 : Int) (x2092 : Int) (x1903 : List Int) (x2091 : List Int) : Option ((Int × (List Int))) :=
  nloop (fun (s : Int × Int × (List Int)) => ((impl_fillYields_n3 R0 x1901 s.1 x2092 s.2.1 s.2.2 x2091).map (Sum.elim (fun (t : Int × Int × (List Int)) => Sum.inl (t.1, t.2.1, t.2.2)) (fun (t : Int × (List Int)) => Sum.inr t)) : Option ((Int × Int × (List Int)) ⊕ ((Int × (List Int)))))) LL (x2089, 0, x1903)

def impl_fillYields_n5 (R0 : (List Int) → Int → (List Int) → Option (Int × (List Int))) (x1901 : List Int) (x2089 : Int) (x2092 : Int) (x1903 : List Int) (x2091 : List Int) : Option ((Int × (List Int))) :=
  (impl_fillYields_n4 R0 x1901 x2089 x2092 x1903 x2091).map (fun (t : Int × (List Int)) => (t.1, t.2))

def impl_fillYields_n6 (R0 : (List Int) → Int → (List Int) → Option (Int × (List Int))) (x1901 : List Int) (x1902 : Int) (x2089 : Int) (x1903 : List Int) : Option ((Int × (List Int))) :=
  (impl_fillYields_n2 R0 x1901 x1902).bind (fun (t : Int × (List Int)) => impl_fillYields_n5 R0 x1901 x2089 t.1 x1903 t.2)

def impl_fillYields_n7 (R0 : (List Int) → Int → (List Int) → Option (Int × (List Int))) (x1902 : Int) (x2110 : Int) (x2112 : List Int) : Option ((Int × (List Int))) :=
  (inb (IntKind.wrap .i64 (x1902 - 1)) (List.length x2112)).bind fun (v2137 : Nat) => some (x2110, (x2112.set v2137 x2110))

def impl_fillYields_n8 (R0 : (List Int) → Int → (List Int) → Option (Int × (List Int))) (x1901 : List Int) (x1902 : Int) (x2089 : Int) (x1903 : List Int) : Option ((Int × (List Int))) :=
  (impl_fillYields_n6 R0 x1901 x1902 x2089 x1903).bind (fun (t : Int × (List Int)) => impl_fillYields_n7 R0 x1902 t.1 t.2)

def impl_fillYields_n9 (R0 : (List Int) → Int → (List Int) → Option (Int × (List Int))) (x1901 : List Int) (x1902 : Int) (x1903 : List Int) : Option ((Int × (List Int))) :=
  (impl_fillYields_n1 R0 x1902).bind (fun (t : Int) => impl_fillYields_n8 R0 x1901 x1902 t x1903)

def impl_fillYields_one (R0 : (List Int) → Int → (List Int) → Option (Int × (List Int))) (x1901 : List Int) (x1902 : Int) (x1903 : List Int) : Option (Int × (List Int)) :=
  impl_fillYields_n9 R0 x1901 x1902 x1903

def impl_fillYields_knot : Nat → ((List Int) → Int → (List Int) → Option (Int × (List Int)))
  | 0 => (fun _ _ _ => none)
  | n + 1 => (fun y0 y1 y2 => impl_fillYields_one (impl_fillYields_knot n) y0 y1 y2)

def impl_fillYields_fuel (n : Nat) : (List Int) → Int → (List Int) → Option (Int × (List Int)) := (impl_fillYields_knot n)

@[irreducible] def impl_fillYields (x1901 : List Int) (x1902 : Int) (x1903 : List Int) : Option (Int × (List Int)) := impl_fillYields_fuel RR x1901 x1902 x1903

/-! loop.example/headtrees/impl.yieldsOf -/

def impl_yieldsOf_n1 (x1869 : List Int) : Option (((List Int))) :=
  (mk (((List.length x1869 : Nat) : Int)) (((List.length x1869 : Nat) : Int))).bind fun (v2150 : Nat) => (impl_RootOf x1869).bind fun (v2152 : Int) => (impl_fillYields x1869 v2152 (List.replicate v2150 (0 : Int))).bind fun (v2153 : Int × (List Int)) => some (v2153.2)

@[irreducible] def impl_yieldsOf (x1869 : List Int) : Option ((List Int)) :=
  impl_yieldsOf_n1 x1869

/-! (loop.example/headtrees/impl.wordSet).isRow -/

def impl_wordSet_isRow_n1 (x2163 : Int) : Option (Bool) :=
  some ((iand .u64 x2163 (IntKind.wrap .u64 (x2163 + (iand .u64 x2163 (IntKind.wrap .u64 (0 - x2163)))))) == 0)

@[irreducible] def impl_wordSet_isRow (x2163 : Int) : Option (Bool) :=
  impl_wordSet_isRow_n1 x2163

/-! loop.example/headtrees/impl.FlatOk -/

def impl_FlatOk_n1 (x1866 : List Int) : Option (Unit ⊕ Bool) :=
  (impl_TreeOk x1866).bind fun (v1867 : Bool) => cond (!v1867) (some (Sum.inr false)) (some (Sum.inl ()))

def impl_FlatOk_n2 (x1866 : List Int) : Option ((Int × (List Int))) :=
  (impl_yieldsOf x1866).bind fun (v2156 : List Int) => some ((((List.length v2156 : Nat) : Int)), v2156)

def impl_FlatOk_n3 (x2157 : Int) (x2184 : Int) (x2156 : List Int) : Option (Int ⊕ Bool ⊕ Unit) :=
  cond (decide (x2184 < x2157)) ((inb x2184 (List.length x2156)).bind fun (v2193 : Nat) => (x2156[v2193]?).bind fun (v2194 : Int) => (impl_wordSet_isRow v2194).bind fun (v2195 : Bool) => cond (!v2195) (some (Sum.inr (Sum.inl false))) (some (Sum.inl (IntKind.wrap .i64 (x2184 + 1))))) (some (Sum.inr (Sum.inr ())))

def impl_FlatOk_n4 (x2157 : Int) (x2156 : List Int) : Option (Bool ⊕ Unit) :=
  nloop (fun (s : Int) => ((impl_FlatOk_n3 x2157 s x2156).map (Sum.elim (fun (t : Int) => Sum.inl t) (Sum.elim (fun (t : Bool) => Sum.inr (Sum.inl t)) (fun (t : Unit) => Sum.inr (Sum.inr t)))) : Option ((Int) ⊕ (Bool ⊕ Unit)))) LL 0

def impl_FlatOk_n5 (x2157 : Int) (x2156 : List Int) : Option (Unit ⊕ Bool) :=
  (impl_FlatOk_n4 x2157 x2156).map (Sum.elim (fun (t : Bool) => (Sum.inr t)) (fun (t : Unit) => (Sum.inl ())))

def impl_FlatOk_n6 (x1866 : List Int) : Option (Unit ⊕ Bool) :=
  (impl_FlatOk_n2 x1866).bind (fun (t : Int × (List Int)) => impl_FlatOk_n5 t.1 t.2)

def impl_FlatOk_n7 : Option (Bool) :=
  some true

def impl_FlatOk_n8 (x1866 : List Int) : Option (Bool) :=
  (impl_FlatOk_n6 x1866).bind (Sum.elim (fun (t : Unit) => impl_FlatOk_n7) (fun e => some ((fun (t : Bool) => t) e)))

def impl_FlatOk_n9 (x1866 : List Int) : Option (Bool) :=
  (impl_FlatOk_n1 x1866).bind (Sum.elim (fun (t : Unit) => impl_FlatOk_n8 x1866) (fun e => some ((fun (t : Bool) => t) e)))

@[irreducible] def impl_FlatOk (x1866 : List Int) : Option (Bool) :=
  impl_FlatOk_n9 x1866

/-! (loop.example/headtrees/impl.joins).numberOf -/

def impl_joins_numberOf_n1 (x2301 : Int) (x2302 : Int) (x2303 : Int) (x2304 : Int) (x2305 : Int) (x2306 : Int) (x2307 : Int) (x2308 : Int) (x2309 : Int) (x2310 : Int) (x2311 : Int) (x2312 : Int) (x2313 : Int) (x2314 : Int) (x2315 : Int) (x2316 : Int) (x2317 : Int) (x2318 : Int) : Option (Int) :=
  (inb x2317 7).bind fun (v2327 : Nat) => ([x2308, x2309, x2310, x2311, x2312, x2313, x2314][v2327]?).bind fun (v2328 : Int) => (impl_joins_below x2301 x2302 x2303 x2304 x2305 x2306 x2307 x2308 x2309 x2310 x2311 x2312 x2313 x2314 (IntKind.wrap .i64 (x2315 + x2317)) x2315).bind fun (v2330 : Int) => some (IntKind.wrap .i64 ((IntKind.wrap .i64 (v2330 + (IntKind.wrap .i64 (x2316 * v2328)))) + x2318))

@[irreducible] def impl_joins_numberOf (x2301 : Int) (x2302 : Int) (x2303 : Int) (x2304 : Int) (x2305 : Int) (x2306 : Int) (x2307 : Int) (x2308 : Int) (x2309 : Int) (x2310 : Int) (x2311 : Int) (x2312 : Int) (x2313 : Int) (x2314 : Int) (x2315 : Int) (x2316 : Int) (x2317 : Int) (x2318 : Int) : Option (Int) :=
  impl_joins_numberOf_n1 x2301 x2302 x2303 x2304 x2305 x2306 x2307 x2308 x2309 x2310 x2311 x2312 x2313 x2314 x2315 x2316 x2317 x2318

/-! loop.example/headtrees/impl.before -/

def impl_before_n1 (x2245 : Int) : Option (Int) :=
  (impl_only x2245).bind fun (v2248 : Int) => some (IntKind.wrap .u64 (v2248 - 1))

@[irreducible] def impl_before (x2245 : Int) : Option (Int) :=
  impl_before_n1 x2245

/-! (loop.example/headtrees/impl.flatCounts).numberOfTree, (loop.example/headtrees/impl.flatCounts).numberOfRow -/

def impl_flatCounts_numberOfTree_n1 (R0 : Int → Int → Int → Int → Int → Int → Int → Int → Int → Int → Int → Int → Int → Int → (List Int) → Int → Option (Int × Int)) (R1 : Int → Int → Int → Int → Int → Int → Int → Int → Int → Int → Int → Int → Int → Int → (List Int) → (List Int) → Option (Int × Int)) (x2227 : Int) (x2228 : Int) (x2229 : Int) (x2230 : Int) (x2231 : Int) (x2232 : Int) (x2233 : Int) (x2234 : Int) (x2235 : Int) (x2236 : Int) (x2237 : Int) (x2238 : Int) (x2239 : Int) (x2240 : Int) (x2241 : List Int) (x2242 : Int) : Option ((Int × Int)) :=
  (impl_dependents x2241 x2242).bind fun (v2516 : Int) => (impl_before x2242).bind fun (v2517 : Int) => (impl_wordSet_list (iand .u64 v2516 v2517)).bind fun (v2519 : List Int) => (R1 x2227 x2228 x2229 x2230 x2231 x2232 x2233 x2234 x2235 x2236 x2237 x2238 x2239 x2240 x2241 v2519).bind fun (v2520 : Int × Int) => (impl_before x2242).bind fun (v2523 : Int) => (impl_wordSet_list (iandn .u64 v2516 v2523)).bind fun (v2525 : List Int) => (R1 x2227 x2228 x2229 x2230 x2231 x2232 x2233 x2234 x2235 x2236 x2237 x2238 x2239 x2240 x2241 v2525).bind fun (v2526 : Int × Int) => (impl_flatCounts_aroundRoots x2227 x2228 x2229 x2230 x2231 x2232 x2233 x2234 x2235 x2236 x2237 x2238 x2239 x2240).bind fun (v2531 : Unit) => (impl_joins_numberOf x2234 x2235 x2236 x2237 x2238 x2239 x2240 x2234 x2235 x2236 x2237 x2238 x2239 x2240 (v2520.1) (v2520.2) (v2526.1) (v2526.2)).bind fun (v2532 : Int) => some ((IntKind.wrap .i64 ((IntKind.wrap .i64 ((v2520.1) + 1)) + (v2526.1))), v2532)

def impl_flatCounts_numberOfTree_one (R0 : Int → Int → Int → Int → Int → Int → Int → Int → Int → Int → Int → Int → Int → Int → (List Int) → Int → Option (Int × Int)) (R1 : Int → Int → Int → Int → Int → Int → Int → Int → Int → Int → Int → Int → Int → Int → (List Int) → (List Int) → Option (Int × Int)) (x2227 : Int) (x2228 : Int) (x2229 : Int) (x2230 : Int) (x2231 : Int) (x2232 : Int) (x2233 : Int) (x2234 : Int) (x2235 : Int) (x2236 : Int) (x2237 : Int) (x2238 : Int) (x2239 : Int) (x2240 : Int) (x2241 : List Int) (x2242 : Int) : Option (Int × Int) :=
  impl_flatCounts_numberOfTree_n1 R0 R1 x2227 x2228 x2229 x2230 x2231 x2232 x2233 x2234 x2235 x2236 x2237 x2238 x2239 x2240 x2241 x2242

def impl_flatCounts_numberOfRow_n1 (R0 : Int → Int → Int → Int → Int → Int → Int → Int → Int → Int → Int → Int → Int → Int → (List Int) → Int → Option (Int × Int)) (R1 : Int → Int → Int → Int → Int → Int → Int → Int → Int → Int → Int → Int → Int → Int → (List Int) → (List Int) → Option (Int × Int)) (x2352 : Int) (x2353 : Int) (x2354 : Int) (x2355 : Int) (x2356 : Int) (x2357 : Int) (x2358 : Int) (x2359 : Int) (x2360 : Int) (x2361 : Int) (x2362 : Int) (x2363 : Int) (x2364 : Int) (x2365 : Int) (x2366 : List Int) (x2367 : List Int) : Option ((Int × Int)) :=
  cond ((((List.length x2367 : Nat) : Int)) == 0) (some (0, 0)) ((idx x2367 0).bind fun (v2468 : Int) => (R0 x2352 x2353 x2354 x2355 x2356 x2357 x2358 x2359 x2360 x2361 x2362 x2363 x2364 x2365 x2366 v2468).bind fun (v2469 : Int × Int) => (inc 1 (List.length x2367)).bind fun (v2473 : Nat) => (R1 x2352 x2353 x2354 x2355 x2356 x2357 x2358 x2359 x2360 x2361 x2362 x2363 x2364 x2365 x2366 ((x2367.take (List.length x2367)).drop v2473)).bind fun (v2475 : Int × Int) => (impl_flatCounts_inRows x2352 x2353 x2354 x2355 x2356 x2357 x2358 x2359 x2360 x2361 x2362 x2363 x2364 x2365).bind fun (v2479 : Unit) => (impl_joins_numberOf x2352 x2353 x2354 x2355 x2356 x2357 x2358 x2359 x2360 x2361 x2362 x2363 x2364 x2365 (v2469.1) (v2469.2) (v2475.1) (v2475.2)).bind fun (v2480 : Int) => some ((IntKind.wrap .i64 ((v2469.1) + (v2475.1))), v2480))

def impl_flatCounts_numberOfRow_one (R0 : Int → Int → Int → Int → Int → Int → Int → Int → Int → Int → Int → Int → Int → Int → (List Int) → Int → Option (Int × Int)) (R1 : Int → Int → Int → Int → Int → Int → Int → Int → Int → Int → Int → Int → Int → Int → (List Int) → (List Int) → Option (Int × Int)) (x2352 : Int) (x2353 : Int) (x2354 : Int) (x2355 : Int) (x2356 : Int) (x2357 : Int) (x2358 : Int) (x2359 : Int) (x2360 : Int) (x2361 : Int) (x2362 : Int) (x2363 : Int) (x2364 : Int) (x2365 : Int) (x2366 : List Int) (x2367 : List Int) : Option (Int × Int) :=
  impl_flatCounts_numberOfRow_n1 R0 R1 x2352 x2353 x2354 x2355 x2356 x2357 x2358 x2359 x2360 x2361 x2362 x2363 x2364 x2365 x2366 x2367

def impl_flatCounts_numberOfTree_knot : Nat → (Int → Int → Int → Int → Int → Int → Int → Int → Int → Int → Int → Int → Int → Int → (List Int) → Int → Option (Int × Int)) × (Int → Int → Int → Int → Int → Int → Int → Int → Int → Int → Int → Int → Int → Int → (List Int) → (List Int) → Option (Int × Int))
  | 0 => ((fun _ _ _ _ _ _ _ _ _ _ _ _ _ _ _ _ => none), (fun _ _ _ _ _ _ _ _ _ _ _ _ _ _ _ _ => none))
  | n + 1 => ((fun y0 y1 y2 y3 y4 y5 y6 y7 y8 y9 y10 y11 y12 y13 y14 y15 => impl_flatCounts_numberOfTree_one (impl_flatCounts_numberOfTree_knot n).1 (impl_flatCounts_numberOfTree_knot n).2 y0 y1 y2 y3 y4 y5 y6 y7 y8 y9 y10 y11 y12 y13 y14 y15), (fun y0 y1 y2 y3 y4 y5 y6 y7 y8 y9 y10 y11 y12 y13 y14 y15 => impl_flatCounts_numberOfRow_one (impl_flatCounts_numberOfTree_knot n).1 (impl_flatCounts_numberOfTree_knot n).2 y0 y1 y2 y3 y4 y5 y6 y7 y8 y9 y10 y11 y12 y13 y14 y15))

def impl_flatCounts_numberOfTree_fuel (n : Nat) : Int → Int → Int → Int → Int → Int → Int → Int → Int → Int → Int → Int → Int → Int → (List Int) → Int → Option (Int × Int) := (impl_flatCounts_numberOfTree_knot n).1

@[irreducible] def impl_flatCounts_numberOfTree (x2227 : Int) (x2228 : Int) (x2229 : Int) (x2230 : Int) (x2231 : Int) (x2232 : Int) (x2233 : Int) (x2234 : Int) (x2235 : Int) (x2236 : Int) (x2237 : Int) (x2238 : Int) (x2239 : Int) (x2240 : Int) (x2241 : List Int) (x2242 : Int) : Option (Int × Int) := impl_flatCounts_numberOfTree_fuel RR x2227 x2228 x2229 x2230 x2231 x2232 x2233 x2234 x2235 x2236 x2237 x2238 x2239 x2240 x2241 x2242

def impl_flatCounts_numberOfRow_fuel (n : Nat) : Int → Int → Int → Int → Int → Int → Int → Int → Int → Int → Int → Int → Int → Int → (List Int) → (List Int) → Option (Int × Int) := (impl_flatCounts_numberOfTree_knot n).2

@[irreducible] def impl_flatCounts_numberOfRow (x2352 : Int) (x2353 : Int) (x2354 : Int) (x2355 : Int) (x2356 : Int) (x2357 : Int) (x2358 : Int) (x2359 : Int) (x2360 : Int) (x2361 : Int) (x2362 : Int) (x2363 : Int) (x2364 : Int) (x2365 : Int) (x2366 : List Int) (x2367 : List Int) : Option (Int × Int) := impl_flatCounts_numberOfRow_fuel RR x2352 x2353 x2354 x2355 x2356 x2357 x2358 x2359 x2360 x2361 x2362 x2363 x2364 x2365 x2366 x2367

/-! loop.example/headtrees/impl.PlaceOf -/

def impl_PlaceOf_n1 (x2202 : List Int) : Option (Int) :=
  cond (decide ((((List.length x2202 : Nat) : Int)) > 6)) (some (-1)) ((impl_FlatOk x2202).bind fun (v2538 : Bool) => cond (!v2538) (some (-1)) ((impl_countFlatParts).bind fun (v2540 : Int × Int × Int × Int × Int × Int × Int × Int × Int × Int × Int × Int × Int × Int) => (impl_RootOf x2202).bind fun (v2555 : Int) => (impl_flatCounts_numberOfTree (v2540.1) (v2540.2.1) (v2540.2.2.1) (v2540.2.2.2.1) (v2540.2.2.2.2.1) (v2540.2.2.2.2.2.1) (v2540.2.2.2.2.2.2.1) (v2540.2.2.2.2.2.2.2.1) (v2540.2.2.2.2.2.2.2.2.1) (v2540.2.2.2.2.2.2.2.2.2.1) (v2540.2.2.2.2.2.2.2.2.2.2.1) (v2540.2.2.2.2.2.2.2.2.2.2.2.1) (v2540.2.2.2.2.2.2.2.2.2.2.2.2.1) (v2540.2.2.2.2.2.2.2.2.2.2.2.2.2) x2202 v2555).bind fun (v2556 : Int × Int) => some (v2556.2)))

@[irreducible] def impl_PlaceOf (x2202 : List Int) : Option (Int) :=
  impl_PlaceOf_n1 x2202

/-! loop.example/headtrees/laws.FnFlatAt -/

def laws_FnFlatAt_n1 (x2 : List Int) : Option (Bool) :=
  cond (decide ((((List.length x2 : Nat) : Int)) > 1048576)) (some true) ((spec_DrawFlatAt x2).bind fun (v2568 : Int × Int) => (impl_FlatAt (v2568.1) (v2568.2)).bind fun (v2571 : Bool × (List Int)) => (spec_FlatAt (v2568.1) (v2568.2)).bind fun (v2574 : Bool × (List Int)) => (laws_sameInts (v2571.2) (v2574.2)).bind fun (v2577 : Bool) => cond (!v2577) (some false) (cond ((v2571.1) != (v2574.1)) (some false) (cond (!(v2571.1)) (cond ((((List.length (v2571.2) : Nat) : Int)) == 0) ((laws_alive).bind fun (v2583 : Bool) => some v2583) (some false)) ((impl_FlatAt (v2568.1) (IntKind.wrap .i64 ((v2568.2) + 1))).bind fun (v2585 : Bool × (List Int)) => (impl_FlatOk (v2571.2)).bind fun (v2588 : Bool) => cond v2588 (cond ((((List.length (v2571.2) : Nat) : Int)) == (v2568.1)) ((impl_PlaceOf (v2571.2)).bind fun (v2591 : Int) => cond (v2591 == (v2568.2)) (cond (!(v2585.1)) (some true) ((impl_RootOf (v2585.2)).bind fun (v2594 : Int) => (impl_RootOf (v2571.2)).bind fun (v2595 : Int) => some (decide (v2594 ≥ v2595)))) (some false)) (some false)) (some false)))))

@[irreducible] def laws_FnFlatAt (x2 : List Int) : Option (Bool) :=
  laws_FnFlatAt_n1 x2

/-! loop.example/headtrees/spec.l20Order -/

def spec_l20Order_n1 (x2626 : List Int) (x2627 : Int) : Option ((Int × Int)) :=
  (spec_l20Rd_pick 2 x2626 x2627).bind fun (v2628 : Int × Int) => some ((v2628.1), (v2628.2))

def spec_l20Order_n2 : Option (Unit) :=
  some ()

def spec_l20Order_n3 (x2625 : Int) (x2629 : Int) (x2772 : Int) (x2626 : List Int) (x2773 : Int) (x2774 : List Int) : Option ((Int × Int × (List Int)) ⊕ (Int × (List Int))) :=
  cond (decide (x2772 ≤ x2625)) (cond (x2629 == 0) ((spec_l20Rd_pick x2772 x2626 x2773).bind fun (v2846 : Int × Int) => (inc (v2846.1) (List.length x2774)).bind fun (v2850 : Nat) => (room ((List.length ([] : List Int)) + List.length ((x2774.drop 0).take (v2850 - 0)))).bind fun (v2854 : Unit) => (room ((List.length (([] : List Int) ++ ((x2774.drop 0).take (v2850 - 0)))) + List.length ([x2772]))).bind fun (v2858 : Unit) => (inc (v2846.1) (List.length x2774)).bind fun (v2861 : Nat) => (room ((List.length ((([] : List Int) ++ ((x2774.drop 0).take (v2850 - 0))) ++ ([x2772]))) + List.length ((x2774.drop v2861).take ((List.length x2774) - v2861)))).bind fun (v2865 : Unit) => some (Sum.inl ((IntKind.wrap .i64 (x2772 + 1)), (v2846.2), (((([] : List Int) ++ ((x2774.drop 0).take (v2850 - 0))) ++ ([x2772])) ++ ((x2774.drop v2861).take ((List.length x2774) - v2861)))))) ((spec_l20Rd_pick 3 x2626 x2773).bind fun (v2868 : Int × Int) => cond ((v2868.1) == 0) ((spec_l20Rd_pick x2772 x2626 (v2868.2)).bind fun (v2872 : Int × Int) => (inc (v2872.1) (List.length x2774)).bind fun (v2876 : Nat) => (room ((List.length ([] : List Int)) + List.length ((x2774.drop 0).take (v2876 - 0)))).bind fun (v2880 : Unit) => (room ((List.length (([] : List Int) ++ ((x2774.drop 0).take (v2876 - 0)))) + List.length ([x2772]))).bind fun (v2884 : Unit) => (inc (v2872.1) (List.length x2774)).bind fun (v2887 : Nat) => (room ((List.length ((([] : List Int) ++ ((x2774.drop 0).take (v2876 - 0))) ++ ([x2772]))) + List.length ((x2774.drop v2887).take ((List.length x2774) - v2887)))).bind fun (v2891 : Unit) => some (Sum.inl ((IntKind.wrap .i64 (x2772 + 1)), (v2872.2), (((([] : List Int) ++ ((x2774.drop 0).take (v2876 - 0))) ++ ([x2772])) ++ ((x2774.drop v2887).take ((List.length x2774) - v2887)))))) ((inc (((List.length x2774 : Nat) : Int)) (List.length x2774)).bind fun (v2895 : Nat) => (room ((List.length ([] : List Int)) + List.length ((x2774.drop 0).take (v2895 - 0)))).bind fun (v2899 : Unit) => (room ((List.length (([] : List Int) ++ ((x2774.drop 0).take (v2895 - 0)))) + List.length ([x2772]))).bind fun (v2903 : Unit) => (inc (((List.length x2774 : Nat) : Int)) (List.length x2774)).bind fun (v2906 : Nat) => (room ((List.length ((([] : List Int) ++ ((x2774.drop 0).take (v2895 - 0))) ++ ([x2772]))) + List.length ((x2774.drop v2906).take ((List.length x2774) - v2906)))).bind fun (v2910 : Unit) => some (Sum.inl ((IntKind.wrap .i64 (x2772 + 1)), (v2868.2), (((([] : List Int) ++ ((x2774.drop 0).take (v2895 - 0))) ++ ([x2772])) ++ ((x2774.drop v2906).take ((List.length x2774) - v2906)))))))) (some (Sum.inr (x2773, x2774)))

def spec_l20Order_n4 (x2625 : Int) (x2629 : Int) (x2626 : List Int) (x2630 : Int) : Option ((Int × (List Int))) :=
  nloop (fun (s : Int × Int × (List Int)) => ((spec_l20Order_n3 x2625 x2629 s.1 x2626 s.2.1 s.2.2).map (Sum.elim (fun (t : Int × Int × (List Int)) => Sum.inl (t.1, t.2.1, t.2.2)) (fun (t : Int × (List Int)) => Sum.inr t)) : Option ((Int × Int × (List Int)) ⊕ ((Int × (List Int)))))) LL (1, x2630, ([] : List Int))

def spec_l20Order_n5 (x2625 : Int) (x2629 : Int) (x2626 : List Int) (x2630 : Int) : Option ((Int × (List Int))) :=
  (spec_l20Order_n4 x2625 x2629 x2626 x2630).map (fun (t : Int × (List Int)) => (t.1, t.2))

def spec_l20Order_n6 (x2625 : Int) (x2629 : Int) (x2626 : List Int) (x2630 : Int) : Option ((Int × (List Int))) :=
  (spec_l20Order_n2).bind (fun (t : Unit) => spec_l20Order_n5 x2625 x2629 x2626 x2630)

def spec_l20Order_n7 (x2773 : Int) (x2774 : List Int) : Option ((Int × (List Int))) :=
  some (x2773, x2774)

def spec_l20Order_n8 (x2625 : Int) (x2629 : Int) (x2626 : List Int) (x2630 : Int) : Option ((Int × (List Int))) :=
  (spec_l20Order_n6 x2625 x2629 x2626 x2630).bind (fun (t : Int × (List Int)) => spec_l20Order_n7 t.1 t.2)

def spec_l20Order_n9 (x2625 : Int) (x2626 : List Int) (x2627 : Int) : Option ((Int × (List Int))) :=
  (spec_l20Order_n1 x2626 x2627).bind (fun (t : Int × Int) => spec_l20Order_n8 x2625 t.1 x2626 t.2)

@[irreducible] def spec_l20Order (x2625 : Int) (x2626 : List Int) (x2627 : Int) : Option (Int × (List Int)) :=
  spec_l20Order_n9 x2625 x2626 x2627

/-! (*loop.example/headtrees/spec.l20Rd).odd -/

def spec_l20Rd_odd_n1 (x3081 : Int) (x3082 : List Int) (x3083 : Int) : Option ((Bool × Int)) :=
  cond (decide (x3081 > 0)) ((spec_l20Rd_pick x3081 x3082 x3083).bind fun (v3091 : Int × Int) => some (((v3091.1) == (IntKind.wrap .i64 (x3081 - 1))), (v3091.2))) (some (false, x3083))

@[irreducible] def spec_l20Rd_odd (x3081 : Int) (x3082 : List Int) (x3083 : Int) : Option (Bool × Int) :=
  spec_l20Rd_odd_n1 x3081 x3082 x3083

/-! loop.example/headtrees/spec.l20Tree -/

def spec_l20Tree_n1 (x2615 : List Int) (x2616 : Int) : Option ((Int × Int × Int × (List Int) × (List Int))) :=
  (spec_l20Rd_pick 7 x2615 x2616).bind fun (v2928 : Int × Int) => (spec_l20Order (IntKind.wrap .i64 (1 + (v2928.1))) x2615 (v2928.2)).bind fun (v2932 : Int × (List Int)) => (mk (IntKind.wrap .i64 (1 + (v2928.1))) (IntKind.wrap .i64 (1 + (v2928.1)))).bind fun (v2935 : Nat) => (spec_l20Rd_pick 2 x2615 (v2932.1)).bind fun (v2937 : Int × Int) => some ((IntKind.wrap .i64 (1 + (v2928.1))), (v2937.1), (v2937.2), (v2932.2), (List.replicate v2935 (0 : Int)))

def spec_l20Tree_n2 : Option (Unit) :=
  some ()

def spec_l20Tree_n3 (x2931 : Int) (x2938 : Int) (x3009 : Int) (x2615 : List Int) (x3010 : Int) (x2934 : List Int) (x3011 : List Int) : Option ((Int × Int × (List Int)) ⊕ (Int × (List Int))) :=
  cond (decide (x3009 < x2931)) ((spec_l20Rd_pick x3009 x2615 x3010).bind fun (v3045 : Int × Int) => cond (x2938 == 1) ((spec_l20Rd_pick 2 x2615 (v3045.2)).bind fun (v3049 : Int × Int) => cond ((v3049.1) == 0) ((inb x3009 (List.length x2934)).bind fun (v3054 : Nat) => (x2934[v3054]?).bind fun (v3055 : Int) => (inb (IntKind.wrap .i64 (x3009 - 1)) (List.length x2934)).bind fun (v3057 : Nat) => (x2934[v3057]?).bind fun (v3058 : Int) => (inb (IntKind.wrap .i64 (v3055 - 1)) (List.length x3011)).bind fun (v3059 : Nat) => some (Sum.inl ((IntKind.wrap .i64 (x3009 + 1)), (v3049.2), (x3011.set v3059 v3058)))) ((inb x3009 (List.length x2934)).bind fun (v3062 : Nat) => (x2934[v3062]?).bind fun (v3063 : Int) => (inb (v3045.1) (List.length x2934)).bind fun (v3065 : Nat) => (x2934[v3065]?).bind fun (v3066 : Int) => (inb (IntKind.wrap .i64 (v3063 - 1)) (List.length x3011)).bind fun (v3067 : Nat) => some (Sum.inl ((IntKind.wrap .i64 (x3009 + 1)), (v3049.2), (x3011.set v3067 v3066))))) ((inb x3009 (List.length x2934)).bind fun (v3070 : Nat) => (x2934[v3070]?).bind fun (v3071 : Int) => (inb (v3045.1) (List.length x2934)).bind fun (v3073 : Nat) => (x2934[v3073]?).bind fun (v3074 : Int) => (inb (IntKind.wrap .i64 (v3071 - 1)) (List.length x3011)).bind fun (v3075 : Nat) => some (Sum.inl ((IntKind.wrap .i64 (x3009 + 1)), (v3045.2), (x3011.set v3075 v3074))))) (some (Sum.inr (x3010, x3011)))

def spec_l20Tree_n4 (x2931 : Int) (x2938 : Int) (x2615 : List Int) (x2939 : Int) (x2934 : List Int) (x2936 : List Int) : Option ((Int × (List Int))) :=
  nloop (fun (s : Int × Int × (List Int)) => ((spec_l20Tree_n3 x2931 x2938 s.1 x2615 s.2.1 x2934 s.2.2).map (Sum.elim (fun (t : Int × Int × (List Int)) => Sum.inl (t.1, t.2.1, t.2.2)) (fun (t : Int × (List Int)) => Sum.inr t)) : Option ((Int × Int × (List Int)) ⊕ ((Int × (List Int)))))) LL (1, x2939, x2936)

def spec_l20Tree_n5 (x2931 : Int) (x2938 : Int) (x2615 : List Int) (x2939 : Int) (x2934 : List Int) (x2936 : List Int) : Option ((Int × (List Int))) :=
  (spec_l20Tree_n4 x2931 x2938 x2615 x2939 x2934 x2936).map (fun (t : Int × (List Int)) => (t.1, t.2))

def spec_l20Tree_n6 (x2931 : Int) (x2938 : Int) (x2615 : List Int) (x2939 : Int) (x2934 : List Int) (x2936 : List Int) : Option ((Int × (List Int))) :=
  (spec_l20Tree_n2).bind (fun (t : Unit) => spec_l20Tree_n5 x2931 x2938 x2615 x2939 x2934 x2936)

def spec_l20Tree_n7 (x2614 : Int) (x2931 : Int) (x2615 : List Int) (x3010 : Int) (x3011 : List Int) : Option ((Int × (List Int))) :=
  (spec_l20Rd_odd x2614 x2615 x3010).bind fun (v3154 : Bool × Int) => cond (v3154.1) ((spec_l20Rd_pick 4 x2615 (v3154.2)).bind fun (v3157 : Int × Int) => cond ((v3157.1) == 0) (some ((v3157.2), ([] : List Int))) (cond ((v3157.1) == 1) (some ((v3157.2), ([2, 1, 0]))) (cond ((v3157.1) == 2) ((spec_l20Rd_pick x2931 x2615 (v3157.2)).bind fun (v3164 : Int × Int) => (inb (v3164.1) (List.length x3011)).bind fun (v3167 : Nat) => (room ((List.length (x3011.set v3167 0)) + List.length ([0]))).bind fun (v3171 : Unit) => some ((v3164.2), ((x3011.set v3167 0) ++ ([0])))) ((spec_l20Rd_pick 3 x2615 (v3157.2)).bind fun (v3175 : Int × Int) => (inb (v3175.1) (List.length ([1, (IntKind.wrap .i64 (x2931 + 1)), (-1)]))).bind fun (v3178 : Nat) => (([1, (IntKind.wrap .i64 (x2931 + 1)), (-1)])[v3178]?).bind fun (v3179 : Int) => (inb 0 (List.length x3011)).bind fun (v3180 : Nat) => some ((v3175.2), (x3011.set v3180 v3179)))))) (some ((v3154.2), x3011))

def spec_l20Tree_n8 (x2614 : Int) (x2931 : Int) (x2938 : Int) (x2615 : List Int) (x2939 : Int) (x2934 : List Int) (x2936 : List Int) : Option ((Int × (List Int))) :=
  (spec_l20Tree_n6 x2931 x2938 x2615 x2939 x2934 x2936).bind (fun (t : Int × (List Int)) => spec_l20Tree_n7 x2614 x2931 x2615 t.1 t.2)

def spec_l20Tree_n9 (x2614 : Int) (x2615 : List Int) (x2616 : Int) : Option ((Int × (List Int))) :=
  (spec_l20Tree_n1 x2615 x2616).bind (fun (t : Int × Int × Int × (List Int) × (List Int)) => spec_l20Tree_n8 x2614 t.1 t.2.1 x2615 t.2.2.1 t.2.2.2.1 t.2.2.2.2)

@[irreducible] def spec_l20Tree (x2614 : Int) (x2615 : List Int) (x2616 : Int) : Option (Int × (List Int)) :=
  spec_l20Tree_n9 x2614 x2615 x2616

/-! loop.example/headtrees/spec.l20Fill -/

def spec_l20Fill_n1 (R0 : Int → Int → Int → (List Int) → Int → (List Int) → Option (Int × (List Int))) (x3224 : Int) (x3225 : Int) (x3226 : Int) (x3227 : List Int) (x3228 : Int) (x3229 : List Int) : Option ((Int × Int × (List Int)) ⊕ (Int × (List Int))) :=
  cond (decide (x3224 > x3225)) (some (Sum.inr (x3228, x3229))) ((spec_l20Rd_pick (IntKind.wrap .i64 ((IntKind.wrap .i64 (x3225 - x3224)) + 1)) x3227 x3228).bind fun (v3297 : Int × Int) => (inb (IntKind.wrap .i64 ((IntKind.wrap .i64 (x3224 + (v3297.1))) - 1)) (List.length x3229)).bind fun (v3302 : Nat) => some (Sum.inl ((IntKind.wrap .i64 (x3224 + (v3297.1))), (v3297.2), (x3229.set v3302 x3226))))

def spec_l20Fill_n2 (R0 : Int → Int → Int → (List Int) → Int → (List Int) → Option (Int × (List Int))) (x3300 : Int) (x3315 : Int) (x3227 : List Int) (x3316 : Int) (x3317 : List Int) : Option ((Int × Int × (List Int)) ⊕ (Int × (List Int))) :=
  cond (decide (x3315 < x3300)) ((spec_l20Rd_pick (IntKind.wrap .i64 (x3300 - x3315)) x3227 x3316).bind fun (v3321 : Int × Int) => (R0 x3315 (IntKind.wrap .i64 (x3315 + (v3321.1))) x3300 x3227 (v3321.2) x3317).bind fun (v3325 : Int × (List Int)) => some (Sum.inl ((IntKind.wrap .i64 ((IntKind.wrap .i64 (x3315 + (v3321.1))) + 1)), (v3325.1), (v3325.2)))) (some (Sum.inr (x3316, x3317)))

def spec_l20Fill_n3 (R0 : Int → Int → Int → (List Int) → Int → (List Int) → Option (Int × (List Int))) (x3300 : Int) (x3224 : Int) (x3227 : List Int) (x3299 : Int) (x3303 : List Int) : Option ((Int × (List Int))) :=
  nloop (fun (s : Int × Int × (List Int)) => ((spec_l20Fill_n2 R0 x3300 s.1 x3227 s.2.1 s.2.2).map (Sum.elim (fun (t : Int × Int × (List Int)) => Sum.inl (t.1, t.2.1, t.2.2)) (fun (t : Int × (List Int)) => Sum.inr t)) : Option ((Int × Int × (List Int)) ⊕ ((Int × (List Int)))))) LL (x3224, x3299, x3303)

def spec_l20Fill_n4 (R0 : Int → Int → Int → (List Int) → Int → (List Int) → Option (Int × (List Int))) (x3300 : Int) (x3224 : Int) (x3227 : List Int) (x3299 : Int) (x3303 : List Int) : Option ((Int × (List Int))) :=
  (spec_l20Fill_n3 R0 x3300 x3224 x3227 x3299 x3303).map (fun (t : Int × (List Int)) => (t.1, t.2))

def spec_l20Fill_n5 (R0 : Int → Int → Int → (List Int) → Int → (List Int) → Option (Int × (List Int))) (x3300 : Int) : Option (Int) :=
  some (IntKind.wrap .i64 (x3300 + 1))

def spec_l20Fill_n6 (R0 : Int → Int → Int → (List Int) → Int → (List Int) → Option (Int × (List Int))) (x3225 : Int) (x3300 : Int) (x3342 : Int) (x3227 : List Int) (x3343 : Int) (x3344 : List Int) : Option ((Int × Int × (List Int)) ⊕ (Int × (List Int))) :=
  cond (decide (x3342 ≤ x3225)) ((spec_l20Rd_pick (IntKind.wrap .i64 ((IntKind.wrap .i64 (x3225 - x3342)) + 1)) x3227 x3343).bind fun (v3349 : Int × Int) => (R0 x3342 (IntKind.wrap .i64 (x3342 + (v3349.1))) x3300 x3227 (v3349.2) x3344).bind fun (v3353 : Int × (List Int)) => some (Sum.inl ((IntKind.wrap .i64 ((IntKind.wrap .i64 (x3342 + (v3349.1))) + 1)), (v3353.1), (v3353.2)))) (some (Sum.inr (x3343, x3344)))

def spec_l20Fill_n7 (R0 : Int → Int → Int → (List Int) → Int → (List Int) → Option (Int × (List Int))) (x3225 : Int) (x3300 : Int) (x3329 : Int) (x3227 : List Int) (x3316 : Int) (x3317 : List Int) : Option ((Int × (List Int))) :=
  nloop (fun (s : Int × Int × (List Int)) => ((spec_l20Fill_n6 R0 x3225 x3300 s.1 x3227 s.2.1 s.2.2).map (Sum.elim (fun (t : Int × Int × (List Int)) => Sum.inl (t.1, t.2.1, t.2.2)) (fun (t : Int × (List Int)) => Sum.inr t)) : Option ((Int × Int × (List Int)) ⊕ ((Int × (List Int)))))) LL (x3329, x3316, x3317)

def spec_l20Fill_n8 (R0 : Int → Int → Int → (List Int) → Int → (List Int) → Option (Int × (List Int))) (x3225 : Int) (x3300 : Int) (x3329 : Int) (x3227 : List Int) (x3316 : Int) (x3317 : List Int) : Option ((Int × (List Int))) :=
  (spec_l20Fill_n7 R0 x3225 x3300 x3329 x3227 x3316 x3317).map (fun (t : Int × (List Int)) => (t.1, t.2))

def spec_l20Fill_n9 (R0 : Int → Int → Int → (List Int) → Int → (List Int) → Option (Int × (List Int))) (x3225 : Int) (x3300 : Int) (x3227 : List Int) (x3316 : Int) (x3317 : List Int) : Option ((Int × (List Int))) :=
  (spec_l20Fill_n5 R0 x3300).bind (fun (t : Int) => spec_l20Fill_n8 R0 x3225 x3300 t x3227 x3316 x3317)

def spec_l20Fill_n10 (R0 : Int → Int → Int → (List Int) → Int → (List Int) → Option (Int × (List Int))) (x3225 : Int) (x3300 : Int) (x3224 : Int) (x3227 : List Int) (x3299 : Int) (x3303 : List Int) : Option ((Int × (List Int))) :=
  (spec_l20Fill_n4 R0 x3300 x3224 x3227 x3299 x3303).bind (fun (t : Int × (List Int)) => spec_l20Fill_n9 R0 x3225 x3300 x3227 t.1 t.2)

def spec_l20Fill_n11 (R0 : Int → Int → Int → (List Int) → Int → (List Int) → Option (Int × (List Int))) (x3224 : Int) (x3225 : Int) (x3226 : Int) (x3227 : List Int) (x3228 : Int) (x3229 : List Int) : Option ((Int × (List Int)) ⊕ (Int × (List Int))) :=
  (spec_l20Fill_n1 R0 x3224 x3225 x3226 x3227 x3228 x3229).bind (Sum.elim (fun (t : Int × Int × (List Int)) => (spec_l20Fill_n10 R0 x3225 t.1 x3224 x3227 t.2.1 t.2.2).map (fun (u : Int × (List Int)) => (Sum.inl (u.1, u.2)))) (fun e => some ((fun (t : Int × (List Int)) => (Sum.inr t)) e)))

def spec_l20Fill_one (R0 : Int → Int → Int → (List Int) → Int → (List Int) → Option (Int × (List Int))) (x3224 : Int) (x3225 : Int) (x3226 : Int) (x3227 : List Int) (x3228 : Int) (x3229 : List Int) : Option (Int × (List Int)) :=
  (spec_l20Fill_n11 R0 x3224 x3225 x3226 x3227 x3228 x3229).map (Sum.elim (fun (t : Int × (List Int)) => (t.1, t.2)) (fun (t : Int × (List Int)) => t))

def spec_l20Fill_knot : Nat → (Int → Int → Int → (List Int) → Int → (List Int) → Option (Int × (List Int)))
  | 0 => (fun _ _ _ _ _ _ => none)
  | n + 1 => (fun y0 y1 y2 y3 y4 y5 => spec_l20Fill_one (spec_l20Fill_knot n) y0 y1 y2 y3 y4 y5)

def spec_l20Fill_fuel (n : Nat) : Int → Int → Int → (List Int) → Int → (List Int) → Option (Int × (List Int)) := (spec_l20Fill_knot n)

@[irreducible] def spec_l20Fill (x3224 : Int) (x3225 : Int) (x3226 : Int) (x3227 : List Int) (x3228 : Int) (x3229 : List Int) : Option (Int × (List Int)) := spec_l20Fill_fuel RR x3224 x3225 x3226 x3227 x3228 x3229

/-! loop.example/headtrees/spec.l20Flat -/

def spec_l20Flat_n1 (x2607 : Int) (x2608 : List Int) (x2609 : Int) : Option ((Int × (List Int))) :=
  (spec_l20Rd_pick 3 x2608 x2609).bind fun (v3378 : Int × Int) => cond ((v3378.1) == 0) ((spec_l20Tree x2607 x2608 (v3378.2)).bind fun (v3382 : Int × (List Int)) => some ((v3382.1), (v3382.2))) ((spec_l20Rd_pick 7 x2608 (v3378.2)).bind fun (v3385 : Int × Int) => (mk (IntKind.wrap .i64 (1 + (v3385.1))) (IntKind.wrap .i64 (1 + (v3385.1)))).bind fun (v3389 : Nat) => (spec_l20Fill 1 (IntKind.wrap .i64 (1 + (v3385.1))) 0 x2608 (v3385.2) (List.replicate v3389 (0 : Int))).bind fun (v3391 : Int × (List Int)) => some ((v3391.1), (v3391.2)))

@[irreducible] def spec_l20Flat (x2607 : Int) (x2608 : List Int) (x2609 : Int) : Option (Int × (List Int)) :=
  spec_l20Flat_n1 x2607 x2608 x2609

/-! loop.example/headtrees/spec.DrawPlaceOf -/

def spec_DrawPlaceOf_n1 (x2604 : List Int) : Option (((List Int))) :=
  (spec_l20Open x2604).bind fun (v3399 : List Int) => (spec_l20Flat 9 v3399 0).bind fun (v3400 : Int × (List Int)) => some (v3400.2)

@[irreducible] def spec_DrawPlaceOf (x2604 : List Int) : Option ((List Int)) :=
  spec_DrawPlaceOf_n1 x2604

/-! loop.example/headtrees/spec.TreeOk -/

def spec_TreeOk_n1 (x3416 : List Int) : Option (Int ⊕ Bool) :=
  (spec_l1In (((List.length x3416 : Nat) : Int)) 1 8).bind fun (v3422 : Bool) => cond (!v3422) (some (Sum.inr false)) (some (Sum.inl (((List.length x3416 : Nat) : Int))))

def spec_TreeOk_n2 : Option (Unit) :=
  some ()

def spec_TreeOk_n3 (x3421 : Int) (x3488 : Int) (x3489 : Int) : Option (Unit ⊕ Int) :=
  cond (decide (x3489 < x3421)) (some (Sum.inl ())) (some (Sum.inr x3488))

def spec_TreeOk_n4 (x3416 : List Int) (x3421 : Int) (x3488 : Int) (x3489 : Int) : Option ((Int × Int) ⊕ Bool) :=
  (idx x3416 x3489).bind fun (v3506 : Int) => (spec_l1In v3506 0 x3421).bind fun (v3507 : Bool) => cond (!v3507) (some (Sum.inr false)) ((idx x3416 x3489).bind fun (v3509 : Int) => cond (v3509 == (IntKind.wrap .i64 (x3489 + 1))) (some (Sum.inr false)) ((idx x3416 x3489).bind fun (v3512 : Int) => cond (v3512 == 0) (some (Sum.inl ((IntKind.wrap .i64 (x3488 + 1)), (IntKind.wrap .i64 (x3489 + 1))))) (some (Sum.inl (x3488, (IntKind.wrap .i64 (x3489 + 1)))))))

def spec_TreeOk_n5 : Option (Unit) :=
  some ()

def spec_TreeOk_n6 (x3416 : List Int) (x3421 : Int) (x3534 : Int) (x3535 : Int) : Option ((Int × Int) ⊕ Bool ⊕ Int) :=
  cond (decide (x3534 > 0)) (cond (decide (x3535 < x3421)) ((idx x3416 (IntKind.wrap .i64 (x3534 - 1))).bind fun (v3547 : Int) => (spec_l1In v3547 0 x3421).bind fun (v3548 : Bool) => cond (!v3548) (some (Sum.inr (Sum.inl false))) (some (Sum.inl (v3547, (IntKind.wrap .i64 (x3535 + 1)))))) (some (Sum.inr (Sum.inr x3534)))) (some (Sum.inr (Sum.inr x3534)))

def spec_TreeOk_n7 (x3416 : List Int) (x3421 : Int) (x3518 : Int) : Option (Bool ⊕ Int) :=
  nloop (fun (s : Int × Int) => ((spec_TreeOk_n6 x3416 x3421 s.1 s.2).map (Sum.elim (fun (t : Int × Int) => Sum.inl (t.1, t.2)) (Sum.elim (fun (t : Bool) => Sum.inr (Sum.inl t)) (fun (t : Int) => Sum.inr (Sum.inr t)))) : Option ((Int × Int) ⊕ (Bool ⊕ Int)))) LL (x3518, 0)

def spec_TreeOk_n8 (x3416 : List Int) (x3421 : Int) (x3518 : Int) : Option (Int ⊕ Bool) :=
  (spec_TreeOk_n7 x3416 x3421 x3518).map (Sum.elim (fun (t : Bool) => (Sum.inr t)) (fun (t : Int) => (Sum.inl t)))

def spec_TreeOk_n9 (x3416 : List Int) (x3421 : Int) (x3518 : Int) : Option (Int ⊕ Bool) :=
  (spec_TreeOk_n5).bind (fun (t : Unit) => spec_TreeOk_n8 x3416 x3421 x3518)

def spec_TreeOk_n10 (x3534 : Int) : Option (Unit ⊕ Bool) :=
  cond (decide (x3534 > 0)) (some (Sum.inr false)) (some (Sum.inl ()))

def spec_TreeOk_n11 (x3416 : List Int) (x3421 : Int) (x3518 : Int) : Option (Unit ⊕ Bool) :=
  (spec_TreeOk_n9 x3416 x3421 x3518).bind (Sum.elim (fun (t : Int) => spec_TreeOk_n10 t) (fun e => some ((fun (t : Bool) => (Sum.inr t)) e)))

def spec_TreeOk_n12 (x3416 : List Int) (x3421 : Int) (x3488 : Int) (x3489 : Int) : Option (Int ⊕ Bool) :=
  (spec_TreeOk_n4 x3416 x3421 x3488 x3489).bind (Sum.elim (fun (t : Int × Int) => (spec_TreeOk_n11 x3416 x3421 t.2).map (Sum.elim (fun (u : Unit) => (Sum.inl t.1)) (fun (u : Bool) => (Sum.inr u)))) (fun e => some ((fun (t : Bool) => (Sum.inr t)) e)))

def spec_TreeOk_n13 (x3416 : List Int) (x3421 : Int) (x3488 : Int) (x3489 : Int) : Option (Int ⊕ Bool) :=
  (spec_TreeOk_n12 x3416 x3421 x3488 x3489).map (Sum.elim (fun (t : Int) => (Sum.inl t)) (fun (t : Bool) => (Sum.inr t)))

def spec_TreeOk_n14 (x3489 : Int) : Option (Int) :=
  some (IntKind.wrap .i64 (x3489 + 1))

def spec_TreeOk_n15 (x3416 : List Int) (x3421 : Int) (x3488 : Int) (x3489 : Int) : Option ((Int × Int) ⊕ Bool) :=
  (spec_TreeOk_n13 x3416 x3421 x3488 x3489).bind (Sum.elim (fun (t : Int) => (spec_TreeOk_n14 x3489).map (fun (u : Int) => (Sum.inl (t, u)))) (fun e => some ((fun (t : Bool) => (Sum.inr t)) e)))

def spec_TreeOk_n16 (x3416 : List Int) (x3421 : Int) (x3488 : Int) (x3489 : Int) : Option ((Int × Int) ⊕ Bool ⊕ Int) :=
  (spec_TreeOk_n3 x3421 x3488 x3489).bind (Sum.elim (fun (t : Unit) => (spec_TreeOk_n15 x3416 x3421 x3488 x3489).map (Sum.elim (fun (t : Int × Int) => (Sum.inl (t.1, t.2))) (fun (t : Bool) => (Sum.inr (Sum.inl t))))) (fun e => some ((fun (t : Int) => (Sum.inr (Sum.inr t))) e)))

def spec_TreeOk_n17 (x3416 : List Int) (x3421 : Int) : Option (Bool ⊕ Int) :=
  nloop (fun (s : Int × Int) => ((spec_TreeOk_n16 x3416 x3421 s.1 s.2).map (Sum.elim (fun (t : Int × Int) => Sum.inl (t.1, t.2)) (Sum.elim (fun (t : Bool) => Sum.inr (Sum.inl t)) (fun (t : Int) => Sum.inr (Sum.inr t)))) : Option ((Int × Int) ⊕ (Bool ⊕ Int)))) LL (0, 0)

def spec_TreeOk_n18 (x3416 : List Int) (x3421 : Int) : Option (Int ⊕ Bool) :=
  (spec_TreeOk_n17 x3416 x3421).map (Sum.elim (fun (t : Bool) => (Sum.inr t)) (fun (t : Int) => (Sum.inl t)))

def spec_TreeOk_n19 (x3416 : List Int) (x3421 : Int) : Option (Int ⊕ Bool) :=
  (spec_TreeOk_n2).bind (fun (t : Unit) => spec_TreeOk_n18 x3416 x3421)

def spec_TreeOk_n20 (x3488 : Int) : Option (Bool) :=
  some (x3488 == 1)

def spec_TreeOk_n21 (x3416 : List Int) (x3421 : Int) : Option (Bool) :=
  (spec_TreeOk_n19 x3416 x3421).bind (Sum.elim (fun (t : Int) => spec_TreeOk_n20 t) (fun e => some ((fun (t : Bool) => t) e)))

def spec_TreeOk_n22 (x3416 : List Int) : Option (Bool) :=
  (spec_TreeOk_n1 x3416).bind (Sum.elim (fun (t : Int) => spec_TreeOk_n21 x3416 t) (fun e => some ((fun (t : Bool) => t) e)))

@[irreducible] def spec_TreeOk (x3416 : List Int) : Option (Bool) :=
  spec_TreeOk_n22 x3416

/-! loop.example/headtrees/spec.l2Yield -/

def spec_l2Yield_n1 (R0 : (List Int) → Int → Option Int) (x3562 : Int) : Option (Int) :=
  (shl .i64 1 (IntKind.wrap .i64 (x3562 - 1))).bind fun (v3593 : Int) => some v3593

def spec_l2Yield_n2 (R0 : (List Int) → Int → Option Int) : Option (Unit) :=
  some ()

def spec_l2Yield_n3 (R0 : (List Int) → Int → Option Int) (x3561 : List Int) (x3562 : Int) (x3614 : Int) (x3615 : Int) : Option ((Int × Int) ⊕ Int) :=
  cond (decide (x3615 < (((List.length x3561 : Nat) : Int)))) ((idx x3561 x3615).bind fun (v3627 : Int) => cond (v3627 == x3562) ((R0 x3561 (IntKind.wrap .i64 (x3615 + 1))).bind fun (v3630 : Int) => some (Sum.inl ((ior .i64 x3614 v3630), (IntKind.wrap .i64 (x3615 + 1))))) (some (Sum.inl (x3614, (IntKind.wrap .i64 (x3615 + 1)))))) (some (Sum.inr x3614))

def spec_l2Yield_n4 (R0 : (List Int) → Int → Option Int) (x3561 : List Int) (x3562 : Int) (x3593 : Int) : Option (Int) :=
  nloop (fun (s : Int × Int) => ((spec_l2Yield_n3 R0 x3561 x3562 s.1 s.2).map (Sum.elim (fun (t : Int × Int) => Sum.inl (t.1, t.2)) (fun (t : Int) => Sum.inr t)) : Option ((Int × Int) ⊕ (Int)))) LL (x3593, 0)

def spec_l2Yield_n5 (R0 : (List Int) → Int → Option Int) (x3561 : List Int) (x3562 : Int) (x3593 : Int) : Option (Int) :=
  (spec_l2Yield_n4 R0 x3561 x3562 x3593).map (fun (t : Int) => t)

def spec_l2Yield_n6 (R0 : (List Int) → Int → Option Int) (x3561 : List Int) (x3562 : Int) (x3593 : Int) : Option (Int) :=
  (spec_l2Yield_n2 R0).bind (fun (t : Unit) => spec_l2Yield_n5 R0 x3561 x3562 x3593)

def spec_l2Yield_n7 (R0 : (List Int) → Int → Option Int) (x3614 : Int) : Option (Int) :=
  some x3614

def spec_l2Yield_n8 (R0 : (List Int) → Int → Option Int) (x3561 : List Int) (x3562 : Int) (x3593 : Int) : Option (Int) :=
  (spec_l2Yield_n6 R0 x3561 x3562 x3593).bind (fun (t : Int) => spec_l2Yield_n7 R0 t)

def spec_l2Yield_n9 (R0 : (List Int) → Int → Option Int) (x3561 : List Int) (x3562 : Int) : Option (Int) :=
  (spec_l2Yield_n1 R0 x3562).bind (fun (t : Int) => spec_l2Yield_n8 R0 x3561 x3562 t)

def spec_l2Yield_one (R0 : (List Int) → Int → Option Int) (x3561 : List Int) (x3562 : Int) : Option (Int) :=
  spec_l2Yield_n9 R0 x3561 x3562

def spec_l2Yield_knot : Nat → ((List Int) → Int → Option Int)
  | 0 => (fun _ _ => none)
  | n + 1 => (fun y0 y1 => spec_l2Yield_one (spec_l2Yield_knot n) y0 y1)

def spec_l2Yield_fuel (n : Nat) : (List Int) → Int → Option Int := (spec_l2Yield_knot n)

@[irreducible] def spec_l2Yield (x3561 : List Int) (x3562 : Int) : Option (Int) := spec_l2Yield_fuel RR x3561 x3562

/-! loop.example/headtrees/spec.l3Row -/

def spec_l3Row_n1 : Option (Unit) :=
  some ()

def spec_l3Row_n2 (x3643 : Int) : Option (Int ⊕ Int) :=
  (rem x3643 2).bind fun (v3646 : Int) => cond (v3646 == 0) ((quo .i64 x3643 2).bind fun (v3648 : Int) => some (Sum.inl v3648)) (some (Sum.inr x3643))

def spec_l3Row_n3 (x3637 : Int) : Option (Int) :=
  nloop (fun (s : Int) => ((spec_l3Row_n2 s).map (Sum.elim (fun (t : Int) => Sum.inl t) (fun (t : Int) => Sum.inr t)) : Option ((Int) ⊕ (Int)))) LL x3637

def spec_l3Row_n4 (x3637 : Int) : Option (Int) :=
  (spec_l3Row_n3 x3637).map (fun (t : Int) => t)

def spec_l3Row_n5 (x3643 : Int) : Option (Bool) :=
  some ((iand .i64 x3643 (IntKind.wrap .i64 (x3643 + 1))) == 0)

def spec_l3Row_n6 (x3637 : Int) : Option (Bool) :=
  (spec_l3Row_n4 x3637).bind (fun (t : Int) => spec_l3Row_n5 t)

def spec_l3Row_n7 (x3637 : Int) : Option (Bool) :=
  (spec_l3Row_n1).bind (fun (t : Unit) => spec_l3Row_n6 x3637)

@[irreducible] def spec_l3Row (x3637 : Int) : Option (Bool) :=
  spec_l3Row_n7 x3637

/-! loop.example/headtrees/spec.FlatOk -/

def spec_FlatOk_n1 : Option (Unit) :=
  some ()

def spec_FlatOk_n2 : Option (Unit) :=
  some ()

def spec_FlatOk_n3 (x3413 : List Int) (x3664 : Int) : Option (Int ⊕ Bool ⊕ Unit) :=
  cond (decide (x3664 ≤ (((List.length x3413 : Nat) : Int)))) ((spec_TreeOk x3413).bind fun (v3676 : Bool) => cond v3676 ((spec_l2Yield x3413 x3664).bind fun (v3677 : Int) => (spec_l3Row v3677).bind fun (v3678 : Bool) => cond (!v3678) (some (Sum.inr (Sum.inl false))) (some (Sum.inl (IntKind.wrap .i64 (x3664 + 1))))) (some (Sum.inr (Sum.inr ())))) (some (Sum.inr (Sum.inr ())))

def spec_FlatOk_n4 (x3413 : List Int) : Option (Bool ⊕ Unit) :=
  nloop (fun (s : Int) => ((spec_FlatOk_n3 x3413 s).map (Sum.elim (fun (t : Int) => Sum.inl t) (Sum.elim (fun (t : Bool) => Sum.inr (Sum.inl t)) (fun (t : Unit) => Sum.inr (Sum.inr t)))) : Option ((Int) ⊕ (Bool ⊕ Unit)))) LL 1

def spec_FlatOk_n5 (x3413 : List Int) : Option (Unit ⊕ Bool) :=
  (spec_FlatOk_n4 x3413).map (Sum.elim (fun (t : Bool) => (Sum.inr t)) (fun (t : Unit) => (Sum.inl ())))

def spec_FlatOk_n6 (x3413 : List Int) : Option (Unit ⊕ Bool) :=
  (spec_FlatOk_n2).bind (fun (t : Unit) => spec_FlatOk_n5 x3413)

def spec_FlatOk_n7 (x3413 : List Int) : Option (Bool) :=
  (spec_TreeOk x3413).bind fun (v3682 : Bool) => some v3682

def spec_FlatOk_n8 (x3413 : List Int) : Option (Bool) :=
  (spec_FlatOk_n6 x3413).bind (Sum.elim (fun (t : Unit) => spec_FlatOk_n7 x3413) (fun e => some ((fun (t : Bool) => t) e)))

def spec_FlatOk_n9 (x3413 : List Int) : Option (Bool) :=
  (spec_FlatOk_n1).bind (fun (t : Unit) => spec_FlatOk_n8 x3413)

@[irreducible] def spec_FlatOk (x3413 : List Int) : Option (Bool) :=
  spec_FlatOk_n9 x3413

/-! loop.example/headtrees/spec.RootOf -/

def spec_RootOf_n1 : Option (Unit) :=
  some ()

def spec_RootOf_n2 : Option (Unit) :=
  some ()

def spec_RootOf_n3 (x3693 : List Int) (x3710 : Int) : Option (Int ⊕ Int ⊕ Unit) :=
  cond (decide (x3710 < (((List.length x3693 : Nat) : Int)))) ((spec_TreeOk x3693).bind fun (v3722 : Bool) => cond v3722 ((idx x3693 x3710).bind fun (v3723 : Int) => cond (v3723 == 0) (some (Sum.inr (Sum.inl (IntKind.wrap .i64 (x3710 + 1))))) (some (Sum.inl (IntKind.wrap .i64 (x3710 + 1))))) (some (Sum.inr (Sum.inr ())))) (some (Sum.inr (Sum.inr ())))

def spec_RootOf_n4 (x3693 : List Int) : Option (Int ⊕ Unit) :=
  nloop (fun (s : Int) => ((spec_RootOf_n3 x3693 s).map (Sum.elim (fun (t : Int) => Sum.inl t) (Sum.elim (fun (t : Int) => Sum.inr (Sum.inl t)) (fun (t : Unit) => Sum.inr (Sum.inr t)))) : Option ((Int) ⊕ (Int ⊕ Unit)))) LL 0

def spec_RootOf_n5 (x3693 : List Int) : Option (Unit ⊕ Int) :=
  (spec_RootOf_n4 x3693).map (Sum.elim (fun (t : Int) => (Sum.inr t)) (fun (t : Unit) => (Sum.inl ())))

def spec_RootOf_n6 (x3693 : List Int) : Option (Unit ⊕ Int) :=
  (spec_RootOf_n2).bind (fun (t : Unit) => spec_RootOf_n5 x3693)

def spec_RootOf_n7 : Option (Int) :=
  some (-1)

def spec_RootOf_n8 (x3693 : List Int) : Option (Int) :=
  (spec_RootOf_n6 x3693).bind (Sum.elim (fun (t : Unit) => spec_RootOf_n7) (fun e => some ((fun (t : Int) => t) e)))

def spec_RootOf_n9 (x3693 : List Int) : Option (Int) :=
  (spec_RootOf_n1).bind (fun (t : Unit) => spec_RootOf_n8 x3693)

@[irreducible] def spec_RootOf (x3693 : List Int) : Option (Int) :=
  spec_RootOf_n9 x3693

/-! loop.example/headtrees/spec.l4TreeRank, loop.example/headtrees/spec.l4RowRank -/

def spec_l4TreeRank_n1 (R0 : (List Int) → Int → Int → Int → Option Int) (R1 : (List Int) → Int → Int → Int → Option Int) : Option (Unit) :=
  some ()

def spec_l4TreeRank_n2 (R0 : (List Int) → Int → Int → Int → Option Int) (R1 : (List Int) → Int → Int → Int → Option Int) : Option (Unit) :=
  some ()

def spec_l4TreeRank_n3 (R0 : (List Int) → Int → Int → Int → Option Int) (R1 : (List Int) → Int → Int → Int → Option Int) (x3730 : Int) (x3731 : Int) (x3732 : Int) (x3961 : Int) (x3962 : Int) : Option ((Int × Int) ⊕ Int) :=
  cond (decide (x3962 < x3732)) ((spec_l4Rows (IntKind.wrap .i64 (x3962 - x3730))).bind fun (v3973 : Int) => (spec_l4Rows (IntKind.wrap .i64 (x3731 - x3962))).bind fun (v3975 : Int) => some (Sum.inl ((IntKind.wrap .i64 (x3961 + (IntKind.wrap .i64 (v3973 * v3975)))), (IntKind.wrap .i64 (x3962 + 1))))) (some (Sum.inr x3961))

def spec_l4TreeRank_n4 (R0 : (List Int) → Int → Int → Int → Option Int) (R1 : (List Int) → Int → Int → Int → Option Int) (x3730 : Int) (x3731 : Int) (x3732 : Int) : Option (Int) :=
  nloop (fun (s : Int × Int) => ((spec_l4TreeRank_n3 R0 R1 x3730 x3731 x3732 s.1 s.2).map (Sum.elim (fun (t : Int × Int) => Sum.inl (t.1, t.2)) (fun (t : Int) => Sum.inr t)) : Option ((Int × Int) ⊕ (Int)))) LL (0, x3730)

def spec_l4TreeRank_n5 (R0 : (List Int) → Int → Int → Int → Option Int) (R1 : (List Int) → Int → Int → Int → Option Int) (x3730 : Int) (x3731 : Int) (x3732 : Int) : Option (Int) :=
  (spec_l4TreeRank_n4 R0 R1 x3730 x3731 x3732).map (fun (t : Int) => t)

def spec_l4TreeRank_n6 (R0 : (List Int) → Int → Int → Int → Option Int) (R1 : (List Int) → Int → Int → Int → Option Int) (x3730 : Int) (x3731 : Int) (x3732 : Int) : Option (Int) :=
  (spec_l4TreeRank_n2 R0 R1).bind (fun (t : Unit) => spec_l4TreeRank_n5 R0 R1 x3730 x3731 x3732)

def spec_l4TreeRank_n7 (R0 : (List Int) → Int → Int → Int → Option Int) (R1 : (List Int) → Int → Int → Int → Option Int) (x3729 : List Int) (x3730 : Int) (x3731 : Int) (x3732 : Int) (x3961 : Int) : Option (Int) :=
  (R1 x3729 x3730 (IntKind.wrap .i64 (x3732 - 1)) x3732).bind fun (v4267 : Int) => (spec_l4Rows (IntKind.wrap .i64 (x3731 - x3732))).bind fun (v4269 : Int) => (R1 x3729 (IntKind.wrap .i64 (x3732 + 1)) x3731 x3732).bind fun (v4273 : Int) => some (IntKind.wrap .i64 ((IntKind.wrap .i64 (x3961 + (IntKind.wrap .i64 (v4267 * v4269)))) + v4273))

def spec_l4TreeRank_n8 (R0 : (List Int) → Int → Int → Int → Option Int) (R1 : (List Int) → Int → Int → Int → Option Int) (x3729 : List Int) (x3730 : Int) (x3731 : Int) (x3732 : Int) : Option (Int) :=
  (spec_l4TreeRank_n6 R0 R1 x3730 x3731 x3732).bind (fun (t : Int) => spec_l4TreeRank_n7 R0 R1 x3729 x3730 x3731 x3732 t)

def spec_l4TreeRank_n9 (R0 : (List Int) → Int → Int → Int → Option Int) (R1 : (List Int) → Int → Int → Int → Option Int) (x3729 : List Int) (x3730 : Int) (x3731 : Int) (x3732 : Int) : Option (Int) :=
  (spec_l4TreeRank_n1 R0 R1).bind (fun (t : Unit) => spec_l4TreeRank_n8 R0 R1 x3729 x3730 x3731 x3732)

def spec_l4TreeRank_one (R0 : (List Int) → Int → Int → Int → Option Int) (R1 : (List Int) → Int → Int → Int → Option Int) (x3729 : List Int) (x3730 : Int) (x3731 : Int) (x3732 : Int) : Option (Int) :=
  spec_l4TreeRank_n9 R0 R1 x3729 x3730 x3731 x3732

def spec_l4RowRank_n1 (R0 : (List Int) → Int → Int → Int → Option Int) (R1 : (List Int) → Int → Int → Int → Option Int) (x3981 : Int) (x3982 : Int) : Option (Unit ⊕ Int) :=
  cond (decide (x3981 > x3982)) (some (Sum.inr 0)) (some (Sum.inl ()))

def spec_l4RowRank_n2 (R0 : (List Int) → Int → Int → Int → Option Int) (R1 : (List Int) → Int → Int → Int → Option Int) (x3980 : List Int) (x3983 : Int) (x4172 : Int) : Option (Int ⊕ Int) :=
  (idx x3980 (IntKind.wrap .i64 (x4172 - 1))).bind fun (v4177 : Int) => cond (v4177 != x3983) (some (Sum.inl (IntKind.wrap .i64 (x4172 + 1)))) (some (Sum.inr x4172))

def spec_l4RowRank_n3 (R0 : (List Int) → Int → Int → Int → Option Int) (R1 : (List Int) → Int → Int → Int → Option Int) (x3980 : List Int) (x3981 : Int) (x3983 : Int) : Option (Int) :=
  nloop (fun (s : Int) => ((spec_l4RowRank_n2 R0 R1 x3980 x3983 s).map (Sum.elim (fun (t : Int) => Sum.inl t) (fun (t : Int) => Sum.inr t)) : Option ((Int) ⊕ (Int)))) LL x3981

def spec_l4RowRank_n4 (R0 : (List Int) → Int → Int → Int → Option Int) (R1 : (List Int) → Int → Int → Int → Option Int) (x3980 : List Int) (x3981 : Int) (x3983 : Int) : Option (Int) :=
  (spec_l4RowRank_n3 R0 R1 x3980 x3981 x3983).map (fun (t : Int) => t)

def spec_l4RowRank_n5 (R0 : (List Int) → Int → Int → Int → Option Int) (R1 : (List Int) → Int → Int → Int → Option Int) : Option (Unit) :=
  some ()

def spec_l4RowRank_n6 (R0 : (List Int) → Int → Int → Int → Option Int) (R1 : (List Int) → Int → Int → Int → Option Int) (x3980 : List Int) (x3982 : Int) (x4172 : Int) (x4191 : Int) : Option (Int ⊕ Int) :=
  cond (decide (x4191 < x3982)) ((spec_l2Yield x3980 x4172).bind fun (v4198 : Int) => (shr .i64 v4198 x4191).bind fun (v4199 : Int) => (rem v4199 2).bind fun (v4200 : Int) => cond (v4200 == 1) (some (Sum.inl (IntKind.wrap .i64 (x4191 + 1)))) (some (Sum.inr x4191))) (some (Sum.inr x4191))

def spec_l4RowRank_n7 (R0 : (List Int) → Int → Int → Int → Option Int) (R1 : (List Int) → Int → Int → Int → Option Int) (x3980 : List Int) (x3981 : Int) (x3982 : Int) (x4172 : Int) : Option (Int) :=
  nloop (fun (s : Int) => ((spec_l4RowRank_n6 R0 R1 x3980 x3982 x4172 s).map (Sum.elim (fun (t : Int) => Sum.inl t) (fun (t : Int) => Sum.inr t)) : Option ((Int) ⊕ (Int)))) LL x3981

def spec_l4RowRank_n8 (R0 : (List Int) → Int → Int → Int → Option Int) (R1 : (List Int) → Int → Int → Int → Option Int) (x3980 : List Int) (x3981 : Int) (x3982 : Int) (x4172 : Int) : Option (Int) :=
  (spec_l4RowRank_n7 R0 R1 x3980 x3981 x3982 x4172).map (fun (t : Int) => t)

def spec_l4RowRank_n9 (R0 : (List Int) → Int → Int → Int → Option Int) (R1 : (List Int) → Int → Int → Int → Option Int) : Option (Unit) :=
  some ()

def spec_l4RowRank_n10 (R0 : (List Int) → Int → Int → Int → Option Int) (R1 : (List Int) → Int → Int → Int → Option Int) : Option (Unit) :=
  some ()

def spec_l4RowRank_n11 (R0 : (List Int) → Int → Int → Int → Option Int) (R1 : (List Int) → Int → Int → Int → Option Int) (x3981 : Int) (x3982 : Int) (x4191 : Int) (x4221 : Int) (x4222 : Int) : Option ((Int × Int) ⊕ Int) :=
  cond (decide (x4222 < x4191)) ((spec_l4Flat (IntKind.wrap .i64 ((IntKind.wrap .i64 (x4222 - x3981)) + 1))).bind fun (v4235 : Int) => (spec_l4Rows (IntKind.wrap .i64 (x3982 - x4222))).bind fun (v4237 : Int) => some (Sum.inl ((IntKind.wrap .i64 (x4221 + (IntKind.wrap .i64 (v4235 * v4237)))), (IntKind.wrap .i64 (x4222 + 1))))) (some (Sum.inr x4221))

def spec_l4RowRank_n12 (R0 : (List Int) → Int → Int → Int → Option Int) (R1 : (List Int) → Int → Int → Int → Option Int) (x3981 : Int) (x3982 : Int) (x4191 : Int) : Option (Int) :=
  nloop (fun (s : Int × Int) => ((spec_l4RowRank_n11 R0 R1 x3981 x3982 x4191 s.1 s.2).map (Sum.elim (fun (t : Int × Int) => Sum.inl (t.1, t.2)) (fun (t : Int) => Sum.inr t)) : Option ((Int × Int) ⊕ (Int)))) LL (0, x3981)

def spec_l4RowRank_n13 (R0 : (List Int) → Int → Int → Int → Option Int) (R1 : (List Int) → Int → Int → Int → Option Int) (x3981 : Int) (x3982 : Int) (x4191 : Int) : Option (Int) :=
  (spec_l4RowRank_n12 R0 R1 x3981 x3982 x4191).map (fun (t : Int) => t)

def spec_l4RowRank_n14 (R0 : (List Int) → Int → Int → Int → Option Int) (R1 : (List Int) → Int → Int → Int → Option Int) (x3981 : Int) (x3982 : Int) (x4191 : Int) : Option (Int) :=
  (spec_l4RowRank_n10 R0 R1).bind (fun (t : Unit) => spec_l4RowRank_n13 R0 R1 x3981 x3982 x4191)

def spec_l4RowRank_n15 (R0 : (List Int) → Int → Int → Int → Option Int) (R1 : (List Int) → Int → Int → Int → Option Int) (x3980 : List Int) (x3981 : Int) (x3982 : Int) (x3983 : Int) (x4172 : Int) (x4191 : Int) (x4221 : Int) : Option (Int) :=
  (R0 x3980 x3981 x4191 x4172).bind fun (v4249 : Int) => (spec_l4Rows (IntKind.wrap .i64 (x3982 - x4191))).bind fun (v4251 : Int) => (R1 x3980 (IntKind.wrap .i64 (x4191 + 1)) x3982 x3983).bind fun (v4255 : Int) => some (IntKind.wrap .i64 ((IntKind.wrap .i64 (x4221 + (IntKind.wrap .i64 (v4249 * v4251)))) + v4255))

def spec_l4RowRank_n16 (R0 : (List Int) → Int → Int → Int → Option Int) (R1 : (List Int) → Int → Int → Int → Option Int) (x3980 : List Int) (x3981 : Int) (x3982 : Int) (x3983 : Int) (x4172 : Int) (x4191 : Int) : Option (Int) :=
  (spec_l4RowRank_n14 R0 R1 x3981 x3982 x4191).bind (fun (t : Int) => spec_l4RowRank_n15 R0 R1 x3980 x3981 x3982 x3983 x4172 x4191 t)

def spec_l4RowRank_n17 (R0 : (List Int) → Int → Int → Int → Option Int) (R1 : (List Int) → Int → Int → Int → Option Int) (x3980 : List Int) (x3981 : Int) (x3982 : Int) (x3983 : Int) (x4172 : Int) (x4191 : Int) : Option (Int) :=
  (spec_l4RowRank_n9 R0 R1).bind (fun (t : Unit) => spec_l4RowRank_n16 R0 R1 x3980 x3981 x3982 x3983 x4172 x4191)

def spec_l4RowRank_n18 (R0 : (List Int) → Int → Int → Int → Option Int) (R1 : (List Int) → Int → Int → Int → Option Int) (x3980 : List Int) (x3981 : Int) (x3982 : Int) (x3983 : Int) (x4172 : Int) : Option (Int) :=
  (spec_l4RowRank_n8 R0 R1 x3980 x3981 x3982 x4172).bind (fun (t : Int) => spec_l4RowRank_n17 R0 R1 x3980 x3981 x3982 x3983 x4172 t)

def spec_l4RowRank_n19 (R0 : (List Int) → Int → Int → Int → Option Int) (R1 : (List Int) → Int → Int → Int → Option Int) (x3980 : List Int) (x3981 : Int) (x3982 : Int) (x3983 : Int) (x4172 : Int) : Option (Int) :=
  (spec_l4RowRank_n5 R0 R1).bind (fun (t : Unit) => spec_l4RowRank_n18 R0 R1 x3980 x3981 x3982 x3983 x4172)

def spec_l4RowRank_n20 (R0 : (List Int) → Int → Int → Int → Option Int) (R1 : (List Int) → Int → Int → Int → Option Int) (x3980 : List Int) (x3981 : Int) (x3982 : Int) (x3983 : Int) : Option (Int) :=
  (spec_l4RowRank_n4 R0 R1 x3980 x3981 x3983).bind (fun (t : Int) => spec_l4RowRank_n19 R0 R1 x3980 x3981 x3982 x3983 t)

def spec_l4RowRank_n21 (R0 : (List Int) → Int → Int → Int → Option Int) (R1 : (List Int) → Int → Int → Int → Option Int) (x3980 : List Int) (x3981 : Int) (x3982 : Int) (x3983 : Int) : Option (Int) :=
  (spec_l4RowRank_n1 R0 R1 x3981 x3982).bind (Sum.elim (fun (t : Unit) => spec_l4RowRank_n20 R0 R1 x3980 x3981 x3982 x3983) (fun e => some ((fun (t : Int) => t) e)))

def spec_l4RowRank_one (R0 : (List Int) → Int → Int → Int → Option Int) (R1 : (List Int) → Int → Int → Int → Option Int) (x3980 : List Int) (x3981 : Int) (x3982 : Int) (x3983 : Int) : Option (Int) :=
  spec_l4RowRank_n21 R0 R1 x3980 x3981 x3982 x3983

def spec_l4TreeRank_knot : Nat → ((List Int) → Int → Int → Int → Option Int) × ((List Int) → Int → Int → Int → Option Int)
  | 0 => ((fun _ _ _ _ => none), (fun _ _ _ _ => none))
  | n + 1 => ((fun y0 y1 y2 y3 => spec_l4TreeRank_one (spec_l4TreeRank_knot n).1 (spec_l4TreeRank_knot n).2 y0 y1 y2 y3), (fun y0 y1 y2 y3 => spec_l4RowRank_one (spec_l4TreeRank_knot n).1 (spec_l4TreeRank_knot n).2 y0 y1 y2 y3))

def spec_l4TreeRank_fuel (n : Nat) : (List Int) → Int → Int → Int → Option Int := (spec_l4TreeRank_knot n).1

@[irreducible] def spec_l4TreeRank (x3729 : List Int) (x3730 : Int) (x3731 : Int) (x3732 : Int) : Option (Int) := spec_l4TreeRank_fuel RR x3729 x3730 x3731 x3732

def spec_l4RowRank_fuel (n : Nat) : (List Int) → Int → Int → Int → Option Int := (spec_l4TreeRank_knot n).2

@[irreducible] def spec_l4RowRank (x3980 : List Int) (x3981 : Int) (x3982 : Int) (x3983 : Int) : Option (Int) := spec_l4RowRank_fuel RR x3980 x3981 x3982 x3983

/-! loop.example/headtrees/spec.PlaceOf -/

def spec_PlaceOf_n1 (x3412 : List Int) : Option (Int) :=
  (spec_FlatOk x3412).bind fun (v4276 : Bool) => cond (!v4276) (some (-1)) (cond (decide ((((List.length x3412 : Nat) : Int)) > 6)) (some (-1)) ((spec_RootOf x3412).bind fun (v4281 : Int) => (spec_l4TreeRank x3412 1 (((List.length x3412 : Nat) : Int)) v4281).bind fun (v4282 : Int) => some v4282))

@[irreducible] def spec_PlaceOf (x3412 : List Int) : Option (Int) :=
  spec_PlaceOf_n1 x3412

/-! loop.example/headtrees/laws.FnPlaceOf -/

def laws_FnPlaceOf_n1 (x2599 : List Int) : Option (Bool) :=
  cond (decide ((((List.length x2599 : Nat) : Int)) > 1048576)) (some true) ((spec_DrawPlaceOf x2599).bind fun (v4342 : List Int) => (impl_PlaceOf v4342).bind fun (v4343 : Int) => (spec_PlaceOf v4342).bind fun (v4344 : Int) => cond (v4343 != v4344) (some false) (cond (decide (v4343 < 0)) (cond (v4343 == (-1)) ((impl_FlatOk v4342).bind fun (v4348 : Bool) => cond (!v4348) ((laws_alive).bind fun (v4350 : Bool) => some v4350) (cond (decide ((((List.length v4342 : Nat) : Int)) > 6)) ((laws_alive).bind fun (v4353 : Bool) => some v4353) (some false))) (some false)) ((impl_FlatAt (((List.length v4342 : Nat) : Int)) v4343).bind fun (v4355 : Bool × (List Int)) => (impl_CountFlat (((List.length v4342 : Nat) : Int))).bind fun (v4359 : Int) => cond (decide (v4343 < v4359)) (cond (v4355.1) ((laws_sameInts (v4355.2) v4342).bind fun (v4361 : Bool) => some v4361) (some false)) (some false))))

@[irreducible] def laws_FnPlaceOf (x2599 : List Int) : Option (Bool) :=
  laws_FnPlaceOf_n1 x2599

/-! loop.example/headtrees/laws.toIntS -/

def laws_toIntS_n1 (x4369 : List Int) : Option (((List Int))) :=
  (mk (((List.length x4369 : Nat) : Int)) (((List.length x4369 : Nat) : Int))).bind fun (v4371 : Nat) => some (List.replicate v4371 (0 : Int))

def laws_toIntS_n2 : Option (Unit) :=
  some ()

def laws_toIntS_n3 (x4369 : List Int) (x4386 : Int) (x4387 : List Int) : Option ((Int × (List Int)) ⊕ ((List Int))) :=
  cond (decide (x4386 < (((List.length x4369 : Nat) : Int)))) ((idx x4369 x4386).bind fun (v4397 : Int) => (inb x4386 (List.length x4387)).bind fun (v4398 : Nat) => some (Sum.inl ((IntKind.wrap .i64 (x4386 + 1)), (x4387.set v4398 v4397)))) (some (Sum.inr x4387))

def laws_toIntS_n4 (x4369 : List Int) (x4372 : List Int) : Option (((List Int))) :=
  nloop (fun (s : Int × (List Int)) => ((laws_toIntS_n3 x4369 s.1 s.2).map (Sum.elim (fun (t : Int × (List Int)) => Sum.inl (t.1, t.2)) (fun (t : (List Int)) => Sum.inr t)) : Option ((Int × (List Int)) ⊕ (((List Int)))))) LL (0, x4372)

def laws_toIntS_n5 (x4369 : List Int) (x4372 : List Int) : Option (((List Int))) :=
  (laws_toIntS_n4 x4369 x4372).map (fun (t : (List Int)) => t)

def laws_toIntS_n6 (x4369 : List Int) (x4372 : List Int) : Option (((List Int))) :=
  (laws_toIntS_n2).bind (fun (t : Unit) => laws_toIntS_n5 x4369 x4372)

def laws_toIntS_n7 (x4387 : List Int) : Option (((List Int))) :=
  some x4387

def laws_toIntS_n8 (x4369 : List Int) (x4372 : List Int) : Option (((List Int))) :=
  (laws_toIntS_n6 x4369 x4372).bind (fun (t : (List Int)) => laws_toIntS_n7 t)

def laws_toIntS_n9 (x4369 : List Int) : Option (((List Int))) :=
  (laws_toIntS_n1 x4369).bind (fun (t : (List Int)) => laws_toIntS_n8 x4369 t)

@[irreducible] def laws_toIntS (x4369 : List Int) : Option ((List Int)) :=
  laws_toIntS_n9 x4369

/-! loop.example/headtrees/laws.eqIntS -/

def laws_eqIntS_n1 (x4429 : List Int) (x4430 : List Int) : Option (Unit ⊕ Bool) :=
  cond ((((List.length x4429 : Nat) : Int)) != (((List.length x4430 : Nat) : Int))) (some (Sum.inr false)) (some (Sum.inl ()))

def laws_eqIntS_n2 : Option (Unit) :=
  some ()

def laws_eqIntS_n3 (x4429 : List Int) (x4430 : List Int) (x4447 : Int) : Option (Int ⊕ Bool ⊕ Unit) :=
  cond (decide (x4447 < (((List.length x4429 : Nat) : Int)))) ((idx x4429 x4447).bind fun (v4457 : Int) => (idx x4430 x4447).bind fun (v4458 : Int) => cond (v4457 != v4458) (some (Sum.inr (Sum.inl false))) (some (Sum.inl (IntKind.wrap .i64 (x4447 + 1))))) (some (Sum.inr (Sum.inr ())))

def laws_eqIntS_n4 (x4429 : List Int) (x4430 : List Int) : Option (Bool ⊕ Unit) :=
  nloop (fun (s : Int) => ((laws_eqIntS_n3 x4429 x4430 s).map (Sum.elim (fun (t : Int) => Sum.inl t) (Sum.elim (fun (t : Bool) => Sum.inr (Sum.inl t)) (fun (t : Unit) => Sum.inr (Sum.inr t)))) : Option ((Int) ⊕ (Bool ⊕ Unit)))) LL 0

def laws_eqIntS_n5 (x4429 : List Int) (x4430 : List Int) : Option (Unit ⊕ Bool) :=
  (laws_eqIntS_n4 x4429 x4430).map (Sum.elim (fun (t : Bool) => (Sum.inr t)) (fun (t : Unit) => (Sum.inl ())))

def laws_eqIntS_n6 (x4429 : List Int) (x4430 : List Int) : Option (Unit ⊕ Bool) :=
  (laws_eqIntS_n2).bind (fun (t : Unit) => laws_eqIntS_n5 x4429 x4430)

def laws_eqIntS_n7 : Option (Bool) :=
  some true

def laws_eqIntS_n8 (x4429 : List Int) (x4430 : List Int) : Option (Bool) :=
  (laws_eqIntS_n6 x4429 x4430).bind (Sum.elim (fun (t : Unit) => laws_eqIntS_n7) (fun e => some ((fun (t : Bool) => t) e)))

def laws_eqIntS_n9 (x4429 : List Int) (x4430 : List Int) : Option (Bool) :=
  (laws_eqIntS_n1 x4429 x4430).bind (Sum.elim (fun (t : Unit) => laws_eqIntS_n8 x4429 x4430) (fun e => some ((fun (t : Bool) => t) e)))

@[irreducible] def laws_eqIntS (x4429 : List Int) (x4430 : List Int) : Option (Bool) :=
  laws_eqIntS_n9 x4429 x4430

/-! loop.example/headtrees/laws.FnExactPlaceOf -/

def laws_FnExactPlaceOf_n1 (x4364 : List Int) : Option (Bool) :=
  cond (decide ((((List.length x4364 : Nat) : Int)) > 1048576)) (some true) ((laws_toIntS x4364).bind fun (v4476 : List Int) => (spec_PlaceOf v4476).bind fun (v4477 : Int) => (laws_toIntS x4364).bind fun (v4478 : List Int) => (impl_PlaceOf v4478).bind fun (v4479 : Int) => cond (v4479 != v4477) (some false) ((laws_toIntS x4364).bind fun (v4481 : List Int) => (laws_eqIntS v4478 v4481).bind fun (v4482 : Bool) => cond (!v4482) (some false) (some true)))

@[irreducible] def laws_FnExactPlaceOf (x4364 : List Int) : Option (Bool) :=
  laws_FnExactPlaceOf_n1 x4364

end Go.Rv
