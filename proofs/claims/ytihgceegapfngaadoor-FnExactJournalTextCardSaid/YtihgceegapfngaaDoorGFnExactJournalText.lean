/-
  Plain functions, written by program for functions of the checked code. Conditions: none.
-/
import Derived.Test.YtihgceegapfngaaDoorFB
set_option linter.unusedVariables false
namespace Go.Rv
def laws_toDeed_n1 : Option (Unit) :=
  some ()

@[irreducible] def laws_toDeed (x8 : Int) (x9 : Int) (x10 : Int) : Option (Unit) :=
  laws_toDeed_n1

def spec_l1In_n1 (x20 : Int) (x21 : Int) (x22 : Int) : Option (Bool) :=
  cond (decide (x20 ≥ x21)) (some (decide (x20 ≤ x22))) (some false)

@[irreducible] def spec_l1In (x20 : Int) (x21 : Int) (x22 : Int) : Option (Bool) :=
  spec_l1In_n1 x20 x21 x22

def spec_l1Number_n1 (R0 : Int → Option ByteArray) (x30 : Int) : Option (ByteArray) :=
  cond (decide (x30 < 10)) (some (bytesOf ([(IntKind.wrap .u8 (IntKind.wrap .i64 (48 + (imax x30 0))))]))) ((quo .i64 x30 10).bind fun (v94 : Int) => (rem x30 10).bind fun (v95 : Int) => (R0 v94).bind fun (v100 : ByteArray) => (cat v100 (bytesOf ([(IntKind.wrap .u8 (IntKind.wrap .i64 (48 + v95)))]))).bind fun (v101 : ByteArray) => some v101)

def spec_l1Number_one (R0 : Int → Option ByteArray) (x30 : Int) : Option (ByteArray) :=
  spec_l1Number_n1 R0 x30

def spec_l1Number_knot : Nat → (Int → Option ByteArray)
  | 0 => (fun _ => none)
  | n + 1 => (fun y0 => spec_l1Number_one (spec_l1Number_knot n) y0)

def spec_l1Number_fuel (n : Nat) : Int → Option ByteArray := (spec_l1Number_knot n)

@[irreducible] def spec_l1Number (x30 : Int) : Option (ByteArray) := spec_l1Number_fuel RR x30

def spec_DeedText_n1 : Option (Unit) :=
  some ()

def spec_DeedText_n2 (x13 : Int) (x14 : Int) (x15 : Int) : Option (Bool) :=
  cond (x13 == 0) ((spec_l1In x14 0 99).bind fun (v205 : Bool) => cond v205 ((spec_l1In x15 0 99).bind fun (v206 : Bool) => some v206) (some false)) (some false)

def spec_DeedText_n3 (x14 : Int) (x15 : Int) : Option (ByteArray) :=
  (spec_l1Number x14).bind fun (v302 : ByteArray) => (cat (ByteArray.mk #[104, 101, 97, 100, 32]) v302).bind fun (v303 : ByteArray) => (cat v303 (ByteArray.mk #[32])).bind fun (v304 : ByteArray) => (spec_l1Number x15).bind fun (v305 : ByteArray) => (cat v304 v305).bind fun (v306 : ByteArray) => some v306

def spec_DeedText_n4 (x13 : Int) (x14 : Int) (x15 : Int) : Option (Bool) :=
  cond (x13 == 1) ((spec_l1In x14 0 99).bind fun (v308 : Bool) => cond v308 (some (x15 == 0)) (some false)) (some false)

def spec_DeedText_n5 (x351 : Bool) (x13 : Int) (x14 : Int) (x15 : Int) : Option (Unit ⊕ ByteArray) :=
  cond x351 ((spec_l1Number x14).bind fun (v352 : ByteArray) => (cat (ByteArray.mk #[97, 100, 100, 32]) v352).bind fun (v353 : ByteArray) => some (Sum.inr v353)) (cond ((x13 == 2) && ((x14 == 0) && ((x15 == 0) && true))) (some (Sum.inr (ByteArray.mk #[100, 114, 111, 112]))) (cond ((x13 == 3) && ((x14 == 0) && ((x15 == 0) && true))) (some (Sum.inr (ByteArray.mk #[116, 117, 114, 110]))) (cond ((x13 == 4) && ((x14 == 0) && ((x15 == 0) && true))) (some (Sum.inr (ByteArray.mk #[102, 108, 97, 116]))) (cond ((x13 == 5) && ((x14 == 0) && ((x15 == 0) && true))) (some (Sum.inr (ByteArray.mk #[98, 97, 99, 107]))) (some (Sum.inl ()))))))

def spec_DeedText_n6 (x13 : Int) (x14 : Int) (x15 : Int) : Option (Unit ⊕ ByteArray) :=
  (spec_DeedText_n4 x13 x14 x15).bind (fun (t : Bool) => spec_DeedText_n5 t x13 x14 x15)

def spec_DeedText_n7 (x253 : Bool) (x13 : Int) (x14 : Int) (x15 : Int) : Option (Unit ⊕ ByteArray) :=
  cond x253 ((spec_DeedText_n3 x14 x15).map (fun (t : ByteArray) => (Sum.inr t))) (spec_DeedText_n6 x13 x14 x15)

def spec_DeedText_n8 (x13 : Int) (x14 : Int) (x15 : Int) : Option (Unit ⊕ ByteArray) :=
  (spec_DeedText_n2 x13 x14 x15).bind (fun (t : Bool) => spec_DeedText_n7 t x13 x14 x15)

def spec_DeedText_n9 (x13 : Int) (x14 : Int) (x15 : Int) : Option (Unit ⊕ ByteArray) :=
  (spec_DeedText_n8 x13 x14 x15).map (Sum.elim (fun (t : Unit) => (Sum.inl ())) (fun (t : ByteArray) => (Sum.inr t)))

def spec_DeedText_n10 : Option (ByteArray) :=
  some ByteArray.empty

def spec_DeedText_n11 (x13 : Int) (x14 : Int) (x15 : Int) : Option (ByteArray) :=
  (spec_DeedText_n9 x13 x14 x15).bind (Sum.elim (fun (t : Unit) => spec_DeedText_n10) (fun e => some ((fun (t : ByteArray) => t) e)))

def spec_DeedText_n12 (x13 : Int) (x14 : Int) (x15 : Int) : Option (ByteArray) :=
  (spec_DeedText_n1).bind (fun (t : Unit) => spec_DeedText_n11 x13 x14 x15)

@[irreducible] def spec_DeedText (x13 : Int) (x14 : Int) (x15 : Int) : Option (ByteArray) :=
  spec_DeedText_n12 x13 x14 x15

def impl_numbersIn_n1 (x383 : Int) : Option (Int) :=
  cond (x383 == 0) (some 2) (cond (x383 == 1) (some 1) (some 0))

@[irreducible] def impl_numbersIn (x383 : Int) : Option (Int) :=
  impl_numbersIn_n1 x383

def impl_Deed_restOk_n1 (x380 : Int) (x381 : Int) (x382 : Int) : Option (Bool) :=
  (impl_numbersIn x380).bind fun (v399 : Int) => cond (decide (v399 > 0)) (cond (decide (v399 > 1)) (some true) (some (x382 == 0))) (cond (x381 == 0) (cond (decide (v399 > 1)) (some true) (some (x382 == 0))) (some false))

@[irreducible] def impl_Deed_restOk (x380 : Int) (x381 : Int) (x382 : Int) : Option (Bool) :=
  impl_Deed_restOk_n1 x380 x381 x382

def impl_Deed_inText_n1 (x374 : Int) (x375 : Int) (x376 : Int) : Option (Bool) :=
  cond (decide (x374 ≥ 0)) (cond (decide (x374 < 6)) ((impl_Deed_restOk x374 x375 x376).bind fun (v414 : Bool) => cond v414 (cond (decide (x375 ≥ 0)) (cond (decide (x375 ≤ 99)) (cond (decide (x376 ≥ 0)) (some (decide (x376 ≤ 99))) (some false)) (some false)) (some false)) (some false)) (some false)) (some false)

@[irreducible] def impl_Deed_inText (x374 : Int) (x375 : Int) (x376 : Int) : Option (Bool) :=
  impl_Deed_inText_n1 x374 x375 x376

def strconv_Itoa (x1 : Int) : Option (ByteArray) := itoaS x1

def impl_DeedText_n1 (x371 : Int) (x372 : Int) (x373 : Int) : Option (ByteArray ⊕ ByteArray) :=
  (impl_Deed_inText x371 x372 x373).bind fun (v429 : Bool) => cond (!v429) (some (Sum.inr ByteArray.empty)) ((same (List.length tabW) 6).bind fun (v431 : Unit) => (idx tabW x371).bind fun (v432 : ByteArray) => some (Sum.inl v432))

def impl_DeedText_n2 (x371 : Int) (x372 : Int) (x373 : Int) : Option (((List Int) × Int)) :=
  (impl_numbersIn x371).bind fun (v434 : Int) => (inc v434 (List.length ([x372, x373]))).bind fun (v437 : Nat) => some (((([x372, x373]).take v437).drop 0), (((List.length ((([x372, x373]).take v437).drop 0) : Nat) : Int)))

def impl_DeedText_n3 (x455 : ByteArray) (x438 : List Int) (x439 : Int) (x456 : Int) : Option ((ByteArray × Int) ⊕ ByteArray) :=
  cond (decide (x456 < x439)) ((idx x438 x456).bind fun (v465 : Int) => (strconv_Itoa v465).bind fun (v466 : ByteArray) => (cat (ByteArray.mk #[32]) v466).bind fun (v467 : ByteArray) => (cat x455 v467).bind fun (v468 : ByteArray) => some (Sum.inl (v468, (IntKind.wrap .i64 (x456 + 1))))) (some (Sum.inr x455))

def impl_DeedText_n4 (x432 : ByteArray) (x438 : List Int) (x439 : Int) : Option (ByteArray) :=
  nloop (fun (s : ByteArray × Int) => ((impl_DeedText_n3 s.1 x438 x439 s.2).map (Sum.elim (fun (t : ByteArray × Int) => Sum.inl (t.1, t.2)) (fun (t : ByteArray) => Sum.inr t)) : Option ((ByteArray × Int) ⊕ (ByteArray)))) LL (x432, 0)

def impl_DeedText_n5 (x432 : ByteArray) (x438 : List Int) (x439 : Int) : Option (ByteArray) :=
  (impl_DeedText_n4 x432 x438 x439).map (fun (t : ByteArray) => t)

def impl_DeedText_n6 (x432 : ByteArray) (x371 : Int) (x372 : Int) (x373 : Int) : Option (ByteArray) :=
  (impl_DeedText_n2 x371 x372 x373).bind (fun (t : (List Int) × Int) => impl_DeedText_n5 x432 t.1 t.2)

def impl_DeedText_n7 (x455 : ByteArray) : Option (ByteArray) :=
  some x455

def impl_DeedText_n8 (x432 : ByteArray) (x371 : Int) (x372 : Int) (x373 : Int) : Option (ByteArray) :=
  (impl_DeedText_n6 x432 x371 x372 x373).bind (fun (t : ByteArray) => impl_DeedText_n7 t)

def impl_DeedText_n9 (x371 : Int) (x372 : Int) (x373 : Int) : Option (ByteArray) :=
  (impl_DeedText_n1 x371 x372 x373).bind (Sum.elim (fun (t : ByteArray) => impl_DeedText_n8 t x371 x372 x373) (fun e => some ((fun (t : ByteArray) => t) e)))

@[irreducible] def impl_DeedText (x371 : Int) (x372 : Int) (x373 : Int) : Option (ByteArray) :=
  impl_DeedText_n9 x371 x372 x373

def laws_szDeedS_n1 (x491 : List (Int × Int × Int × Unit)) (x492 : Int) : Option (Int) :=
  cond (decide ((IntKind.wrap .i64 (x492 - (((List.length x491 : Nat) : Int)))) < 0)) (some (-1)) (some (IntKind.wrap .i64 (x492 - (((List.length x491 : Nat) : Int)))))

@[irreducible] def laws_szDeedS (x491 : List (Int × Int × Int × Unit)) (x492 : Int) : Option (Int) :=
  laws_szDeedS_n1 x491 x492

def laws_toDeedS_n1 (x511 : List (Int × Int × Int × Unit)) : Option (((List (Int × Int × Int × Unit)))) :=
  (mk (((List.length x511 : Nat) : Int)) (((List.length x511 : Nat) : Int))).bind fun (v514 : Nat) => some (List.replicate v514 ((0 : Int), ((0 : Int), ((0 : Int), ()))))

def laws_toDeedS_n2 : Option (Unit) :=
  some ()

def laws_toDeedS_n3 (x511 : List (Int × Int × Int × Unit)) (x564 : Int) (x565 : List (Int × Int × Int × Unit)) : Option ((Int × (List (Int × Int × Int × Unit))) ⊕ ((List (Int × Int × Int × Unit)))) :=
  cond (decide (x564 < (((List.length x511 : Nat) : Int)))) ((idx x511 x564).bind fun (v592 : Int × Int × Int × Unit) => (laws_toDeed (v592.1) ((v592.2).1) (((v592.2).2).1)).bind fun (v599 : Unit) => (inb x564 (List.length x565)).bind fun (v600 : Nat) => ((x565)[v600]?).bind fun (v601 : Int × Int × Int × Unit) => some (Sum.inl ((IntKind.wrap .i64 (x564 + 1)), ((x565).set v600 ((v592.1), (((v592.2).1), ((((v592.2).2).1), ()))))))) (some (Sum.inr x565))

def laws_toDeedS_n4 (x511 : List (Int × Int × Int × Unit)) (x515 : List (Int × Int × Int × Unit)) : Option (((List (Int × Int × Int × Unit)))) :=
  nloop (fun (s : Int × (List (Int × Int × Int × Unit))) => ((laws_toDeedS_n3 x511 s.1 s.2).map (Sum.elim (fun (t : Int × (List (Int × Int × Int × Unit))) => Sum.inl (t.1, t.2)) (fun (t : (List (Int × Int × Int × Unit))) => Sum.inr t)) : Option ((Int × (List (Int × Int × Int × Unit))) ⊕ (((List (Int × Int × Int × Unit))))))) LL (0, x515)

def laws_toDeedS_n5 (x511 : List (Int × Int × Int × Unit)) (x515 : List (Int × Int × Int × Unit)) : Option (((List (Int × Int × Int × Unit)))) :=
  (laws_toDeedS_n4 x511 x515).map (fun (t : (List (Int × Int × Int × Unit))) => t)

def laws_toDeedS_n6 (x511 : List (Int × Int × Int × Unit)) (x515 : List (Int × Int × Int × Unit)) : Option (((List (Int × Int × Int × Unit)))) :=
  (laws_toDeedS_n2).bind (fun (t : Unit) => laws_toDeedS_n5 x511 x515)

def laws_toDeedS_n7 (x565 : List (Int × Int × Int × Unit)) : Option (((List (Int × Int × Int × Unit)))) :=
  some x565

def laws_toDeedS_n8 (x511 : List (Int × Int × Int × Unit)) (x515 : List (Int × Int × Int × Unit)) : Option (((List (Int × Int × Int × Unit)))) :=
  (laws_toDeedS_n6 x511 x515).bind (fun (t : (List (Int × Int × Int × Unit))) => laws_toDeedS_n7 t)

def laws_toDeedS_n9 (x511 : List (Int × Int × Int × Unit)) : Option (((List (Int × Int × Int × Unit)))) :=
  (laws_toDeedS_n1 x511).bind (fun (t : (List (Int × Int × Int × Unit))) => laws_toDeedS_n8 x511 t)

@[irreducible] def laws_toDeedS (x511 : List (Int × Int × Int × Unit)) : Option ((List (Int × Int × Int × Unit))) :=
  laws_toDeedS_n9 x511

def spec_JournalText_n1 : Option (Unit) :=
  some ()

def spec_JournalText_n2 : Option (Unit) :=
  some ()

def spec_JournalText_n3 (x614 : List (Int × Int × Int × Unit)) (x661 : ByteArray) (x662 : Int) : Option ((ByteArray × Int) ⊕ ByteArray ⊕ ByteArray) :=
  cond (decide (x662 < (((List.length x614 : Nat) : Int)))) ((idx x614 x662).bind fun (v688 : Int × Int × Int × Unit) => (spec_DeedText (v688.1) ((v688.2).1) (((v688.2).2).1)).bind fun (v695 : ByteArray) => cond (seqs v695 ByteArray.empty) (some (Sum.inr (Sum.inl ByteArray.empty))) ((idx x614 x662).bind fun (v697 : Int × Int × Int × Unit) => (spec_DeedText (v697.1) ((v697.2).1) (((v697.2).2).1)).bind fun (v704 : ByteArray) => (cat x661 v704).bind fun (v705 : ByteArray) => (cat v705 (ByteArray.mk #[10])).bind fun (v706 : ByteArray) => some (Sum.inl (v706, (IntKind.wrap .i64 (x662 + 1)))))) (some (Sum.inr (Sum.inr x661)))

def spec_JournalText_n4 (x614 : List (Int × Int × Int × Unit)) : Option (ByteArray ⊕ ByteArray) :=
  nloop (fun (s : ByteArray × Int) => ((spec_JournalText_n3 x614 s.1 s.2).map (Sum.elim (fun (t : ByteArray × Int) => Sum.inl (t.1, t.2)) (Sum.elim (fun (t : ByteArray) => Sum.inr (Sum.inl t)) (fun (t : ByteArray) => Sum.inr (Sum.inr t)))) : Option ((ByteArray × Int) ⊕ (ByteArray ⊕ ByteArray)))) LL (ByteArray.empty, 0)

def spec_JournalText_n5 (x614 : List (Int × Int × Int × Unit)) : Option (ByteArray ⊕ ByteArray) :=
  (spec_JournalText_n4 x614).map (Sum.elim (fun (t : ByteArray) => (Sum.inr t)) (fun (t : ByteArray) => (Sum.inl t)))

def spec_JournalText_n6 (x614 : List (Int × Int × Int × Unit)) : Option (ByteArray ⊕ ByteArray) :=
  (spec_JournalText_n2).bind (fun (t : Unit) => spec_JournalText_n5 x614)

def spec_JournalText_n7 (x661 : ByteArray) : Option (ByteArray) :=
  some x661

def spec_JournalText_n8 (x614 : List (Int × Int × Int × Unit)) : Option (ByteArray) :=
  (spec_JournalText_n6 x614).bind (Sum.elim (fun (t : ByteArray) => spec_JournalText_n7 t) (fun e => some ((fun (t : ByteArray) => t) e)))

def spec_JournalText_n9 (x614 : List (Int × Int × Int × Unit)) : Option (ByteArray) :=
  (spec_JournalText_n1).bind (fun (t : Unit) => spec_JournalText_n8 x614)

@[irreducible] def spec_JournalText (x614 : List (Int × Int × Int × Unit)) : Option (ByteArray) :=
  spec_JournalText_n9 x614

def impl_JournalText (x1 : List (Int × Int × Int × Unit)) : Option (ByteArray) := jtextL (fun d : Int × Int × Int × Unit => impl_DeedText d.1 d.2.1 d.2.2.1) x1

def laws_eqDeed_n1 (x764 : Int) (x765 : Int) (x766 : Int) (x767 : Int) (x768 : Int) (x769 : Int) : Option (Bool) :=
  cond (x764 != x767) (some false) (cond (x765 != x768) (some false) (cond (x766 != x769) (some false) (some true)))

@[irreducible] def laws_eqDeed (x764 : Int) (x765 : Int) (x766 : Int) (x767 : Int) (x768 : Int) (x769 : Int) : Option (Bool) :=
  laws_eqDeed_n1 x764 x765 x766 x767 x768 x769

def laws_eqDeedS_n1 (x741 : List (Int × Int × Int × Unit)) (x742 : List (Int × Int × Int × Unit)) : Option (Unit ⊕ Bool) :=
  cond ((((List.length x741 : Nat) : Int)) != (((List.length x742 : Nat) : Int))) (some (Sum.inr false)) (some (Sum.inl ()))

def laws_eqDeedS_n2 : Option (Unit) :=
  some ()

def laws_eqDeedS_n3 (x741 : List (Int × Int × Int × Unit)) (x742 : List (Int × Int × Int × Unit)) (x804 : Int) : Option (Int ⊕ Bool ⊕ Unit) :=
  cond (decide (x804 < (((List.length x741 : Nat) : Int)))) ((idx x741 x804).bind fun (v827 : Int × Int × Int × Unit) => (idx x742 x804).bind fun (v834 : Int × Int × Int × Unit) => (laws_eqDeed (v827.1) ((v827.2).1) (((v827.2).2).1) (v834.1) ((v834.2).1) (((v834.2).2).1)).bind fun (v841 : Bool) => cond (!v841) (some (Sum.inr (Sum.inl false))) (some (Sum.inl (IntKind.wrap .i64 (x804 + 1))))) (some (Sum.inr (Sum.inr ())))

def laws_eqDeedS_n4 (x741 : List (Int × Int × Int × Unit)) (x742 : List (Int × Int × Int × Unit)) : Option (Bool ⊕ Unit) :=
  nloop (fun (s : Int) => ((laws_eqDeedS_n3 x741 x742 s).map (Sum.elim (fun (t : Int) => Sum.inl t) (Sum.elim (fun (t : Bool) => Sum.inr (Sum.inl t)) (fun (t : Unit) => Sum.inr (Sum.inr t)))) : Option ((Int) ⊕ (Bool ⊕ Unit)))) LL 0

def laws_eqDeedS_n5 (x741 : List (Int × Int × Int × Unit)) (x742 : List (Int × Int × Int × Unit)) : Option (Unit ⊕ Bool) :=
  (laws_eqDeedS_n4 x741 x742).map (Sum.elim (fun (t : Bool) => (Sum.inr t)) (fun (t : Unit) => (Sum.inl ())))

def laws_eqDeedS_n6 (x741 : List (Int × Int × Int × Unit)) (x742 : List (Int × Int × Int × Unit)) : Option (Unit ⊕ Bool) :=
  (laws_eqDeedS_n2).bind (fun (t : Unit) => laws_eqDeedS_n5 x741 x742)

def laws_eqDeedS_n7 : Option (Bool) :=
  some true

def laws_eqDeedS_n8 (x741 : List (Int × Int × Int × Unit)) (x742 : List (Int × Int × Int × Unit)) : Option (Bool) :=
  (laws_eqDeedS_n6 x741 x742).bind (Sum.elim (fun (t : Unit) => laws_eqDeedS_n7) (fun e => some ((fun (t : Bool) => t) e)))

def laws_eqDeedS_n9 (x741 : List (Int × Int × Int × Unit)) (x742 : List (Int × Int × Int × Unit)) : Option (Bool) :=
  (laws_eqDeedS_n1 x741 x742).bind (Sum.elim (fun (t : Unit) => laws_eqDeedS_n8 x741 x742) (fun e => some ((fun (t : Bool) => t) e)))

@[irreducible] def laws_eqDeedS (x741 : List (Int × Int × Int × Unit)) (x742 : List (Int × Int × Int × Unit)) : Option (Bool) :=
  laws_eqDeedS_n9 x741 x742

def laws_FnExactJournalText_n1 (x489 : List (Int × Int × Int × Unit)) : Option (Bool) :=
  (laws_szDeedS x489 1048576).bind fun (v857 : Int) => cond (decide (v857 < 0)) (some true) ((laws_toDeedS x489).bind fun (v859 : List (Int × Int × Int × Unit)) => (spec_JournalText v859).bind fun (v860 : ByteArray) => (laws_toDeedS x489).bind fun (v861 : List (Int × Int × Int × Unit)) => (impl_JournalText v861).bind fun (v862 : ByteArray) => cond (!(seqs v862 v860)) (some false) ((laws_toDeedS x489).bind fun (v864 : List (Int × Int × Int × Unit)) => (laws_eqDeedS v861 v864).bind fun (v865 : Bool) => cond (!v865) (some false) (some true)))

@[irreducible] def laws_FnExactJournalText (x489 : List (Int × Int × Int × Unit)) : Option (Bool) :=
  laws_FnExactJournalText_n1 x489

end Go.Rv
