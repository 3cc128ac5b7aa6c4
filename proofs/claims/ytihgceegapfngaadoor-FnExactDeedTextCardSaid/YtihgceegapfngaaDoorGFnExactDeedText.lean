/-
  Plain functions, written by program for functions of the checked code. Conditions: none.
-/
import Derived.Test.YtihgceegapfngaaDoorFB
set_option linter.unusedVariables false
namespace Go.Rv
def laws_toDeed_n1 : Option (Unit) :=
  some ()

@[irreducible] def laws_toDeed (x8 : Int) (x9 : Int) (x10 : Int) : Option (Unit) :=
  laws_toDeed_n1

def spec_l1In_n1 (x20 : Int) (x21 : Int) (x22 : Int) : Option (Bool) :=
  cond (decide (x20 ≥ x21)) (some (decide (x20 ≤ x22))) (some false)

@[irreducible] def spec_l1In (x20 : Int) (x21 : Int) (x22 : Int) : Option (Bool) :=
  spec_l1In_n1 x20 x21 x22

def spec_l1Number_n1 (R0 : Int → Option ByteArray) (x30 : Int) : Option (ByteArray) :=
  cond (decide (x30 < 10)) (some (bytesOf ([(IntKind.wrap .u8 (IntKind.wrap .i64 (48 + (imax x30 0))))]))) ((quo .i64 x30 10).bind fun (v94 : Int) => (rem x30 10).bind fun (v95 : Int) => (R0 v94).bind fun (v100 : ByteArray) => (cat v100 (bytesOf ([(IntKind.wrap .u8 (IntKind.wrap .i64 (48 + v95)))]))).bind fun (v101 : ByteArray) => some v101)

def spec_l1Number_one (R0 : Int → Option ByteArray) (x30 : Int) : Option (ByteArray) :=
  spec_l1Number_n1 R0 x30

def spec_l1Number_knot : Nat → (Int → Option ByteArray)
  | 0 => (fun _ => none)
  | n + 1 => (fun y0 => spec_l1Number_one (spec_l1Number_knot n) y0)

def spec_l1Number_fuel (n : Nat) : Int → Option ByteArray := (spec_l1Number_knot n)

@[irreducible] def spec_l1Number (x30 : Int) : Option (ByteArray) := spec_l1Number_fuel RR x30

def spec_DeedText_n1 : Option (Unit) :=
  some ()

def spec_DeedText_n2 (x13 : Int) (x14 : Int) (x15 : Int) : Option (Bool) :=
  cond (x13 == 0) ((spec_l1In x14 0 99).bind fun (v205 : Bool) => cond v205 ((spec_l1In x15 0 99).bind fun (v206 : Bool) => some v206) (some false)) (some false)

def spec_DeedText_n3 (x14 : Int) (x15 : Int) : Option (ByteArray) :=
  (spec_l1Number x14).bind fun (v302 : ByteArray) => (cat (ByteArray.mk #[104, 101, 97, 100, 32]) v302).bind fun (v303 : ByteArray) => (cat v303 (ByteArray.mk #[32])).bind fun (v304 : ByteArray) => (spec_l1Number x15).bind fun (v305 : ByteArray) => (cat v304 v305).bind fun (v306 : ByteArray) => some v306

def spec_DeedText_n4 (x13 : Int) (x14 : Int) (x15 : Int) : Option (Bool) :=
  cond (x13 == 1) ((spec_l1In x14 0 99).bind fun (v308 : Bool) => cond v308 (some (x15 == 0)) (some false)) (some false)

def spec_DeedText_n5 (x351 : Bool) (x13 : Int) (x14 : Int) (x15 : Int) : Option (Unit ⊕ ByteArray) :=
  cond x351 ((spec_l1Number x14).bind fun (v352 : ByteArray) => (cat (ByteArray.mk #[97, 100, 100, 32]) v352).bind fun (v353 : ByteArray) => some (Sum.inr v353)) (cond ((x13 == 2) && ((x14 == 0) && ((x15 == 0) && true))) (some (Sum.inr (ByteArray.mk #[100, 114, 111, 112]))) (cond ((x13 == 3) && ((x14 == 0) && ((x15 == 0) && true))) (some (Sum.inr (ByteArray.mk #[116, 117, 114, 110]))) (cond ((x13 == 4) && ((x14 == 0) && ((x15 == 0) && true))) (some (Sum.inr (ByteArray.mk #[102, 108, 97, 116]))) (cond ((x13 == 5) && ((x14 == 0) && ((x15 == 0) && true))) (some (Sum.inr (ByteArray.mk #[98, 97, 99, 107]))) (some (Sum.inl ()))))))

def spec_DeedText_n6 (x13 : Int) (x14 : Int) (x15 : Int) : Option (Unit ⊕ ByteArray) :=
  (spec_DeedText_n4 x13 x14 x15).bind (fun (t : Bool) => spec_DeedText_n5 t x13 x14 x15)

def spec_DeedText_n7 (x253 : Bool) (x13 : Int) (x14 : Int) (x15 : Int) : Option (Unit ⊕ ByteArray) :=
  cond x253 ((spec_DeedText_n3 x14 x15).map (fun (t : ByteArray) => (Sum.inr t))) (spec_DeedText_n6 x13 x14 x15)

def spec_DeedText_n8 (x13 : Int) (x14 : Int) (x15 : Int) : Option (Unit ⊕ ByteArray) :=
  (spec_DeedText_n2 x13 x14 x15).bind (fun (t : Bool) => spec_DeedText_n7 t x13 x14 x15)

def spec_DeedText_n9 (x13 : Int) (x14 : Int) (x15 : Int) : Option (Unit ⊕ ByteArray) :=
  (spec_DeedText_n8 x13 x14 x15).map (Sum.elim (fun (t : Unit) => (Sum.inl ())) (fun (t : ByteArray) => (Sum.inr t)))

def spec_DeedText_n10 : Option (ByteArray) :=
  some ByteArray.empty

def spec_DeedText_n11 (x13 : Int) (x14 : Int) (x15 : Int) : Option (ByteArray) :=
  (spec_DeedText_n9 x13 x14 x15).bind (Sum.elim (fun (t : Unit) => spec_DeedText_n10) (fun e => some ((fun (t : ByteArray) => t) e)))

def spec_DeedText_n12 (x13 : Int) (x14 : Int) (x15 : Int) : Option (ByteArray) :=
  (spec_DeedText_n1).bind (fun (t : Unit) => spec_DeedText_n11 x13 x14 x15)

@[irreducible] def spec_DeedText (x13 : Int) (x14 : Int) (x15 : Int) : Option (ByteArray) :=
  spec_DeedText_n12 x13 x14 x15

def impl_numbersIn_n1 (x383 : Int) : Option (Int) :=
  cond (x383 == 0) (some 2) (cond (x383 == 1) (some 1) (some 0))

@[irreducible] def impl_numbersIn (x383 : Int) : Option (Int) :=
  impl_numbersIn_n1 x383

def impl_Deed_restOk_n1 (x380 : Int) (x381 : Int) (x382 : Int) : Option (Bool) :=
  (impl_numbersIn x380).bind fun (v399 : Int) => cond (decide (v399 > 0)) (cond (decide (v399 > 1)) (some true) (some (x382 == 0))) (cond (x381 == 0) (cond (decide (v399 > 1)) (some true) (some (x382 == 0))) (some false))

@[irreducible] def impl_Deed_restOk (x380 : Int) (x381 : Int) (x382 : Int) : Option (Bool) :=
  impl_Deed_restOk_n1 x380 x381 x382

def impl_Deed_inText_n1 (x374 : Int) (x375 : Int) (x376 : Int) : Option (Bool) :=
  cond (decide (x374 ≥ 0)) (cond (decide (x374 < 6)) ((impl_Deed_restOk x374 x375 x376).bind fun (v414 : Bool) => cond v414 (cond (decide (x375 ≥ 0)) (cond (decide (x375 ≤ 99)) (cond (decide (x376 ≥ 0)) (some (decide (x376 ≤ 99))) (some false)) (some false)) (some false)) (some false)) (some false)) (some false)

@[irreducible] def impl_Deed_inText (x374 : Int) (x375 : Int) (x376 : Int) : Option (Bool) :=
  impl_Deed_inText_n1 x374 x375 x376

def strconv_Itoa (x1 : Int) : Option (ByteArray) := itoaS x1

def impl_DeedText_n1 (x371 : Int) (x372 : Int) (x373 : Int) : Option (ByteArray ⊕ ByteArray) :=
  (impl_Deed_inText x371 x372 x373).bind fun (v429 : Bool) => cond (!v429) (some (Sum.inr ByteArray.empty)) ((same (List.length tabW) 6).bind fun (v431 : Unit) => (idx tabW x371).bind fun (v432 : ByteArray) => some (Sum.inl v432))

def impl_DeedText_n2 (x371 : Int) (x372 : Int) (x373 : Int) : Option (((List Int) × Int)) :=
  (impl_numbersIn x371).bind fun (v434 : Int) => (inc v434 (List.length ([x372, x373]))).bind fun (v437 : Nat) => some (((([x372, x373]).take v437).drop 0), (((List.length ((([x372, x373]).take v437).drop 0) : Nat) : Int)))

def impl_DeedText_n3 (x455 : ByteArray) (x438 : List Int) (x439 : Int) (x456 : Int) : Option ((ByteArray × Int) ⊕ ByteArray) :=
  cond (decide (x456 < x439)) ((idx x438 x456).bind fun (v465 : Int) => (strconv_Itoa v465).bind fun (v466 : ByteArray) => (cat (ByteArray.mk #[32]) v466).bind fun (v467 : ByteArray) => (cat x455 v467).bind fun (v468 : ByteArray) => some (Sum.inl (v468, (IntKind.wrap .i64 (x456 + 1))))) (some (Sum.inr x455))

def impl_DeedText_n4 (x432 : ByteArray) (x438 : List Int) (x439 : Int) : Option (ByteArray) :=
  nloop (fun (s : ByteArray × Int) => ((impl_DeedText_n3 s.1 x438 x439 s.2).map (Sum.elim (fun (t : ByteArray × Int) => Sum.inl (t.1, t.2)) (fun (t : ByteArray) => Sum.inr t)) : Option ((ByteArray × Int) ⊕ (ByteArray)))) LL (x432, 0)

def impl_DeedText_n5 (x432 : ByteArray) (x438 : List Int) (x439 : Int) : Option (ByteArray) :=
  (impl_DeedText_n4 x432 x438 x439).map (fun (t : ByteArray) => t)

def impl_DeedText_n6 (x432 : ByteArray) (x371 : Int) (x372 : Int) (x373 : Int) : Option (ByteArray) :=
  (impl_DeedText_n2 x371 x372 x373).bind (fun (t : (List Int) × Int) => impl_DeedText_n5 x432 t.1 t.2)

def impl_DeedText_n7 (x455 : ByteArray) : Option (ByteArray) :=
  some x455

def impl_DeedText_n8 (x432 : ByteArray) (x371 : Int) (x372 : Int) (x373 : Int) : Option (ByteArray) :=
  (impl_DeedText_n6 x432 x371 x372 x373).bind (fun (t : ByteArray) => impl_DeedText_n7 t)

def impl_DeedText_n9 (x371 : Int) (x372 : Int) (x373 : Int) : Option (ByteArray) :=
  (impl_DeedText_n1 x371 x372 x373).bind (Sum.elim (fun (t : ByteArray) => impl_DeedText_n8 t x371 x372 x373) (fun e => some ((fun (t : ByteArray) => t) e)))

@[irreducible] def impl_DeedText (x371 : Int) (x372 : Int) (x373 : Int) : Option (ByteArray) :=
  impl_DeedText_n9 x371 x372 x373

def laws_FnExactDeedText_n1 (x4 : Int) (x5 : Int) (x6 : Int) : Option (Bool) :=
  (laws_toDeed x4 x5 x6).bind fun (v482 : Unit) => (spec_DeedText x4 x5 x6).bind fun (v483 : ByteArray) => (laws_toDeed x4 x5 x6).bind fun (v484 : Unit) => (impl_DeedText x4 x5 x6).bind fun (v485 : ByteArray) => cond (!(seqs v485 v483)) (some false) (some true)

@[irreducible] def laws_FnExactDeedText (x4 : Int) (x5 : Int) (x6 : Int) : Option (Bool) :=
  laws_FnExactDeedText_n1 x4 x5 x6

end Go.Rv
