/-
  Plain functions, written by program for functions of the checked code. Conditions: none.
-/
import Derived.Test.YtihgceegapfngaaDoorFB
set_option linter.unusedVariables false
namespace Go.Rv
def spec_l1Cut_n1 : Option (Unit) :=
  some ()

def spec_l1Cut_n2 : Option (Unit) :=
  some ()

def spec_l1Cut_n3 (x13 : ByteArray) (x14 : Int) (x51 : Int) (x52 : Int) (x53 : List ByteArray) : Option ((Int × Int × (List ByteArray)) ⊕ (Int × (List ByteArray))) :=
  cond (decide (x52 < (((ByteArray.size x13 : Nat) : Int)))) ((bidx x13 x52).bind fun (v71 : Int) => cond (v71 == x14) ((inc x52 (ByteArray.size x13)).bind fun (v74 : Nat) => (inc x51 v74).bind fun (v75 : Nat) => (room ((List.length x53) + List.length ([(x13.extract v75 v74)]))).bind fun (v79 : Unit) => some (Sum.inl ((IntKind.wrap .i64 (x52 + 1)), (IntKind.wrap .i64 (x52 + 1)), (x53 ++ ([(x13.extract v75 v74)]))))) (some (Sum.inl (x51, (IntKind.wrap .i64 (x52 + 1)), x53)))) (some (Sum.inr (x51, x53)))

def spec_l1Cut_n4 (x13 : ByteArray) (x14 : Int) : Option ((Int × (List ByteArray))) :=
  nloop (fun (s : Int × Int × (List ByteArray)) => ((spec_l1Cut_n3 x13 x14 s.1 s.2.1 s.2.2).map (Sum.elim (fun (t : Int × Int × (List ByteArray)) => Sum.inl (t.1, t.2.1, t.2.2)) (fun (t : Int × (List ByteArray)) => Sum.inr t)) : Option ((Int × Int × (List ByteArray)) ⊕ ((Int × (List ByteArray)))))) LL (0, 0, ([] : List ByteArray))

def spec_l1Cut_n5 (x13 : ByteArray) (x14 : Int) : Option ((Int × (List ByteArray))) :=
  (spec_l1Cut_n4 x13 x14).map (fun (t : Int × (List ByteArray)) => (t.1, t.2))

def spec_l1Cut_n6 (x13 : ByteArray) (x14 : Int) : Option ((Int × (List ByteArray))) :=
  (spec_l1Cut_n2).bind (fun (t : Unit) => spec_l1Cut_n5 x13 x14)

def spec_l1Cut_n7 (x13 : ByteArray) (x51 : Int) (x53 : List ByteArray) : Option (((List ByteArray))) :=
  (inc x51 (ByteArray.size x13)).bind fun (v95 : Nat) => (room ((List.length x53) + List.length ([(x13.extract v95 (ByteArray.size x13))]))).bind fun (v99 : Unit) => some (x53 ++ ([(x13.extract v95 (ByteArray.size x13))]))

def spec_l1Cut_n8 (x13 : ByteArray) (x14 : Int) : Option (((List ByteArray))) :=
  (spec_l1Cut_n6 x13 x14).bind (fun (t : Int × (List ByteArray)) => spec_l1Cut_n7 x13 t.1 t.2)

def spec_l1Cut_n9 (x13 : ByteArray) (x14 : Int) : Option (((List ByteArray))) :=
  (spec_l1Cut_n1).bind (fun (t : Unit) => spec_l1Cut_n8 x13 x14)

@[irreducible] def spec_l1Cut (x13 : ByteArray) (x14 : Int) : Option ((List ByteArray)) :=
  spec_l1Cut_n9 x13 x14

def spec_l1In_n1 (x144 : Int) (x145 : Int) (x146 : Int) : Option (Bool) :=
  cond (decide (x144 ≥ x145)) (some (decide (x144 ≤ x146))) (some false)

@[irreducible] def spec_l1In (x144 : Int) (x145 : Int) (x146 : Int) : Option (Bool) :=
  spec_l1In_n1 x144 x145 x146

def spec_l1Digits_n1 (x141 : ByteArray) : Option (Unit ⊕ Int) :=
  (spec_l1In (((ByteArray.size x141 : Nat) : Int)) 1 6).bind fun (v161 : Bool) => cond (!v161) (some (Sum.inr (-1))) (cond (decide ((((ByteArray.size x141 : Nat) : Int)) > 1)) ((bidx x141 0).bind fun (v165 : Int) => cond (v165 == 48) (some (Sum.inr (-1))) (some (Sum.inl ()))) (some (Sum.inl ())))

def spec_l1Digits_n2 : Option (Unit) :=
  some ()

def spec_l1Digits_n3 (x141 : ByteArray) (x194 : Int) (x195 : Int) : Option ((Int × Int) ⊕ Int ⊕ Int) :=
  cond (decide (x195 < (((ByteArray.size x141 : Nat) : Int)))) ((bidx x141 x195).bind fun (v211 : Int) => cond (decide (v211 < 48)) (some (Sum.inr (Sum.inl (-1)))) ((bidx x141 x195).bind fun (v213 : Int) => cond (decide (v213 > 57)) (some (Sum.inr (Sum.inl (-1)))) ((bidx x141 x195).bind fun (v216 : Int) => some (Sum.inl ((IntKind.wrap .i64 ((IntKind.wrap .i64 (10 * x194)) + (IntKind.wrap .i64 (IntKind.wrap .u8 (v216 - 48))))), (IntKind.wrap .i64 (x195 + 1))))))) (some (Sum.inr (Sum.inr x194)))

def spec_l1Digits_n4 (x141 : ByteArray) : Option (Int ⊕ Int) :=
  nloop (fun (s : Int × Int) => ((spec_l1Digits_n3 x141 s.1 s.2).map (Sum.elim (fun (t : Int × Int) => Sum.inl (t.1, t.2)) (Sum.elim (fun (t : Int) => Sum.inr (Sum.inl t)) (fun (t : Int) => Sum.inr (Sum.inr t)))) : Option ((Int × Int) ⊕ (Int ⊕ Int)))) LL (0, 0)

def spec_l1Digits_n5 (x141 : ByteArray) : Option (Int ⊕ Int) :=
  (spec_l1Digits_n4 x141).map (Sum.elim (fun (t : Int) => (Sum.inr t)) (fun (t : Int) => (Sum.inl t)))

def spec_l1Digits_n6 (x141 : ByteArray) : Option (Int ⊕ Int) :=
  (spec_l1Digits_n2).bind (fun (t : Unit) => spec_l1Digits_n5 x141)

def spec_l1Digits_n7 (x194 : Int) : Option (Int) :=
  some x194

def spec_l1Digits_n8 (x141 : ByteArray) : Option (Int) :=
  (spec_l1Digits_n6 x141).bind (Sum.elim (fun (t : Int) => spec_l1Digits_n7 t) (fun e => some ((fun (t : Int) => t) e)))

def spec_l1Digits_n9 (x141 : ByteArray) : Option (Int) :=
  (spec_l1Digits_n1 x141).bind (Sum.elim (fun (t : Unit) => spec_l1Digits_n8 x141) (fun e => some ((fun (t : Int) => t) e)))

@[irreducible] def spec_l1Digits (x141 : ByteArray) : Option (Int) :=
  spec_l1Digits_n9 x141

def spec_l1Number_n1 (R0 : Int → Option ByteArray) (x324 : Int) : Option (ByteArray) :=
  cond (decide (x324 < 10)) (some (bytesOf ([(IntKind.wrap .u8 (IntKind.wrap .i64 (48 + (imax x324 0))))]))) ((quo .i64 x324 10).bind fun (v386 : Int) => (rem x324 10).bind fun (v387 : Int) => (R0 v386).bind fun (v392 : ByteArray) => (cat v392 (bytesOf ([(IntKind.wrap .u8 (IntKind.wrap .i64 (48 + v387)))]))).bind fun (v393 : ByteArray) => some v393)

def spec_l1Number_one (R0 : Int → Option ByteArray) (x324 : Int) : Option (ByteArray) :=
  spec_l1Number_n1 R0 x324

def spec_l1Number_knot : Nat → (Int → Option ByteArray)
  | 0 => (fun _ => none)
  | n + 1 => (fun y0 => spec_l1Number_one (spec_l1Number_knot n) y0)

def spec_l1Number_fuel (n : Nat) : Int → Option ByteArray := (spec_l1Number_knot n)

@[irreducible] def spec_l1Number (x324 : Int) : Option (ByteArray) := spec_l1Number_fuel RR x324

def spec_DeedText_n1 : Option (Unit) :=
  some ()

def spec_DeedText_n2 (x317 : Int) (x318 : Int) (x319 : Int) : Option (Bool) :=
  cond (x317 == 0) ((spec_l1In x318 0 99).bind fun (v492 : Bool) => cond v492 ((spec_l1In x319 0 99).bind fun (v493 : Bool) => some v493) (some false)) (some false)

def spec_DeedText_n3 (x318 : Int) (x319 : Int) : Option (ByteArray) :=
  (spec_l1Number x318).bind fun (v589 : ByteArray) => (cat (ByteArray.mk #[104, 101, 97, 100, 32]) v589).bind fun (v590 : ByteArray) => (cat v590 (ByteArray.mk #[32])).bind fun (v591 : ByteArray) => (spec_l1Number x319).bind fun (v592 : ByteArray) => (cat v591 v592).bind fun (v593 : ByteArray) => some v593

def spec_DeedText_n4 (x317 : Int) (x318 : Int) (x319 : Int) : Option (Bool) :=
  cond (x317 == 1) ((spec_l1In x318 0 99).bind fun (v595 : Bool) => cond v595 (some (x319 == 0)) (some false)) (some false)

def spec_DeedText_n5 (x638 : Bool) (x317 : Int) (x318 : Int) (x319 : Int) : Option (Unit ⊕ ByteArray) :=
  cond x638 ((spec_l1Number x318).bind fun (v639 : ByteArray) => (cat (ByteArray.mk #[97, 100, 100, 32]) v639).bind fun (v640 : ByteArray) => some (Sum.inr v640)) (cond ((x317 == 2) && ((x318 == 0) && ((x319 == 0) && true))) (some (Sum.inr (ByteArray.mk #[100, 114, 111, 112]))) (cond ((x317 == 3) && ((x318 == 0) && ((x319 == 0) && true))) (some (Sum.inr (ByteArray.mk #[116, 117, 114, 110]))) (cond ((x317 == 4) && ((x318 == 0) && ((x319 == 0) && true))) (some (Sum.inr (ByteArray.mk #[102, 108, 97, 116]))) (cond ((x317 == 5) && ((x318 == 0) && ((x319 == 0) && true))) (some (Sum.inr (ByteArray.mk #[98, 97, 99, 107]))) (some (Sum.inl ()))))))

def spec_DeedText_n6 (x317 : Int) (x318 : Int) (x319 : Int) : Option (Unit ⊕ ByteArray) :=
  (spec_DeedText_n4 x317 x318 x319).bind (fun (t : Bool) => spec_DeedText_n5 t x317 x318 x319)

def spec_DeedText_n7 (x540 : Bool) (x317 : Int) (x318 : Int) (x319 : Int) : Option (Unit ⊕ ByteArray) :=
  cond x540 ((spec_DeedText_n3 x318 x319).map (fun (t : ByteArray) => (Sum.inr t))) (spec_DeedText_n6 x317 x318 x319)

def spec_DeedText_n8 (x317 : Int) (x318 : Int) (x319 : Int) : Option (Unit ⊕ ByteArray) :=
  (spec_DeedText_n2 x317 x318 x319).bind (fun (t : Bool) => spec_DeedText_n7 t x317 x318 x319)

def spec_DeedText_n9 (x317 : Int) (x318 : Int) (x319 : Int) : Option (Unit ⊕ ByteArray) :=
  (spec_DeedText_n8 x317 x318 x319).map (Sum.elim (fun (t : Unit) => (Sum.inl ())) (fun (t : ByteArray) => (Sum.inr t)))

def spec_DeedText_n10 : Option (ByteArray) :=
  some ByteArray.empty

def spec_DeedText_n11 (x317 : Int) (x318 : Int) (x319 : Int) : Option (ByteArray) :=
  (spec_DeedText_n9 x317 x318 x319).bind (Sum.elim (fun (t : Unit) => spec_DeedText_n10) (fun e => some ((fun (t : ByteArray) => t) e)))

def spec_DeedText_n12 (x317 : Int) (x318 : Int) (x319 : Int) : Option (ByteArray) :=
  (spec_DeedText_n1).bind (fun (t : Unit) => spec_DeedText_n11 x317 x318 x319)

@[irreducible] def spec_DeedText (x317 : Int) (x318 : Int) (x319 : Int) : Option (ByteArray) :=
  spec_DeedText_n12 x317 x318 x319

def spec_ReadDeed_n1 (x10 : ByteArray) : Option (((List ByteArray) × (List (Int × Int × Int × Unit)))) :=
  (spec_l1Cut x10 32).bind fun (v102 : List ByteArray) => some (v102, ([(2, (0, (0, ()))), (3, (0, (0, ()))), (4, (0, (0, ()))), (5, (0, (0, ())))]))

def spec_ReadDeed_n2 (x102 : List ByteArray) : Option (Bool) :=
  some ((((List.length x102 : Nat) : Int)) == 3)

def spec_ReadDeed_n3 (x102 : List ByteArray) (x120 : List (Int × Int × Int × Unit)) : Option (((List (Int × Int × Int × Unit)))) :=
  (inb 1 (List.length x102)).bind fun (v276 : Nat) => (x102[v276]?).bind fun (v277 : ByteArray) => (inb 2 (List.length x102)).bind fun (v278 : Nat) => (x102[v278]?).bind fun (v279 : ByteArray) => (spec_l1Digits v277).bind fun (v280 : Int) => (spec_l1Digits v279).bind fun (v281 : Int) => (room ((List.length x120) + List.length ([(0, (v280, (v281, ())))]))).bind fun (v287 : Unit) => some (x120 ++ ([(0, (v280, (v281, ())))]))

def spec_ReadDeed_n4 : Option (Unit) :=
  some ()

def spec_ReadDeed_n5 (x247 : Bool) (x102 : List ByteArray) (x120 : List (Int × Int × Int × Unit)) : Option (((List (Int × Int × Int × Unit)))) :=
  cond x247 ((spec_ReadDeed_n3 x102 x120).map (fun (t : (List (Int × Int × Int × Unit))) => t)) ((spec_ReadDeed_n4).map (fun (t : Unit) => x120))

def spec_ReadDeed_n6 (x102 : List ByteArray) (x120 : List (Int × Int × Int × Unit)) : Option (((List (Int × Int × Int × Unit)))) :=
  (spec_ReadDeed_n2 x102).bind (fun (t : Bool) => spec_ReadDeed_n5 t x102 x120)

def spec_ReadDeed_n7 (x102 : List ByteArray) (x289 : List (Int × Int × Int × Unit)) : Option (((List (Int × Int × Int × Unit)))) :=
  cond ((((List.length x102 : Nat) : Int)) == 2) ((inb 1 (List.length x102)).bind fun (v292 : Nat) => (x102[v292]?).bind fun (v293 : ByteArray) => (spec_l1Digits v293).bind fun (v294 : Int) => (room ((List.length x289) + List.length ([(1, (v294, (0, ())))]))).bind fun (v300 : Unit) => some (x289 ++ ([(1, (v294, (0, ())))]))) (some x289)

def spec_ReadDeed_n8 : Option (Unit) :=
  some ()

def spec_ReadDeed_n9 (x10 : ByteArray) (x688 : Int) (x302 : List (Int × Int × Int × Unit)) : Option (Int ⊕ (Bool × Int × Int × Int) ⊕ Unit) :=
  cond (decide (x688 < (((List.length x302 : Nat) : Int)))) (cond (!(seqs x10 ByteArray.empty)) ((inb x688 (List.length x302)).bind fun (v715 : Nat) => (x302[v715]?).bind fun (v716 : Int × Int × Int × Unit) => (spec_DeedText (v716.1) ((v716.2).1) (((v716.2).2).1)).bind fun (v723 : ByteArray) => cond (seqs v723 x10) ((inb x688 (List.length x302)).bind fun (v725 : Nat) => (x302[v725]?).bind fun (v726 : Int × Int × Int × Unit) => some (Sum.inr (Sum.inl (true, (v726.1), ((v726.2).1), (((v726.2).2).1))))) (some (Sum.inl (IntKind.wrap .i64 (x688 + 1))))) (some (Sum.inl (IntKind.wrap .i64 (x688 + 1))))) (some (Sum.inr (Sum.inr ())))

def spec_ReadDeed_n10 (x10 : ByteArray) (x302 : List (Int × Int × Int × Unit)) : Option ((Bool × Int × Int × Int) ⊕ Unit) :=
  nloop (fun (s : Int) => ((spec_ReadDeed_n9 x10 s x302).map (Sum.elim (fun (t : Int) => Sum.inl t) (Sum.elim (fun (t : Bool × Int × Int × Int) => Sum.inr (Sum.inl t)) (fun (t : Unit) => Sum.inr (Sum.inr t)))) : Option ((Int) ⊕ ((Bool × Int × Int × Int) ⊕ Unit)))) LL 0

def spec_ReadDeed_n11 (x10 : ByteArray) (x302 : List (Int × Int × Int × Unit)) : Option (Unit ⊕ (Bool × Int × Int × Int)) :=
  (spec_ReadDeed_n10 x10 x302).map (Sum.elim (fun (t : Bool × Int × Int × Int) => (Sum.inr t)) (fun (t : Unit) => (Sum.inl ())))

def spec_ReadDeed_n12 (x10 : ByteArray) (x302 : List (Int × Int × Int × Unit)) : Option (Unit ⊕ (Bool × Int × Int × Int)) :=
  (spec_ReadDeed_n8).bind (fun (t : Unit) => spec_ReadDeed_n11 x10 x302)

def spec_ReadDeed_n13 : Option ((Bool × Int × Int × Int)) :=
  some (false, 0, 0, 0)

def spec_ReadDeed_n14 (x10 : ByteArray) (x302 : List (Int × Int × Int × Unit)) : Option ((Bool × Int × Int × Int)) :=
  (spec_ReadDeed_n12 x10 x302).bind (Sum.elim (fun (t : Unit) => spec_ReadDeed_n13) (fun e => some ((fun (t : Bool × Int × Int × Int) => t) e)))

def spec_ReadDeed_n15 (x10 : ByteArray) (x102 : List ByteArray) (x289 : List (Int × Int × Int × Unit)) : Option ((Bool × Int × Int × Int)) :=
  (spec_ReadDeed_n7 x102 x289).bind (fun (t : (List (Int × Int × Int × Unit))) => spec_ReadDeed_n14 x10 t)

def spec_ReadDeed_n16 (x10 : ByteArray) (x102 : List ByteArray) (x120 : List (Int × Int × Int × Unit)) : Option ((Bool × Int × Int × Int)) :=
  (spec_ReadDeed_n6 x102 x120).bind (fun (t : (List (Int × Int × Int × Unit))) => spec_ReadDeed_n15 x10 x102 t)

def spec_ReadDeed_n17 (x10 : ByteArray) : Option ((Bool × Int × Int × Int)) :=
  (spec_ReadDeed_n1 x10).bind (fun (t : (List ByteArray) × (List (Int × Int × Int × Unit))) => spec_ReadDeed_n16 x10 t.1 t.2)

@[irreducible] def spec_ReadDeed (x10 : ByteArray) : Option (Bool × Int × Int × Int) :=
  spec_ReadDeed_n17 x10

def internal_stringslite_Index (x1 : ByteArray) (x2 : ByteArray) : Option (Int) := sidx x1 x2

def strings_Index_n1 (x800 : ByteArray) (x801 : ByteArray) : Option (Int) :=
  (internal_stringslite_Index x800 x801).bind fun (v806 : Int) => some v806

@[irreducible] def strings_Index (x800 : ByteArray) (x801 : ByteArray) : Option (Int) :=
  strings_Index_n1 x800 x801

def strings_genSplit_n1 (x756 : ByteArray) (x757 : ByteArray) (x759 : Int) : Option ((Int × (List ByteArray)) ⊕ (Nat × (List ByteArray))) :=
  cond (x759 == 0) (some (Sum.inr ((List.length ([] : List ByteArray)), ([] : List ByteArray)))) (cond (seqs x757 ByteArray.empty) (none) (cond (decide (x759 < 0)) (none) ((mk (imin x759 (IntKind.wrap .i64 ((((ByteArray.size x756 : Nat) : Int)) + 1))) (imin x759 (IntKind.wrap .i64 ((((ByteArray.size x756 : Nat) : Int)) + 1)))).bind fun (v896 : Nat) => some (Sum.inl ((IntKind.wrap .i64 ((imin x759 (IntKind.wrap .i64 ((((ByteArray.size x756 : Nat) : Int)) + 1))) - 1)), (List.replicate v896 ByteArray.empty))))))

def strings_genSplit_n2 (x915 : ByteArray) (x757 : ByteArray) (x758 : Int) (x898 : Int) (x916 : Int) (x917 : List ByteArray) : Option ((ByteArray × Int × (List ByteArray)) ⊕ (ByteArray × Int × (List ByteArray))) :=
  cond (decide (x916 < x898)) ((strings_Index x915 x757).bind fun (v920 : Int) => cond (decide (v920 < 0)) (some (Sum.inr (x915, x916, x917))) ((inc (IntKind.wrap .i64 (v920 + x758)) (ByteArray.size x915)).bind fun (v924 : Nat) => (inb x916 (List.length x917)).bind fun (v926 : Nat) => (inc (IntKind.wrap .i64 (v920 + (((ByteArray.size x757 : Nat) : Int)))) (ByteArray.size x915)).bind fun (v931 : Nat) => some (Sum.inl ((x915.extract v931 (ByteArray.size x915)), (IntKind.wrap .i64 (x916 + 1)), (x917.set v926 (x915.extract 0 v924)))))) (some (Sum.inr (x915, x916, x917)))

def strings_genSplit_n3 (x756 : ByteArray) (x757 : ByteArray) (x758 : Int) (x898 : Int) (x897 : List ByteArray) : Option ((ByteArray × Int × (List ByteArray))) :=
  nloop (fun (s : ByteArray × Int × (List ByteArray)) => ((strings_genSplit_n2 s.1 x757 x758 x898 s.2.1 s.2.2).map (Sum.elim (fun (t : ByteArray × Int × (List ByteArray)) => Sum.inl (t.1, t.2.1, t.2.2)) (fun (t : ByteArray × Int × (List ByteArray)) => Sum.inr t)) : Option ((ByteArray × Int × (List ByteArray)) ⊕ ((ByteArray × Int × (List ByteArray)))))) LL (x756, 0, x897)

def strings_genSplit_n4 (x756 : ByteArray) (x757 : ByteArray) (x758 : Int) (x898 : Int) (x897 : List ByteArray) : Option ((ByteArray × Int × (List ByteArray))) :=
  (strings_genSplit_n3 x756 x757 x758 x898 x897).map (fun (t : ByteArray × Int × (List ByteArray)) => (t.1, t.2.1, t.2.2))

def strings_genSplit_n5 (x915 : ByteArray) (x916 : Int) (x917 : List ByteArray) : Option ((Nat × (List ByteArray))) :=
  (inb x916 (List.length x917)).bind fun (v942 : Nat) => (inc (IntKind.wrap .i64 (x916 + 1)) (List.length (x917.set v942 x915))).bind fun (v946 : Nat) => some ((v946 - 0), (x917.set v942 x915))

def strings_genSplit_n6 (x756 : ByteArray) (x757 : ByteArray) (x758 : Int) (x898 : Int) (x897 : List ByteArray) : Option ((Nat × (List ByteArray))) :=
  (strings_genSplit_n4 x756 x757 x758 x898 x897).bind (fun (t : ByteArray × Int × (List ByteArray)) => strings_genSplit_n5 t.1 t.2.1 t.2.2)

def strings_genSplit_n7 (x756 : ByteArray) (x757 : ByteArray) (x758 : Int) (x759 : Int) : Option ((Nat × (List ByteArray))) :=
  (strings_genSplit_n1 x756 x757 x759).bind (Sum.elim (fun (t : Int × (List ByteArray)) => strings_genSplit_n6 x756 x757 x758 t.1 t.2) (fun e => some ((fun (t : Nat × (List ByteArray)) => t) e)))

@[irreducible] def strings_genSplit (x756 : ByteArray) (x757 : ByteArray) (x758 : Int) (x759 : Int) : Option (Nat × (List ByteArray)) :=
  strings_genSplit_n7 x756 x757 x758 x759

def strings_SplitN_n1 (x753 : ByteArray) (x754 : ByteArray) (x755 : Int) : Option ((Nat × (List ByteArray))) :=
  (strings_genSplit x753 x754 0 x755).bind fun (v953 : Nat × (List ByteArray)) => some ((v953.1), (v953.2))

@[irreducible] def strings_SplitN (x753 : ByteArray) (x754 : ByteArray) (x755 : Int) : Option (Nat × (List ByteArray)) :=
  strings_SplitN_n1 x753 x754 x755

def impl_kindFor_n1 : Option (Unit) :=
  some ()

def impl_kindFor_n2 : Option ((ByteArray × ByteArray × ByteArray × ByteArray × ByteArray × ByteArray)) :=
  (same (List.length tabW) 6).bind fun (v967 : Unit) => some ((tabW.getD 0 ByteArray.empty), (tabW.getD 1 ByteArray.empty), (tabW.getD 2 ByteArray.empty), (tabW.getD 3 ByteArray.empty), (tabW.getD 4 ByteArray.empty), (tabW.getD 5 ByteArray.empty))

def impl_kindFor_n3 (x965 : ByteArray) (x968 : ByteArray) (x969 : ByteArray) (x970 : ByteArray) (x971 : ByteArray) (x972 : ByteArray) (x973 : ByteArray) (x983 : Int) : Option (Int ⊕ Int ⊕ Unit) :=
  cond (decide (x983 < 6)) ((idx [x968, x969, x970, x971, x972, x973] x983).bind fun (v990 : ByteArray) => cond (seqs v990 x965) (some (Sum.inr (Sum.inl x983))) (some (Sum.inl (IntKind.wrap .i64 (x983 + 1))))) (some (Sum.inr (Sum.inr ())))

def impl_kindFor_n4 (x965 : ByteArray) (x968 : ByteArray) (x969 : ByteArray) (x970 : ByteArray) (x971 : ByteArray) (x972 : ByteArray) (x973 : ByteArray) : Option (Int ⊕ Unit) :=
  nloop (fun (s : Int) => ((impl_kindFor_n3 x965 x968 x969 x970 x971 x972 x973 s).map (Sum.elim (fun (t : Int) => Sum.inl t) (Sum.elim (fun (t : Int) => Sum.inr (Sum.inl t)) (fun (t : Unit) => Sum.inr (Sum.inr t)))) : Option ((Int) ⊕ (Int ⊕ Unit)))) LL 0

def impl_kindFor_n5 (x965 : ByteArray) (x968 : ByteArray) (x969 : ByteArray) (x970 : ByteArray) (x971 : ByteArray) (x972 : ByteArray) (x973 : ByteArray) : Option (Unit ⊕ Int) :=
  (impl_kindFor_n4 x965 x968 x969 x970 x971 x972 x973).map (Sum.elim (fun (t : Int) => (Sum.inr t)) (fun (t : Unit) => (Sum.inl ())))

def impl_kindFor_n6 (x965 : ByteArray) : Option (Unit ⊕ Int) :=
  (impl_kindFor_n2).bind (fun (t : ByteArray × ByteArray × ByteArray × ByteArray × ByteArray × ByteArray) => impl_kindFor_n5 x965 t.1 t.2.1 t.2.2.1 t.2.2.2.1 t.2.2.2.2.1 t.2.2.2.2.2)

def impl_kindFor_n7 : Option (Int) :=
  some (-1)

def impl_kindFor_n8 (x965 : ByteArray) : Option (Int) :=
  (impl_kindFor_n6 x965).bind (Sum.elim (fun (t : Unit) => impl_kindFor_n7) (fun e => some ((fun (t : Int) => t) e)))

def impl_kindFor_n9 (x965 : ByteArray) : Option (Int) :=
  (impl_kindFor_n1).bind (fun (t : Unit) => impl_kindFor_n8 x965)

@[irreducible] def impl_kindFor (x965 : ByteArray) : Option (Int) :=
  impl_kindFor_n9 x965

def strconv_Atoi (x1 : ByteArray) : Option (Int × Bool) := atoiS x1

def impl_numbersIn_n1 (x1079 : Int) : Option (Int) :=
  cond (x1079 == 0) (some 2) (cond (x1079 == 1) (some 1) (some 0))

@[irreducible] def impl_numbersIn (x1079 : Int) : Option (Int) :=
  impl_numbersIn_n1 x1079

def impl_Deed_restOk_n1 (x1076 : Int) (x1077 : Int) (x1078 : Int) : Option (Bool) :=
  (impl_numbersIn x1076).bind fun (v1095 : Int) => cond (decide (v1095 > 0)) (cond (decide (v1095 > 1)) (some true) (some (x1078 == 0))) (cond (x1077 == 0) (cond (decide (v1095 > 1)) (some true) (some (x1078 == 0))) (some false))

@[irreducible] def impl_Deed_restOk (x1076 : Int) (x1077 : Int) (x1078 : Int) : Option (Bool) :=
  impl_Deed_restOk_n1 x1076 x1077 x1078

def impl_Deed_inText_n1 (x1071 : Int) (x1072 : Int) (x1073 : Int) : Option (Bool) :=
  cond (decide (x1071 ≥ 0)) (cond (decide (x1071 < 6)) ((impl_Deed_restOk x1071 x1072 x1073).bind fun (v1110 : Bool) => cond v1110 (cond (decide (x1072 ≥ 0)) (cond (decide (x1072 ≤ 99)) (cond (decide (x1073 ≥ 0)) (some (decide (x1073 ≤ 99))) (some false)) (some false)) (some false)) (some false)) (some false)) (some false)

@[irreducible] def impl_Deed_inText (x1071 : Int) (x1072 : Int) (x1073 : Int) : Option (Bool) :=
  impl_Deed_inText_n1 x1071 x1072 x1073

def strconv_Itoa (x1 : Int) : Option (ByteArray) := itoaS x1

def impl_DeedText_n1 (x1068 : Int) (x1069 : Int) (x1070 : Int) : Option (ByteArray ⊕ ByteArray) :=
  (impl_Deed_inText x1068 x1069 x1070).bind fun (v1124 : Bool) => cond (!v1124) (some (Sum.inr ByteArray.empty)) ((same (List.length tabW) 6).bind fun (v1126 : Unit) => (idx tabW x1068).bind fun (v1127 : ByteArray) => some (Sum.inl v1127))

def impl_DeedText_n2 (x1068 : Int) (x1069 : Int) (x1070 : Int) : Option (((List Int) × Int)) :=
  (impl_numbersIn x1068).bind fun (v1129 : Int) => (inc v1129 (List.length ([x1069, x1070]))).bind fun (v1131 : Nat) => some (((([x1069, x1070]).take v1131).drop 0), (((List.length ((([x1069, x1070]).take v1131).drop 0) : Nat) : Int)))

def impl_DeedText_n3 (x1149 : ByteArray) (x1132 : List Int) (x1133 : Int) (x1150 : Int) : Option ((ByteArray × Int) ⊕ ByteArray) :=
  cond (decide (x1150 < x1133)) ((idx x1132 x1150).bind fun (v1159 : Int) => (strconv_Itoa v1159).bind fun (v1160 : ByteArray) => (cat (ByteArray.mk #[32]) v1160).bind fun (v1161 : ByteArray) => (cat x1149 v1161).bind fun (v1162 : ByteArray) => some (Sum.inl (v1162, (IntKind.wrap .i64 (x1150 + 1))))) (some (Sum.inr x1149))

def impl_DeedText_n4 (x1127 : ByteArray) (x1132 : List Int) (x1133 : Int) : Option (ByteArray) :=
  nloop (fun (s : ByteArray × Int) => ((impl_DeedText_n3 s.1 x1132 x1133 s.2).map (Sum.elim (fun (t : ByteArray × Int) => Sum.inl (t.1, t.2)) (fun (t : ByteArray) => Sum.inr t)) : Option ((ByteArray × Int) ⊕ (ByteArray)))) LL (x1127, 0)

def impl_DeedText_n5 (x1127 : ByteArray) (x1132 : List Int) (x1133 : Int) : Option (ByteArray) :=
  (impl_DeedText_n4 x1127 x1132 x1133).map (fun (t : ByteArray) => t)

def impl_DeedText_n6 (x1127 : ByteArray) (x1068 : Int) (x1069 : Int) (x1070 : Int) : Option (ByteArray) :=
  (impl_DeedText_n2 x1068 x1069 x1070).bind (fun (t : (List Int) × Int) => impl_DeedText_n5 x1127 t.1 t.2)

def impl_DeedText_n7 (x1149 : ByteArray) : Option (ByteArray) :=
  some x1149

def impl_DeedText_n8 (x1127 : ByteArray) (x1068 : Int) (x1069 : Int) (x1070 : Int) : Option (ByteArray) :=
  (impl_DeedText_n6 x1127 x1068 x1069 x1070).bind (fun (t : ByteArray) => impl_DeedText_n7 t)

def impl_DeedText_n9 (x1068 : Int) (x1069 : Int) (x1070 : Int) : Option (ByteArray) :=
  (impl_DeedText_n1 x1068 x1069 x1070).bind (Sum.elim (fun (t : ByteArray) => impl_DeedText_n8 t x1068 x1069 x1070) (fun e => some ((fun (t : ByteArray) => t) e)))

@[irreducible] def impl_DeedText (x1068 : Int) (x1069 : Int) (x1070 : Int) : Option (ByteArray) :=
  impl_DeedText_n9 x1068 x1069 x1070

def impl_ReadDeed_n1 (x752 : ByteArray) : Option ((Bool × Int × Int × Int)) :=
  (strings_SplitN x752 (ByteArray.mk #[32]) 3).bind fun (v1227 : Nat × (List ByteArray)) => (inb 0 (v1227.1)).bind fun (v1230 : Nat) => ((v1227.2)[(0 + v1230)]?).bind fun (v1232 : ByteArray) => (impl_kindFor v1232).bind fun (v1233 : Int) => cond (decide (((((v1227.1) : Nat) : Int)) > 1)) ((inb 1 (v1227.1)).bind fun (v1236 : Nat) => ((v1227.2)[(0 + v1236)]?).bind fun (v1238 : ByteArray) => (strconv_Atoi v1238).bind fun (v1239 : Int × Bool) => cond (decide (((((v1227.1) : Nat) : Int)) > 2)) ((inb 2 (v1227.1)).bind fun (v1244 : Nat) => ((v1227.2)[(0 + v1244)]?).bind fun (v1246 : ByteArray) => (strconv_Atoi v1246).bind fun (v1247 : Int × Bool) => cond (seqs x752 ByteArray.empty) (some (false, 0, 0, 0)) ((impl_DeedText v1233 (v1239.1) (v1247.1)).bind fun (v1251 : ByteArray) => cond (!(seqs v1251 x752)) (some (false, 0, 0, 0)) (some (true, v1233, (v1239.1), (v1247.1))))) (cond (seqs x752 ByteArray.empty) (some (false, 0, 0, 0)) ((impl_DeedText v1233 (v1239.1) 0).bind fun (v1254 : ByteArray) => cond (!(seqs v1254 x752)) (some (false, 0, 0, 0)) (some (true, v1233, (v1239.1), 0))))) (cond (decide (((((v1227.1) : Nat) : Int)) > 2)) ((inb 2 (v1227.1)).bind fun (v1258 : Nat) => ((v1227.2)[(0 + v1258)]?).bind fun (v1260 : ByteArray) => (strconv_Atoi v1260).bind fun (v1261 : Int × Bool) => cond (seqs x752 ByteArray.empty) (some (false, 0, 0, 0)) ((impl_DeedText v1233 0 (v1261.1)).bind fun (v1265 : ByteArray) => cond (!(seqs v1265 x752)) (some (false, 0, 0, 0)) (some (true, v1233, 0, (v1261.1))))) (cond (seqs x752 ByteArray.empty) (some (false, 0, 0, 0)) ((impl_DeedText v1233 0 0).bind fun (v1268 : ByteArray) => cond (!(seqs v1268 x752)) (some (false, 0, 0, 0)) (some (true, v1233, 0, 0)))))

@[irreducible] def impl_ReadDeed (x752 : ByteArray) : Option (Bool × Int × Int × Int) :=
  impl_ReadDeed_n1 x752

def laws_eqDeed_n1 (x1291 : Int) (x1292 : Int) (x1293 : Int) (x1294 : Int) (x1295 : Int) (x1296 : Int) : Option (Bool) :=
  cond (x1291 != x1294) (some false) (cond (x1292 != x1295) (some false) (cond (x1293 != x1296) (some false) (some true)))

@[irreducible] def laws_eqDeed (x1291 : Int) (x1292 : Int) (x1293 : Int) (x1294 : Int) (x1295 : Int) (x1296 : Int) : Option (Bool) :=
  laws_eqDeed_n1 x1291 x1292 x1293 x1294 x1295 x1296

def spec_ReadJournal_n1 : Option (Unit) :=
  some ()

def spec_ReadJournal_n2 : Option (Unit) :=
  some ()

def spec_ReadJournal_n3 (x1350 : ByteArray) (x1403 : Int) (x1404 : Int) (x1405 : List (Int × Int × Int × Unit)) : Option ((Int × Int × (List (Int × Int × Int × Unit))) ⊕ (Int × (List (Int × Int × Int × Unit))) ⊕ (Int × (List (Int × Int × Int × Unit)))) :=
  cond (decide (x1404 < (((ByteArray.size x1350 : Nat) : Int)))) ((bidx x1350 x1404).bind fun (v1432 : Int) => cond (v1432 == 10) ((inc x1404 (ByteArray.size x1350)).bind fun (v1435 : Nat) => (inc x1403 v1435).bind fun (v1436 : Nat) => (spec_ReadDeed (x1350.extract v1436 v1435)).bind fun (v1438 : Bool × Int × Int × Int) => cond (!(v1438.1)) (some (Sum.inr (Sum.inl (x1403, x1405)))) ((room ((List.length x1405) + List.length ([((v1438.2.1), ((v1438.2.2.1), ((v1438.2.2.2), ())))]))).bind fun (v1449 : Unit) => some (Sum.inl ((IntKind.wrap .i64 (x1404 + 1)), (IntKind.wrap .i64 (x1404 + 1)), (x1405 ++ ([((v1438.2.1), ((v1438.2.2.1), ((v1438.2.2.2), ())))])))))) (some (Sum.inl (x1403, (IntKind.wrap .i64 (x1404 + 1)), x1405)))) (some (Sum.inr (Sum.inr (x1403, x1405))))

def spec_ReadJournal_n4 (x1350 : ByteArray) : Option ((Int × (List (Int × Int × Int × Unit))) ⊕ (Int × (List (Int × Int × Int × Unit)))) :=
  nloop (fun (s : Int × Int × (List (Int × Int × Int × Unit))) => ((spec_ReadJournal_n3 x1350 s.1 s.2.1 s.2.2).map (Sum.elim (fun (t : Int × Int × (List (Int × Int × Int × Unit))) => Sum.inl (t.1, t.2.1, t.2.2)) (Sum.elim (fun (t : Int × (List (Int × Int × Int × Unit))) => Sum.inr (Sum.inl t)) (fun (t : Int × (List (Int × Int × Int × Unit))) => Sum.inr (Sum.inr t)))) : Option ((Int × Int × (List (Int × Int × Int × Unit))) ⊕ ((Int × (List (Int × Int × Int × Unit))) ⊕ (Int × (List (Int × Int × Int × Unit))))))) LL (0, 0, ([] : List (Int × Int × Int × Unit)))

def spec_ReadJournal_n5 (x1350 : ByteArray) : Option ((Int × (List (Int × Int × Int × Unit))) ⊕ (Int × (List (Int × Int × Int × Unit)))) :=
  (spec_ReadJournal_n4 x1350).map (Sum.elim (fun (t : Int × (List (Int × Int × Int × Unit))) => (Sum.inr t)) (fun (t : Int × (List (Int × Int × Int × Unit))) => (Sum.inl (t.1, t.2))))

def spec_ReadJournal_n6 (x1350 : ByteArray) : Option ((Int × (List (Int × Int × Int × Unit))) ⊕ (Int × (List (Int × Int × Int × Unit)))) :=
  (spec_ReadJournal_n2).bind (fun (t : Unit) => spec_ReadJournal_n5 x1350)

def spec_ReadJournal_n7 (x1403 : Int) (x1405 : List (Int × Int × Int × Unit)) : Option ((Int × (List (Int × Int × Int × Unit)))) :=
  some (x1403, x1405)

def spec_ReadJournal_n8 (x1350 : ByteArray) : Option ((Int × (List (Int × Int × Int × Unit)))) :=
  (spec_ReadJournal_n6 x1350).bind (Sum.elim (fun (t : Int × (List (Int × Int × Int × Unit))) => spec_ReadJournal_n7 t.1 t.2) (fun e => some ((fun (t : Int × (List (Int × Int × Int × Unit))) => t) e)))

def spec_ReadJournal_n9 (x1350 : ByteArray) : Option ((Int × (List (Int × Int × Int × Unit)))) :=
  (spec_ReadJournal_n1).bind (fun (t : Unit) => spec_ReadJournal_n8 x1350)

@[irreducible] def spec_ReadJournal (x1350 : ByteArray) : Option (Int × (List (Int × Int × Int × Unit))) :=
  spec_ReadJournal_n9 x1350

def internal_stringslite_Cut_n1 (x1472 : ByteArray) (x1473 : ByteArray) : Option ((ByteArray × ByteArray × Bool)) :=
  (internal_stringslite_Index x1472 x1473).bind fun (v1494 : Int) => cond (decide (v1494 ≥ 0)) ((inc v1494 (ByteArray.size x1472)).bind fun (v1497 : Nat) => (inc (IntKind.wrap .i64 (v1494 + (((ByteArray.size x1473 : Nat) : Int)))) (ByteArray.size x1472)).bind fun (v1502 : Nat) => some ((x1472.extract 0 v1497), (x1472.extract v1502 (ByteArray.size x1472)), true)) (some (x1472, ByteArray.empty, false))

@[irreducible] def internal_stringslite_Cut (x1472 : ByteArray) (x1473 : ByteArray) : Option (ByteArray × ByteArray × Bool) :=
  internal_stringslite_Cut_n1 x1472 x1473

def strings_Cut_n1 (x1470 : ByteArray) (x1471 : ByteArray) : Option ((ByteArray × ByteArray × Bool)) :=
  (internal_stringslite_Cut x1470 x1471).bind fun (v1511 : ByteArray × ByteArray × Bool) => some ((v1511.1), (v1511.2.1), (v1511.2.2))

@[irreducible] def strings_Cut (x1470 : ByteArray) (x1471 : ByteArray) : Option (ByteArray × ByteArray × Bool) :=
  strings_Cut_n1 x1470 x1471

def impl_ReadJournal_n1 : Option (Unit) :=
  some ()

def impl_ReadJournal_n2 (x1465 : ByteArray) (x1536 : Int) (x1537 : List (Int × Int × Int × Unit)) : Option ((Int × (List (Int × Int × Int × Unit))) ⊕ (Int × (List (Int × Int × Int × Unit)))) :=
  (inc x1536 (ByteArray.size x1465)).bind fun (v1539 : Nat) => (strings_Cut (x1465.extract v1539 (ByteArray.size x1465)) (ByteArray.mk #[10])).bind fun (v1541 : ByteArray × ByteArray × Bool) => (impl_ReadDeed (v1541.1)).bind fun (v1545 : Bool × Int × Int × Int) => cond (!(v1541.2.2)) (some (Sum.inr (x1536, x1537))) (cond (!(v1545.1)) (some (Sum.inr (x1536, x1537))) ((room ((List.length x1537) + List.length ([((v1545.2.1), ((v1545.2.2.1), ((v1545.2.2.2), ())))]))).bind fun (v1557 : Unit) => some (Sum.inl ((IntKind.wrap .i64 (x1536 + (IntKind.wrap .i64 ((((ByteArray.size (v1541.1) : Nat) : Int)) + 1)))), (x1537 ++ ([((v1545.2.1), ((v1545.2.2.1), ((v1545.2.2.2), ())))]))))))

def impl_ReadJournal_n3 (x1465 : ByteArray) : Option ((Int × (List (Int × Int × Int × Unit)))) :=
  nloop (fun (s : Int × (List (Int × Int × Int × Unit))) => ((impl_ReadJournal_n2 x1465 s.1 s.2).map (Sum.elim (fun (t : Int × (List (Int × Int × Int × Unit))) => Sum.inl (t.1, t.2)) (fun (t : Int × (List (Int × Int × Int × Unit))) => Sum.inr t)) : Option ((Int × (List (Int × Int × Int × Unit))) ⊕ ((Int × (List (Int × Int × Int × Unit))))))) LL (0, ([] : List (Int × Int × Int × Unit)))

def impl_ReadJournal_n4 (x1465 : ByteArray) : Option ((Int × (List (Int × Int × Int × Unit)))) :=
  (impl_ReadJournal_n3 x1465).map (fun (t : Int × (List (Int × Int × Int × Unit))) => t)

def impl_ReadJournal_n5 (x1465 : ByteArray) : Option ((Int × (List (Int × Int × Int × Unit)))) :=
  (impl_ReadJournal_n1).bind (fun (t : Unit) => impl_ReadJournal_n4 x1465)

@[irreducible] def impl_ReadJournal (x1465 : ByteArray) : Option (Int × (List (Int × Int × Int × Unit))) :=
  impl_ReadJournal_n5 x1465

def laws_eqDeedS_n1 (x1573 : List (Int × Int × Int × Unit)) (x1574 : List (Int × Int × Int × Unit)) : Option (Unit ⊕ Bool) :=
  cond ((((List.length x1573 : Nat) : Int)) != (((List.length x1574 : Nat) : Int))) (some (Sum.inr false)) (some (Sum.inl ()))

def laws_eqDeedS_n2 : Option (Unit) :=
  some ()

def laws_eqDeedS_n3 (x1573 : List (Int × Int × Int × Unit)) (x1574 : List (Int × Int × Int × Unit)) (x1617 : Int) : Option (Int ⊕ Bool ⊕ Unit) :=
  cond (decide (x1617 < (((List.length x1573 : Nat) : Int)))) ((idx x1573 x1617).bind fun (v1640 : Int × Int × Int × Unit) => (idx x1574 x1617).bind fun (v1647 : Int × Int × Int × Unit) => (laws_eqDeed (v1640.1) ((v1640.2).1) (((v1640.2).2).1) (v1647.1) ((v1647.2).1) (((v1647.2).2).1)).bind fun (v1654 : Bool) => cond (!v1654) (some (Sum.inr (Sum.inl false))) (some (Sum.inl (IntKind.wrap .i64 (x1617 + 1))))) (some (Sum.inr (Sum.inr ())))

def laws_eqDeedS_n4 (x1573 : List (Int × Int × Int × Unit)) (x1574 : List (Int × Int × Int × Unit)) : Option (Bool ⊕ Unit) :=
  nloop (fun (s : Int) => ((laws_eqDeedS_n3 x1573 x1574 s).map (Sum.elim (fun (t : Int) => Sum.inl t) (Sum.elim (fun (t : Bool) => Sum.inr (Sum.inl t)) (fun (t : Unit) => Sum.inr (Sum.inr t)))) : Option ((Int) ⊕ (Bool ⊕ Unit)))) LL 0

def laws_eqDeedS_n5 (x1573 : List (Int × Int × Int × Unit)) (x1574 : List (Int × Int × Int × Unit)) : Option (Unit ⊕ Bool) :=
  (laws_eqDeedS_n4 x1573 x1574).map (Sum.elim (fun (t : Bool) => (Sum.inr t)) (fun (t : Unit) => (Sum.inl ())))

def laws_eqDeedS_n6 (x1573 : List (Int × Int × Int × Unit)) (x1574 : List (Int × Int × Int × Unit)) : Option (Unit ⊕ Bool) :=
  (laws_eqDeedS_n2).bind (fun (t : Unit) => laws_eqDeedS_n5 x1573 x1574)

def laws_eqDeedS_n7 : Option (Bool) :=
  some true

def laws_eqDeedS_n8 (x1573 : List (Int × Int × Int × Unit)) (x1574 : List (Int × Int × Int × Unit)) : Option (Bool) :=
  (laws_eqDeedS_n6 x1573 x1574).bind (Sum.elim (fun (t : Unit) => laws_eqDeedS_n7) (fun e => some ((fun (t : Bool) => t) e)))

def laws_eqDeedS_n9 (x1573 : List (Int × Int × Int × Unit)) (x1574 : List (Int × Int × Int × Unit)) : Option (Bool) :=
  (laws_eqDeedS_n1 x1573 x1574).bind (Sum.elim (fun (t : Unit) => laws_eqDeedS_n8 x1573 x1574) (fun e => some ((fun (t : Bool) => t) e)))

@[irreducible] def laws_eqDeedS (x1573 : List (Int × Int × Int × Unit)) (x1574 : List (Int × Int × Int × Unit)) : Option (Bool) :=
  laws_eqDeedS_n9 x1573 x1574

def laws_markDeedS_n1 : Option (Unit) :=
  some ()

def laws_markDeedS_n2 : Option (Unit) :=
  some ()

def laws_markDeedS_n3 (x1907 : Int) (x1908 : Int) (x1909 : List (Int × Int × Int × Unit)) : Option (Unit ⊕ (Int × (List (Int × Int × Int × Unit)))) :=
  cond (decide (x1908 < (((List.length x1909 : Nat) : Int)))) (some (Sum.inl ())) (some (Sum.inr (x1907, x1909)))

def laws_markDeedS_n4 (x1907 : Int) (x1908 : Int) (x1909 : List (Int × Int × Int × Unit)) : Option ((Int × (List (Int × Int × Int × Unit)))) :=
  (inb x1908 (List.length x1909)).bind fun (v2042 : Nat) => ((x1909)[v2042]?).bind fun (v2043 : Int × Int × Int × Unit) => (inb x1908 (List.length ((x1909).set v2042 (x1907, (((v2043.2).1), ((((v2043.2).2).1), ())))))).bind fun (v2055 : Nat) => ((((x1909).set v2042 (x1907, (((v2043.2).1), ((((v2043.2).2).1), ())))))[v2055]?).bind fun (v2056 : Int × Int × Int × Unit) => some ((IntKind.wrap .i64 ((IntKind.wrap .i64 (x1907 + 1)) + 1)), ((((x1909).set v2042 (x1907, (((v2043.2).1), ((((v2043.2).2).1), ()))))).set v2055 ((v2056.1), ((IntKind.wrap .i64 (x1907 + 1)), ((((v2056.2).2).1), ())))))

def laws_markDeedS_n5 (x2067 : Int) (x1908 : Int) (x2066 : List (Int × Int × Int × Unit)) : Option (((List (Int × Int × Int × Unit)))) :=
  (inb x1908 (List.length x2066)).bind fun (v2118 : Nat) => ((x2066)[v2118]?).bind fun (v2119 : Int × Int × Int × Unit) => some ((x2066).set v2118 ((v2119.1), (((v2119.2).1), (x2067, ()))))

def laws_markDeedS_n6 (x2067 : Int) : Option (Int) :=
  some (IntKind.wrap .i64 (x2067 + 1))

def laws_markDeedS_n7 (x2067 : Int) (x1908 : Int) (x2066 : List (Int × Int × Int × Unit)) : Option ((Int × (List (Int × Int × Int × Unit)))) :=
  (laws_markDeedS_n5 x2067 x1908 x2066).bind (fun (t : (List (Int × Int × Int × Unit))) => (laws_markDeedS_n6 x2067).map (fun (u : Int) => (u, t)))

def laws_markDeedS_n8 (x1907 : Int) (x1908 : Int) (x1909 : List (Int × Int × Int × Unit)) : Option ((Int × (List (Int × Int × Int × Unit)))) :=
  (laws_markDeedS_n4 x1907 x1908 x1909).bind (fun (t : Int × (List (Int × Int × Int × Unit))) => laws_markDeedS_n7 t.1 x1908 t.2)

def laws_markDeedS_n9 (x1907 : Int) (x1908 : Int) (x1909 : List (Int × Int × Int × Unit)) : Option ((Int × (List (Int × Int × Int × Unit)))) :=
  (laws_markDeedS_n8 x1907 x1908 x1909).map (fun (t : Int × (List (Int × Int × Int × Unit))) => (t.1, t.2))

def laws_markDeedS_n10 (x1908 : Int) : Option (Int) :=
  some (IntKind.wrap .i64 (x1908 + 1))

def laws_markDeedS_n11 (x1907 : Int) (x1908 : Int) (x1909 : List (Int × Int × Int × Unit)) : Option ((Int × Int × (List (Int × Int × Int × Unit)))) :=
  (laws_markDeedS_n9 x1907 x1908 x1909).bind (fun (t : Int × (List (Int × Int × Int × Unit))) => (laws_markDeedS_n10 x1908).map (fun (u : Int) => (t.1, u, t.2)))

def laws_markDeedS_n12 (x1907 : Int) (x1908 : Int) (x1909 : List (Int × Int × Int × Unit)) : Option ((Int × Int × (List (Int × Int × Int × Unit))) ⊕ (Int × (List (Int × Int × Int × Unit)))) :=
  (laws_markDeedS_n3 x1907 x1908 x1909).bind (Sum.elim (fun (t : Unit) => (laws_markDeedS_n11 x1907 x1908 x1909).map (fun (t : Int × Int × (List (Int × Int × Int × Unit))) => (Sum.inl (t.1, t.2.1, t.2.2)))) (fun e => some ((fun (t : Int × (List (Int × Int × Int × Unit))) => (Sum.inr t)) e)))

def laws_markDeedS_n13 (x1683 : Int) (x1684 : List (Int × Int × Int × Unit)) : Option ((Int × (List (Int × Int × Int × Unit)))) :=
  nloop (fun (s : Int × Int × (List (Int × Int × Int × Unit))) => ((laws_markDeedS_n12 s.1 s.2.1 s.2.2).map (Sum.elim (fun (t : Int × Int × (List (Int × Int × Int × Unit))) => Sum.inl (t.1, t.2.1, t.2.2)) (fun (t : Int × (List (Int × Int × Int × Unit))) => Sum.inr t)) : Option ((Int × Int × (List (Int × Int × Int × Unit))) ⊕ ((Int × (List (Int × Int × Int × Unit))))))) LL (x1683, 0, x1684)

def laws_markDeedS_n14 (x1683 : Int) (x1684 : List (Int × Int × Int × Unit)) : Option ((Int × (List (Int × Int × Int × Unit)))) :=
  (laws_markDeedS_n13 x1683 x1684).map (fun (t : Int × (List (Int × Int × Int × Unit))) => (t.1, t.2))

def laws_markDeedS_n15 (x1683 : Int) (x1684 : List (Int × Int × Int × Unit)) : Option ((Int × (List (Int × Int × Int × Unit)))) :=
  (laws_markDeedS_n2).bind (fun (t : Unit) => laws_markDeedS_n14 x1683 x1684)

def laws_markDeedS_n16 (x1907 : Int) (x1909 : List (Int × Int × Int × Unit)) : Option ((Int × (List (Int × Int × Int × Unit)))) :=
  some (x1907, x1909)

def laws_markDeedS_n17 (x1683 : Int) (x1684 : List (Int × Int × Int × Unit)) : Option ((Int × (List (Int × Int × Int × Unit)))) :=
  (laws_markDeedS_n15 x1683 x1684).bind (fun (t : Int × (List (Int × Int × Int × Unit))) => laws_markDeedS_n16 t.1 t.2)

def laws_markDeedS_n18 (x1683 : Int) (x1684 : List (Int × Int × Int × Unit)) : Option ((Int × (List (Int × Int × Int × Unit)))) :=
  (laws_markDeedS_n1).bind (fun (t : Unit) => laws_markDeedS_n17 x1683 x1684)

@[irreducible] def laws_markDeedS (x1683 : Int) (x1684 : List (Int × Int × Int × Unit)) : Option (Int × (List (Int × Int × Int × Unit))) :=
  laws_markDeedS_n18 x1683 x1684

def laws_heldDeedS_n1 : Option (Unit) :=
  some ()

def laws_heldDeedS_n2 : Option (Unit) :=
  some ()

def laws_heldDeedS_n3 (x2163 : List (Int × Int × Int × Unit)) (x2226 : Int) (x2227 : Int) : Option ((Int × Int) ⊕ Int ⊕ Int) :=
  cond (decide (x2227 < (((List.length x2163 : Nat) : Int)))) ((idx x2163 x2227).bind fun (v2261 : Int × Int × Int × Unit) => cond ((v2261.1) != x2226) (some (Sum.inr (Sum.inl (-1)))) ((idx x2163 x2227).bind fun (v2270 : Int × Int × Int × Unit) => cond (((v2270.2).1) != (IntKind.wrap .i64 (x2226 + 1))) (some (Sum.inr (Sum.inl (-1)))) ((idx x2163 x2227).bind fun (v2279 : Int × Int × Int × Unit) => cond ((((v2279.2).2).1) != (IntKind.wrap .i64 ((IntKind.wrap .i64 (x2226 + 1)) + 1))) (some (Sum.inr (Sum.inl (-1)))) (some (Sum.inl ((IntKind.wrap .i64 ((IntKind.wrap .i64 ((IntKind.wrap .i64 (x2226 + 1)) + 1)) + 1)), (IntKind.wrap .i64 (x2227 + 1)))))))) (some (Sum.inr (Sum.inr x2226)))

def laws_heldDeedS_n4 (x2163 : List (Int × Int × Int × Unit)) (x2164 : Int) : Option (Int ⊕ Int) :=
  nloop (fun (s : Int × Int) => ((laws_heldDeedS_n3 x2163 s.1 s.2).map (Sum.elim (fun (t : Int × Int) => Sum.inl (t.1, t.2)) (Sum.elim (fun (t : Int) => Sum.inr (Sum.inl t)) (fun (t : Int) => Sum.inr (Sum.inr t)))) : Option ((Int × Int) ⊕ (Int ⊕ Int)))) LL (x2164, 0)

def laws_heldDeedS_n5 (x2163 : List (Int × Int × Int × Unit)) (x2164 : Int) : Option (Int ⊕ Int) :=
  (laws_heldDeedS_n4 x2163 x2164).map (Sum.elim (fun (t : Int) => (Sum.inr t)) (fun (t : Int) => (Sum.inl t)))

def laws_heldDeedS_n6 (x2163 : List (Int × Int × Int × Unit)) (x2164 : Int) : Option (Int ⊕ Int) :=
  (laws_heldDeedS_n2).bind (fun (t : Unit) => laws_heldDeedS_n5 x2163 x2164)

def laws_heldDeedS_n7 (x2226 : Int) : Option (Int) :=
  some x2226

def laws_heldDeedS_n8 (x2163 : List (Int × Int × Int × Unit)) (x2164 : Int) : Option (Int) :=
  (laws_heldDeedS_n6 x2163 x2164).bind (Sum.elim (fun (t : Int) => laws_heldDeedS_n7 t) (fun e => some ((fun (t : Int) => t) e)))

def laws_heldDeedS_n9 (x2163 : List (Int × Int × Int × Unit)) (x2164 : Int) : Option (Int) :=
  (laws_heldDeedS_n1).bind (fun (t : Unit) => laws_heldDeedS_n8 x2163 x2164)

@[irreducible] def laws_heldDeedS (x2163 : List (Int × Int × Int × Unit)) (x2164 : Int) : Option (Int) :=
  laws_heldDeedS_n9 x2163 x2164

def laws_FnExactReadJournal_n1 (x1345 : ByteArray) : Option (Bool) :=
  cond (decide ((((ByteArray.size x1345 : Nat) : Int)) > 1048576)) (some true) ((spec_ReadJournal x1345).bind fun (v2493 : Int × (List (Int × Int × Int × Unit))) => (impl_ReadJournal x1345).bind fun (v2496 : Int × (List (Int × Int × Int × Unit))) => (laws_eqDeedS (v2496.2) (v2493.2)).bind fun (v2499 : Bool) => cond (!v2499) (some false) (cond ((v2496.1) != (v2493.1)) (some false) ((laws_markDeedS 1 (v2496.2)).bind fun (v2502 : Int × (List (Int × Int × Int × Unit))) => (laws_heldDeedS (v2502.2) 1).bind fun (v2505 : Int) => cond (decide (v2505 < 0)) (some false) (cond (v2505 != (v2502.1)) (some false) ((impl_ReadJournal x1345).bind fun (v2508 : Int × (List (Int × Int × Int × Unit))) => (laws_eqDeedS (v2508.2) (v2493.2)).bind fun (v2511 : Bool) => cond (!v2511) (some false) (cond ((v2508.1) != (v2493.1)) (some false) ((laws_heldDeedS (v2502.2) 1).bind fun (v2514 : Int) => cond (decide (v2514 < 0)) (some false) (cond (v2514 != (v2502.1)) (some false) (some true)))))))))

@[irreducible] def laws_FnExactReadJournal (x1345 : ByteArray) : Option (Bool) :=
  laws_FnExactReadJournal_n1 x1345

end Go.Rv
