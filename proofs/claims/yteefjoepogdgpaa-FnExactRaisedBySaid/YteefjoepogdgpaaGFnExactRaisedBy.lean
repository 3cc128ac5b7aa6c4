/-
  Plain functions, written by program for functions of the checked code. Conditions: none.
-/
import Derived.Test.YteefjoepogdgpaaFB
set_option linter.unusedVariables false
namespace Go.Rv
def slices_Min_int_int_n1 (x17091 : List Int) : Option (Int) :=
  cond (decide ((((List.length x17091 : Nat) : Int)) < 1)) (none) ((idx x17091 0).bind fun (v17096 : Int) => some v17096)

def slices_Min_int_int_n2 : Option (Unit) :=
  some ()

def slices_Min_int_int_n3 (x17091 : List Int) (x17108 : Int) (x17109 : Int) : Option ((Int × Int) ⊕ Int) :=
  cond (decide (x17109 < (((List.length x17091 : Nat) : Int)))) ((idx x17091 x17109).bind fun (v17118 : Int) => some (Sum.inl ((imin x17108 v17118), (IntKind.wrap .i64 (x17109 + 1))))) (some (Sum.inr x17108))

def slices_Min_int_int_n4 (x17091 : List Int) (x17096 : Int) : Option (Int) :=
  nloop (fun (s : Int × Int) => ((slices_Min_int_int_n3 x17091 s.1 s.2).map (Sum.elim (fun (t : Int × Int) => Sum.inl (t.1, t.2)) (fun (t : Int) => Sum.inr t)) : Option ((Int × Int) ⊕ (Int)))) LL (x17096, 1)

def slices_Min_int_int_n5 (x17091 : List Int) (x17096 : Int) : Option (Int) :=
  (slices_Min_int_int_n4 x17091 x17096).map (fun (t : Int) => t)

def slices_Min_int_int_n6 (x17091 : List Int) (x17096 : Int) : Option (Int) :=
  (slices_Min_int_int_n2).bind (fun (t : Unit) => slices_Min_int_int_n5 x17091 x17096)

def slices_Min_int_int_n7 (x17108 : Int) : Option (Int) :=
  some x17108

def slices_Min_int_int_n8 (x17091 : List Int) (x17096 : Int) : Option (Int) :=
  (slices_Min_int_int_n6 x17091 x17096).bind (fun (t : Int) => slices_Min_int_int_n7 t)

def slices_Min_int_int_n9 (x17091 : List Int) : Option (Int) :=
  (slices_Min_int_int_n1 x17091).bind (fun (t : Int) => slices_Min_int_int_n8 x17091 t)

@[irreducible] def slices_Min_int_int (x17091 : List Int) : Option (Int) :=
  slices_Min_int_int_n9 x17091

def slices_Max_int_int_n1 (x17123 : List Int) : Option (Int) :=
  cond (decide ((((List.length x17123 : Nat) : Int)) < 1)) (none) ((idx x17123 0).bind fun (v17128 : Int) => some v17128)

def slices_Max_int_int_n2 : Option (Unit) :=
  some ()

def slices_Max_int_int_n3 (x17123 : List Int) (x17140 : Int) (x17141 : Int) : Option ((Int × Int) ⊕ Int) :=
  cond (decide (x17141 < (((List.length x17123 : Nat) : Int)))) ((idx x17123 x17141).bind fun (v17150 : Int) => some (Sum.inl ((imax x17140 v17150), (IntKind.wrap .i64 (x17141 + 1))))) (some (Sum.inr x17140))

def slices_Max_int_int_n4 (x17123 : List Int) (x17128 : Int) : Option (Int) :=
  nloop (fun (s : Int × Int) => ((slices_Max_int_int_n3 x17123 s.1 s.2).map (Sum.elim (fun (t : Int × Int) => Sum.inl (t.1, t.2)) (fun (t : Int) => Sum.inr t)) : Option ((Int × Int) ⊕ (Int)))) LL (x17128, 1)

def slices_Max_int_int_n5 (x17123 : List Int) (x17128 : Int) : Option (Int) :=
  (slices_Max_int_int_n4 x17123 x17128).map (fun (t : Int) => t)

def slices_Max_int_int_n6 (x17123 : List Int) (x17128 : Int) : Option (Int) :=
  (slices_Max_int_int_n2).bind (fun (t : Unit) => slices_Max_int_int_n5 x17123 x17128)

def slices_Max_int_int_n7 (x17140 : Int) : Option (Int) :=
  some x17140

def slices_Max_int_int_n8 (x17123 : List Int) (x17128 : Int) : Option (Int) :=
  (slices_Max_int_int_n6 x17123 x17128).bind (fun (t : Int) => slices_Max_int_int_n7 t)

def slices_Max_int_int_n9 (x17123 : List Int) : Option (Int) :=
  (slices_Max_int_int_n1 x17123).bind (fun (t : Int) => slices_Max_int_int_n8 x17123 t)

@[irreducible] def slices_Max_int_int (x17123 : List Int) : Option (Int) :=
  slices_Max_int_int_n9 x17123

def impl_scoreRowOk_n1 (x17086 : List Int) (x17087 : Int) : Option (Bool) :=
  cond ((((List.length x17086 : Nat) : Int)) == (IntKind.wrap .i64 (x17087 + 1))) ((slices_Min_int_int x17086).bind fun (v17158 : Int) => cond (decide (v17158 ≥ 0)) ((slices_Max_int_int x17086).bind fun (v17160 : Int) => some (decide (v17160 ≤ 20))) (some false)) (some false)

@[irreducible] def impl_scoreRowOk (x17086 : List Int) (x17087 : Int) : Option (Bool) :=
  impl_scoreRowOk_n1 x17086 x17087

def impl_ScoresOk_n1 (x17075 : List (List Int)) : Option (Unit ⊕ Bool) :=
  cond (decide ((((List.length x17075 : Nat) : Int)) < 1)) (some (Sum.inr false)) (cond (decide ((((List.length x17075 : Nat) : Int)) > 5)) (some (Sum.inr false)) (some (Sum.inl ())))

def impl_ScoresOk_n2 (x17075 : List (List Int)) : Option (Int) :=
  some (((List.length x17075 : Nat) : Int))

def impl_ScoresOk_n3 (x17075 : List (List Int)) (x17080 : Int) (x17171 : Int) : Option (Int ⊕ Bool ⊕ Unit) :=
  cond (decide (x17171 < x17080)) ((idx x17075 x17171).bind fun (v17180 : List Int) => (impl_scoreRowOk v17180 (((List.length x17075 : Nat) : Int))).bind fun (v17182 : Bool) => cond (!v17182) (some (Sum.inr (Sum.inl false))) (some (Sum.inl (IntKind.wrap .i64 (x17171 + 1))))) (some (Sum.inr (Sum.inr ())))

def impl_ScoresOk_n4 (x17075 : List (List Int)) (x17080 : Int) : Option (Bool ⊕ Unit) :=
  nloop (fun (s : Int) => ((impl_ScoresOk_n3 x17075 x17080 s).map (Sum.elim (fun (t : Int) => Sum.inl t) (Sum.elim (fun (t : Bool) => Sum.inr (Sum.inl t)) (fun (t : Unit) => Sum.inr (Sum.inr t)))) : Option ((Int) ⊕ (Bool ⊕ Unit)))) LL 0

def impl_ScoresOk_n5 (x17075 : List (List Int)) (x17080 : Int) : Option (Unit ⊕ Bool) :=
  (impl_ScoresOk_n4 x17075 x17080).map (Sum.elim (fun (t : Bool) => (Sum.inr t)) (fun (t : Unit) => (Sum.inl ())))

def impl_ScoresOk_n6 (x17075 : List (List Int)) : Option (Unit ⊕ Bool) :=
  (impl_ScoresOk_n2 x17075).bind (fun (t : Int) => impl_ScoresOk_n5 x17075 t)

def impl_ScoresOk_n7 : Option (Bool) :=
  some true

def impl_ScoresOk_n8 (x17075 : List (List Int)) : Option (Bool) :=
  (impl_ScoresOk_n6 x17075).bind (Sum.elim (fun (t : Unit) => impl_ScoresOk_n7) (fun e => some ((fun (t : Bool) => t) e)))

def impl_ScoresOk_n9 (x17075 : List (List Int)) : Option (Bool) :=
  (impl_ScoresOk_n1 x17075).bind (Sum.elim (fun (t : Unit) => impl_ScoresOk_n8 x17075) (fun e => some ((fun (t : Bool) => t) e)))

@[irreducible] def impl_ScoresOk (x17075 : List (List Int)) : Option (Bool) :=
  impl_ScoresOk_n9 x17075

def spec_l1In_n1 (x17212 : Int) (x17213 : Int) (x17214 : Int) : Option (Bool) :=
  cond (decide (x17212 ≥ x17213)) (some (decide (x17212 ≤ x17214))) (some false)

@[irreducible] def spec_l1In (x17212 : Int) (x17213 : Int) (x17214 : Int) : Option (Bool) :=
  spec_l1In_n1 x17212 x17213 x17214

def spec_ScoresOk_n1 : Option (Unit) :=
  some ()

def spec_ScoresOk_n2 : Option (Unit) :=
  some ()

def spec_ScoresOk_n3 (x17191 : List (List Int)) (x17250 : Int) : Option (Unit ⊕ Unit) :=
  cond (decide (x17250 < (((List.length x17191 : Nat) : Int)))) (some (Sum.inl ())) (some (Sum.inr ()))

def spec_ScoresOk_n4 (x17191 : List (List Int)) (x17250 : Int) : Option (Unit ⊕ Bool) :=
  (idx x17191 x17250).bind fun (v17258 : List Int) => cond ((((List.length v17258 : Nat) : Int)) != (IntKind.wrap .i64 ((((List.length x17191 : Nat) : Int)) + 1))) (some (Sum.inr false)) (some (Sum.inl ()))

def spec_ScoresOk_n5 (x17191 : List (List Int)) (x17250 : Int) (x17281 : Int) : Option (Int ⊕ Bool ⊕ Unit) :=
  (idx x17191 x17250).bind fun (v17292 : List Int) => cond (decide (x17281 < (((List.length v17292 : Nat) : Int)))) ((idx x17191 x17250).bind fun (v17295 : List Int) => (idx v17295 x17281).bind fun (v17296 : Int) => (spec_l1In v17296 0 20).bind fun (v17297 : Bool) => cond (!v17297) (some (Sum.inr (Sum.inl false))) (some (Sum.inl (IntKind.wrap .i64 (x17281 + 1))))) (some (Sum.inr (Sum.inr ())))

def spec_ScoresOk_n6 (x17191 : List (List Int)) (x17250 : Int) : Option (Bool ⊕ Unit) :=
  nloop (fun (s : Int) => ((spec_ScoresOk_n5 x17191 x17250 s).map (Sum.elim (fun (t : Int) => Sum.inl t) (Sum.elim (fun (t : Bool) => Sum.inr (Sum.inl t)) (fun (t : Unit) => Sum.inr (Sum.inr t)))) : Option ((Int) ⊕ (Bool ⊕ Unit)))) LL 0

def spec_ScoresOk_n7 (x17191 : List (List Int)) (x17250 : Int) : Option (Unit ⊕ Bool) :=
  (spec_ScoresOk_n6 x17191 x17250).map (Sum.elim (fun (t : Bool) => (Sum.inr t)) (fun (t : Unit) => (Sum.inl ())))

def spec_ScoresOk_n8 (x17191 : List (List Int)) (x17250 : Int) : Option (Unit ⊕ Bool) :=
  (spec_ScoresOk_n4 x17191 x17250).bind (Sum.elim (fun (t : Unit) => spec_ScoresOk_n7 x17191 x17250) (fun e => some ((fun (t : Bool) => (Sum.inr t)) e)))

def spec_ScoresOk_n9 (x17191 : List (List Int)) (x17250 : Int) : Option (Unit ⊕ Bool) :=
  (spec_ScoresOk_n8 x17191 x17250).map (Sum.elim (fun (t : Unit) => (Sum.inl ())) (fun (t : Bool) => (Sum.inr t)))

def spec_ScoresOk_n10 (x17250 : Int) : Option (Int) :=
  some (IntKind.wrap .i64 (x17250 + 1))

def spec_ScoresOk_n11 (x17191 : List (List Int)) (x17250 : Int) : Option (Int ⊕ Bool) :=
  (spec_ScoresOk_n9 x17191 x17250).bind (Sum.elim (fun (t : Unit) => (spec_ScoresOk_n10 x17250).map (fun (t : Int) => (Sum.inl t))) (fun e => some ((fun (t : Bool) => (Sum.inr t)) e)))

def spec_ScoresOk_n12 (x17191 : List (List Int)) (x17250 : Int) : Option (Int ⊕ Bool ⊕ Unit) :=
  (spec_ScoresOk_n3 x17191 x17250).bind (Sum.elim (fun (t : Unit) => (spec_ScoresOk_n11 x17191 x17250).map (Sum.elim (fun (t : Int) => (Sum.inl t)) (fun (t : Bool) => (Sum.inr (Sum.inl t))))) (fun e => some ((fun (t : Unit) => (Sum.inr (Sum.inr t))) e)))

def spec_ScoresOk_n13 (x17191 : List (List Int)) : Option (Bool ⊕ Unit) :=
  nloop (fun (s : Int) => ((spec_ScoresOk_n12 x17191 s).map (Sum.elim (fun (t : Int) => Sum.inl t) (Sum.elim (fun (t : Bool) => Sum.inr (Sum.inl t)) (fun (t : Unit) => Sum.inr (Sum.inr t)))) : Option ((Int) ⊕ (Bool ⊕ Unit)))) LL 0

def spec_ScoresOk_n14 (x17191 : List (List Int)) : Option (Unit ⊕ Bool) :=
  (spec_ScoresOk_n13 x17191).map (Sum.elim (fun (t : Bool) => (Sum.inr t)) (fun (t : Unit) => (Sum.inl ())))

def spec_ScoresOk_n15 (x17191 : List (List Int)) : Option (Unit ⊕ Bool) :=
  (spec_ScoresOk_n2).bind (fun (t : Unit) => spec_ScoresOk_n14 x17191)

def spec_ScoresOk_n16 (x17191 : List (List Int)) : Option (Bool) :=
  (spec_l1In (((List.length x17191 : Nat) : Int)) 1 5).bind fun (v17304 : Bool) => some v17304

def spec_ScoresOk_n17 (x17191 : List (List Int)) : Option (Bool) :=
  (spec_ScoresOk_n15 x17191).bind (Sum.elim (fun (t : Unit) => spec_ScoresOk_n16 x17191) (fun e => some ((fun (t : Bool) => t) e)))

def spec_ScoresOk_n18 (x17191 : List (List Int)) : Option (Bool) :=
  (spec_ScoresOk_n1).bind (fun (t : Unit) => spec_ScoresOk_n17 x17191)

@[irreducible] def spec_ScoresOk (x17191 : List (List Int)) : Option (Bool) :=
  spec_ScoresOk_n18 x17191

def slices_Clone_int_int_n1 (x19844 : List Int) : Option (((List Int))) :=
  (sure (!(List.isEmpty x19844))).bind fun (v19850 : Unit) => (room ((List.length ([] : List Int)) + List.length x19844)).bind fun (v19852 : Unit) => some (([] : List Int) ++ x19844)

@[irreducible] def slices_Clone_int_int (x19844 : List Int) : Option ((List Int)) :=
  slices_Clone_int_int_n1 x19844

def impl_RaisedBy_n1 (x19824 : List (List Int)) (x19825 : Int) : Option (((List (List Int))) ⊕ (Bool × (List (List Int)))) :=
  (impl_ScoresOk x19824).bind fun (v19956 : Bool) => cond (!v19956) (some (Sum.inr (false, ([] : List (List Int))))) (cond (decide (x19825 < 1)) (some (Sum.inr (false, ([] : List (List Int))))) (cond (decide (x19825 > (((List.length x19824 : Nat) : Int)))) (some (Sum.inr (false, ([] : List (List Int))))) ((mk (((List.length x19824 : Nat) : Int)) (((List.length x19824 : Nat) : Int))).bind fun (v19962 : Nat) => some (Sum.inl (List.replicate v19962 [])))))

def impl_RaisedBy_n2 (x19824 : List (List Int)) : Option (Int) :=
  some (((List.length x19824 : Nat) : Int))

def impl_RaisedBy_n3 (x19824 : List (List Int)) (x19964 : Int) (x19980 : Int) (x19981 : List (List Int)) : Option ((Int × (List (List Int))) ⊕ ((List (List Int)))) :=
  cond (decide (x19980 < x19964)) ((idx x19824 x19980).bind fun (v19991 : List Int) => (slices_Clone_int_int v19991).bind fun (v19992 : List Int) => (inb x19980 (List.length x19981)).bind fun (v19993 : Nat) => (within v19993 (List.length x19981)).bind fun (v19994 : Unit) => some (Sum.inl ((IntKind.wrap .i64 (x19980 + 1)), ((x19981).set v19993 v19992)))) (some (Sum.inr x19981))

def impl_RaisedBy_n4 (x19824 : List (List Int)) (x19964 : Int) (x19963 : List (List Int)) : Option (((List (List Int)))) :=
  nloop (fun (s : Int × (List (List Int))) => ((impl_RaisedBy_n3 x19824 x19964 s.1 s.2).map (Sum.elim (fun (t : Int × (List (List Int))) => Sum.inl (t.1, t.2)) (fun (t : (List (List Int))) => Sum.inr t)) : Option ((Int × (List (List Int))) ⊕ (((List (List Int))))))) LL (0, x19963)

def impl_RaisedBy_n5 (x19824 : List (List Int)) (x19964 : Int) (x19963 : List (List Int)) : Option (((List (List Int)))) :=
  (impl_RaisedBy_n4 x19824 x19964 x19963).map (fun (t : (List (List Int))) => t)

def impl_RaisedBy_n6 (x19824 : List (List Int)) (x19963 : List (List Int)) : Option (((List (List Int)))) :=
  (impl_RaisedBy_n2 x19824).bind (fun (t : Int) => impl_RaisedBy_n5 x19824 t x19963)

def impl_RaisedBy_n7 (x19825 : Int) (x19981 : List (List Int)) : Option ((Int × (List (List Int)))) :=
  (inb (IntKind.wrap .i64 (x19825 - 1)) (List.length x19981)).bind fun (v19998 : Nat) => ((x19981)[v19998]?).bind fun (v19999 : List Int) => some ((((List.length v19999 : Nat) : Int)), ((((x19981).set v19998 [])).set v19998 v19999))

def impl_RaisedBy_n8 (x19825 : Int) (x20001 : Int) (x20028 : Int) (x20029 : List (List Int)) : Option ((Int × (List (List Int))) ⊕ ((List (List Int)))) :=
  cond (decide (x20028 < x20001)) ((inb (IntKind.wrap .i64 (x19825 - 1)) (List.length x20029)).bind fun (v20045 : Nat) => ((x20029)[v20045]?).bind fun (v20046 : List Int) => (inb x20028 (List.length v20046)).bind fun (v20048 : Nat) => (v20046[v20048]?).bind fun (v20049 : Int) => (inb x20028 (List.length v20046)).bind fun (v20051 : Nat) => some (Sum.inl ((IntKind.wrap .i64 (x20028 + 1)), ((((x20029).set v20045 [])).set v20045 (v20046.set v20051 (IntKind.wrap .i64 (v20049 + 1))))))) (some (Sum.inr x20029))

def impl_RaisedBy_n9 (x19825 : Int) (x20001 : Int) (x20002 : List (List Int)) : Option (((List (List Int)))) :=
  nloop (fun (s : Int × (List (List Int))) => ((impl_RaisedBy_n8 x19825 x20001 s.1 s.2).map (Sum.elim (fun (t : Int × (List (List Int))) => Sum.inl (t.1, t.2)) (fun (t : (List (List Int))) => Sum.inr t)) : Option ((Int × (List (List Int))) ⊕ (((List (List Int))))))) LL (0, x20002)

def impl_RaisedBy_n10 (x19825 : Int) (x20001 : Int) (x20002 : List (List Int)) : Option (((List (List Int)))) :=
  (impl_RaisedBy_n9 x19825 x20001 x20002).map (fun (t : (List (List Int))) => t)

def impl_RaisedBy_n11 (x19825 : Int) (x19981 : List (List Int)) : Option (((List (List Int)))) :=
  (impl_RaisedBy_n7 x19825 x19981).bind (fun (t : Int × (List (List Int))) => impl_RaisedBy_n10 x19825 t.1 t.2)

def impl_RaisedBy_n12 (x20029 : List (List Int)) : Option ((Bool × (List (List Int)))) :=
  (impl_ScoresOk x20029).bind fun (v20059 : Bool) => cond (!v20059) (some (false, ([] : List (List Int)))) (some (true, x20029))

def impl_RaisedBy_n13 (x19825 : Int) (x19981 : List (List Int)) : Option ((Bool × (List (List Int)))) :=
  (impl_RaisedBy_n11 x19825 x19981).bind (fun (t : (List (List Int))) => impl_RaisedBy_n12 t)

def impl_RaisedBy_n14 (x19824 : List (List Int)) (x19825 : Int) (x19963 : List (List Int)) : Option ((Bool × (List (List Int)))) :=
  (impl_RaisedBy_n6 x19824 x19963).bind (fun (t : (List (List Int))) => impl_RaisedBy_n13 x19825 t)

def impl_RaisedBy_n15 (x19824 : List (List Int)) (x19825 : Int) : Option ((Bool × (List (List Int)))) :=
  (impl_RaisedBy_n1 x19824 x19825).bind (Sum.elim (fun (t : (List (List Int))) => impl_RaisedBy_n14 x19824 x19825 t) (fun e => some ((fun (t : Bool × (List (List Int))) => t) e)))

@[irreducible] def impl_RaisedBy (x19824 : List (List Int)) (x19825 : Int) : Option (Bool × (List (List Int))) :=
  impl_RaisedBy_n15 x19824 x19825

def spec_RaisedBy_n1 (x20074 : List (List Int)) (x20075 : Int) : Option (Unit ⊕ (Bool × (List (List Int)))) :=
  (spec_ScoresOk x20074).bind fun (v20081 : Bool) => cond (!v20081) (some (Sum.inr (false, ([] : List (List Int))))) ((spec_l1In x20075 1 (((List.length x20074 : Nat) : Int))).bind fun (v20084 : Bool) => cond (!v20084) (some (Sum.inr (false, ([] : List (List Int))))) (some (Sum.inl ())))

def spec_RaisedBy_n2 : Option (Unit) :=
  some ()

def spec_RaisedBy_n3 (x20074 : List (List Int)) (x20179 : Int) (x20180 : List (List Int)) : Option (Unit ⊕ ((List (List Int)))) :=
  cond (decide (x20179 < (((List.length x20074 : Nat) : Int)))) (some (Sum.inl ())) (some (Sum.inr x20180))

def spec_RaisedBy_n4 : Option (Unit) :=
  some ()

def spec_RaisedBy_n5 : Option (Unit) :=
  some ()

def spec_RaisedBy_n6 (x20074 : List (List Int)) (x20075 : Int) (x20179 : Int) (x20226 : Int) (x20227 : List Int) : Option ((Int × (List Int)) ⊕ ((List Int))) :=
  (idx x20074 x20179).bind fun (v20249 : List Int) => cond (decide (x20226 < (((List.length v20249 : Nat) : Int)))) (cond (x20179 == (IntKind.wrap .i64 (x20075 - 1))) ((idx x20074 x20179).bind fun (v20254 : List Int) => (idx v20254 x20226).bind fun (v20255 : Int) => (room ((List.length x20227) + List.length ([(IntKind.wrap .i64 (v20255 + 1))]))).bind fun (v20259 : Unit) => some (Sum.inl ((IntKind.wrap .i64 (x20226 + 1)), (x20227 ++ ([(IntKind.wrap .i64 (v20255 + 1))]))))) ((idx x20074 x20179).bind fun (v20262 : List Int) => (idx v20262 x20226).bind fun (v20263 : Int) => (room ((List.length x20227) + List.length ([v20263]))).bind fun (v20266 : Unit) => some (Sum.inl ((IntKind.wrap .i64 (x20226 + 1)), (x20227 ++ ([v20263])))))) (some (Sum.inr x20227))

def spec_RaisedBy_n7 (x20074 : List (List Int)) (x20075 : Int) (x20179 : Int) : Option (((List Int))) :=
  nloop (fun (s : Int × (List Int)) => ((spec_RaisedBy_n6 x20074 x20075 x20179 s.1 s.2).map (Sum.elim (fun (t : Int × (List Int)) => Sum.inl (t.1, t.2)) (fun (t : (List Int)) => Sum.inr t)) : Option ((Int × (List Int)) ⊕ (((List Int)))))) LL (0, ([] : List Int))

def spec_RaisedBy_n8 (x20074 : List (List Int)) (x20075 : Int) (x20179 : Int) : Option (((List Int))) :=
  (spec_RaisedBy_n7 x20074 x20075 x20179).map (fun (t : (List Int)) => t)

def spec_RaisedBy_n9 (x20074 : List (List Int)) (x20075 : Int) (x20179 : Int) : Option (((List Int))) :=
  (spec_RaisedBy_n5).bind (fun (t : Unit) => spec_RaisedBy_n8 x20074 x20075 x20179)

def spec_RaisedBy_n10 (x20180 : List (List Int)) (x20227 : List Int) : Option (((List (List Int)))) :=
  (room (List.length x20180 + 1)).bind fun (v20271 : Unit) => some ((x20180 ++ [[]]).set (List.length x20180) x20227)

def spec_RaisedBy_n11 (x20074 : List (List Int)) (x20075 : Int) (x20179 : Int) (x20180 : List (List Int)) : Option (((List (List Int)))) :=
  (spec_RaisedBy_n9 x20074 x20075 x20179).bind (fun (t : (List Int)) => spec_RaisedBy_n10 x20180 t)

def spec_RaisedBy_n12 (x20074 : List (List Int)) (x20075 : Int) (x20179 : Int) (x20180 : List (List Int)) : Option (((List (List Int)))) :=
  (spec_RaisedBy_n4).bind (fun (t : Unit) => spec_RaisedBy_n11 x20074 x20075 x20179 x20180)

def spec_RaisedBy_n13 (x20074 : List (List Int)) (x20075 : Int) (x20179 : Int) (x20180 : List (List Int)) : Option (((List (List Int)))) :=
  (spec_RaisedBy_n12 x20074 x20075 x20179 x20180).map (fun (t : (List (List Int))) => t)

def spec_RaisedBy_n14 (x20179 : Int) : Option (Int) :=
  some (IntKind.wrap .i64 (x20179 + 1))

def spec_RaisedBy_n15 (x20074 : List (List Int)) (x20075 : Int) (x20179 : Int) (x20180 : List (List Int)) : Option ((Int × (List (List Int)))) :=
  (spec_RaisedBy_n13 x20074 x20075 x20179 x20180).bind (fun (t : (List (List Int))) => (spec_RaisedBy_n14 x20179).map (fun (u : Int) => (u, t)))

def spec_RaisedBy_n16 (x20074 : List (List Int)) (x20075 : Int) (x20179 : Int) (x20180 : List (List Int)) : Option ((Int × (List (List Int))) ⊕ ((List (List Int)))) :=
  (spec_RaisedBy_n3 x20074 x20179 x20180).bind (Sum.elim (fun (t : Unit) => (spec_RaisedBy_n15 x20074 x20075 x20179 x20180).map (fun (t : Int × (List (List Int))) => (Sum.inl (t.1, t.2)))) (fun e => some ((fun (t : (List (List Int))) => (Sum.inr t)) e)))

def spec_RaisedBy_n17 (x20074 : List (List Int)) (x20075 : Int) : Option (((List (List Int)))) :=
  nloop (fun (s : Int × (List (List Int))) => ((spec_RaisedBy_n16 x20074 x20075 s.1 s.2).map (Sum.elim (fun (t : Int × (List (List Int))) => Sum.inl (t.1, t.2)) (fun (t : (List (List Int))) => Sum.inr t)) : Option ((Int × (List (List Int))) ⊕ (((List (List Int))))))) LL (0, ([] : List (List Int)))

def spec_RaisedBy_n18 (x20074 : List (List Int)) (x20075 : Int) : Option (((List (List Int)))) :=
  (spec_RaisedBy_n17 x20074 x20075).map (fun (t : (List (List Int))) => t)

def spec_RaisedBy_n19 (x20074 : List (List Int)) (x20075 : Int) : Option (((List (List Int)))) :=
  (spec_RaisedBy_n2).bind (fun (t : Unit) => spec_RaisedBy_n18 x20074 x20075)

def spec_RaisedBy_n20 (x20180 : List (List Int)) : Option ((Bool × (List (List Int)))) :=
  (spec_ScoresOk x20180).bind fun (v20278 : Bool) => cond (!v20278) (some (false, ([] : List (List Int)))) (some (true, x20180))

def spec_RaisedBy_n21 (x20074 : List (List Int)) (x20075 : Int) : Option ((Bool × (List (List Int)))) :=
  (spec_RaisedBy_n19 x20074 x20075).bind (fun (t : (List (List Int))) => spec_RaisedBy_n20 t)

def spec_RaisedBy_n22 (x20074 : List (List Int)) (x20075 : Int) : Option ((Bool × (List (List Int)))) :=
  (spec_RaisedBy_n1 x20074 x20075).bind (Sum.elim (fun (t : Unit) => spec_RaisedBy_n21 x20074 x20075) (fun e => some ((fun (t : Bool × (List (List Int))) => t) e)))

@[irreducible] def spec_RaisedBy (x20074 : List (List Int)) (x20075 : Int) : Option (Bool × (List (List Int))) :=
  spec_RaisedBy_n22 x20074 x20075

def laws_szIntS_n1 (x20454 : List Int) (x20455 : Int) : Option (Int) :=
  cond (decide ((IntKind.wrap .i64 (x20455 - (((List.length x20454 : Nat) : Int)))) < 0)) (some (-1)) (some (IntKind.wrap .i64 (x20455 - (((List.length x20454 : Nat) : Int)))))

@[irreducible] def laws_szIntS (x20454 : List Int) (x20455 : Int) : Option (Int) :=
  laws_szIntS_n1 x20454 x20455

def laws_szIntSS_n1 (x20442 : List (List Int)) (x20443 : Int) : Option (Int ⊕ Int) :=
  cond (decide ((IntKind.wrap .i64 (x20443 - (((List.length x20442 : Nat) : Int)))) < 0)) (some (Sum.inr (-1))) (some (Sum.inl (IntKind.wrap .i64 (x20443 - (((List.length x20442 : Nat) : Int))))))

def laws_szIntSS_n2 : Option (Unit) :=
  some ()

def laws_szIntSS_n3 (x20442 : List (List Int)) (x20476 : Int) (x20477 : Int) : Option ((Int × Int) ⊕ Int ⊕ Int) :=
  cond (decide (x20477 < (((List.length x20442 : Nat) : Int)))) ((idx x20442 x20477).bind fun (v20487 : List Int) => (laws_szIntS v20487 x20476).bind fun (v20488 : Int) => cond (decide (v20488 < 0)) (some (Sum.inr (Sum.inl (-1)))) (some (Sum.inl (v20488, (IntKind.wrap .i64 (x20477 + 1)))))) (some (Sum.inr (Sum.inr x20476)))

def laws_szIntSS_n4 (x20442 : List (List Int)) (x20447 : Int) : Option (Int ⊕ Int) :=
  nloop (fun (s : Int × Int) => ((laws_szIntSS_n3 x20442 s.1 s.2).map (Sum.elim (fun (t : Int × Int) => Sum.inl (t.1, t.2)) (Sum.elim (fun (t : Int) => Sum.inr (Sum.inl t)) (fun (t : Int) => Sum.inr (Sum.inr t)))) : Option ((Int × Int) ⊕ (Int ⊕ Int)))) LL (x20447, 0)

def laws_szIntSS_n5 (x20442 : List (List Int)) (x20447 : Int) : Option (Int ⊕ Int) :=
  (laws_szIntSS_n4 x20442 x20447).map (Sum.elim (fun (t : Int) => (Sum.inr t)) (fun (t : Int) => (Sum.inl t)))

def laws_szIntSS_n6 (x20442 : List (List Int)) (x20447 : Int) : Option (Int ⊕ Int) :=
  (laws_szIntSS_n2).bind (fun (t : Unit) => laws_szIntSS_n5 x20442 x20447)

def laws_szIntSS_n7 (x20476 : Int) : Option (Int) :=
  some x20476

def laws_szIntSS_n8 (x20442 : List (List Int)) (x20447 : Int) : Option (Int) :=
  (laws_szIntSS_n6 x20442 x20447).bind (Sum.elim (fun (t : Int) => laws_szIntSS_n7 t) (fun e => some ((fun (t : Int) => t) e)))

def laws_szIntSS_n9 (x20442 : List (List Int)) (x20443 : Int) : Option (Int) :=
  (laws_szIntSS_n1 x20442 x20443).bind (Sum.elim (fun (t : Int) => laws_szIntSS_n8 x20442 t) (fun e => some ((fun (t : Int) => t) e)))

@[irreducible] def laws_szIntSS (x20442 : List (List Int)) (x20443 : Int) : Option (Int) :=
  laws_szIntSS_n9 x20442 x20443

def laws_toIntS_n1 (x20506 : List Int) : Option (((List Int))) :=
  (mk (((List.length x20506 : Nat) : Int)) (((List.length x20506 : Nat) : Int))).bind fun (v20508 : Nat) => some (List.replicate v20508 (0 : Int))

def laws_toIntS_n2 : Option (Unit) :=
  some ()

def laws_toIntS_n3 (x20506 : List Int) (x20523 : Int) (x20524 : List Int) : Option ((Int × (List Int)) ⊕ ((List Int))) :=
  cond (decide (x20523 < (((List.length x20506 : Nat) : Int)))) ((idx x20506 x20523).bind fun (v20534 : Int) => (inb x20523 (List.length x20524)).bind fun (v20535 : Nat) => some (Sum.inl ((IntKind.wrap .i64 (x20523 + 1)), (x20524.set v20535 v20534)))) (some (Sum.inr x20524))

def laws_toIntS_n4 (x20506 : List Int) (x20509 : List Int) : Option (((List Int))) :=
  nloop (fun (s : Int × (List Int)) => ((laws_toIntS_n3 x20506 s.1 s.2).map (Sum.elim (fun (t : Int × (List Int)) => Sum.inl (t.1, t.2)) (fun (t : (List Int)) => Sum.inr t)) : Option ((Int × (List Int)) ⊕ (((List Int)))))) LL (0, x20509)

def laws_toIntS_n5 (x20506 : List Int) (x20509 : List Int) : Option (((List Int))) :=
  (laws_toIntS_n4 x20506 x20509).map (fun (t : (List Int)) => t)

def laws_toIntS_n6 (x20506 : List Int) (x20509 : List Int) : Option (((List Int))) :=
  (laws_toIntS_n2).bind (fun (t : Unit) => laws_toIntS_n5 x20506 x20509)

def laws_toIntS_n7 (x20524 : List Int) : Option (((List Int))) :=
  some x20524

def laws_toIntS_n8 (x20506 : List Int) (x20509 : List Int) : Option (((List Int))) :=
  (laws_toIntS_n6 x20506 x20509).bind (fun (t : (List Int)) => laws_toIntS_n7 t)

def laws_toIntS_n9 (x20506 : List Int) : Option (((List Int))) :=
  (laws_toIntS_n1 x20506).bind (fun (t : (List Int)) => laws_toIntS_n8 x20506 t)

@[irreducible] def laws_toIntS (x20506 : List Int) : Option ((List Int)) :=
  laws_toIntS_n9 x20506

def laws_toIntSS_n1 (x20497 : List (List Int)) : Option (((List (List Int)))) :=
  (mk (((List.length x20497 : Nat) : Int)) (((List.length x20497 : Nat) : Int))).bind fun (v20499 : Nat) => some (List.replicate v20499 [])

def laws_toIntSS_n2 : Option (Unit) :=
  some ()

def laws_toIntSS_n3 (x20497 : List (List Int)) (x20550 : Int) (x20551 : List (List Int)) : Option ((Int × (List (List Int))) ⊕ ((List (List Int)))) :=
  cond (decide (x20550 < (((List.length x20497 : Nat) : Int)))) ((idx x20497 x20550).bind fun (v20563 : List Int) => (laws_toIntS v20563).bind fun (v20564 : List Int) => (inb x20550 (List.length x20551)).bind fun (v20565 : Nat) => (within v20565 (List.length x20551)).bind fun (v20566 : Unit) => some (Sum.inl ((IntKind.wrap .i64 (x20550 + 1)), ((x20551).set v20565 v20564)))) (some (Sum.inr x20551))

def laws_toIntSS_n4 (x20497 : List (List Int)) (x20500 : List (List Int)) : Option (((List (List Int)))) :=
  nloop (fun (s : Int × (List (List Int))) => ((laws_toIntSS_n3 x20497 s.1 s.2).map (Sum.elim (fun (t : Int × (List (List Int))) => Sum.inl (t.1, t.2)) (fun (t : (List (List Int))) => Sum.inr t)) : Option ((Int × (List (List Int))) ⊕ (((List (List Int))))))) LL (0, x20500)

def laws_toIntSS_n5 (x20497 : List (List Int)) (x20500 : List (List Int)) : Option (((List (List Int)))) :=
  (laws_toIntSS_n4 x20497 x20500).map (fun (t : (List (List Int))) => t)

def laws_toIntSS_n6 (x20497 : List (List Int)) (x20500 : List (List Int)) : Option (((List (List Int)))) :=
  (laws_toIntSS_n2).bind (fun (t : Unit) => laws_toIntSS_n5 x20497 x20500)

def laws_toIntSS_n7 (x20551 : List (List Int)) : Option (((List (List Int)))) :=
  some x20551

def laws_toIntSS_n8 (x20497 : List (List Int)) (x20500 : List (List Int)) : Option (((List (List Int)))) :=
  (laws_toIntSS_n6 x20497 x20500).bind (fun (t : (List (List Int))) => laws_toIntSS_n7 t)

def laws_toIntSS_n9 (x20497 : List (List Int)) : Option (((List (List Int)))) :=
  (laws_toIntSS_n1 x20497).bind (fun (t : (List (List Int))) => laws_toIntSS_n8 x20497 t)

@[irreducible] def laws_toIntSS (x20497 : List (List Int)) : Option ((List (List Int))) :=
  laws_toIntSS_n9 x20497

def laws_eqIntS_n1 (x20608 : List Int) (x20609 : List Int) : Option (Unit ⊕ Bool) :=
  cond ((((List.length x20608 : Nat) : Int)) != (((List.length x20609 : Nat) : Int))) (some (Sum.inr false)) (some (Sum.inl ()))

def laws_eqIntS_n2 : Option (Unit) :=
  some ()

def laws_eqIntS_n3 (x20608 : List Int) (x20609 : List Int) (x20626 : Int) : Option (Int ⊕ Bool ⊕ Unit) :=
  cond (decide (x20626 < (((List.length x20608 : Nat) : Int)))) ((idx x20608 x20626).bind fun (v20636 : Int) => (idx x20609 x20626).bind fun (v20637 : Int) => cond (v20636 != v20637) (some (Sum.inr (Sum.inl false))) (some (Sum.inl (IntKind.wrap .i64 (x20626 + 1))))) (some (Sum.inr (Sum.inr ())))

def laws_eqIntS_n4 (x20608 : List Int) (x20609 : List Int) : Option (Bool ⊕ Unit) :=
  nloop (fun (s : Int) => ((laws_eqIntS_n3 x20608 x20609 s).map (Sum.elim (fun (t : Int) => Sum.inl t) (Sum.elim (fun (t : Bool) => Sum.inr (Sum.inl t)) (fun (t : Unit) => Sum.inr (Sum.inr t)))) : Option ((Int) ⊕ (Bool ⊕ Unit)))) LL 0

def laws_eqIntS_n5 (x20608 : List Int) (x20609 : List Int) : Option (Unit ⊕ Bool) :=
  (laws_eqIntS_n4 x20608 x20609).map (Sum.elim (fun (t : Bool) => (Sum.inr t)) (fun (t : Unit) => (Sum.inl ())))

def laws_eqIntS_n6 (x20608 : List Int) (x20609 : List Int) : Option (Unit ⊕ Bool) :=
  (laws_eqIntS_n2).bind (fun (t : Unit) => laws_eqIntS_n5 x20608 x20609)

def laws_eqIntS_n7 : Option (Bool) :=
  some true

def laws_eqIntS_n8 (x20608 : List Int) (x20609 : List Int) : Option (Bool) :=
  (laws_eqIntS_n6 x20608 x20609).bind (Sum.elim (fun (t : Unit) => laws_eqIntS_n7) (fun e => some ((fun (t : Bool) => t) e)))

def laws_eqIntS_n9 (x20608 : List Int) (x20609 : List Int) : Option (Bool) :=
  (laws_eqIntS_n1 x20608 x20609).bind (Sum.elim (fun (t : Unit) => laws_eqIntS_n8 x20608 x20609) (fun e => some ((fun (t : Bool) => t) e)))

@[irreducible] def laws_eqIntS (x20608 : List Int) (x20609 : List Int) : Option (Bool) :=
  laws_eqIntS_n9 x20608 x20609

def laws_eqIntSS_n1 (x20597 : List (List Int)) (x20598 : List (List Int)) : Option (Unit ⊕ Bool) :=
  cond ((((List.length x20597 : Nat) : Int)) != (((List.length x20598 : Nat) : Int))) (some (Sum.inr false)) (some (Sum.inl ()))

def laws_eqIntSS_n2 : Option (Unit) :=
  some ()

def laws_eqIntSS_n3 (x20597 : List (List Int)) (x20598 : List (List Int)) (x20650 : Int) : Option (Int ⊕ Bool ⊕ Unit) :=
  cond (decide (x20650 < (((List.length x20597 : Nat) : Int)))) ((idx x20597 x20650).bind fun (v20661 : List Int) => (idx x20598 x20650).bind fun (v20662 : List Int) => (laws_eqIntS v20661 v20662).bind fun (v20663 : Bool) => cond (!v20663) (some (Sum.inr (Sum.inl false))) (some (Sum.inl (IntKind.wrap .i64 (x20650 + 1))))) (some (Sum.inr (Sum.inr ())))

def laws_eqIntSS_n4 (x20597 : List (List Int)) (x20598 : List (List Int)) : Option (Bool ⊕ Unit) :=
  nloop (fun (s : Int) => ((laws_eqIntSS_n3 x20597 x20598 s).map (Sum.elim (fun (t : Int) => Sum.inl t) (Sum.elim (fun (t : Bool) => Sum.inr (Sum.inl t)) (fun (t : Unit) => Sum.inr (Sum.inr t)))) : Option ((Int) ⊕ (Bool ⊕ Unit)))) LL 0

def laws_eqIntSS_n5 (x20597 : List (List Int)) (x20598 : List (List Int)) : Option (Unit ⊕ Bool) :=
  (laws_eqIntSS_n4 x20597 x20598).map (Sum.elim (fun (t : Bool) => (Sum.inr t)) (fun (t : Unit) => (Sum.inl ())))

def laws_eqIntSS_n6 (x20597 : List (List Int)) (x20598 : List (List Int)) : Option (Unit ⊕ Bool) :=
  (laws_eqIntSS_n2).bind (fun (t : Unit) => laws_eqIntSS_n5 x20597 x20598)

def laws_eqIntSS_n7 : Option (Bool) :=
  some true

def laws_eqIntSS_n8 (x20597 : List (List Int)) (x20598 : List (List Int)) : Option (Bool) :=
  (laws_eqIntSS_n6 x20597 x20598).bind (Sum.elim (fun (t : Unit) => laws_eqIntSS_n7) (fun e => some ((fun (t : Bool) => t) e)))

def laws_eqIntSS_n9 (x20597 : List (List Int)) (x20598 : List (List Int)) : Option (Bool) :=
  (laws_eqIntSS_n1 x20597 x20598).bind (Sum.elim (fun (t : Unit) => laws_eqIntSS_n8 x20597 x20598) (fun e => some ((fun (t : Bool) => t) e)))

@[irreducible] def laws_eqIntSS (x20597 : List (List Int)) (x20598 : List (List Int)) : Option (Bool) :=
  laws_eqIntSS_n9 x20597 x20598

def laws_markIntS_n1 : Option (Unit) :=
  some ()

def laws_markIntS_n2 : Option (Unit) :=
  some ()

def laws_markIntS_n3 (x21047 : Int) (x21048 : Int) (x21049 : List Int) : Option ((Int × Int × (List Int)) ⊕ (Int × (List Int))) :=
  cond (decide (x21048 < (((List.length x21049 : Nat) : Int)))) ((inb x21048 (List.length x21049)).bind fun (v21059 : Nat) => some (Sum.inl ((IntKind.wrap .i64 (x21047 + 1)), (IntKind.wrap .i64 (x21048 + 1)), (x21049.set v21059 x21047)))) (some (Sum.inr (x21047, x21049)))

def laws_markIntS_n4 (x21032 : Int) (x21033 : List Int) : Option ((Int × (List Int))) :=
  nloop (fun (s : Int × Int × (List Int)) => ((laws_markIntS_n3 s.1 s.2.1 s.2.2).map (Sum.elim (fun (t : Int × Int × (List Int)) => Sum.inl (t.1, t.2.1, t.2.2)) (fun (t : Int × (List Int)) => Sum.inr t)) : Option ((Int × Int × (List Int)) ⊕ ((Int × (List Int)))))) LL (x21032, 0, x21033)

def laws_markIntS_n5 (x21032 : Int) (x21033 : List Int) : Option ((Int × (List Int))) :=
  (laws_markIntS_n4 x21032 x21033).map (fun (t : Int × (List Int)) => (t.1, t.2))

def laws_markIntS_n6 (x21032 : Int) (x21033 : List Int) : Option ((Int × (List Int))) :=
  (laws_markIntS_n2).bind (fun (t : Unit) => laws_markIntS_n5 x21032 x21033)

def laws_markIntS_n7 (x21047 : Int) (x21049 : List Int) : Option ((Int × (List Int))) :=
  some (x21047, x21049)

def laws_markIntS_n8 (x21032 : Int) (x21033 : List Int) : Option ((Int × (List Int))) :=
  (laws_markIntS_n6 x21032 x21033).bind (fun (t : Int × (List Int)) => laws_markIntS_n7 t.1 t.2)

def laws_markIntS_n9 (x21032 : Int) (x21033 : List Int) : Option ((Int × (List Int))) :=
  (laws_markIntS_n1).bind (fun (t : Unit) => laws_markIntS_n8 x21032 x21033)

@[irreducible] def laws_markIntS (x21032 : Int) (x21033 : List Int) : Option (Int × (List Int)) :=
  laws_markIntS_n9 x21032 x21033

def laws_markIntSS_n1 : Option (Unit) :=
  some ()

def laws_markIntSS_n2 : Option (Unit) :=
  some ()

def laws_markIntSS_n3 (x21087 : Int) (x21088 : Int) (x21089 : List (List Int)) : Option ((Int × Int × (List (List Int))) ⊕ (Int × (List (List Int)))) :=
  cond (decide (x21088 < (((List.length x21089 : Nat) : Int)))) ((inb x21088 (List.length x21089)).bind fun (v21103 : Nat) => ((x21089)[v21103]?).bind fun (v21104 : List Int) => (laws_markIntS x21087 v21104).bind fun (v21106 : Int × (List Int)) => some (Sum.inl ((v21106.1), (IntKind.wrap .i64 (x21088 + 1)), ((((x21089).set v21103 [])).set v21103 (v21106.2))))) (some (Sum.inr (x21087, x21089)))

def laws_markIntSS_n4 (x21023 : Int) (x21024 : List (List Int)) : Option ((Int × (List (List Int)))) :=
  nloop (fun (s : Int × Int × (List (List Int))) => ((laws_markIntSS_n3 s.1 s.2.1 s.2.2).map (Sum.elim (fun (t : Int × Int × (List (List Int))) => Sum.inl (t.1, t.2.1, t.2.2)) (fun (t : Int × (List (List Int))) => Sum.inr t)) : Option ((Int × Int × (List (List Int))) ⊕ ((Int × (List (List Int))))))) LL (x21023, 0, x21024)

def laws_markIntSS_n5 (x21023 : Int) (x21024 : List (List Int)) : Option ((Int × (List (List Int)))) :=
  (laws_markIntSS_n4 x21023 x21024).map (fun (t : Int × (List (List Int))) => (t.1, t.2))

def laws_markIntSS_n6 (x21023 : Int) (x21024 : List (List Int)) : Option ((Int × (List (List Int)))) :=
  (laws_markIntSS_n2).bind (fun (t : Unit) => laws_markIntSS_n5 x21023 x21024)

def laws_markIntSS_n7 (x21087 : Int) (x21089 : List (List Int)) : Option ((Int × (List (List Int)))) :=
  some (x21087, x21089)

def laws_markIntSS_n8 (x21023 : Int) (x21024 : List (List Int)) : Option ((Int × (List (List Int)))) :=
  (laws_markIntSS_n6 x21023 x21024).bind (fun (t : Int × (List (List Int))) => laws_markIntSS_n7 t.1 t.2)

def laws_markIntSS_n9 (x21023 : Int) (x21024 : List (List Int)) : Option ((Int × (List (List Int)))) :=
  (laws_markIntSS_n1).bind (fun (t : Unit) => laws_markIntSS_n8 x21023 x21024)

@[irreducible] def laws_markIntSS (x21023 : Int) (x21024 : List (List Int)) : Option (Int × (List (List Int))) :=
  laws_markIntSS_n9 x21023 x21024

def laws_heldIntS_n1 : Option (Unit) :=
  some ()

def laws_heldIntS_n2 : Option (Unit) :=
  some ()

def laws_heldIntS_n3 (x21245 : List Int) (x21260 : Int) (x21261 : Int) : Option ((Int × Int) ⊕ Int ⊕ Int) :=
  cond (decide (x21261 < (((List.length x21245 : Nat) : Int)))) ((idx x21245 x21261).bind fun (v21271 : Int) => cond (v21271 != x21260) (some (Sum.inr (Sum.inl (-1)))) (some (Sum.inl ((IntKind.wrap .i64 (x21260 + 1)), (IntKind.wrap .i64 (x21261 + 1)))))) (some (Sum.inr (Sum.inr x21260)))

def laws_heldIntS_n4 (x21245 : List Int) (x21246 : Int) : Option (Int ⊕ Int) :=
  nloop (fun (s : Int × Int) => ((laws_heldIntS_n3 x21245 s.1 s.2).map (Sum.elim (fun (t : Int × Int) => Sum.inl (t.1, t.2)) (Sum.elim (fun (t : Int) => Sum.inr (Sum.inl t)) (fun (t : Int) => Sum.inr (Sum.inr t)))) : Option ((Int × Int) ⊕ (Int ⊕ Int)))) LL (x21246, 0)

def laws_heldIntS_n5 (x21245 : List Int) (x21246 : Int) : Option (Int ⊕ Int) :=
  (laws_heldIntS_n4 x21245 x21246).map (Sum.elim (fun (t : Int) => (Sum.inr t)) (fun (t : Int) => (Sum.inl t)))

def laws_heldIntS_n6 (x21245 : List Int) (x21246 : Int) : Option (Int ⊕ Int) :=
  (laws_heldIntS_n2).bind (fun (t : Unit) => laws_heldIntS_n5 x21245 x21246)

def laws_heldIntS_n7 (x21260 : Int) : Option (Int) :=
  some x21260

def laws_heldIntS_n8 (x21245 : List Int) (x21246 : Int) : Option (Int) :=
  (laws_heldIntS_n6 x21245 x21246).bind (Sum.elim (fun (t : Int) => laws_heldIntS_n7 t) (fun e => some ((fun (t : Int) => t) e)))

def laws_heldIntS_n9 (x21245 : List Int) (x21246 : Int) : Option (Int) :=
  (laws_heldIntS_n1).bind (fun (t : Unit) => laws_heldIntS_n8 x21245 x21246)

@[irreducible] def laws_heldIntS (x21245 : List Int) (x21246 : Int) : Option (Int) :=
  laws_heldIntS_n9 x21245 x21246

def laws_heldIntSS_n1 : Option (Unit) :=
  some ()

def laws_heldIntSS_n2 : Option (Unit) :=
  some ()

def laws_heldIntSS_n3 (x21238 : List (List Int)) (x21284 : Int) (x21285 : Int) : Option ((Int × Int) ⊕ Int ⊕ Int) :=
  cond (decide (x21285 < (((List.length x21238 : Nat) : Int)))) ((idx x21238 x21285).bind fun (v21295 : List Int) => (laws_heldIntS v21295 x21284).bind fun (v21296 : Int) => cond (decide (v21296 < 0)) (some (Sum.inr (Sum.inl (-1)))) (some (Sum.inl (v21296, (IntKind.wrap .i64 (x21285 + 1)))))) (some (Sum.inr (Sum.inr x21284)))

def laws_heldIntSS_n4 (x21238 : List (List Int)) (x21239 : Int) : Option (Int ⊕ Int) :=
  nloop (fun (s : Int × Int) => ((laws_heldIntSS_n3 x21238 s.1 s.2).map (Sum.elim (fun (t : Int × Int) => Sum.inl (t.1, t.2)) (Sum.elim (fun (t : Int) => Sum.inr (Sum.inl t)) (fun (t : Int) => Sum.inr (Sum.inr t)))) : Option ((Int × Int) ⊕ (Int ⊕ Int)))) LL (x21239, 0)

def laws_heldIntSS_n5 (x21238 : List (List Int)) (x21239 : Int) : Option (Int ⊕ Int) :=
  (laws_heldIntSS_n4 x21238 x21239).map (Sum.elim (fun (t : Int) => (Sum.inr t)) (fun (t : Int) => (Sum.inl t)))

def laws_heldIntSS_n6 (x21238 : List (List Int)) (x21239 : Int) : Option (Int ⊕ Int) :=
  (laws_heldIntSS_n2).bind (fun (t : Unit) => laws_heldIntSS_n5 x21238 x21239)

def laws_heldIntSS_n7 (x21284 : Int) : Option (Int) :=
  some x21284

def laws_heldIntSS_n8 (x21238 : List (List Int)) (x21239 : Int) : Option (Int) :=
  (laws_heldIntSS_n6 x21238 x21239).bind (Sum.elim (fun (t : Int) => laws_heldIntSS_n7 t) (fun e => some ((fun (t : Int) => t) e)))

def laws_heldIntSS_n9 (x21238 : List (List Int)) (x21239 : Int) : Option (Int) :=
  (laws_heldIntSS_n1).bind (fun (t : Unit) => laws_heldIntSS_n8 x21238 x21239)

@[irreducible] def laws_heldIntSS (x21238 : List (List Int)) (x21239 : Int) : Option (Int) :=
  laws_heldIntSS_n9 x21238 x21239

def laws_FnExactRaisedBy_n1 (x20934 : List (List Int)) (x20935 : Int) : Option (Bool) :=
  (laws_szIntSS x20934 1048576).bind fun (v21616 : Int) => cond (decide (v21616 < 0)) (some true) ((laws_toIntSS x20934).bind fun (v21618 : List (List Int)) => (spec_RaisedBy v21618 x20935).bind fun (v21619 : Bool × (List (List Int))) => (laws_toIntSS x20934).bind fun (v21622 : List (List Int)) => (impl_RaisedBy v21622 x20935).bind fun (v21623 : Bool × (List (List Int))) => (laws_eqIntSS (v21623.2) (v21619.2)).bind fun (v21626 : Bool) => cond (!v21626) (some false) (cond ((v21623.1) != (v21619.1)) (some false) ((laws_toIntSS x20934).bind fun (v21629 : List (List Int)) => (laws_eqIntSS v21622 v21629).bind fun (v21630 : Bool) => cond (!v21630) (some false) ((laws_markIntSS 1 v21622).bind fun (v21632 : Int × (List (List Int))) => cond (decide ((v21632.1) < 0)) (some false) ((laws_eqIntSS (v21623.2) (v21619.2)).bind fun (v21636 : Bool) => cond (!v21636) (some false) (cond ((v21623.1) != (v21619.1)) (some false) ((laws_markIntSS 1 (v21623.2)).bind fun (v21639 : Int × (List (List Int))) => (laws_heldIntSS (v21639.2) 1).bind fun (v21642 : Int) => cond (decide (v21642 < 0)) (some false) (cond (v21642 != (v21639.1)) (some false) ((laws_toIntSS x20934).bind fun (v21645 : List (List Int)) => (impl_RaisedBy v21645 x20935).bind fun (v21646 : Bool × (List (List Int))) => (laws_eqIntSS (v21646.2) (v21619.2)).bind fun (v21649 : Bool) => cond (!v21649) (some false) (cond ((v21646.1) != (v21619.1)) (some false) ((laws_heldIntSS (v21639.2) 1).bind fun (v21652 : Int) => cond (decide (v21652 < 0)) (some false) (cond (v21652 != (v21639.1)) (some false) (some true)))))))))))))

@[irreducible] def laws_FnExactRaisedBy (x20934 : List (List Int)) (x20935 : Int) : Option (Bool) :=
  laws_FnExactRaisedBy_n1 x20934 x20935

end Go.Rv
