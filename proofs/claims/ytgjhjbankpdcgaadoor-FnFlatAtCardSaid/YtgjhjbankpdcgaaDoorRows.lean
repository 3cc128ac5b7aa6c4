/-
  NARROWER THAN 'FOR EVERY INPUT', by the rows' own cells (each row's printed sentence says how): FnSidesOf: laid · FnFlatAt: laid · FnPlaceOf: laid · FnFlatOrder: laid · FnExchangesFor: laid · FnMadeFlat: laid · FnExactPlaceOf: laid · FnExactFlatOrder: laid · FnExactExchangesFor: laid · FnExactMadeFlat: laid.
  DERIVED. THE GIVEN ROWS OF THIS SEAT. 10 by the template 'for every input the law returns true; each argument reads behind the call as it read before'; 0 by the template 'total and deterministic' (their statements: YtgjhjbankpdcgaaDoorTotals.lean).
  GIVEN WITH THE SEED: the statements are not yours to turn. If you find one false, say at which input.
  Laid BY PROGRAM, IN A SANDBOX (cutbox-rows.mjs): the forced cells as the released guide's own fill.sh prints them over the translation 5ab6fb98e7e6af22… (all of the seat's roots in one cut). By AI agents, Wed Nov 11 2026. No macro, syntax, notation, axiom, sorry.
-/
import Derived.Test.YtgjhjbankpdcgaaDoorChecked
import GoSem.Claim
import GoSem.ClaimJoined
import GoSem.ClaimMapViews
import Derived.JoinedTies
import Derived.KernelRfl
namespace Go.Proofs.YtgjhjbankpdcgaaDoor
/- THE CELL 'sum', in the pinned program and in every row, IS THE sha256 OF THE DUMP (.gsa) THAT YtgjhjbankpdcgaaDoorProg.lean LOADS. Nothing in Lean hashes anything: it is a label: what it is worth is what the hold of that sum in a sandbox is worth. -/
noncomputable def Tryd.pinned : Pinned := { name := "ytgjhjbankpdcgaadoor", sum := "5ab6fb98e7e6af229ce6cf09ba48ea184745783f92d55384ad886be578793cb6", checked := Tryd.checked }
namespace Rows
def none {H : Type} : Left H := { results := [], args := [] }

/- WHAT THE LISTED PACKAGE-LEVEL VARIABLES READ AS WHEN THE CALL BEGINS. Each datum BY PROGRAM (the guide's laid-datum.mjs) off the statement by which the dump's own 'gosem.cut.vars' lays the variable. In a bare row this is a premise. The card (YtgjhjbankpdcgaaDoorCards.lean) ties it to the program's text. -/
def laid_math_bits_deBruijn32tab {H : Type} : DataW H := .agg [.lit (.int .u8 0), .lit (.int .u8 1), .lit (.int .u8 28), .lit (.int .u8 2), .lit (.int .u8 29), .lit (.int .u8 14), .lit (.int .u8 24), .lit (.int .u8 3), .lit (.int .u8 30), .lit (.int .u8 22), .lit (.int .u8 20), .lit (.int .u8 15), .lit (.int .u8 25), .lit (.int .u8 17), .lit (.int .u8 4), .lit (.int .u8 8), .lit (.int .u8 31), .lit (.int .u8 27), .lit (.int .u8 13), .lit (.int .u8 23), .lit (.int .u8 21), .lit (.int .u8 19), .lit (.int .u8 16), .lit (.int .u8 7), .lit (.int .u8 26), .lit (.int .u8 12), .lit (.int .u8 18), .lit (.int .u8 6), .lit (.int .u8 11), .lit (.int .u8 5), .lit (.int .u8 10), .lit (.int .u8 9)]
def laid_math_bits_deBruijn64tab {H : Type} : DataW H := .agg [.lit (.int .u8 0), .lit (.int .u8 1), .lit (.int .u8 56), .lit (.int .u8 2), .lit (.int .u8 57), .lit (.int .u8 49), .lit (.int .u8 28), .lit (.int .u8 3), .lit (.int .u8 61), .lit (.int .u8 58), .lit (.int .u8 42), .lit (.int .u8 50), .lit (.int .u8 38), .lit (.int .u8 29), .lit (.int .u8 17), .lit (.int .u8 4), .lit (.int .u8 62), .lit (.int .u8 47), .lit (.int .u8 59), .lit (.int .u8 36), .lit (.int .u8 45), .lit (.int .u8 43), .lit (.int .u8 51), .lit (.int .u8 22), .lit (.int .u8 53), .lit (.int .u8 39), .lit (.int .u8 33), .lit (.int .u8 30), .lit (.int .u8 24), .lit (.int .u8 18), .lit (.int .u8 12), .lit (.int .u8 5), .lit (.int .u8 63), .lit (.int .u8 55), .lit (.int .u8 48), .lit (.int .u8 27), .lit (.int .u8 60), .lit (.int .u8 41), .lit (.int .u8 37), .lit (.int .u8 16), .lit (.int .u8 46), .lit (.int .u8 35), .lit (.int .u8 44), .lit (.int .u8 21), .lit (.int .u8 52), .lit (.int .u8 32), .lit (.int .u8 23), .lit (.int .u8 11), .lit (.int .u8 54), .lit (.int .u8 26), .lit (.int .u8 40), .lit (.int .u8 15), .lit (.int .u8 34), .lit (.int .u8 20), .lit (.int .u8 31), .lit (.int .u8 10), .lit (.int .u8 25), .lit (.int .u8 14), .lit (.int .u8 19), .lit (.int .u8 9), .lit (.int .u8 13), .lit (.int .u8 8), .lit (.int .u8 7), .lit (.int .u8 6)]

/-- 'laws.FnSidesOf': WHATEVER THE INPUT: true; the input reads as it did. -/
def fnSidesOfSpec : ChangeSpec := { name := "fnSidesOf", fn := fun _ => fun
  | [d] => { results := [.lit (.bool true)], args := [d] }
  | _ => none }
def fnSidesOfRow : OpenClaim := { program := "ytgjhjbankpdcgaadoor", sum := "5ab6fb98e7e6af229ce6cf09ba48ea184745783f92d55384ad886be578793cb6", func := "loop.example/headtrees/laws.FnSidesOf", spec := "fnSidesOf", named := ["math/bits.deBruijn32tab", "math/bits.deBruijn64tab"], apart := false, laid := [("math/bits.deBruijn32tab", laid_math_bits_deBruijn32tab), ("math/bits.deBruijn64tab", laid_math_bits_deBruijn64tab)] }
def FnSidesOfSaid : Prop := fnSidesOfRow.holds Tryd.pinned (OpenSpec.ofChange fnSidesOfSpec)

/-- ITS FALSE NEIGHBOUR: 'it returns false'. Refute it at one input. -/
def fnSidesOfWrong : ChangeSpec := { name := "fnSidesOf", fn := fun _ => fun
  | [d] => { results := [.lit (.bool false)], args := [d] }
  | _ => none }
def FnSidesOfWrongFalsely : Prop := fnSidesOfRow.holds Tryd.pinned (OpenSpec.ofChange fnSidesOfWrong)

/-- 'laws.FnFlatAt': WHATEVER THE INPUT: true; the input reads as it did. -/
def fnFlatAtSpec : ChangeSpec := { name := "fnFlatAt", fn := fun _ => fun
  | [d] => { results := [.lit (.bool true)], args := [d] }
  | _ => none }
def fnFlatAtRow : OpenClaim := { program := "ytgjhjbankpdcgaadoor", sum := "5ab6fb98e7e6af229ce6cf09ba48ea184745783f92d55384ad886be578793cb6", func := "loop.example/headtrees/laws.FnFlatAt", spec := "fnFlatAt", recurses := true, named := ["math/bits.deBruijn32tab", "math/bits.deBruijn64tab"], apart := false, laid := [("math/bits.deBruijn32tab", laid_math_bits_deBruijn32tab), ("math/bits.deBruijn64tab", laid_math_bits_deBruijn64tab)] }
def FnFlatAtSaid : Prop := fnFlatAtRow.holds Tryd.pinned (OpenSpec.ofChange fnFlatAtSpec)

/-- ITS FALSE NEIGHBOUR: 'it returns false'. Refute it at one input. -/
def fnFlatAtWrong : ChangeSpec := { name := "fnFlatAt", fn := fun _ => fun
  | [d] => { results := [.lit (.bool false)], args := [d] }
  | _ => none }
def FnFlatAtWrongFalsely : Prop := fnFlatAtRow.holds Tryd.pinned (OpenSpec.ofChange fnFlatAtWrong)

/-- 'laws.FnPlaceOf': WHATEVER THE INPUT: true; the input reads as it did. -/
def fnPlaceOfSpec : ChangeSpec := { name := "fnPlaceOf", fn := fun _ => fun
  | [d] => { results := [.lit (.bool true)], args := [d] }
  | _ => none }
def fnPlaceOfRow : OpenClaim := { program := "ytgjhjbankpdcgaadoor", sum := "5ab6fb98e7e6af229ce6cf09ba48ea184745783f92d55384ad886be578793cb6", func := "loop.example/headtrees/laws.FnPlaceOf", spec := "fnPlaceOf", recurses := true, named := ["math/bits.deBruijn32tab", "math/bits.deBruijn64tab"], apart := false, laid := [("math/bits.deBruijn32tab", laid_math_bits_deBruijn32tab), ("math/bits.deBruijn64tab", laid_math_bits_deBruijn64tab)] }
def FnPlaceOfSaid : Prop := fnPlaceOfRow.holds Tryd.pinned (OpenSpec.ofChange fnPlaceOfSpec)

/-- ITS FALSE NEIGHBOUR: 'it returns false'. Refute it at one input. -/
def fnPlaceOfWrong : ChangeSpec := { name := "fnPlaceOf", fn := fun _ => fun
  | [d] => { results := [.lit (.bool false)], args := [d] }
  | _ => none }
def FnPlaceOfWrongFalsely : Prop := fnPlaceOfRow.holds Tryd.pinned (OpenSpec.ofChange fnPlaceOfWrong)

/-- 'laws.FnFlatOrder': WHATEVER THE INPUT: true; the input reads as it did. -/
def fnFlatOrderSpec : ChangeSpec := { name := "fnFlatOrder", fn := fun _ => fun
  | [d] => { results := [.lit (.bool true)], args := [d] }
  | _ => none }
def fnFlatOrderRow : OpenClaim := { program := "ytgjhjbankpdcgaadoor", sum := "5ab6fb98e7e6af229ce6cf09ba48ea184745783f92d55384ad886be578793cb6", func := "loop.example/headtrees/laws.FnFlatOrder", spec := "fnFlatOrder", unfollowed := true, recurses := true, named := ["math/bits.deBruijn32tab", "math/bits.deBruijn64tab"], apart := false, laid := [("math/bits.deBruijn32tab", laid_math_bits_deBruijn32tab), ("math/bits.deBruijn64tab", laid_math_bits_deBruijn64tab)] }
def FnFlatOrderSaid : Prop := fnFlatOrderRow.holds Tryd.pinned (OpenSpec.ofChange fnFlatOrderSpec)

/-- ITS FALSE NEIGHBOUR: 'it returns false'. Refute it at one input. -/
def fnFlatOrderWrong : ChangeSpec := { name := "fnFlatOrder", fn := fun _ => fun
  | [d] => { results := [.lit (.bool false)], args := [d] }
  | _ => none }
def FnFlatOrderWrongFalsely : Prop := fnFlatOrderRow.holds Tryd.pinned (OpenSpec.ofChange fnFlatOrderWrong)

/-- 'laws.FnExchangesFor': WHATEVER THE INPUT: true; the input reads as it did. -/
def fnExchangesForSpec : ChangeSpec := { name := "fnExchangesFor", fn := fun _ => fun
  | [d] => { results := [.lit (.bool true)], args := [d] }
  | _ => none }
def fnExchangesForRow : OpenClaim := { program := "ytgjhjbankpdcgaadoor", sum := "5ab6fb98e7e6af229ce6cf09ba48ea184745783f92d55384ad886be578793cb6", func := "loop.example/headtrees/laws.FnExchangesFor", spec := "fnExchangesFor", unfollowed := true, recurses := true, named := ["math/bits.deBruijn32tab", "math/bits.deBruijn64tab"], apart := false, laid := [("math/bits.deBruijn32tab", laid_math_bits_deBruijn32tab), ("math/bits.deBruijn64tab", laid_math_bits_deBruijn64tab)] }
def FnExchangesForSaid : Prop := fnExchangesForRow.holds Tryd.pinned (OpenSpec.ofChange fnExchangesForSpec)

/-- ITS FALSE NEIGHBOUR: 'it returns false'. Refute it at one input. -/
def fnExchangesForWrong : ChangeSpec := { name := "fnExchangesFor", fn := fun _ => fun
  | [d] => { results := [.lit (.bool false)], args := [d] }
  | _ => none }
def FnExchangesForWrongFalsely : Prop := fnExchangesForRow.holds Tryd.pinned (OpenSpec.ofChange fnExchangesForWrong)

/-- 'laws.FnMadeFlat': WHATEVER THE INPUT: true; the input reads as it did. -/
def fnMadeFlatSpec : ChangeSpec := { name := "fnMadeFlat", fn := fun _ => fun
  | [d] => { results := [.lit (.bool true)], args := [d] }
  | _ => none }
def fnMadeFlatRow : OpenClaim := { program := "ytgjhjbankpdcgaadoor", sum := "5ab6fb98e7e6af229ce6cf09ba48ea184745783f92d55384ad886be578793cb6", func := "loop.example/headtrees/laws.FnMadeFlat", spec := "fnMadeFlat", unfollowed := true, recurses := true, named := ["math/bits.deBruijn32tab", "math/bits.deBruijn64tab"], apart := false, laid := [("math/bits.deBruijn32tab", laid_math_bits_deBruijn32tab), ("math/bits.deBruijn64tab", laid_math_bits_deBruijn64tab)] }
def FnMadeFlatSaid : Prop := fnMadeFlatRow.holds Tryd.pinned (OpenSpec.ofChange fnMadeFlatSpec)

/-- ITS FALSE NEIGHBOUR: 'it returns false'. Refute it at one input. -/
def fnMadeFlatWrong : ChangeSpec := { name := "fnMadeFlat", fn := fun _ => fun
  | [d] => { results := [.lit (.bool false)], args := [d] }
  | _ => none }
def FnMadeFlatWrongFalsely : Prop := fnMadeFlatRow.holds Tryd.pinned (OpenSpec.ofChange fnMadeFlatWrong)

/-- 'laws.FnExactPlaceOf': WHATEVER THE INPUT: true; the input reads as it did. -/
def fnExactPlaceOfSpec : ChangeSpec := { name := "fnExactPlaceOf", fn := fun _ => fun
  | [d] => { results := [.lit (.bool true)], args := [d] }
  | _ => none }
def fnExactPlaceOfRow : OpenClaim := { program := "ytgjhjbankpdcgaadoor", sum := "5ab6fb98e7e6af229ce6cf09ba48ea184745783f92d55384ad886be578793cb6", func := "loop.example/headtrees/laws.FnExactPlaceOf", spec := "fnExactPlaceOf", recurses := true, named := ["math/bits.deBruijn32tab", "math/bits.deBruijn64tab"], apart := false, laid := [("math/bits.deBruijn32tab", laid_math_bits_deBruijn32tab), ("math/bits.deBruijn64tab", laid_math_bits_deBruijn64tab)] }
def FnExactPlaceOfSaid : Prop := fnExactPlaceOfRow.holds Tryd.pinned (OpenSpec.ofChange fnExactPlaceOfSpec)

/-- ITS FALSE NEIGHBOUR: 'it returns false'. Refute it at one input. -/
def fnExactPlaceOfWrong : ChangeSpec := { name := "fnExactPlaceOf", fn := fun _ => fun
  | [d] => { results := [.lit (.bool false)], args := [d] }
  | _ => none }
def FnExactPlaceOfWrongFalsely : Prop := fnExactPlaceOfRow.holds Tryd.pinned (OpenSpec.ofChange fnExactPlaceOfWrong)

/-- 'laws.FnExactFlatOrder': WHATEVER THE INPUT: true; the input reads as it did. -/
def fnExactFlatOrderSpec : ChangeSpec := { name := "fnExactFlatOrder", fn := fun _ => fun
  | [d] => { results := [.lit (.bool true)], args := [d] }
  | _ => none }
def fnExactFlatOrderRow : OpenClaim := { program := "ytgjhjbankpdcgaadoor", sum := "5ab6fb98e7e6af229ce6cf09ba48ea184745783f92d55384ad886be578793cb6", func := "loop.example/headtrees/laws.FnExactFlatOrder", spec := "fnExactFlatOrder", recurses := true, named := ["math/bits.deBruijn32tab", "math/bits.deBruijn64tab"], apart := false, laid := [("math/bits.deBruijn32tab", laid_math_bits_deBruijn32tab), ("math/bits.deBruijn64tab", laid_math_bits_deBruijn64tab)] }
def FnExactFlatOrderSaid : Prop := fnExactFlatOrderRow.holds Tryd.pinned (OpenSpec.ofChange fnExactFlatOrderSpec)

/-- ITS FALSE NEIGHBOUR: 'it returns false'. Refute it at one input. -/
def fnExactFlatOrderWrong : ChangeSpec := { name := "fnExactFlatOrder", fn := fun _ => fun
  | [d] => { results := [.lit (.bool false)], args := [d] }
  | _ => none }
def FnExactFlatOrderWrongFalsely : Prop := fnExactFlatOrderRow.holds Tryd.pinned (OpenSpec.ofChange fnExactFlatOrderWrong)

/-- 'laws.FnExactExchangesFor': WHATEVER THE INPUT: true; the input reads as it did. -/
def fnExactExchangesForSpec : ChangeSpec := { name := "fnExactExchangesFor", fn := fun _ => fun
  | [d] => { results := [.lit (.bool true)], args := [d] }
  | _ => none }
def fnExactExchangesForRow : OpenClaim := { program := "ytgjhjbankpdcgaadoor", sum := "5ab6fb98e7e6af229ce6cf09ba48ea184745783f92d55384ad886be578793cb6", func := "loop.example/headtrees/laws.FnExactExchangesFor", spec := "fnExactExchangesFor", recurses := true, named := ["math/bits.deBruijn32tab", "math/bits.deBruijn64tab"], apart := false, laid := [("math/bits.deBruijn32tab", laid_math_bits_deBruijn32tab), ("math/bits.deBruijn64tab", laid_math_bits_deBruijn64tab)] }
def FnExactExchangesForSaid : Prop := fnExactExchangesForRow.holds Tryd.pinned (OpenSpec.ofChange fnExactExchangesForSpec)

/-- ITS FALSE NEIGHBOUR: 'it returns false'. Refute it at one input. -/
def fnExactExchangesForWrong : ChangeSpec := { name := "fnExactExchangesFor", fn := fun _ => fun
  | [d] => { results := [.lit (.bool false)], args := [d] }
  | _ => none }
def FnExactExchangesForWrongFalsely : Prop := fnExactExchangesForRow.holds Tryd.pinned (OpenSpec.ofChange fnExactExchangesForWrong)

/-- 'laws.FnExactMadeFlat': WHATEVER THE INPUT: true; the input reads as it did. -/
def fnExactMadeFlatSpec : ChangeSpec := { name := "fnExactMadeFlat", fn := fun _ => fun
  | [d] => { results := [.lit (.bool true)], args := [d] }
  | _ => none }
def fnExactMadeFlatRow : OpenClaim := { program := "ytgjhjbankpdcgaadoor", sum := "5ab6fb98e7e6af229ce6cf09ba48ea184745783f92d55384ad886be578793cb6", func := "loop.example/headtrees/laws.FnExactMadeFlat", spec := "fnExactMadeFlat", unfollowed := true, recurses := true, named := ["math/bits.deBruijn32tab", "math/bits.deBruijn64tab"], apart := false, laid := [("math/bits.deBruijn32tab", laid_math_bits_deBruijn32tab), ("math/bits.deBruijn64tab", laid_math_bits_deBruijn64tab)] }
def FnExactMadeFlatSaid : Prop := fnExactMadeFlatRow.holds Tryd.pinned (OpenSpec.ofChange fnExactMadeFlatSpec)

/-- ITS FALSE NEIGHBOUR: 'it returns false'. Refute it at one input. -/
def fnExactMadeFlatWrong : ChangeSpec := { name := "fnExactMadeFlat", fn := fun _ => fun
  | [d] => { results := [.lit (.bool false)], args := [d] }
  | _ => none }
def FnExactMadeFlatWrongFalsely : Prop := fnExactMadeFlatRow.holds Tryd.pinned (OpenSpec.ofChange fnExactMadeFlatWrong)

/- THE SECOND FORM. 'bulk': how many values and letters a reading holds, each counted each time it is reached (what is shared counts as often as it is met; a slice's spare places count too). A statement '..UptoSaid' is the law's where the arguments, and the package variables that the reading takes, are together of bulk at most 1048576: NARROWER than '..Said'. Prove '..Said' where nothing that the law and all that it calls make is longer than what came in: it says more and counts as full. Else prove '..UptoSaid'. A law counts once. -/
mutual
def uptoBulk {H : Type} : DataW H → Nat
  | .lit (.string bytes) => bytes.length + 1
  | .lit _ => 1
  | .nil => 1
  | .ptr d => uptoBulk d + 1
  | .slice elems spare => uptoBulkAll elems + uptoBulkAll spare + 1
  | .agg parts => uptoBulkAll parts + 1
  | .iface _ d => uptoBulk d + 1
  | .map entries => uptoBulkEntries entries + 1
  | .held _ => 1
def uptoBulkAll {H : Type} : List (DataW H) → Nat
  | [] => 0
  | d :: r => uptoBulk d + uptoBulkAll r
def uptoBulkEntries {H : Type} : List (Lit × DataW H) → Nat
  | [] => 0
  | x :: r => uptoBulkEntry x + uptoBulkEntries r
def uptoBulkEntry {H : Type} : Lit × DataW H → Nat
  | (.string bytes, d) => bytes.length + uptoBulk d + 1
  | (_, d) => uptoBulk d + 1
 end
def uptoSmall : (H : Type) → List (DataW H) → Bool := fun _ ds => decide (uptoBulkAll ds ≤ 1048576)
def OpenSpec.upto (s : _root_.Go.ChangeSpec) : _root_.Go.OpenSpec := { _root_.Go.OpenSpec.ofChange s with cond := some uptoSmall }

/-- 'laws.FnSidesOf', WHERE WHAT IT READS IS OF BULK AT MOST 1048576: true; the input reads as it did. -/
def fnSidesOfUptoRow : OpenClaim := { program := "ytgjhjbankpdcgaadoor", sum := "5ab6fb98e7e6af229ce6cf09ba48ea184745783f92d55384ad886be578793cb6", func := "loop.example/headtrees/laws.FnSidesOf", spec := "fnSidesOf", named := ["math/bits.deBruijn32tab", "math/bits.deBruijn64tab"], apart := false, laid := [("math/bits.deBruijn32tab", laid_math_bits_deBruijn32tab), ("math/bits.deBruijn64tab", laid_math_bits_deBruijn64tab)], narrowed := true }
def FnSidesOfUptoSaid : Prop := fnSidesOfUptoRow.holds Tryd.pinned (OpenSpec.upto fnSidesOfSpec)

/-- 'laws.FnFlatAt', WHERE WHAT IT READS IS OF BULK AT MOST 1048576: true; the input reads as it did. -/
def fnFlatAtUptoRow : OpenClaim := { program := "ytgjhjbankpdcgaadoor", sum := "5ab6fb98e7e6af229ce6cf09ba48ea184745783f92d55384ad886be578793cb6", func := "loop.example/headtrees/laws.FnFlatAt", spec := "fnFlatAt", recurses := true, named := ["math/bits.deBruijn32tab", "math/bits.deBruijn64tab"], apart := false, laid := [("math/bits.deBruijn32tab", laid_math_bits_deBruijn32tab), ("math/bits.deBruijn64tab", laid_math_bits_deBruijn64tab)], narrowed := true }
def FnFlatAtUptoSaid : Prop := fnFlatAtUptoRow.holds Tryd.pinned (OpenSpec.upto fnFlatAtSpec)

/-- 'laws.FnPlaceOf', WHERE WHAT IT READS IS OF BULK AT MOST 1048576: true; the input reads as it did. -/
def fnPlaceOfUptoRow : OpenClaim := { program := "ytgjhjbankpdcgaadoor", sum := "5ab6fb98e7e6af229ce6cf09ba48ea184745783f92d55384ad886be578793cb6", func := "loop.example/headtrees/laws.FnPlaceOf", spec := "fnPlaceOf", recurses := true, named := ["math/bits.deBruijn32tab", "math/bits.deBruijn64tab"], apart := false, laid := [("math/bits.deBruijn32tab", laid_math_bits_deBruijn32tab), ("math/bits.deBruijn64tab", laid_math_bits_deBruijn64tab)], narrowed := true }
def FnPlaceOfUptoSaid : Prop := fnPlaceOfUptoRow.holds Tryd.pinned (OpenSpec.upto fnPlaceOfSpec)

/-- 'laws.FnFlatOrder', WHERE WHAT IT READS IS OF BULK AT MOST 1048576: true; the input reads as it did. -/
def fnFlatOrderUptoRow : OpenClaim := { program := "ytgjhjbankpdcgaadoor", sum := "5ab6fb98e7e6af229ce6cf09ba48ea184745783f92d55384ad886be578793cb6", func := "loop.example/headtrees/laws.FnFlatOrder", spec := "fnFlatOrder", unfollowed := true, recurses := true, named := ["math/bits.deBruijn32tab", "math/bits.deBruijn64tab"], apart := false, laid := [("math/bits.deBruijn32tab", laid_math_bits_deBruijn32tab), ("math/bits.deBruijn64tab", laid_math_bits_deBruijn64tab)], narrowed := true }
def FnFlatOrderUptoSaid : Prop := fnFlatOrderUptoRow.holds Tryd.pinned (OpenSpec.upto fnFlatOrderSpec)

/-- 'laws.FnExchangesFor', WHERE WHAT IT READS IS OF BULK AT MOST 1048576: true; the input reads as it did. -/
def fnExchangesForUptoRow : OpenClaim := { program := "ytgjhjbankpdcgaadoor", sum := "5ab6fb98e7e6af229ce6cf09ba48ea184745783f92d55384ad886be578793cb6", func := "loop.example/headtrees/laws.FnExchangesFor", spec := "fnExchangesFor", unfollowed := true, recurses := true, named := ["math/bits.deBruijn32tab", "math/bits.deBruijn64tab"], apart := false, laid := [("math/bits.deBruijn32tab", laid_math_bits_deBruijn32tab), ("math/bits.deBruijn64tab", laid_math_bits_deBruijn64tab)], narrowed := true }
def FnExchangesForUptoSaid : Prop := fnExchangesForUptoRow.holds Tryd.pinned (OpenSpec.upto fnExchangesForSpec)

/-- 'laws.FnMadeFlat', WHERE WHAT IT READS IS OF BULK AT MOST 1048576: true; the input reads as it did. -/
def fnMadeFlatUptoRow : OpenClaim := { program := "ytgjhjbankpdcgaadoor", sum := "5ab6fb98e7e6af229ce6cf09ba48ea184745783f92d55384ad886be578793cb6", func := "loop.example/headtrees/laws.FnMadeFlat", spec := "fnMadeFlat", unfollowed := true, recurses := true, named := ["math/bits.deBruijn32tab", "math/bits.deBruijn64tab"], apart := false, laid := [("math/bits.deBruijn32tab", laid_math_bits_deBruijn32tab), ("math/bits.deBruijn64tab", laid_math_bits_deBruijn64tab)], narrowed := true }
def FnMadeFlatUptoSaid : Prop := fnMadeFlatUptoRow.holds Tryd.pinned (OpenSpec.upto fnMadeFlatSpec)

/-- 'laws.FnExactPlaceOf', WHERE WHAT IT READS IS OF BULK AT MOST 1048576: true; the input reads as it did. -/
def fnExactPlaceOfUptoRow : OpenClaim := { program := "ytgjhjbankpdcgaadoor", sum := "5ab6fb98e7e6af229ce6cf09ba48ea184745783f92d55384ad886be578793cb6", func := "loop.example/headtrees/laws.FnExactPlaceOf", spec := "fnExactPlaceOf", recurses := true, named := ["math/bits.deBruijn32tab", "math/bits.deBruijn64tab"], apart := false, laid := [("math/bits.deBruijn32tab", laid_math_bits_deBruijn32tab), ("math/bits.deBruijn64tab", laid_math_bits_deBruijn64tab)], narrowed := true }
def FnExactPlaceOfUptoSaid : Prop := fnExactPlaceOfUptoRow.holds Tryd.pinned (OpenSpec.upto fnExactPlaceOfSpec)

/-- 'laws.FnExactFlatOrder', WHERE WHAT IT READS IS OF BULK AT MOST 1048576: true; the input reads as it did. -/
def fnExactFlatOrderUptoRow : OpenClaim := { program := "ytgjhjbankpdcgaadoor", sum := "5ab6fb98e7e6af229ce6cf09ba48ea184745783f92d55384ad886be578793cb6", func := "loop.example/headtrees/laws.FnExactFlatOrder", spec := "fnExactFlatOrder", recurses := true, named := ["math/bits.deBruijn32tab", "math/bits.deBruijn64tab"], apart := false, laid := [("math/bits.deBruijn32tab", laid_math_bits_deBruijn32tab), ("math/bits.deBruijn64tab", laid_math_bits_deBruijn64tab)], narrowed := true }
def FnExactFlatOrderUptoSaid : Prop := fnExactFlatOrderUptoRow.holds Tryd.pinned (OpenSpec.upto fnExactFlatOrderSpec)

/-- 'laws.FnExactExchangesFor', WHERE WHAT IT READS IS OF BULK AT MOST 1048576: true; the input reads as it did. -/
def fnExactExchangesForUptoRow : OpenClaim := { program := "ytgjhjbankpdcgaadoor", sum := "5ab6fb98e7e6af229ce6cf09ba48ea184745783f92d55384ad886be578793cb6", func := "loop.example/headtrees/laws.FnExactExchangesFor", spec := "fnExactExchangesFor", recurses := true, named := ["math/bits.deBruijn32tab", "math/bits.deBruijn64tab"], apart := false, laid := [("math/bits.deBruijn32tab", laid_math_bits_deBruijn32tab), ("math/bits.deBruijn64tab", laid_math_bits_deBruijn64tab)], narrowed := true }
def FnExactExchangesForUptoSaid : Prop := fnExactExchangesForUptoRow.holds Tryd.pinned (OpenSpec.upto fnExactExchangesForSpec)

/-- 'laws.FnExactMadeFlat', WHERE WHAT IT READS IS OF BULK AT MOST 1048576: true; the input reads as it did. -/
def fnExactMadeFlatUptoRow : OpenClaim := { program := "ytgjhjbankpdcgaadoor", sum := "5ab6fb98e7e6af229ce6cf09ba48ea184745783f92d55384ad886be578793cb6", func := "loop.example/headtrees/laws.FnExactMadeFlat", spec := "fnExactMadeFlat", unfollowed := true, recurses := true, named := ["math/bits.deBruijn32tab", "math/bits.deBruijn64tab"], apart := false, laid := [("math/bits.deBruijn32tab", laid_math_bits_deBruijn32tab), ("math/bits.deBruijn64tab", laid_math_bits_deBruijn64tab)], narrowed := true }
def FnExactMadeFlatUptoSaid : Prop := fnExactMadeFlatUptoRow.holds Tryd.pinned (OpenSpec.upto fnExactMadeFlatSpec)

end Rows
end Go.Proofs.YtgjhjbankpdcgaaDoor
