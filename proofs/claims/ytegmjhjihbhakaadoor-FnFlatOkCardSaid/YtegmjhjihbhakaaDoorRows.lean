/-
  NARROWER THAN 'FOR EVERY INPUT', by the rows' own cells (each row's printed sentence says how): FnYieldOf: laid · FnDependsOf: laid · FnUnderOk: laid · FnMeetOf: laid · FnSidesOf: laid · FnCrossingsOf: laid · FnFlatOk: laid · FnBackOf: laid · FnExactYieldOf: laid · FnExactDependsOf: laid · FnExactUnderOk: laid · FnExactMeetOf: laid · FnExactFlatOk: laid.
  DERIVED. THE GIVEN ROWS OF THIS SEAT. 13 by the template 'for every input the law returns true; each argument reads behind the call as it read before'; 0 by the template 'total and deterministic' (their statements: YtegmjhjihbhakaaDoorTotals.lean).
  GIVEN WITH THE SEED: the statements are not yours to turn. If you find one false, say at which input.
  Laid BY PROGRAM, IN A SANDBOX (cutbox-rows.mjs): the forced cells as the released guide's own fill.sh prints them over the translation f528c8678479f3c8… (all of the seat's roots in one cut). By AI agents, Wed Nov 11 2026. No macro, syntax, notation, axiom, sorry.
-/
import Derived.Test.YtegmjhjihbhakaaDoorChecked
import GoSem.Claim
import GoSem.ClaimJoined
import GoSem.ClaimMapViews
import Derived.JoinedTies
import Derived.KernelRfl
namespace Go.Proofs.YtegmjhjihbhakaaDoor
/- THE CELL 'sum', in the pinned program and in every row, IS THE sha256 OF THE DUMP (.gsa) THAT YtegmjhjihbhakaaDoorProg.lean LOADS. Nothing in Lean hashes anything: it is a label: what it is worth is what the hold of that sum in a sandbox is worth. -/
noncomputable def Tryd.pinned : Pinned := { name := "ytegmjhjihbhakaadoor", sum := "f528c8678479f3c8cb8d7160fe2caeaec53eb87700a92855a78c98cc3a06e348", checked := Tryd.checked }
namespace Rows
def none {H : Type} : Left H := { results := [], args := [] }

/- WHAT THE LISTED PACKAGE-LEVEL VARIABLES READ AS WHEN THE CALL BEGINS. Each datum BY PROGRAM (the guide's laid-datum.mjs) off the statement by which the dump's own 'gosem.cut.vars' lays the variable. In a bare row this is a premise. The card (YtegmjhjihbhakaaDoorCards.lean) ties it to the program's text. -/
def laid_math_bits_deBruijn32tab {H : Type} : DataW H := .agg [.lit (.int .u8 0), .lit (.int .u8 1), .lit (.int .u8 28), .lit (.int .u8 2), .lit (.int .u8 29), .lit (.int .u8 14), .lit (.int .u8 24), .lit (.int .u8 3), .lit (.int .u8 30), .lit (.int .u8 22), .lit (.int .u8 20), .lit (.int .u8 15), .lit (.int .u8 25), .lit (.int .u8 17), .lit (.int .u8 4), .lit (.int .u8 8), .lit (.int .u8 31), .lit (.int .u8 27), .lit (.int .u8 13), .lit (.int .u8 23), .lit (.int .u8 21), .lit (.int .u8 19), .lit (.int .u8 16), .lit (.int .u8 7), .lit (.int .u8 26), .lit (.int .u8 12), .lit (.int .u8 18), .lit (.int .u8 6), .lit (.int .u8 11), .lit (.int .u8 5), .lit (.int .u8 10), .lit (.int .u8 9)]
def laid_math_bits_deBruijn64tab {H : Type} : DataW H := .agg [.lit (.int .u8 0), .lit (.int .u8 1), .lit (.int .u8 56), .lit (.int .u8 2), .lit (.int .u8 57), .lit (.int .u8 49), .lit (.int .u8 28), .lit (.int .u8 3), .lit (.int .u8 61), .lit (.int .u8 58), .lit (.int .u8 42), .lit (.int .u8 50), .lit (.int .u8 38), .lit (.int .u8 29), .lit (.int .u8 17), .lit (.int .u8 4), .lit (.int .u8 62), .lit (.int .u8 47), .lit (.int .u8 59), .lit (.int .u8 36), .lit (.int .u8 45), .lit (.int .u8 43), .lit (.int .u8 51), .lit (.int .u8 22), .lit (.int .u8 53), .lit (.int .u8 39), .lit (.int .u8 33), .lit (.int .u8 30), .lit (.int .u8 24), .lit (.int .u8 18), .lit (.int .u8 12), .lit (.int .u8 5), .lit (.int .u8 63), .lit (.int .u8 55), .lit (.int .u8 48), .lit (.int .u8 27), .lit (.int .u8 60), .lit (.int .u8 41), .lit (.int .u8 37), .lit (.int .u8 16), .lit (.int .u8 46), .lit (.int .u8 35), .lit (.int .u8 44), .lit (.int .u8 21), .lit (.int .u8 52), .lit (.int .u8 32), .lit (.int .u8 23), .lit (.int .u8 11), .lit (.int .u8 54), .lit (.int .u8 26), .lit (.int .u8 40), .lit (.int .u8 15), .lit (.int .u8 34), .lit (.int .u8 20), .lit (.int .u8 31), .lit (.int .u8 10), .lit (.int .u8 25), .lit (.int .u8 14), .lit (.int .u8 19), .lit (.int .u8 9), .lit (.int .u8 13), .lit (.int .u8 8), .lit (.int .u8 7), .lit (.int .u8 6)]

/-- 'laws.FnYieldOf': WHATEVER THE INPUT: true; the input reads as it did. -/
def fnYieldOfSpec : ChangeSpec := { name := "fnYieldOf", fn := fun _ => fun
  | [d] => { results := [.lit (.bool true)], args := [d] }
  | _ => none }
def fnYieldOfRow : OpenClaim := { program := "ytegmjhjihbhakaadoor", sum := "f528c8678479f3c8cb8d7160fe2caeaec53eb87700a92855a78c98cc3a06e348", func := "loop.example/headtrees/laws.FnYieldOf", spec := "fnYieldOf", recurses := true, named := ["math/bits.deBruijn32tab", "math/bits.deBruijn64tab"], apart := false, laid := [("math/bits.deBruijn32tab", laid_math_bits_deBruijn32tab), ("math/bits.deBruijn64tab", laid_math_bits_deBruijn64tab)] }
def FnYieldOfSaid : Prop := fnYieldOfRow.holds Tryd.pinned (OpenSpec.ofChange fnYieldOfSpec)

/-- ITS FALSE NEIGHBOUR: 'it returns false'. Refute it at one input. -/
def fnYieldOfWrong : ChangeSpec := { name := "fnYieldOf", fn := fun _ => fun
  | [d] => { results := [.lit (.bool false)], args := [d] }
  | _ => none }
def FnYieldOfWrongFalsely : Prop := fnYieldOfRow.holds Tryd.pinned (OpenSpec.ofChange fnYieldOfWrong)

/-- 'laws.FnDependsOf': WHATEVER THE INPUT: true; the input reads as it did. -/
def fnDependsOfSpec : ChangeSpec := { name := "fnDependsOf", fn := fun _ => fun
  | [d] => { results := [.lit (.bool true)], args := [d] }
  | _ => none }
def fnDependsOfRow : OpenClaim := { program := "ytegmjhjihbhakaadoor", sum := "f528c8678479f3c8cb8d7160fe2caeaec53eb87700a92855a78c98cc3a06e348", func := "loop.example/headtrees/laws.FnDependsOf", spec := "fnDependsOf", recurses := true, named := ["math/bits.deBruijn32tab", "math/bits.deBruijn64tab"], apart := false, laid := [("math/bits.deBruijn32tab", laid_math_bits_deBruijn32tab), ("math/bits.deBruijn64tab", laid_math_bits_deBruijn64tab)] }
def FnDependsOfSaid : Prop := fnDependsOfRow.holds Tryd.pinned (OpenSpec.ofChange fnDependsOfSpec)

/-- ITS FALSE NEIGHBOUR: 'it returns false'. Refute it at one input. -/
def fnDependsOfWrong : ChangeSpec := { name := "fnDependsOf", fn := fun _ => fun
  | [d] => { results := [.lit (.bool false)], args := [d] }
  | _ => none }
def FnDependsOfWrongFalsely : Prop := fnDependsOfRow.holds Tryd.pinned (OpenSpec.ofChange fnDependsOfWrong)

/-- 'laws.FnUnderOk': WHATEVER THE INPUT: true; the input reads as it did. -/
def fnUnderOkSpec : ChangeSpec := { name := "fnUnderOk", fn := fun _ => fun
  | [d] => { results := [.lit (.bool true)], args := [d] }
  | _ => none }
def fnUnderOkRow : OpenClaim := { program := "ytegmjhjihbhakaadoor", sum := "f528c8678479f3c8cb8d7160fe2caeaec53eb87700a92855a78c98cc3a06e348", func := "loop.example/headtrees/laws.FnUnderOk", spec := "fnUnderOk", recurses := true, named := ["math/bits.deBruijn32tab", "math/bits.deBruijn64tab"], apart := false, laid := [("math/bits.deBruijn32tab", laid_math_bits_deBruijn32tab), ("math/bits.deBruijn64tab", laid_math_bits_deBruijn64tab)] }
def FnUnderOkSaid : Prop := fnUnderOkRow.holds Tryd.pinned (OpenSpec.ofChange fnUnderOkSpec)

/-- ITS FALSE NEIGHBOUR: 'it returns false'. Refute it at one input. -/
def fnUnderOkWrong : ChangeSpec := { name := "fnUnderOk", fn := fun _ => fun
  | [d] => { results := [.lit (.bool false)], args := [d] }
  | _ => none }
def FnUnderOkWrongFalsely : Prop := fnUnderOkRow.holds Tryd.pinned (OpenSpec.ofChange fnUnderOkWrong)

/-- 'laws.FnMeetOf': WHATEVER THE INPUT: true; the input reads as it did. -/
def fnMeetOfSpec : ChangeSpec := { name := "fnMeetOf", fn := fun _ => fun
  | [d] => { results := [.lit (.bool true)], args := [d] }
  | _ => none }
def fnMeetOfRow : OpenClaim := { program := "ytegmjhjihbhakaadoor", sum := "f528c8678479f3c8cb8d7160fe2caeaec53eb87700a92855a78c98cc3a06e348", func := "loop.example/headtrees/laws.FnMeetOf", spec := "fnMeetOf", recurses := true, named := ["math/bits.deBruijn32tab", "math/bits.deBruijn64tab"], apart := false, laid := [("math/bits.deBruijn32tab", laid_math_bits_deBruijn32tab), ("math/bits.deBruijn64tab", laid_math_bits_deBruijn64tab)] }
def FnMeetOfSaid : Prop := fnMeetOfRow.holds Tryd.pinned (OpenSpec.ofChange fnMeetOfSpec)

/-- ITS FALSE NEIGHBOUR: 'it returns false'. Refute it at one input. -/
def fnMeetOfWrong : ChangeSpec := { name := "fnMeetOf", fn := fun _ => fun
  | [d] => { results := [.lit (.bool false)], args := [d] }
  | _ => none }
def FnMeetOfWrongFalsely : Prop := fnMeetOfRow.holds Tryd.pinned (OpenSpec.ofChange fnMeetOfWrong)

/-- 'laws.FnSidesOf': WHATEVER THE INPUT: true; the input reads as it did. -/
def fnSidesOfSpec : ChangeSpec := { name := "fnSidesOf", fn := fun _ => fun
  | [d] => { results := [.lit (.bool true)], args := [d] }
  | _ => none }
def fnSidesOfRow : OpenClaim := { program := "ytegmjhjihbhakaadoor", sum := "f528c8678479f3c8cb8d7160fe2caeaec53eb87700a92855a78c98cc3a06e348", func := "loop.example/headtrees/laws.FnSidesOf", spec := "fnSidesOf", named := ["math/bits.deBruijn32tab", "math/bits.deBruijn64tab"], apart := false, laid := [("math/bits.deBruijn32tab", laid_math_bits_deBruijn32tab), ("math/bits.deBruijn64tab", laid_math_bits_deBruijn64tab)] }
def FnSidesOfSaid : Prop := fnSidesOfRow.holds Tryd.pinned (OpenSpec.ofChange fnSidesOfSpec)

/-- ITS FALSE NEIGHBOUR: 'it returns false'. Refute it at one input. -/
def fnSidesOfWrong : ChangeSpec := { name := "fnSidesOf", fn := fun _ => fun
  | [d] => { results := [.lit (.bool false)], args := [d] }
  | _ => none }
def FnSidesOfWrongFalsely : Prop := fnSidesOfRow.holds Tryd.pinned (OpenSpec.ofChange fnSidesOfWrong)

/-- 'laws.FnCrossingsOf': WHATEVER THE INPUT: true; the input reads as it did. -/
def fnCrossingsOfSpec : ChangeSpec := { name := "fnCrossingsOf", fn := fun _ => fun
  | [d] => { results := [.lit (.bool true)], args := [d] }
  | _ => none }
def fnCrossingsOfRow : OpenClaim := { program := "ytegmjhjihbhakaadoor", sum := "f528c8678479f3c8cb8d7160fe2caeaec53eb87700a92855a78c98cc3a06e348", func := "loop.example/headtrees/laws.FnCrossingsOf", spec := "fnCrossingsOf", unfollowed := true, recurses := true, named := ["math/bits.deBruijn32tab", "math/bits.deBruijn64tab"], apart := false, laid := [("math/bits.deBruijn32tab", laid_math_bits_deBruijn32tab), ("math/bits.deBruijn64tab", laid_math_bits_deBruijn64tab)] }
def FnCrossingsOfSaid : Prop := fnCrossingsOfRow.holds Tryd.pinned (OpenSpec.ofChange fnCrossingsOfSpec)

/-- ITS FALSE NEIGHBOUR: 'it returns false'. Refute it at one input. -/
def fnCrossingsOfWrong : ChangeSpec := { name := "fnCrossingsOf", fn := fun _ => fun
  | [d] => { results := [.lit (.bool false)], args := [d] }
  | _ => none }
def FnCrossingsOfWrongFalsely : Prop := fnCrossingsOfRow.holds Tryd.pinned (OpenSpec.ofChange fnCrossingsOfWrong)

/-- 'laws.FnFlatOk': WHATEVER THE INPUT: true; the input reads as it did. -/
def fnFlatOkSpec : ChangeSpec := { name := "fnFlatOk", fn := fun _ => fun
  | [d] => { results := [.lit (.bool true)], args := [d] }
  | _ => none }
def fnFlatOkRow : OpenClaim := { program := "ytegmjhjihbhakaadoor", sum := "f528c8678479f3c8cb8d7160fe2caeaec53eb87700a92855a78c98cc3a06e348", func := "loop.example/headtrees/laws.FnFlatOk", spec := "fnFlatOk", unfollowed := true, recurses := true, named := ["math/bits.deBruijn32tab", "math/bits.deBruijn64tab"], apart := false, laid := [("math/bits.deBruijn32tab", laid_math_bits_deBruijn32tab), ("math/bits.deBruijn64tab", laid_math_bits_deBruijn64tab)] }
def FnFlatOkSaid : Prop := fnFlatOkRow.holds Tryd.pinned (OpenSpec.ofChange fnFlatOkSpec)

/-- ITS FALSE NEIGHBOUR: 'it returns false'. Refute it at one input. -/
def fnFlatOkWrong : ChangeSpec := { name := "fnFlatOk", fn := fun _ => fun
  | [d] => { results := [.lit (.bool false)], args := [d] }
  | _ => none }
def FnFlatOkWrongFalsely : Prop := fnFlatOkRow.holds Tryd.pinned (OpenSpec.ofChange fnFlatOkWrong)

/-- 'laws.FnBackOf': WHATEVER THE INPUT: true; the input reads as it did. -/
def fnBackOfSpec : ChangeSpec := { name := "fnBackOf", fn := fun _ => fun
  | [d] => { results := [.lit (.bool true)], args := [d] }
  | _ => none }
def fnBackOfRow : OpenClaim := { program := "ytegmjhjihbhakaadoor", sum := "f528c8678479f3c8cb8d7160fe2caeaec53eb87700a92855a78c98cc3a06e348", func := "loop.example/headtrees/laws.FnBackOf", spec := "fnBackOf", unfollowed := true, recurses := true, named := ["math/bits.deBruijn32tab", "math/bits.deBruijn64tab"], apart := false, laid := [("math/bits.deBruijn32tab", laid_math_bits_deBruijn32tab), ("math/bits.deBruijn64tab", laid_math_bits_deBruijn64tab)] }
def FnBackOfSaid : Prop := fnBackOfRow.holds Tryd.pinned (OpenSpec.ofChange fnBackOfSpec)

/-- ITS FALSE NEIGHBOUR: 'it returns false'. Refute it at one input. -/
def fnBackOfWrong : ChangeSpec := { name := "fnBackOf", fn := fun _ => fun
  | [d] => { results := [.lit (.bool false)], args := [d] }
  | _ => none }
def FnBackOfWrongFalsely : Prop := fnBackOfRow.holds Tryd.pinned (OpenSpec.ofChange fnBackOfWrong)

/-- 'laws.FnExactYieldOf': WHATEVER THE INPUT: true; the input reads as it did. -/
def fnExactYieldOfSpec : ChangeSpec := { name := "fnExactYieldOf", fn := fun _ => fun
  | [d1, d2] => { results := [.lit (.bool true)], args := [d1, d2] }
  | _ => none }
def fnExactYieldOfRow : OpenClaim := { program := "ytegmjhjihbhakaadoor", sum := "f528c8678479f3c8cb8d7160fe2caeaec53eb87700a92855a78c98cc3a06e348", func := "loop.example/headtrees/laws.FnExactYieldOf", spec := "fnExactYieldOf", recurses := true, named := ["math/bits.deBruijn32tab", "math/bits.deBruijn64tab"], apart := false, laid := [("math/bits.deBruijn32tab", laid_math_bits_deBruijn32tab), ("math/bits.deBruijn64tab", laid_math_bits_deBruijn64tab)] }
def FnExactYieldOfSaid : Prop := fnExactYieldOfRow.holds Tryd.pinned (OpenSpec.ofChange fnExactYieldOfSpec)

/-- ITS FALSE NEIGHBOUR: 'it returns false'. Refute it at one input. -/
def fnExactYieldOfWrong : ChangeSpec := { name := "fnExactYieldOf", fn := fun _ => fun
  | [d1, d2] => { results := [.lit (.bool false)], args := [d1, d2] }
  | _ => none }
def FnExactYieldOfWrongFalsely : Prop := fnExactYieldOfRow.holds Tryd.pinned (OpenSpec.ofChange fnExactYieldOfWrong)

/-- 'laws.FnExactDependsOf': WHATEVER THE INPUT: true; the input reads as it did. -/
def fnExactDependsOfSpec : ChangeSpec := { name := "fnExactDependsOf", fn := fun _ => fun
  | [d1, d2] => { results := [.lit (.bool true)], args := [d1, d2] }
  | _ => none }
def fnExactDependsOfRow : OpenClaim := { program := "ytegmjhjihbhakaadoor", sum := "f528c8678479f3c8cb8d7160fe2caeaec53eb87700a92855a78c98cc3a06e348", func := "loop.example/headtrees/laws.FnExactDependsOf", spec := "fnExactDependsOf", named := ["math/bits.deBruijn32tab", "math/bits.deBruijn64tab"], apart := false, laid := [("math/bits.deBruijn32tab", laid_math_bits_deBruijn32tab), ("math/bits.deBruijn64tab", laid_math_bits_deBruijn64tab)] }
def FnExactDependsOfSaid : Prop := fnExactDependsOfRow.holds Tryd.pinned (OpenSpec.ofChange fnExactDependsOfSpec)

/-- ITS FALSE NEIGHBOUR: 'it returns false'. Refute it at one input. -/
def fnExactDependsOfWrong : ChangeSpec := { name := "fnExactDependsOf", fn := fun _ => fun
  | [d1, d2] => { results := [.lit (.bool false)], args := [d1, d2] }
  | _ => none }
def FnExactDependsOfWrongFalsely : Prop := fnExactDependsOfRow.holds Tryd.pinned (OpenSpec.ofChange fnExactDependsOfWrong)

/-- 'laws.FnExactUnderOk': WHATEVER THE INPUT: true; the input reads as it did. -/
def fnExactUnderOkSpec : ChangeSpec := { name := "fnExactUnderOk", fn := fun _ => fun
  | [d1, d2, d3] => { results := [.lit (.bool true)], args := [d1, d2, d3] }
  | _ => none }
def fnExactUnderOkRow : OpenClaim := { program := "ytegmjhjihbhakaadoor", sum := "f528c8678479f3c8cb8d7160fe2caeaec53eb87700a92855a78c98cc3a06e348", func := "loop.example/headtrees/laws.FnExactUnderOk", spec := "fnExactUnderOk", recurses := true, named := ["math/bits.deBruijn32tab", "math/bits.deBruijn64tab"], apart := false, laid := [("math/bits.deBruijn32tab", laid_math_bits_deBruijn32tab), ("math/bits.deBruijn64tab", laid_math_bits_deBruijn64tab)] }
def FnExactUnderOkSaid : Prop := fnExactUnderOkRow.holds Tryd.pinned (OpenSpec.ofChange fnExactUnderOkSpec)

/-- ITS FALSE NEIGHBOUR: 'it returns false'. Refute it at one input. -/
def fnExactUnderOkWrong : ChangeSpec := { name := "fnExactUnderOk", fn := fun _ => fun
  | [d1, d2, d3] => { results := [.lit (.bool false)], args := [d1, d2, d3] }
  | _ => none }
def FnExactUnderOkWrongFalsely : Prop := fnExactUnderOkRow.holds Tryd.pinned (OpenSpec.ofChange fnExactUnderOkWrong)

/-- 'laws.FnExactMeetOf': WHATEVER THE INPUT: true; the input reads as it did. -/
def fnExactMeetOfSpec : ChangeSpec := { name := "fnExactMeetOf", fn := fun _ => fun
  | [d1, d2, d3] => { results := [.lit (.bool true)], args := [d1, d2, d3] }
  | _ => none }
def fnExactMeetOfRow : OpenClaim := { program := "ytegmjhjihbhakaadoor", sum := "f528c8678479f3c8cb8d7160fe2caeaec53eb87700a92855a78c98cc3a06e348", func := "loop.example/headtrees/laws.FnExactMeetOf", spec := "fnExactMeetOf", recurses := true, named := ["math/bits.deBruijn32tab", "math/bits.deBruijn64tab"], apart := false, laid := [("math/bits.deBruijn32tab", laid_math_bits_deBruijn32tab), ("math/bits.deBruijn64tab", laid_math_bits_deBruijn64tab)] }
def FnExactMeetOfSaid : Prop := fnExactMeetOfRow.holds Tryd.pinned (OpenSpec.ofChange fnExactMeetOfSpec)

/-- ITS FALSE NEIGHBOUR: 'it returns false'. Refute it at one input. -/
def fnExactMeetOfWrong : ChangeSpec := { name := "fnExactMeetOf", fn := fun _ => fun
  | [d1, d2, d3] => { results := [.lit (.bool false)], args := [d1, d2, d3] }
  | _ => none }
def FnExactMeetOfWrongFalsely : Prop := fnExactMeetOfRow.holds Tryd.pinned (OpenSpec.ofChange fnExactMeetOfWrong)

/-- 'laws.FnExactFlatOk': WHATEVER THE INPUT: true; the input reads as it did. -/
def fnExactFlatOkSpec : ChangeSpec := { name := "fnExactFlatOk", fn := fun _ => fun
  | [d] => { results := [.lit (.bool true)], args := [d] }
  | _ => none }
def fnExactFlatOkRow : OpenClaim := { program := "ytegmjhjihbhakaadoor", sum := "f528c8678479f3c8cb8d7160fe2caeaec53eb87700a92855a78c98cc3a06e348", func := "loop.example/headtrees/laws.FnExactFlatOk", spec := "fnExactFlatOk", recurses := true, named := ["math/bits.deBruijn32tab", "math/bits.deBruijn64tab"], apart := false, laid := [("math/bits.deBruijn32tab", laid_math_bits_deBruijn32tab), ("math/bits.deBruijn64tab", laid_math_bits_deBruijn64tab)] }
def FnExactFlatOkSaid : Prop := fnExactFlatOkRow.holds Tryd.pinned (OpenSpec.ofChange fnExactFlatOkSpec)

/-- ITS FALSE NEIGHBOUR: 'it returns false'. Refute it at one input. -/
def fnExactFlatOkWrong : ChangeSpec := { name := "fnExactFlatOk", fn := fun _ => fun
  | [d] => { results := [.lit (.bool false)], args := [d] }
  | _ => none }
def FnExactFlatOkWrongFalsely : Prop := fnExactFlatOkRow.holds Tryd.pinned (OpenSpec.ofChange fnExactFlatOkWrong)

/- THE SECOND FORM. 'bulk': how many values and letters a reading holds, each counted each time it is reached (what is shared counts as often as it is met; a slice's spare places count too). A statement '..UptoSaid' is the law's where the arguments, and the package variables that the reading takes, are together of bulk at most 1048576: NARROWER than '..Said'. Prove '..Said' where nothing that the law and all that it calls make is longer than what came in: it says more and counts as full. Else prove '..UptoSaid'. A law counts once. -/
mutual
def uptoBulk {H : Type} : DataW H → Nat
  | .lit (.string bytes) => bytes.length + 1
  | .lit _ => 1
  | .nil => 1
  | .ptr d => uptoBulk d + 1
  | .slice elems spare => uptoBulkAll elems + uptoBulkAll spare + 1
  | .agg parts => uptoBulkAll parts + 1
  | .iface _ d => uptoBulk d + 1
  | .map entries => uptoBulkEntries entries + 1
  | .held _ => 1
def uptoBulkAll {H : Type} : List (DataW H) → Nat
  | [] => 0
  | d :: r => uptoBulk d + uptoBulkAll r
def uptoBulkEntries {H : Type} : List (Lit × DataW H) → Nat
  | [] => 0
  | x :: r => uptoBulkEntry x + uptoBulkEntries r
def uptoBulkEntry {H : Type} : Lit × DataW H → Nat
  | (.string bytes, d) => bytes.length + uptoBulk d + 1
  | (_, d) => uptoBulk d + 1
 end
def uptoSmall : (H : Type) → List (DataW H) → Bool := fun _ ds => decide (uptoBulkAll ds ≤ 1048576)
def OpenSpec.upto (s : _root_.Go.ChangeSpec) : _root_.Go.OpenSpec := { _root_.Go.OpenSpec.ofChange s with cond := some uptoSmall }

/-- 'laws.FnYieldOf', WHERE WHAT IT READS IS OF BULK AT MOST 1048576: true; the input reads as it did. -/
def fnYieldOfUptoRow : OpenClaim := { program := "ytegmjhjihbhakaadoor", sum := "f528c8678479f3c8cb8d7160fe2caeaec53eb87700a92855a78c98cc3a06e348", func := "loop.example/headtrees/laws.FnYieldOf", spec := "fnYieldOf", recurses := true, named := ["math/bits.deBruijn32tab", "math/bits.deBruijn64tab"], apart := false, laid := [("math/bits.deBruijn32tab", laid_math_bits_deBruijn32tab), ("math/bits.deBruijn64tab", laid_math_bits_deBruijn64tab)], narrowed := true }
def FnYieldOfUptoSaid : Prop := fnYieldOfUptoRow.holds Tryd.pinned (OpenSpec.upto fnYieldOfSpec)

/-- 'laws.FnDependsOf', WHERE WHAT IT READS IS OF BULK AT MOST 1048576: true; the input reads as it did. -/
def fnDependsOfUptoRow : OpenClaim := { program := "ytegmjhjihbhakaadoor", sum := "f528c8678479f3c8cb8d7160fe2caeaec53eb87700a92855a78c98cc3a06e348", func := "loop.example/headtrees/laws.FnDependsOf", spec := "fnDependsOf", recurses := true, named := ["math/bits.deBruijn32tab", "math/bits.deBruijn64tab"], apart := false, laid := [("math/bits.deBruijn32tab", laid_math_bits_deBruijn32tab), ("math/bits.deBruijn64tab", laid_math_bits_deBruijn64tab)], narrowed := true }
def FnDependsOfUptoSaid : Prop := fnDependsOfUptoRow.holds Tryd.pinned (OpenSpec.upto fnDependsOfSpec)

/-- 'laws.FnUnderOk', WHERE WHAT IT READS IS OF BULK AT MOST 1048576: true; the input reads as it did. -/
def fnUnderOkUptoRow : OpenClaim := { program := "ytegmjhjihbhakaadoor", sum := "f528c8678479f3c8cb8d7160fe2caeaec53eb87700a92855a78c98cc3a06e348", func := "loop.example/headtrees/laws.FnUnderOk", spec := "fnUnderOk", recurses := true, named := ["math/bits.deBruijn32tab", "math/bits.deBruijn64tab"], apart := false, laid := [("math/bits.deBruijn32tab", laid_math_bits_deBruijn32tab), ("math/bits.deBruijn64tab", laid_math_bits_deBruijn64tab)], narrowed := true }
def FnUnderOkUptoSaid : Prop := fnUnderOkUptoRow.holds Tryd.pinned (OpenSpec.upto fnUnderOkSpec)

/-- 'laws.FnMeetOf', WHERE WHAT IT READS IS OF BULK AT MOST 1048576: true; the input reads as it did. -/
def fnMeetOfUptoRow : OpenClaim := { program := "ytegmjhjihbhakaadoor", sum := "f528c8678479f3c8cb8d7160fe2caeaec53eb87700a92855a78c98cc3a06e348", func := "loop.example/headtrees/laws.FnMeetOf", spec := "fnMeetOf", recurses := true, named := ["math/bits.deBruijn32tab", "math/bits.deBruijn64tab"], apart := false, laid := [("math/bits.deBruijn32tab", laid_math_bits_deBruijn32tab), ("math/bits.deBruijn64tab", laid_math_bits_deBruijn64tab)], narrowed := true }
def FnMeetOfUptoSaid : Prop := fnMeetOfUptoRow.holds Tryd.pinned (OpenSpec.upto fnMeetOfSpec)

/-- 'laws.FnSidesOf', WHERE WHAT IT READS IS OF BULK AT MOST 1048576: true; the input reads as it did. -/
def fnSidesOfUptoRow : OpenClaim := { program := "ytegmjhjihbhakaadoor", sum := "f528c8678479f3c8cb8d7160fe2caeaec53eb87700a92855a78c98cc3a06e348", func := "loop.example/headtrees/laws.FnSidesOf", spec := "fnSidesOf", named := ["math/bits.deBruijn32tab", "math/bits.deBruijn64tab"], apart := false, laid := [("math/bits.deBruijn32tab", laid_math_bits_deBruijn32tab), ("math/bits.deBruijn64tab", laid_math_bits_deBruijn64tab)], narrowed := true }
def FnSidesOfUptoSaid : Prop := fnSidesOfUptoRow.holds Tryd.pinned (OpenSpec.upto fnSidesOfSpec)

/-- 'laws.FnCrossingsOf', WHERE WHAT IT READS IS OF BULK AT MOST 1048576: true; the input reads as it did. -/
def fnCrossingsOfUptoRow : OpenClaim := { program := "ytegmjhjihbhakaadoor", sum := "f528c8678479f3c8cb8d7160fe2caeaec53eb87700a92855a78c98cc3a06e348", func := "loop.example/headtrees/laws.FnCrossingsOf", spec := "fnCrossingsOf", unfollowed := true, recurses := true, named := ["math/bits.deBruijn32tab", "math/bits.deBruijn64tab"], apart := false, laid := [("math/bits.deBruijn32tab", laid_math_bits_deBruijn32tab), ("math/bits.deBruijn64tab", laid_math_bits_deBruijn64tab)], narrowed := true }
def FnCrossingsOfUptoSaid : Prop := fnCrossingsOfUptoRow.holds Tryd.pinned (OpenSpec.upto fnCrossingsOfSpec)

/-- 'laws.FnFlatOk', WHERE WHAT IT READS IS OF BULK AT MOST 1048576: true; the input reads as it did. -/
def fnFlatOkUptoRow : OpenClaim := { program := "ytegmjhjihbhakaadoor", sum := "f528c8678479f3c8cb8d7160fe2caeaec53eb87700a92855a78c98cc3a06e348", func := "loop.example/headtrees/laws.FnFlatOk", spec := "fnFlatOk", unfollowed := true, recurses := true, named := ["math/bits.deBruijn32tab", "math/bits.deBruijn64tab"], apart := false, laid := [("math/bits.deBruijn32tab", laid_math_bits_deBruijn32tab), ("math/bits.deBruijn64tab", laid_math_bits_deBruijn64tab)], narrowed := true }
def FnFlatOkUptoSaid : Prop := fnFlatOkUptoRow.holds Tryd.pinned (OpenSpec.upto fnFlatOkSpec)

/-- 'laws.FnBackOf', WHERE WHAT IT READS IS OF BULK AT MOST 1048576: true; the input reads as it did. -/
def fnBackOfUptoRow : OpenClaim := { program := "ytegmjhjihbhakaadoor", sum := "f528c8678479f3c8cb8d7160fe2caeaec53eb87700a92855a78c98cc3a06e348", func := "loop.example/headtrees/laws.FnBackOf", spec := "fnBackOf", unfollowed := true, recurses := true, named := ["math/bits.deBruijn32tab", "math/bits.deBruijn64tab"], apart := false, laid := [("math/bits.deBruijn32tab", laid_math_bits_deBruijn32tab), ("math/bits.deBruijn64tab", laid_math_bits_deBruijn64tab)], narrowed := true }
def FnBackOfUptoSaid : Prop := fnBackOfUptoRow.holds Tryd.pinned (OpenSpec.upto fnBackOfSpec)

/-- 'laws.FnExactYieldOf', WHERE WHAT IT READS IS OF BULK AT MOST 1048576: true; the input reads as it did. -/
def fnExactYieldOfUptoRow : OpenClaim := { program := "ytegmjhjihbhakaadoor", sum := "f528c8678479f3c8cb8d7160fe2caeaec53eb87700a92855a78c98cc3a06e348", func := "loop.example/headtrees/laws.FnExactYieldOf", spec := "fnExactYieldOf", recurses := true, named := ["math/bits.deBruijn32tab", "math/bits.deBruijn64tab"], apart := false, laid := [("math/bits.deBruijn32tab", laid_math_bits_deBruijn32tab), ("math/bits.deBruijn64tab", laid_math_bits_deBruijn64tab)], narrowed := true }
def FnExactYieldOfUptoSaid : Prop := fnExactYieldOfUptoRow.holds Tryd.pinned (OpenSpec.upto fnExactYieldOfSpec)

/-- 'laws.FnExactDependsOf', WHERE WHAT IT READS IS OF BULK AT MOST 1048576: true; the input reads as it did. -/
def fnExactDependsOfUptoRow : OpenClaim := { program := "ytegmjhjihbhakaadoor", sum := "f528c8678479f3c8cb8d7160fe2caeaec53eb87700a92855a78c98cc3a06e348", func := "loop.example/headtrees/laws.FnExactDependsOf", spec := "fnExactDependsOf", named := ["math/bits.deBruijn32tab", "math/bits.deBruijn64tab"], apart := false, laid := [("math/bits.deBruijn32tab", laid_math_bits_deBruijn32tab), ("math/bits.deBruijn64tab", laid_math_bits_deBruijn64tab)], narrowed := true }
def FnExactDependsOfUptoSaid : Prop := fnExactDependsOfUptoRow.holds Tryd.pinned (OpenSpec.upto fnExactDependsOfSpec)

/-- 'laws.FnExactUnderOk', WHERE WHAT IT READS IS OF BULK AT MOST 1048576: true; the input reads as it did. -/
def fnExactUnderOkUptoRow : OpenClaim := { program := "ytegmjhjihbhakaadoor", sum := "f528c8678479f3c8cb8d7160fe2caeaec53eb87700a92855a78c98cc3a06e348", func := "loop.example/headtrees/laws.FnExactUnderOk", spec := "fnExactUnderOk", recurses := true, named := ["math/bits.deBruijn32tab", "math/bits.deBruijn64tab"], apart := false, laid := [("math/bits.deBruijn32tab", laid_math_bits_deBruijn32tab), ("math/bits.deBruijn64tab", laid_math_bits_deBruijn64tab)], narrowed := true }
def FnExactUnderOkUptoSaid : Prop := fnExactUnderOkUptoRow.holds Tryd.pinned (OpenSpec.upto fnExactUnderOkSpec)

/-- 'laws.FnExactMeetOf', WHERE WHAT IT READS IS OF BULK AT MOST 1048576: true; the input reads as it did. -/
def fnExactMeetOfUptoRow : OpenClaim := { program := "ytegmjhjihbhakaadoor", sum := "f528c8678479f3c8cb8d7160fe2caeaec53eb87700a92855a78c98cc3a06e348", func := "loop.example/headtrees/laws.FnExactMeetOf", spec := "fnExactMeetOf", recurses := true, named := ["math/bits.deBruijn32tab", "math/bits.deBruijn64tab"], apart := false, laid := [("math/bits.deBruijn32tab", laid_math_bits_deBruijn32tab), ("math/bits.deBruijn64tab", laid_math_bits_deBruijn64tab)], narrowed := true }
def FnExactMeetOfUptoSaid : Prop := fnExactMeetOfUptoRow.holds Tryd.pinned (OpenSpec.upto fnExactMeetOfSpec)

/-- 'laws.FnExactFlatOk', WHERE WHAT IT READS IS OF BULK AT MOST 1048576: true; the input reads as it did. -/
def fnExactFlatOkUptoRow : OpenClaim := { program := "ytegmjhjihbhakaadoor", sum := "f528c8678479f3c8cb8d7160fe2caeaec53eb87700a92855a78c98cc3a06e348", func := "loop.example/headtrees/laws.FnExactFlatOk", spec := "fnExactFlatOk", recurses := true, named := ["math/bits.deBruijn32tab", "math/bits.deBruijn64tab"], apart := false, laid := [("math/bits.deBruijn32tab", laid_math_bits_deBruijn32tab), ("math/bits.deBruijn64tab", laid_math_bits_deBruijn64tab)], narrowed := true }
def FnExactFlatOkUptoSaid : Prop := fnExactFlatOkUptoRow.holds Tryd.pinned (OpenSpec.upto fnExactFlatOkSpec)

end Rows
end Go.Proofs.YtegmjhjihbhakaaDoor
