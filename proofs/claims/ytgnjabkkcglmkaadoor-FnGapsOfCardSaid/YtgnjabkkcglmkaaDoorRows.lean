/-
  NARROWER THAN 'FOR EVERY INPUT', by the rows' own cells (each row's printed sentence says how): FnGapsOf: laid · FnMostGaps: laid · FnTurnsOk: laid · FnNestedOk: laid · FnRowsOf: laid · FnExactGapsOf: laid · FnExactMostGaps: laid · FnExactNestedOk: laid.
  DERIVED. THE GIVEN ROWS OF THIS SEAT. 8 by the template 'for every input the law returns true; each argument reads behind the call as it read before'; 0 by the template 'total and deterministic' (their statements: YtgnjabkkcglmkaaDoorTotals.lean).
  GIVEN WITH THE SEED: the statements are not yours to turn. If you find one false, say at which input.
  Laid BY PROGRAM, IN A SANDBOX (cutbox-rows.mjs): the forced cells as the released guide's own fill.sh prints them over the translation a7e53838902e1c5a… (all of the seat's roots in one cut). By AI agents, Wed Nov 11 2026. No macro, syntax, notation, axiom, sorry.
-/
import Derived.Test.YtgnjabkkcglmkaaDoorChecked
import GoSem.Claim
import GoSem.ClaimJoined
import GoSem.ClaimMapViews
import Derived.JoinedTies
import Derived.KernelRfl
namespace Go.Proofs.YtgnjabkkcglmkaaDoor
/- THE CELL 'sum', in the pinned program and in every row, IS THE sha256 OF THE DUMP (.gsa) THAT YtgnjabkkcglmkaaDoorProg.lean LOADS. Nothing in Lean hashes anything: it is a label: what it is worth is what the hold of that sum in a sandbox is worth. -/
noncomputable def Tryd.pinned : Pinned := { name := "ytgnjabkkcglmkaadoor", sum := "a7e53838902e1c5a2b1473d6087e8ac8a0f0f7af52871b044b53b58078632c93", checked := Tryd.checked }
namespace Rows
def none {H : Type} : Left H := { results := [], args := [] }

/- WHAT THE LISTED PACKAGE-LEVEL VARIABLES READ AS WHEN THE CALL BEGINS. Each datum BY PROGRAM (the guide's laid-datum.mjs) off the statement by which the dump's own 'gosem.cut.vars' lays the variable. In a bare row this is a premise. The card (YtgnjabkkcglmkaaDoorCards.lean) ties it to the program's text. -/
def laid_math_bits_deBruijn32tab {H : Type} : DataW H := .agg [.lit (.int .u8 0), .lit (.int .u8 1), .lit (.int .u8 28), .lit (.int .u8 2), .lit (.int .u8 29), .lit (.int .u8 14), .lit (.int .u8 24), .lit (.int .u8 3), .lit (.int .u8 30), .lit (.int .u8 22), .lit (.int .u8 20), .lit (.int .u8 15), .lit (.int .u8 25), .lit (.int .u8 17), .lit (.int .u8 4), .lit (.int .u8 8), .lit (.int .u8 31), .lit (.int .u8 27), .lit (.int .u8 13), .lit (.int .u8 23), .lit (.int .u8 21), .lit (.int .u8 19), .lit (.int .u8 16), .lit (.int .u8 7), .lit (.int .u8 26), .lit (.int .u8 12), .lit (.int .u8 18), .lit (.int .u8 6), .lit (.int .u8 11), .lit (.int .u8 5), .lit (.int .u8 10), .lit (.int .u8 9)]
def laid_math_bits_deBruijn64tab {H : Type} : DataW H := .agg [.lit (.int .u8 0), .lit (.int .u8 1), .lit (.int .u8 56), .lit (.int .u8 2), .lit (.int .u8 57), .lit (.int .u8 49), .lit (.int .u8 28), .lit (.int .u8 3), .lit (.int .u8 61), .lit (.int .u8 58), .lit (.int .u8 42), .lit (.int .u8 50), .lit (.int .u8 38), .lit (.int .u8 29), .lit (.int .u8 17), .lit (.int .u8 4), .lit (.int .u8 62), .lit (.int .u8 47), .lit (.int .u8 59), .lit (.int .u8 36), .lit (.int .u8 45), .lit (.int .u8 43), .lit (.int .u8 51), .lit (.int .u8 22), .lit (.int .u8 53), .lit (.int .u8 39), .lit (.int .u8 33), .lit (.int .u8 30), .lit (.int .u8 24), .lit (.int .u8 18), .lit (.int .u8 12), .lit (.int .u8 5), .lit (.int .u8 63), .lit (.int .u8 55), .lit (.int .u8 48), .lit (.int .u8 27), .lit (.int .u8 60), .lit (.int .u8 41), .lit (.int .u8 37), .lit (.int .u8 16), .lit (.int .u8 46), .lit (.int .u8 35), .lit (.int .u8 44), .lit (.int .u8 21), .lit (.int .u8 52), .lit (.int .u8 32), .lit (.int .u8 23), .lit (.int .u8 11), .lit (.int .u8 54), .lit (.int .u8 26), .lit (.int .u8 40), .lit (.int .u8 15), .lit (.int .u8 34), .lit (.int .u8 20), .lit (.int .u8 31), .lit (.int .u8 10), .lit (.int .u8 25), .lit (.int .u8 14), .lit (.int .u8 19), .lit (.int .u8 9), .lit (.int .u8 13), .lit (.int .u8 8), .lit (.int .u8 7), .lit (.int .u8 6)]

/-- 'laws.FnGapsOf': WHATEVER THE INPUT: true; the input reads as it did. -/
def fnGapsOfSpec : ChangeSpec := { name := "fnGapsOf", fn := fun _ => fun
  | [d] => { results := [.lit (.bool true)], args := [d] }
  | _ => none }
def fnGapsOfRow : OpenClaim := { program := "ytgnjabkkcglmkaadoor", sum := "a7e53838902e1c5a2b1473d6087e8ac8a0f0f7af52871b044b53b58078632c93", func := "loop.example/headtrees/laws.FnGapsOf", spec := "fnGapsOf", unfollowed := true, recurses := true, named := ["math/bits.deBruijn32tab", "math/bits.deBruijn64tab"], apart := false, laid := [("math/bits.deBruijn32tab", laid_math_bits_deBruijn32tab), ("math/bits.deBruijn64tab", laid_math_bits_deBruijn64tab)] }
def FnGapsOfSaid : Prop := fnGapsOfRow.holds Tryd.pinned (OpenSpec.ofChange fnGapsOfSpec)

/-- ITS FALSE NEIGHBOUR: 'it returns false'. Refute it at one input. -/
def fnGapsOfWrong : ChangeSpec := { name := "fnGapsOf", fn := fun _ => fun
  | [d] => { results := [.lit (.bool false)], args := [d] }
  | _ => none }
def FnGapsOfWrongFalsely : Prop := fnGapsOfRow.holds Tryd.pinned (OpenSpec.ofChange fnGapsOfWrong)

/-- 'laws.FnMostGaps': WHATEVER THE INPUT: true; the input reads as it did. -/
def fnMostGapsSpec : ChangeSpec := { name := "fnMostGaps", fn := fun _ => fun
  | [d] => { results := [.lit (.bool true)], args := [d] }
  | _ => none }
def fnMostGapsRow : OpenClaim := { program := "ytgnjabkkcglmkaadoor", sum := "a7e53838902e1c5a2b1473d6087e8ac8a0f0f7af52871b044b53b58078632c93", func := "loop.example/headtrees/laws.FnMostGaps", spec := "fnMostGaps", unfollowed := true, recurses := true, named := ["math/bits.deBruijn32tab", "math/bits.deBruijn64tab"], apart := false, laid := [("math/bits.deBruijn32tab", laid_math_bits_deBruijn32tab), ("math/bits.deBruijn64tab", laid_math_bits_deBruijn64tab)] }
def FnMostGapsSaid : Prop := fnMostGapsRow.holds Tryd.pinned (OpenSpec.ofChange fnMostGapsSpec)

/-- ITS FALSE NEIGHBOUR: 'it returns false'. Refute it at one input. -/
def fnMostGapsWrong : ChangeSpec := { name := "fnMostGaps", fn := fun _ => fun
  | [d] => { results := [.lit (.bool false)], args := [d] }
  | _ => none }
def FnMostGapsWrongFalsely : Prop := fnMostGapsRow.holds Tryd.pinned (OpenSpec.ofChange fnMostGapsWrong)

/-- 'laws.FnTurnsOk': WHATEVER THE INPUT: true; the input reads as it did. -/
def fnTurnsOkSpec : ChangeSpec := { name := "fnTurnsOk", fn := fun _ => fun
  | [d] => { results := [.lit (.bool true)], args := [d] }
  | _ => none }
def fnTurnsOkRow : OpenClaim := { program := "ytgnjabkkcglmkaadoor", sum := "a7e53838902e1c5a2b1473d6087e8ac8a0f0f7af52871b044b53b58078632c93", func := "loop.example/headtrees/laws.FnTurnsOk", spec := "fnTurnsOk", unfollowed := true, recurses := true, named := ["math/bits.deBruijn32tab", "math/bits.deBruijn64tab"], apart := false, laid := [("math/bits.deBruijn32tab", laid_math_bits_deBruijn32tab), ("math/bits.deBruijn64tab", laid_math_bits_deBruijn64tab)] }
def FnTurnsOkSaid : Prop := fnTurnsOkRow.holds Tryd.pinned (OpenSpec.ofChange fnTurnsOkSpec)

/-- ITS FALSE NEIGHBOUR: 'it returns false'. Refute it at one input. -/
def fnTurnsOkWrong : ChangeSpec := { name := "fnTurnsOk", fn := fun _ => fun
  | [d] => { results := [.lit (.bool false)], args := [d] }
  | _ => none }
def FnTurnsOkWrongFalsely : Prop := fnTurnsOkRow.holds Tryd.pinned (OpenSpec.ofChange fnTurnsOkWrong)

/-- 'laws.FnNestedOk': WHATEVER THE INPUT: true; the input reads as it did. -/
def fnNestedOkSpec : ChangeSpec := { name := "fnNestedOk", fn := fun _ => fun
  | [d] => { results := [.lit (.bool true)], args := [d] }
  | _ => none }
def fnNestedOkRow : OpenClaim := { program := "ytgnjabkkcglmkaadoor", sum := "a7e53838902e1c5a2b1473d6087e8ac8a0f0f7af52871b044b53b58078632c93", func := "loop.example/headtrees/laws.FnNestedOk", spec := "fnNestedOk", unfollowed := true, recurses := true, named := ["math/bits.deBruijn32tab", "math/bits.deBruijn64tab"], apart := false, laid := [("math/bits.deBruijn32tab", laid_math_bits_deBruijn32tab), ("math/bits.deBruijn64tab", laid_math_bits_deBruijn64tab)] }
def FnNestedOkSaid : Prop := fnNestedOkRow.holds Tryd.pinned (OpenSpec.ofChange fnNestedOkSpec)

/-- ITS FALSE NEIGHBOUR: 'it returns false'. Refute it at one input. -/
def fnNestedOkWrong : ChangeSpec := { name := "fnNestedOk", fn := fun _ => fun
  | [d] => { results := [.lit (.bool false)], args := [d] }
  | _ => none }
def FnNestedOkWrongFalsely : Prop := fnNestedOkRow.holds Tryd.pinned (OpenSpec.ofChange fnNestedOkWrong)

/-- 'laws.FnRowsOf': WHATEVER THE INPUT: true; the input reads as it did. -/
def fnRowsOfSpec : ChangeSpec := { name := "fnRowsOf", fn := fun _ => fun
  | [d] => { results := [.lit (.bool true)], args := [d] }
  | _ => none }
def fnRowsOfRow : OpenClaim := { program := "ytgnjabkkcglmkaadoor", sum := "a7e53838902e1c5a2b1473d6087e8ac8a0f0f7af52871b044b53b58078632c93", func := "loop.example/headtrees/laws.FnRowsOf", spec := "fnRowsOf", recurses := true, named := ["math/bits.deBruijn32tab", "math/bits.deBruijn64tab"], apart := false, laid := [("math/bits.deBruijn32tab", laid_math_bits_deBruijn32tab), ("math/bits.deBruijn64tab", laid_math_bits_deBruijn64tab)] }
def FnRowsOfSaid : Prop := fnRowsOfRow.holds Tryd.pinned (OpenSpec.ofChange fnRowsOfSpec)

/-- ITS FALSE NEIGHBOUR: 'it returns false'. Refute it at one input. -/
def fnRowsOfWrong : ChangeSpec := { name := "fnRowsOf", fn := fun _ => fun
  | [d] => { results := [.lit (.bool false)], args := [d] }
  | _ => none }
def FnRowsOfWrongFalsely : Prop := fnRowsOfRow.holds Tryd.pinned (OpenSpec.ofChange fnRowsOfWrong)

/-- 'laws.FnExactGapsOf': WHATEVER THE INPUT: true; the input reads as it did. -/
def fnExactGapsOfSpec : ChangeSpec := { name := "fnExactGapsOf", fn := fun _ => fun
  | [d1, d2] => { results := [.lit (.bool true)], args := [d1, d2] }
  | _ => none }
def fnExactGapsOfRow : OpenClaim := { program := "ytgnjabkkcglmkaadoor", sum := "a7e53838902e1c5a2b1473d6087e8ac8a0f0f7af52871b044b53b58078632c93", func := "loop.example/headtrees/laws.FnExactGapsOf", spec := "fnExactGapsOf", recurses := true, named := ["math/bits.deBruijn32tab", "math/bits.deBruijn64tab"], apart := false, laid := [("math/bits.deBruijn32tab", laid_math_bits_deBruijn32tab), ("math/bits.deBruijn64tab", laid_math_bits_deBruijn64tab)] }
def FnExactGapsOfSaid : Prop := fnExactGapsOfRow.holds Tryd.pinned (OpenSpec.ofChange fnExactGapsOfSpec)

/-- ITS FALSE NEIGHBOUR: 'it returns false'. Refute it at one input. -/
def fnExactGapsOfWrong : ChangeSpec := { name := "fnExactGapsOf", fn := fun _ => fun
  | [d1, d2] => { results := [.lit (.bool false)], args := [d1, d2] }
  | _ => none }
def FnExactGapsOfWrongFalsely : Prop := fnExactGapsOfRow.holds Tryd.pinned (OpenSpec.ofChange fnExactGapsOfWrong)

/-- 'laws.FnExactMostGaps': WHATEVER THE INPUT: true; the input reads as it did. -/
def fnExactMostGapsSpec : ChangeSpec := { name := "fnExactMostGaps", fn := fun _ => fun
  | [d] => { results := [.lit (.bool true)], args := [d] }
  | _ => none }
def fnExactMostGapsRow : OpenClaim := { program := "ytgnjabkkcglmkaadoor", sum := "a7e53838902e1c5a2b1473d6087e8ac8a0f0f7af52871b044b53b58078632c93", func := "loop.example/headtrees/laws.FnExactMostGaps", spec := "fnExactMostGaps", recurses := true, named := ["math/bits.deBruijn32tab", "math/bits.deBruijn64tab"], apart := false, laid := [("math/bits.deBruijn32tab", laid_math_bits_deBruijn32tab), ("math/bits.deBruijn64tab", laid_math_bits_deBruijn64tab)] }
def FnExactMostGapsSaid : Prop := fnExactMostGapsRow.holds Tryd.pinned (OpenSpec.ofChange fnExactMostGapsSpec)

/-- ITS FALSE NEIGHBOUR: 'it returns false'. Refute it at one input. -/
def fnExactMostGapsWrong : ChangeSpec := { name := "fnExactMostGaps", fn := fun _ => fun
  | [d] => { results := [.lit (.bool false)], args := [d] }
  | _ => none }
def FnExactMostGapsWrongFalsely : Prop := fnExactMostGapsRow.holds Tryd.pinned (OpenSpec.ofChange fnExactMostGapsWrong)

/-- 'laws.FnExactNestedOk': WHATEVER THE INPUT: true; the input reads as it did. -/
def fnExactNestedOkSpec : ChangeSpec := { name := "fnExactNestedOk", fn := fun _ => fun
  | [d] => { results := [.lit (.bool true)], args := [d] }
  | _ => none }
def fnExactNestedOkRow : OpenClaim := { program := "ytgnjabkkcglmkaadoor", sum := "a7e53838902e1c5a2b1473d6087e8ac8a0f0f7af52871b044b53b58078632c93", func := "loop.example/headtrees/laws.FnExactNestedOk", spec := "fnExactNestedOk", unfollowed := true, recurses := true, named := ["math/bits.deBruijn32tab", "math/bits.deBruijn64tab"], apart := false, laid := [("math/bits.deBruijn32tab", laid_math_bits_deBruijn32tab), ("math/bits.deBruijn64tab", laid_math_bits_deBruijn64tab)] }
def FnExactNestedOkSaid : Prop := fnExactNestedOkRow.holds Tryd.pinned (OpenSpec.ofChange fnExactNestedOkSpec)

/-- ITS FALSE NEIGHBOUR: 'it returns false'. Refute it at one input. -/
def fnExactNestedOkWrong : ChangeSpec := { name := "fnExactNestedOk", fn := fun _ => fun
  | [d] => { results := [.lit (.bool false)], args := [d] }
  | _ => none }
def FnExactNestedOkWrongFalsely : Prop := fnExactNestedOkRow.holds Tryd.pinned (OpenSpec.ofChange fnExactNestedOkWrong)

/- THE SECOND FORM. 'bulk': how many values and letters a reading holds, each counted each time it is reached (what is shared counts as often as it is met; a slice's spare places count too). A statement '..UptoSaid' is the law's where the arguments, and the package variables that the reading takes, are together of bulk at most 1048576: NARROWER than '..Said'. Prove '..Said' where nothing that the law and all that it calls make is longer than what came in: it says more and counts as full. Else prove '..UptoSaid'. A law counts once. -/
mutual
def uptoBulk {H : Type} : DataW H → Nat
  | .lit (.string bytes) => bytes.length + 1
  | .lit _ => 1
  | .nil => 1
  | .ptr d => uptoBulk d + 1
  | .slice elems spare => uptoBulkAll elems + uptoBulkAll spare + 1
  | .agg parts => uptoBulkAll parts + 1
  | .iface _ d => uptoBulk d + 1
  | .map entries => uptoBulkEntries entries + 1
  | .held _ => 1
def uptoBulkAll {H : Type} : List (DataW H) → Nat
  | [] => 0
  | d :: r => uptoBulk d + uptoBulkAll r
def uptoBulkEntries {H : Type} : List (Lit × DataW H) → Nat
  | [] => 0
  | x :: r => uptoBulkEntry x + uptoBulkEntries r
def uptoBulkEntry {H : Type} : Lit × DataW H → Nat
  | (.string bytes, d) => bytes.length + uptoBulk d + 1
  | (_, d) => uptoBulk d + 1
 end
def uptoSmall : (H : Type) → List (DataW H) → Bool := fun _ ds => decide (uptoBulkAll ds ≤ 1048576)
def OpenSpec.upto (s : _root_.Go.ChangeSpec) : _root_.Go.OpenSpec := { _root_.Go.OpenSpec.ofChange s with cond := some uptoSmall }

/-- 'laws.FnGapsOf', WHERE WHAT IT READS IS OF BULK AT MOST 1048576: true; the input reads as it did. -/
def fnGapsOfUptoRow : OpenClaim := { program := "ytgnjabkkcglmkaadoor", sum := "a7e53838902e1c5a2b1473d6087e8ac8a0f0f7af52871b044b53b58078632c93", func := "loop.example/headtrees/laws.FnGapsOf", spec := "fnGapsOf", unfollowed := true, recurses := true, named := ["math/bits.deBruijn32tab", "math/bits.deBruijn64tab"], apart := false, laid := [("math/bits.deBruijn32tab", laid_math_bits_deBruijn32tab), ("math/bits.deBruijn64tab", laid_math_bits_deBruijn64tab)], narrowed := true }
def FnGapsOfUptoSaid : Prop := fnGapsOfUptoRow.holds Tryd.pinned (OpenSpec.upto fnGapsOfSpec)

/-- 'laws.FnMostGaps', WHERE WHAT IT READS IS OF BULK AT MOST 1048576: true; the input reads as it did. -/
def fnMostGapsUptoRow : OpenClaim := { program := "ytgnjabkkcglmkaadoor", sum := "a7e53838902e1c5a2b1473d6087e8ac8a0f0f7af52871b044b53b58078632c93", func := "loop.example/headtrees/laws.FnMostGaps", spec := "fnMostGaps", unfollowed := true, recurses := true, named := ["math/bits.deBruijn32tab", "math/bits.deBruijn64tab"], apart := false, laid := [("math/bits.deBruijn32tab", laid_math_bits_deBruijn32tab), ("math/bits.deBruijn64tab", laid_math_bits_deBruijn64tab)], narrowed := true }
def FnMostGapsUptoSaid : Prop := fnMostGapsUptoRow.holds Tryd.pinned (OpenSpec.upto fnMostGapsSpec)

/-- 'laws.FnTurnsOk', WHERE WHAT IT READS IS OF BULK AT MOST 1048576: true; the input reads as it did. -/
def fnTurnsOkUptoRow : OpenClaim := { program := "ytgnjabkkcglmkaadoor", sum := "a7e53838902e1c5a2b1473d6087e8ac8a0f0f7af52871b044b53b58078632c93", func := "loop.example/headtrees/laws.FnTurnsOk", spec := "fnTurnsOk", unfollowed := true, recurses := true, named := ["math/bits.deBruijn32tab", "math/bits.deBruijn64tab"], apart := false, laid := [("math/bits.deBruijn32tab", laid_math_bits_deBruijn32tab), ("math/bits.deBruijn64tab", laid_math_bits_deBruijn64tab)], narrowed := true }
def FnTurnsOkUptoSaid : Prop := fnTurnsOkUptoRow.holds Tryd.pinned (OpenSpec.upto fnTurnsOkSpec)

/-- 'laws.FnNestedOk', WHERE WHAT IT READS IS OF BULK AT MOST 1048576: true; the input reads as it did. -/
def fnNestedOkUptoRow : OpenClaim := { program := "ytgnjabkkcglmkaadoor", sum := "a7e53838902e1c5a2b1473d6087e8ac8a0f0f7af52871b044b53b58078632c93", func := "loop.example/headtrees/laws.FnNestedOk", spec := "fnNestedOk", unfollowed := true, recurses := true, named := ["math/bits.deBruijn32tab", "math/bits.deBruijn64tab"], apart := false, laid := [("math/bits.deBruijn32tab", laid_math_bits_deBruijn32tab), ("math/bits.deBruijn64tab", laid_math_bits_deBruijn64tab)], narrowed := true }
def FnNestedOkUptoSaid : Prop := fnNestedOkUptoRow.holds Tryd.pinned (OpenSpec.upto fnNestedOkSpec)

/-- 'laws.FnRowsOf', WHERE WHAT IT READS IS OF BULK AT MOST 1048576: true; the input reads as it did. -/
def fnRowsOfUptoRow : OpenClaim := { program := "ytgnjabkkcglmkaadoor", sum := "a7e53838902e1c5a2b1473d6087e8ac8a0f0f7af52871b044b53b58078632c93", func := "loop.example/headtrees/laws.FnRowsOf", spec := "fnRowsOf", recurses := true, named := ["math/bits.deBruijn32tab", "math/bits.deBruijn64tab"], apart := false, laid := [("math/bits.deBruijn32tab", laid_math_bits_deBruijn32tab), ("math/bits.deBruijn64tab", laid_math_bits_deBruijn64tab)], narrowed := true }
def FnRowsOfUptoSaid : Prop := fnRowsOfUptoRow.holds Tryd.pinned (OpenSpec.upto fnRowsOfSpec)

/-- 'laws.FnExactGapsOf', WHERE WHAT IT READS IS OF BULK AT MOST 1048576: true; the input reads as it did. -/
def fnExactGapsOfUptoRow : OpenClaim := { program := "ytgnjabkkcglmkaadoor", sum := "a7e53838902e1c5a2b1473d6087e8ac8a0f0f7af52871b044b53b58078632c93", func := "loop.example/headtrees/laws.FnExactGapsOf", spec := "fnExactGapsOf", recurses := true, named := ["math/bits.deBruijn32tab", "math/bits.deBruijn64tab"], apart := false, laid := [("math/bits.deBruijn32tab", laid_math_bits_deBruijn32tab), ("math/bits.deBruijn64tab", laid_math_bits_deBruijn64tab)], narrowed := true }
def FnExactGapsOfUptoSaid : Prop := fnExactGapsOfUptoRow.holds Tryd.pinned (OpenSpec.upto fnExactGapsOfSpec)

/-- 'laws.FnExactMostGaps', WHERE WHAT IT READS IS OF BULK AT MOST 1048576: true; the input reads as it did. -/
def fnExactMostGapsUptoRow : OpenClaim := { program := "ytgnjabkkcglmkaadoor", sum := "a7e53838902e1c5a2b1473d6087e8ac8a0f0f7af52871b044b53b58078632c93", func := "loop.example/headtrees/laws.FnExactMostGaps", spec := "fnExactMostGaps", recurses := true, named := ["math/bits.deBruijn32tab", "math/bits.deBruijn64tab"], apart := false, laid := [("math/bits.deBruijn32tab", laid_math_bits_deBruijn32tab), ("math/bits.deBruijn64tab", laid_math_bits_deBruijn64tab)], narrowed := true }
def FnExactMostGapsUptoSaid : Prop := fnExactMostGapsUptoRow.holds Tryd.pinned (OpenSpec.upto fnExactMostGapsSpec)

/-- 'laws.FnExactNestedOk', WHERE WHAT IT READS IS OF BULK AT MOST 1048576: true; the input reads as it did. -/
def fnExactNestedOkUptoRow : OpenClaim := { program := "ytgnjabkkcglmkaadoor", sum := "a7e53838902e1c5a2b1473d6087e8ac8a0f0f7af52871b044b53b58078632c93", func := "loop.example/headtrees/laws.FnExactNestedOk", spec := "fnExactNestedOk", unfollowed := true, recurses := true, named := ["math/bits.deBruijn32tab", "math/bits.deBruijn64tab"], apart := false, laid := [("math/bits.deBruijn32tab", laid_math_bits_deBruijn32tab), ("math/bits.deBruijn64tab", laid_math_bits_deBruijn64tab)], narrowed := true }
def FnExactNestedOkUptoSaid : Prop := fnExactNestedOkUptoRow.holds Tryd.pinned (OpenSpec.upto fnExactNestedOkSpec)

end Rows
end Go.Proofs.YtgnjabkkcglmkaaDoor
