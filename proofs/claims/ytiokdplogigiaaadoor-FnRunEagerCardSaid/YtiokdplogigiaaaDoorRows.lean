/-
  NARROWER THAN 'FOR EVERY INPUT', by the rows' own cells (each row's printed sentence says how): FnRunStack: laid · FnMovesFor: laid · FnRunEager: laid · FnEagerFor: laid · FnExactMovesFor: laid · FnExactEagerFor: laid.
  DERIVED. THE GIVEN ROWS OF THIS SEAT. 6 by the template 'for every input the law returns true; each argument reads behind the call as it read before'; 0 by the template 'total and deterministic' (their statements: YtiokdplogigiaaaDoorTotals.lean).
  GIVEN WITH THE SEED: the statements are not yours to turn. If you find one false, say at which input.
  Laid BY PROGRAM, IN A SANDBOX (cutbox-rows.mjs): the forced cells as the released guide's own fill.sh prints them over the translation 85d8afef039646cb… (all of the seat's roots in one cut). By AI agents, Wed Nov 11 2026. No macro, syntax, notation, axiom, sorry.
-/
import Derived.Test.YtiokdplogigiaaaDoorChecked
import GoSem.Claim
import GoSem.ClaimJoined
import GoSem.ClaimMapViews
import Derived.JoinedTies
import Derived.KernelRfl
namespace Go.Proofs.YtiokdplogigiaaaDoor
/- THE CELL 'sum', in the pinned program and in every row, IS THE sha256 OF THE DUMP (.gsa) THAT YtiokdplogigiaaaDoorProg.lean LOADS. Nothing in Lean hashes anything: it is a label: what it is worth is what the hold of that sum in a sandbox is worth. -/
noncomputable def Tryd.pinned : Pinned := { name := "ytiokdplogigiaaadoor", sum := "85d8afef039646cb7ac389e107109a5e734bde67e0042500f90ce140a1571166", checked := Tryd.checked }
namespace Rows
def none {H : Type} : Left H := { results := [], args := [] }

/- WHAT THE LISTED PACKAGE-LEVEL VARIABLES READ AS WHEN THE CALL BEGINS. Each datum BY PROGRAM (the guide's laid-datum.mjs) off the statement by which the dump's own 'gosem.cut.vars' lays the variable. In a bare row this is a premise. The card (YtiokdplogigiaaaDoorCards.lean) ties it to the program's text. -/
def laid_math_bits_deBruijn32tab {H : Type} : DataW H := .agg [.lit (.int .u8 0), .lit (.int .u8 1), .lit (.int .u8 28), .lit (.int .u8 2), .lit (.int .u8 29), .lit (.int .u8 14), .lit (.int .u8 24), .lit (.int .u8 3), .lit (.int .u8 30), .lit (.int .u8 22), .lit (.int .u8 20), .lit (.int .u8 15), .lit (.int .u8 25), .lit (.int .u8 17), .lit (.int .u8 4), .lit (.int .u8 8), .lit (.int .u8 31), .lit (.int .u8 27), .lit (.int .u8 13), .lit (.int .u8 23), .lit (.int .u8 21), .lit (.int .u8 19), .lit (.int .u8 16), .lit (.int .u8 7), .lit (.int .u8 26), .lit (.int .u8 12), .lit (.int .u8 18), .lit (.int .u8 6), .lit (.int .u8 11), .lit (.int .u8 5), .lit (.int .u8 10), .lit (.int .u8 9)]
def laid_math_bits_deBruijn64tab {H : Type} : DataW H := .agg [.lit (.int .u8 0), .lit (.int .u8 1), .lit (.int .u8 56), .lit (.int .u8 2), .lit (.int .u8 57), .lit (.int .u8 49), .lit (.int .u8 28), .lit (.int .u8 3), .lit (.int .u8 61), .lit (.int .u8 58), .lit (.int .u8 42), .lit (.int .u8 50), .lit (.int .u8 38), .lit (.int .u8 29), .lit (.int .u8 17), .lit (.int .u8 4), .lit (.int .u8 62), .lit (.int .u8 47), .lit (.int .u8 59), .lit (.int .u8 36), .lit (.int .u8 45), .lit (.int .u8 43), .lit (.int .u8 51), .lit (.int .u8 22), .lit (.int .u8 53), .lit (.int .u8 39), .lit (.int .u8 33), .lit (.int .u8 30), .lit (.int .u8 24), .lit (.int .u8 18), .lit (.int .u8 12), .lit (.int .u8 5), .lit (.int .u8 63), .lit (.int .u8 55), .lit (.int .u8 48), .lit (.int .u8 27), .lit (.int .u8 60), .lit (.int .u8 41), .lit (.int .u8 37), .lit (.int .u8 16), .lit (.int .u8 46), .lit (.int .u8 35), .lit (.int .u8 44), .lit (.int .u8 21), .lit (.int .u8 52), .lit (.int .u8 32), .lit (.int .u8 23), .lit (.int .u8 11), .lit (.int .u8 54), .lit (.int .u8 26), .lit (.int .u8 40), .lit (.int .u8 15), .lit (.int .u8 34), .lit (.int .u8 20), .lit (.int .u8 31), .lit (.int .u8 10), .lit (.int .u8 25), .lit (.int .u8 14), .lit (.int .u8 19), .lit (.int .u8 9), .lit (.int .u8 13), .lit (.int .u8 8), .lit (.int .u8 7), .lit (.int .u8 6)]

/-- 'laws.FnRunStack': WHATEVER THE INPUT: true; the input reads as it did. -/
def fnRunStackSpec : ChangeSpec := { name := "fnRunStack", fn := fun _ => fun
  | [d] => { results := [.lit (.bool true)], args := [d] }
  | _ => none }
def fnRunStackRow : OpenClaim := { program := "ytiokdplogigiaaadoor", sum := "85d8afef039646cb7ac389e107109a5e734bde67e0042500f90ce140a1571166", func := "loop.example/headtrees/laws.FnRunStack", spec := "fnRunStack", unfollowed := true, recurses := true, named := ["math/bits.deBruijn32tab", "math/bits.deBruijn64tab"], apart := false, laid := [("math/bits.deBruijn32tab", laid_math_bits_deBruijn32tab), ("math/bits.deBruijn64tab", laid_math_bits_deBruijn64tab)] }
def FnRunStackSaid : Prop := fnRunStackRow.holds Tryd.pinned (OpenSpec.ofChange fnRunStackSpec)

/-- ITS FALSE NEIGHBOUR: 'it returns false'. Refute it at one input. -/
def fnRunStackWrong : ChangeSpec := { name := "fnRunStack", fn := fun _ => fun
  | [d] => { results := [.lit (.bool false)], args := [d] }
  | _ => none }
def FnRunStackWrongFalsely : Prop := fnRunStackRow.holds Tryd.pinned (OpenSpec.ofChange fnRunStackWrong)

/-- 'laws.FnMovesFor': WHATEVER THE INPUT: true; the input reads as it did. -/
def fnMovesForSpec : ChangeSpec := { name := "fnMovesFor", fn := fun _ => fun
  | [d] => { results := [.lit (.bool true)], args := [d] }
  | _ => none }
def fnMovesForRow : OpenClaim := { program := "ytiokdplogigiaaadoor", sum := "85d8afef039646cb7ac389e107109a5e734bde67e0042500f90ce140a1571166", func := "loop.example/headtrees/laws.FnMovesFor", spec := "fnMovesFor", unfollowed := true, recurses := true, named := ["math/bits.deBruijn32tab", "math/bits.deBruijn64tab"], apart := false, laid := [("math/bits.deBruijn32tab", laid_math_bits_deBruijn32tab), ("math/bits.deBruijn64tab", laid_math_bits_deBruijn64tab)] }
def FnMovesForSaid : Prop := fnMovesForRow.holds Tryd.pinned (OpenSpec.ofChange fnMovesForSpec)

/-- ITS FALSE NEIGHBOUR: 'it returns false'. Refute it at one input. -/
def fnMovesForWrong : ChangeSpec := { name := "fnMovesFor", fn := fun _ => fun
  | [d] => { results := [.lit (.bool false)], args := [d] }
  | _ => none }
def FnMovesForWrongFalsely : Prop := fnMovesForRow.holds Tryd.pinned (OpenSpec.ofChange fnMovesForWrong)

/-- 'laws.FnRunEager': WHATEVER THE INPUT: true; the input reads as it did. -/
def fnRunEagerSpec : ChangeSpec := { name := "fnRunEager", fn := fun _ => fun
  | [d] => { results := [.lit (.bool true)], args := [d] }
  | _ => none }
def fnRunEagerRow : OpenClaim := { program := "ytiokdplogigiaaadoor", sum := "85d8afef039646cb7ac389e107109a5e734bde67e0042500f90ce140a1571166", func := "loop.example/headtrees/laws.FnRunEager", spec := "fnRunEager", unfollowed := true, recurses := true, named := ["math/bits.deBruijn32tab", "math/bits.deBruijn64tab"], apart := false, laid := [("math/bits.deBruijn32tab", laid_math_bits_deBruijn32tab), ("math/bits.deBruijn64tab", laid_math_bits_deBruijn64tab)] }
def FnRunEagerSaid : Prop := fnRunEagerRow.holds Tryd.pinned (OpenSpec.ofChange fnRunEagerSpec)

/-- ITS FALSE NEIGHBOUR: 'it returns false'. Refute it at one input. -/
def fnRunEagerWrong : ChangeSpec := { name := "fnRunEager", fn := fun _ => fun
  | [d] => { results := [.lit (.bool false)], args := [d] }
  | _ => none }
def FnRunEagerWrongFalsely : Prop := fnRunEagerRow.holds Tryd.pinned (OpenSpec.ofChange fnRunEagerWrong)

/-- 'laws.FnEagerFor': WHATEVER THE INPUT: true; the input reads as it did. -/
def fnEagerForSpec : ChangeSpec := { name := "fnEagerFor", fn := fun _ => fun
  | [d] => { results := [.lit (.bool true)], args := [d] }
  | _ => none }
def fnEagerForRow : OpenClaim := { program := "ytiokdplogigiaaadoor", sum := "85d8afef039646cb7ac389e107109a5e734bde67e0042500f90ce140a1571166", func := "loop.example/headtrees/laws.FnEagerFor", spec := "fnEagerFor", unfollowed := true, recurses := true, named := ["math/bits.deBruijn32tab", "math/bits.deBruijn64tab"], apart := false, laid := [("math/bits.deBruijn32tab", laid_math_bits_deBruijn32tab), ("math/bits.deBruijn64tab", laid_math_bits_deBruijn64tab)] }
def FnEagerForSaid : Prop := fnEagerForRow.holds Tryd.pinned (OpenSpec.ofChange fnEagerForSpec)

/-- ITS FALSE NEIGHBOUR: 'it returns false'. Refute it at one input. -/
def fnEagerForWrong : ChangeSpec := { name := "fnEagerFor", fn := fun _ => fun
  | [d] => { results := [.lit (.bool false)], args := [d] }
  | _ => none }
def FnEagerForWrongFalsely : Prop := fnEagerForRow.holds Tryd.pinned (OpenSpec.ofChange fnEagerForWrong)

/-- 'laws.FnExactMovesFor': WHATEVER THE INPUT: true; the input reads as it did. -/
def fnExactMovesForSpec : ChangeSpec := { name := "fnExactMovesFor", fn := fun _ => fun
  | [d] => { results := [.lit (.bool true)], args := [d] }
  | _ => none }
def fnExactMovesForRow : OpenClaim := { program := "ytiokdplogigiaaadoor", sum := "85d8afef039646cb7ac389e107109a5e734bde67e0042500f90ce140a1571166", func := "loop.example/headtrees/laws.FnExactMovesFor", spec := "fnExactMovesFor", unfollowed := true, recurses := true, named := ["math/bits.deBruijn32tab", "math/bits.deBruijn64tab"], apart := false, laid := [("math/bits.deBruijn32tab", laid_math_bits_deBruijn32tab), ("math/bits.deBruijn64tab", laid_math_bits_deBruijn64tab)] }
def FnExactMovesForSaid : Prop := fnExactMovesForRow.holds Tryd.pinned (OpenSpec.ofChange fnExactMovesForSpec)

/-- ITS FALSE NEIGHBOUR: 'it returns false'. Refute it at one input. -/
def fnExactMovesForWrong : ChangeSpec := { name := "fnExactMovesFor", fn := fun _ => fun
  | [d] => { results := [.lit (.bool false)], args := [d] }
  | _ => none }
def FnExactMovesForWrongFalsely : Prop := fnExactMovesForRow.holds Tryd.pinned (OpenSpec.ofChange fnExactMovesForWrong)

/-- 'laws.FnExactEagerFor': WHATEVER THE INPUT: true; the input reads as it did. -/
def fnExactEagerForSpec : ChangeSpec := { name := "fnExactEagerFor", fn := fun _ => fun
  | [d] => { results := [.lit (.bool true)], args := [d] }
  | _ => none }
def fnExactEagerForRow : OpenClaim := { program := "ytiokdplogigiaaadoor", sum := "85d8afef039646cb7ac389e107109a5e734bde67e0042500f90ce140a1571166", func := "loop.example/headtrees/laws.FnExactEagerFor", spec := "fnExactEagerFor", unfollowed := true, recurses := true, named := ["math/bits.deBruijn32tab", "math/bits.deBruijn64tab"], apart := false, laid := [("math/bits.deBruijn32tab", laid_math_bits_deBruijn32tab), ("math/bits.deBruijn64tab", laid_math_bits_deBruijn64tab)] }
def FnExactEagerForSaid : Prop := fnExactEagerForRow.holds Tryd.pinned (OpenSpec.ofChange fnExactEagerForSpec)

/-- ITS FALSE NEIGHBOUR: 'it returns false'. Refute it at one input. -/
def fnExactEagerForWrong : ChangeSpec := { name := "fnExactEagerFor", fn := fun _ => fun
  | [d] => { results := [.lit (.bool false)], args := [d] }
  | _ => none }
def FnExactEagerForWrongFalsely : Prop := fnExactEagerForRow.holds Tryd.pinned (OpenSpec.ofChange fnExactEagerForWrong)

/- THE SECOND FORM. 'bulk': how many values and letters a reading holds, each counted each time it is reached (what is shared counts as often as it is met; a slice's spare places count too). A statement '..UptoSaid' is the law's where the arguments, and the package variables that the reading takes, are together of bulk at most 1048576: NARROWER than '..Said'. Prove '..Said' where nothing that the law and all that it calls make is longer than what came in: it says more and counts as full. Else prove '..UptoSaid'. A law counts once. -/
mutual
def uptoBulk {H : Type} : DataW H → Nat
  | .lit (.string bytes) => bytes.length + 1
  | .lit _ => 1
  | .nil => 1
  | .ptr d => uptoBulk d + 1
  | .slice elems spare => uptoBulkAll elems + uptoBulkAll spare + 1
  | .agg parts => uptoBulkAll parts + 1
  | .iface _ d => uptoBulk d + 1
  | .map entries => uptoBulkEntries entries + 1
  | .held _ => 1
def uptoBulkAll {H : Type} : List (DataW H) → Nat
  | [] => 0
  | d :: r => uptoBulk d + uptoBulkAll r
def uptoBulkEntries {H : Type} : List (Lit × DataW H) → Nat
  | [] => 0
  | x :: r => uptoBulkEntry x + uptoBulkEntries r
def uptoBulkEntry {H : Type} : Lit × DataW H → Nat
  | (.string bytes, d) => bytes.length + uptoBulk d + 1
  | (_, d) => uptoBulk d + 1
 end
def uptoSmall : (H : Type) → List (DataW H) → Bool := fun _ ds => decide (uptoBulkAll ds ≤ 1048576)
def OpenSpec.upto (s : _root_.Go.ChangeSpec) : _root_.Go.OpenSpec := { _root_.Go.OpenSpec.ofChange s with cond := some uptoSmall }

/-- 'laws.FnRunStack', WHERE WHAT IT READS IS OF BULK AT MOST 1048576: true; the input reads as it did. -/
def fnRunStackUptoRow : OpenClaim := { program := "ytiokdplogigiaaadoor", sum := "85d8afef039646cb7ac389e107109a5e734bde67e0042500f90ce140a1571166", func := "loop.example/headtrees/laws.FnRunStack", spec := "fnRunStack", unfollowed := true, recurses := true, named := ["math/bits.deBruijn32tab", "math/bits.deBruijn64tab"], apart := false, laid := [("math/bits.deBruijn32tab", laid_math_bits_deBruijn32tab), ("math/bits.deBruijn64tab", laid_math_bits_deBruijn64tab)], narrowed := true }
def FnRunStackUptoSaid : Prop := fnRunStackUptoRow.holds Tryd.pinned (OpenSpec.upto fnRunStackSpec)

/-- 'laws.FnMovesFor', WHERE WHAT IT READS IS OF BULK AT MOST 1048576: true; the input reads as it did. -/
def fnMovesForUptoRow : OpenClaim := { program := "ytiokdplogigiaaadoor", sum := "85d8afef039646cb7ac389e107109a5e734bde67e0042500f90ce140a1571166", func := "loop.example/headtrees/laws.FnMovesFor", spec := "fnMovesFor", unfollowed := true, recurses := true, named := ["math/bits.deBruijn32tab", "math/bits.deBruijn64tab"], apart := false, laid := [("math/bits.deBruijn32tab", laid_math_bits_deBruijn32tab), ("math/bits.deBruijn64tab", laid_math_bits_deBruijn64tab)], narrowed := true }
def FnMovesForUptoSaid : Prop := fnMovesForUptoRow.holds Tryd.pinned (OpenSpec.upto fnMovesForSpec)

/-- 'laws.FnRunEager', WHERE WHAT IT READS IS OF BULK AT MOST 1048576: true; the input reads as it did. -/
def fnRunEagerUptoRow : OpenClaim := { program := "ytiokdplogigiaaadoor", sum := "85d8afef039646cb7ac389e107109a5e734bde67e0042500f90ce140a1571166", func := "loop.example/headtrees/laws.FnRunEager", spec := "fnRunEager", unfollowed := true, recurses := true, named := ["math/bits.deBruijn32tab", "math/bits.deBruijn64tab"], apart := false, laid := [("math/bits.deBruijn32tab", laid_math_bits_deBruijn32tab), ("math/bits.deBruijn64tab", laid_math_bits_deBruijn64tab)], narrowed := true }
def FnRunEagerUptoSaid : Prop := fnRunEagerUptoRow.holds Tryd.pinned (OpenSpec.upto fnRunEagerSpec)

/-- 'laws.FnEagerFor', WHERE WHAT IT READS IS OF BULK AT MOST 1048576: true; the input reads as it did. -/
def fnEagerForUptoRow : OpenClaim := { program := "ytiokdplogigiaaadoor", sum := "85d8afef039646cb7ac389e107109a5e734bde67e0042500f90ce140a1571166", func := "loop.example/headtrees/laws.FnEagerFor", spec := "fnEagerFor", unfollowed := true, recurses := true, named := ["math/bits.deBruijn32tab", "math/bits.deBruijn64tab"], apart := false, laid := [("math/bits.deBruijn32tab", laid_math_bits_deBruijn32tab), ("math/bits.deBruijn64tab", laid_math_bits_deBruijn64tab)], narrowed := true }
def FnEagerForUptoSaid : Prop := fnEagerForUptoRow.holds Tryd.pinned (OpenSpec.upto fnEagerForSpec)

/-- 'laws.FnExactMovesFor', WHERE WHAT IT READS IS OF BULK AT MOST 1048576: true; the input reads as it did. -/
def fnExactMovesForUptoRow : OpenClaim := { program := "ytiokdplogigiaaadoor", sum := "85d8afef039646cb7ac389e107109a5e734bde67e0042500f90ce140a1571166", func := "loop.example/headtrees/laws.FnExactMovesFor", spec := "fnExactMovesFor", unfollowed := true, recurses := true, named := ["math/bits.deBruijn32tab", "math/bits.deBruijn64tab"], apart := false, laid := [("math/bits.deBruijn32tab", laid_math_bits_deBruijn32tab), ("math/bits.deBruijn64tab", laid_math_bits_deBruijn64tab)], narrowed := true }
def FnExactMovesForUptoSaid : Prop := fnExactMovesForUptoRow.holds Tryd.pinned (OpenSpec.upto fnExactMovesForSpec)

/-- 'laws.FnExactEagerFor', WHERE WHAT IT READS IS OF BULK AT MOST 1048576: true; the input reads as it did. -/
def fnExactEagerForUptoRow : OpenClaim := { program := "ytiokdplogigiaaadoor", sum := "85d8afef039646cb7ac389e107109a5e734bde67e0042500f90ce140a1571166", func := "loop.example/headtrees/laws.FnExactEagerFor", spec := "fnExactEagerFor", unfollowed := true, recurses := true, named := ["math/bits.deBruijn32tab", "math/bits.deBruijn64tab"], apart := false, laid := [("math/bits.deBruijn32tab", laid_math_bits_deBruijn32tab), ("math/bits.deBruijn64tab", laid_math_bits_deBruijn64tab)], narrowed := true }
def FnExactEagerForUptoSaid : Prop := fnExactEagerForUptoRow.holds Tryd.pinned (OpenSpec.upto fnExactEagerForSpec)

end Rows
end Go.Proofs.YtiokdplogigiaaaDoor
