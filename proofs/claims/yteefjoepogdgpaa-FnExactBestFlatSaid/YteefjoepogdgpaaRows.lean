/-
  No cell of these rows narrows 'for every input' (looked for: loops, veiled, ifaces, maps, wideKeys, modest, calm, conditions, laid).
  DERIVED. THE GIVEN ROWS OF THIS SEAT. 9 by the template 'for every input the law returns true; each argument reads behind the call as it read before'; 0 by the template 'total and deterministic' (their statements: YteefjoepogdgpaaTotals.lean).
  GIVEN WITH THE SEED: the statements are not yours to turn. If you find one false, say at which input.
  Laid BY PROGRAM, IN A SANDBOX (cutbox-rows.mjs): the forced cells as the released guide's own fill.sh prints them over the translation 0dbd3a5f00b34a4f… (all of the seat's roots in one cut). By AI agents, Wed Nov 11 2026. No macro, syntax, notation, axiom, sorry.
-/
import Derived.Test.YteefjoepogdgpaaChecked
import GoSem.Claim
import GoSem.ClaimJoined
import GoSem.ClaimMapViews
import Derived.JoinedTies
import Derived.KernelRfl
namespace Go.Proofs.Yteefjoepogdgpaa
/- THE CELL 'sum', in the pinned program and in every row, IS THE sha256 OF THE DUMP (.gsa) THAT YteefjoepogdgpaaProg.lean LOADS. Nothing in Lean hashes anything: it is a label: what it is worth is what the hold of that sum in a sandbox is worth. -/
noncomputable def Try.pinned : Pinned := { name := "yteefjoepogdgpaa", sum := "0dbd3a5f00b34a4f1dc1d75577b987e1c89a08650004b13a8be425a7512bd33a", checked := Try.checked }
namespace Rows
def none {H : Type} : Left H := { results := [], args := [] }

/-- 'laws.FnScoresOk': WHATEVER THE INPUT: true; the input reads as it did. -/
def fnScoresOkSpec : ChangeSpec := { name := "fnScoresOk", fn := fun _ => fun
  | [d] => { results := [.lit (.bool true)], args := [d] }
  | _ => none }
def fnScoresOkRow : OpenClaim := { program := "yteefjoepogdgpaa", sum := "0dbd3a5f00b34a4f1dc1d75577b987e1c89a08650004b13a8be425a7512bd33a", func := "loop.example/headtrees/laws.FnScoresOk", spec := "fnScoresOk", apart := false }
def FnScoresOkSaid : Prop := fnScoresOkRow.holds Try.pinned (OpenSpec.ofChange fnScoresOkSpec)

/-- ITS FALSE NEIGHBOUR: 'it returns false'. Refute it at one input. -/
def fnScoresOkWrong : ChangeSpec := { name := "fnScoresOk", fn := fun _ => fun
  | [d] => { results := [.lit (.bool false)], args := [d] }
  | _ => none }
def FnScoresOkWrongFalsely : Prop := fnScoresOkRow.holds Try.pinned (OpenSpec.ofChange fnScoresOkWrong)

/-- 'laws.FnBestScore': WHATEVER THE INPUT: true; the input reads as it did. -/
def fnBestScoreSpec : ChangeSpec := { name := "fnBestScore", fn := fun _ => fun
  | [d] => { results := [.lit (.bool true)], args := [d] }
  | _ => none }
def fnBestScoreRow : OpenClaim := { program := "yteefjoepogdgpaa", sum := "0dbd3a5f00b34a4f1dc1d75577b987e1c89a08650004b13a8be425a7512bd33a", func := "loop.example/headtrees/laws.FnBestScore", spec := "fnBestScore", unfollowed := true, recurses := true, apart := false }
def FnBestScoreSaid : Prop := fnBestScoreRow.holds Try.pinned (OpenSpec.ofChange fnBestScoreSpec)

/-- ITS FALSE NEIGHBOUR: 'it returns false'. Refute it at one input. -/
def fnBestScoreWrong : ChangeSpec := { name := "fnBestScore", fn := fun _ => fun
  | [d] => { results := [.lit (.bool false)], args := [d] }
  | _ => none }
def FnBestScoreWrongFalsely : Prop := fnBestScoreRow.holds Try.pinned (OpenSpec.ofChange fnBestScoreWrong)

/-- 'laws.FnBestFlat': WHATEVER THE INPUT: true; the input reads as it did. -/
def fnBestFlatSpec : ChangeSpec := { name := "fnBestFlat", fn := fun _ => fun
  | [d] => { results := [.lit (.bool true)], args := [d] }
  | _ => none }
def fnBestFlatRow : OpenClaim := { program := "yteefjoepogdgpaa", sum := "0dbd3a5f00b34a4f1dc1d75577b987e1c89a08650004b13a8be425a7512bd33a", func := "loop.example/headtrees/laws.FnBestFlat", spec := "fnBestFlat", unfollowed := true, recurses := true, apart := false }
def FnBestFlatSaid : Prop := fnBestFlatRow.holds Try.pinned (OpenSpec.ofChange fnBestFlatSpec)

/-- ITS FALSE NEIGHBOUR: 'it returns false'. Refute it at one input. -/
def fnBestFlatWrong : ChangeSpec := { name := "fnBestFlat", fn := fun _ => fun
  | [d] => { results := [.lit (.bool false)], args := [d] }
  | _ => none }
def FnBestFlatWrongFalsely : Prop := fnBestFlatRow.holds Try.pinned (OpenSpec.ofChange fnBestFlatWrong)

/-- 'laws.FnRaisedBy': WHATEVER THE INPUT: true; the input reads as it did. -/
def fnRaisedBySpec : ChangeSpec := { name := "fnRaisedBy", fn := fun _ => fun
  | [d] => { results := [.lit (.bool true)], args := [d] }
  | _ => none }
def fnRaisedByRow : OpenClaim := { program := "yteefjoepogdgpaa", sum := "0dbd3a5f00b34a4f1dc1d75577b987e1c89a08650004b13a8be425a7512bd33a", func := "loop.example/headtrees/laws.FnRaisedBy", spec := "fnRaisedBy", unfollowed := true, recurses := true, apart := false }
def FnRaisedBySaid : Prop := fnRaisedByRow.holds Try.pinned (OpenSpec.ofChange fnRaisedBySpec)

/-- ITS FALSE NEIGHBOUR: 'it returns false'. Refute it at one input. -/
def fnRaisedByWrong : ChangeSpec := { name := "fnRaisedBy", fn := fun _ => fun
  | [d] => { results := [.lit (.bool false)], args := [d] }
  | _ => none }
def FnRaisedByWrongFalsely : Prop := fnRaisedByRow.holds Try.pinned (OpenSpec.ofChange fnRaisedByWrong)

/-- 'laws.FnExactScoresOk': WHATEVER THE INPUT: true; the input reads as it did. -/
def fnExactScoresOkSpec : ChangeSpec := { name := "fnExactScoresOk", fn := fun _ => fun
  | [d] => { results := [.lit (.bool true)], args := [d] }
  | _ => none }
def fnExactScoresOkRow : OpenClaim := { program := "yteefjoepogdgpaa", sum := "0dbd3a5f00b34a4f1dc1d75577b987e1c89a08650004b13a8be425a7512bd33a", func := "loop.example/headtrees/laws.FnExactScoresOk", spec := "fnExactScoresOk", apart := false }
def FnExactScoresOkSaid : Prop := fnExactScoresOkRow.holds Try.pinned (OpenSpec.ofChange fnExactScoresOkSpec)

/-- ITS FALSE NEIGHBOUR: 'it returns false'. Refute it at one input. -/
def fnExactScoresOkWrong : ChangeSpec := { name := "fnExactScoresOk", fn := fun _ => fun
  | [d] => { results := [.lit (.bool false)], args := [d] }
  | _ => none }
def FnExactScoresOkWrongFalsely : Prop := fnExactScoresOkRow.holds Try.pinned (OpenSpec.ofChange fnExactScoresOkWrong)

/-- 'laws.FnExactScoreOf': WHATEVER THE INPUT: true; the input reads as it did. -/
def fnExactScoreOfSpec : ChangeSpec := { name := "fnExactScoreOf", fn := fun _ => fun
  | [d1, d2] => { results := [.lit (.bool true)], args := [d1, d2] }
  | _ => none }
def fnExactScoreOfRow : OpenClaim := { program := "yteefjoepogdgpaa", sum := "0dbd3a5f00b34a4f1dc1d75577b987e1c89a08650004b13a8be425a7512bd33a", func := "loop.example/headtrees/laws.FnExactScoreOf", spec := "fnExactScoreOf", apart := false }
def FnExactScoreOfSaid : Prop := fnExactScoreOfRow.holds Try.pinned (OpenSpec.ofChange fnExactScoreOfSpec)

/-- ITS FALSE NEIGHBOUR: 'it returns false'. Refute it at one input. -/
def fnExactScoreOfWrong : ChangeSpec := { name := "fnExactScoreOf", fn := fun _ => fun
  | [d1, d2] => { results := [.lit (.bool false)], args := [d1, d2] }
  | _ => none }
def FnExactScoreOfWrongFalsely : Prop := fnExactScoreOfRow.holds Try.pinned (OpenSpec.ofChange fnExactScoreOfWrong)

/-- 'laws.FnExactBestScore': WHATEVER THE INPUT: true; the input reads as it did. -/
def fnExactBestScoreSpec : ChangeSpec := { name := "fnExactBestScore", fn := fun _ => fun
  | [d] => { results := [.lit (.bool true)], args := [d] }
  | _ => none }
def fnExactBestScoreRow : OpenClaim := { program := "yteefjoepogdgpaa", sum := "0dbd3a5f00b34a4f1dc1d75577b987e1c89a08650004b13a8be425a7512bd33a", func := "loop.example/headtrees/laws.FnExactBestScore", spec := "fnExactBestScore", recurses := true, apart := false }
def FnExactBestScoreSaid : Prop := fnExactBestScoreRow.holds Try.pinned (OpenSpec.ofChange fnExactBestScoreSpec)

/-- ITS FALSE NEIGHBOUR: 'it returns false'. Refute it at one input. -/
def fnExactBestScoreWrong : ChangeSpec := { name := "fnExactBestScore", fn := fun _ => fun
  | [d] => { results := [.lit (.bool false)], args := [d] }
  | _ => none }
def FnExactBestScoreWrongFalsely : Prop := fnExactBestScoreRow.holds Try.pinned (OpenSpec.ofChange fnExactBestScoreWrong)

/-- 'laws.FnExactBestFlat': WHATEVER THE INPUT: true; the input reads as it did. -/
def fnExactBestFlatSpec : ChangeSpec := { name := "fnExactBestFlat", fn := fun _ => fun
  | [d] => { results := [.lit (.bool true)], args := [d] }
  | _ => none }
def fnExactBestFlatRow : OpenClaim := { program := "yteefjoepogdgpaa", sum := "0dbd3a5f00b34a4f1dc1d75577b987e1c89a08650004b13a8be425a7512bd33a", func := "loop.example/headtrees/laws.FnExactBestFlat", spec := "fnExactBestFlat", unfollowed := true, recurses := true, apart := false }
def FnExactBestFlatSaid : Prop := fnExactBestFlatRow.holds Try.pinned (OpenSpec.ofChange fnExactBestFlatSpec)

/-- ITS FALSE NEIGHBOUR: 'it returns false'. Refute it at one input. -/
def fnExactBestFlatWrong : ChangeSpec := { name := "fnExactBestFlat", fn := fun _ => fun
  | [d] => { results := [.lit (.bool false)], args := [d] }
  | _ => none }
def FnExactBestFlatWrongFalsely : Prop := fnExactBestFlatRow.holds Try.pinned (OpenSpec.ofChange fnExactBestFlatWrong)

/-- 'laws.FnExactRaisedBy': WHATEVER THE INPUT: true; the input reads as it did. -/
def fnExactRaisedBySpec : ChangeSpec := { name := "fnExactRaisedBy", fn := fun _ => fun
  | [d1, d2] => { results := [.lit (.bool true)], args := [d1, d2] }
  | _ => none }
def fnExactRaisedByRow : OpenClaim := { program := "yteefjoepogdgpaa", sum := "0dbd3a5f00b34a4f1dc1d75577b987e1c89a08650004b13a8be425a7512bd33a", func := "loop.example/headtrees/laws.FnExactRaisedBy", spec := "fnExactRaisedBy", apart := false }
def FnExactRaisedBySaid : Prop := fnExactRaisedByRow.holds Try.pinned (OpenSpec.ofChange fnExactRaisedBySpec)

/-- ITS FALSE NEIGHBOUR: 'it returns false'. Refute it at one input. -/
def fnExactRaisedByWrong : ChangeSpec := { name := "fnExactRaisedBy", fn := fun _ => fun
  | [d1, d2] => { results := [.lit (.bool false)], args := [d1, d2] }
  | _ => none }
def FnExactRaisedByWrongFalsely : Prop := fnExactRaisedByRow.holds Try.pinned (OpenSpec.ofChange fnExactRaisedByWrong)

/- THE SECOND FORM. 'bulk': how many values and letters a reading holds, each counted each time it is reached (what is shared counts as often as it is met; a slice's spare places count too). A statement '..UptoSaid' is the law's where the arguments, and the package variables that the reading takes, are together of bulk at most 1048576: NARROWER than '..Said'. Prove '..Said' where nothing that the law and all that it calls make is longer than what came in: it says more and counts as full. Else prove '..UptoSaid'. A law counts once. -/
mutual
def uptoBulk {H : Type} : DataW H → Nat
  | .lit (.string bytes) => bytes.length + 1
  | .lit _ => 1
  | .nil => 1
  | .ptr d => uptoBulk d + 1
  | .slice elems spare => uptoBulkAll elems + uptoBulkAll spare + 1
  | .agg parts => uptoBulkAll parts + 1
  | .iface _ d => uptoBulk d + 1
  | .map entries => uptoBulkEntries entries + 1
  | .held _ => 1
def uptoBulkAll {H : Type} : List (DataW H) → Nat
  | [] => 0
  | d :: r => uptoBulk d + uptoBulkAll r
def uptoBulkEntries {H : Type} : List (Lit × DataW H) → Nat
  | [] => 0
  | x :: r => uptoBulkEntry x + uptoBulkEntries r
def uptoBulkEntry {H : Type} : Lit × DataW H → Nat
  | (.string bytes, d) => bytes.length + uptoBulk d + 1
  | (_, d) => uptoBulk d + 1
 end
def uptoSmall : (H : Type) → List (DataW H) → Bool := fun _ ds => decide (uptoBulkAll ds ≤ 1048576)
def OpenSpec.upto (s : _root_.Go.ChangeSpec) : _root_.Go.OpenSpec := { _root_.Go.OpenSpec.ofChange s with cond := some uptoSmall }

/-- 'laws.FnScoresOk', WHERE WHAT IT READS IS OF BULK AT MOST 1048576: true; the input reads as it did. -/
def fnScoresOkUptoRow : OpenClaim := { program := "yteefjoepogdgpaa", sum := "0dbd3a5f00b34a4f1dc1d75577b987e1c89a08650004b13a8be425a7512bd33a", func := "loop.example/headtrees/laws.FnScoresOk", spec := "fnScoresOk", apart := false, narrowed := true }
def FnScoresOkUptoSaid : Prop := fnScoresOkUptoRow.holds Try.pinned (OpenSpec.upto fnScoresOkSpec)

/-- 'laws.FnBestScore', WHERE WHAT IT READS IS OF BULK AT MOST 1048576: true; the input reads as it did. -/
def fnBestScoreUptoRow : OpenClaim := { program := "yteefjoepogdgpaa", sum := "0dbd3a5f00b34a4f1dc1d75577b987e1c89a08650004b13a8be425a7512bd33a", func := "loop.example/headtrees/laws.FnBestScore", spec := "fnBestScore", unfollowed := true, recurses := true, apart := false, narrowed := true }
def FnBestScoreUptoSaid : Prop := fnBestScoreUptoRow.holds Try.pinned (OpenSpec.upto fnBestScoreSpec)

/-- 'laws.FnBestFlat', WHERE WHAT IT READS IS OF BULK AT MOST 1048576: true; the input reads as it did. -/
def fnBestFlatUptoRow : OpenClaim := { program := "yteefjoepogdgpaa", sum := "0dbd3a5f00b34a4f1dc1d75577b987e1c89a08650004b13a8be425a7512bd33a", func := "loop.example/headtrees/laws.FnBestFlat", spec := "fnBestFlat", unfollowed := true, recurses := true, apart := false, narrowed := true }
def FnBestFlatUptoSaid : Prop := fnBestFlatUptoRow.holds Try.pinned (OpenSpec.upto fnBestFlatSpec)

/-- 'laws.FnRaisedBy', WHERE WHAT IT READS IS OF BULK AT MOST 1048576: true; the input reads as it did. -/
def fnRaisedByUptoRow : OpenClaim := { program := "yteefjoepogdgpaa", sum := "0dbd3a5f00b34a4f1dc1d75577b987e1c89a08650004b13a8be425a7512bd33a", func := "loop.example/headtrees/laws.FnRaisedBy", spec := "fnRaisedBy", unfollowed := true, recurses := true, apart := false, narrowed := true }
def FnRaisedByUptoSaid : Prop := fnRaisedByUptoRow.holds Try.pinned (OpenSpec.upto fnRaisedBySpec)

/-- 'laws.FnExactScoresOk', WHERE WHAT IT READS IS OF BULK AT MOST 1048576: true; the input reads as it did. -/
def fnExactScoresOkUptoRow : OpenClaim := { program := "yteefjoepogdgpaa", sum := "0dbd3a5f00b34a4f1dc1d75577b987e1c89a08650004b13a8be425a7512bd33a", func := "loop.example/headtrees/laws.FnExactScoresOk", spec := "fnExactScoresOk", apart := false, narrowed := true }
def FnExactScoresOkUptoSaid : Prop := fnExactScoresOkUptoRow.holds Try.pinned (OpenSpec.upto fnExactScoresOkSpec)

/-- 'laws.FnExactScoreOf', WHERE WHAT IT READS IS OF BULK AT MOST 1048576: true; the input reads as it did. -/
def fnExactScoreOfUptoRow : OpenClaim := { program := "yteefjoepogdgpaa", sum := "0dbd3a5f00b34a4f1dc1d75577b987e1c89a08650004b13a8be425a7512bd33a", func := "loop.example/headtrees/laws.FnExactScoreOf", spec := "fnExactScoreOf", apart := false, narrowed := true }
def FnExactScoreOfUptoSaid : Prop := fnExactScoreOfUptoRow.holds Try.pinned (OpenSpec.upto fnExactScoreOfSpec)

/-- 'laws.FnExactBestScore', WHERE WHAT IT READS IS OF BULK AT MOST 1048576: true; the input reads as it did. -/
def fnExactBestScoreUptoRow : OpenClaim := { program := "yteefjoepogdgpaa", sum := "0dbd3a5f00b34a4f1dc1d75577b987e1c89a08650004b13a8be425a7512bd33a", func := "loop.example/headtrees/laws.FnExactBestScore", spec := "fnExactBestScore", recurses := true, apart := false, narrowed := true }
def FnExactBestScoreUptoSaid : Prop := fnExactBestScoreUptoRow.holds Try.pinned (OpenSpec.upto fnExactBestScoreSpec)

/-- 'laws.FnExactBestFlat', WHERE WHAT IT READS IS OF BULK AT MOST 1048576: true; the input reads as it did. -/
def fnExactBestFlatUptoRow : OpenClaim := { program := "yteefjoepogdgpaa", sum := "0dbd3a5f00b34a4f1dc1d75577b987e1c89a08650004b13a8be425a7512bd33a", func := "loop.example/headtrees/laws.FnExactBestFlat", spec := "fnExactBestFlat", unfollowed := true, recurses := true, apart := false, narrowed := true }
def FnExactBestFlatUptoSaid : Prop := fnExactBestFlatUptoRow.holds Try.pinned (OpenSpec.upto fnExactBestFlatSpec)

/-- 'laws.FnExactRaisedBy', WHERE WHAT IT READS IS OF BULK AT MOST 1048576: true; the input reads as it did. -/
def fnExactRaisedByUptoRow : OpenClaim := { program := "yteefjoepogdgpaa", sum := "0dbd3a5f00b34a4f1dc1d75577b987e1c89a08650004b13a8be425a7512bd33a", func := "loop.example/headtrees/laws.FnExactRaisedBy", spec := "fnExactRaisedBy", apart := false, narrowed := true }
def FnExactRaisedByUptoSaid : Prop := fnExactRaisedByUptoRow.holds Try.pinned (OpenSpec.upto fnExactRaisedBySpec)

end Rows
end Go.Proofs.Yteefjoepogdgpaa
