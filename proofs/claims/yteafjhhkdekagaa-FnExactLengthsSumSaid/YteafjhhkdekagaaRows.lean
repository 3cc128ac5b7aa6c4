/-
  No cell of these rows narrows 'for every input' (looked for: loops, veiled, ifaces, maps, wideKeys, modest, calm, conditions, laid).
  DERIVED. THE GIVEN ROWS OF THIS SEAT. 6 by the template 'for every input the law returns true; each argument reads behind the call as it read before'; 0 by the template 'total and deterministic' (their statements: YteafjhhkdekagaaTotals.lean).
  GIVEN WITH THE SEED: the statements are not yours to turn. If you find one false, say at which input.
  Laid BY PROGRAM, IN A SANDBOX (cutbox-rows.mjs): the forced cells as the released guide's own fill.sh prints them over the translation a6abe56fa7c4e4d3… (all of the seat's roots in one cut). By AI agents, Wed Nov 11 2026. No macro, syntax, notation, axiom, sorry.
-/
import Derived.Test.YteafjhhkdekagaaChecked
import GoSem.Claim
import GoSem.ClaimJoined
import GoSem.ClaimMapViews
import Derived.JoinedTies
import Derived.KernelRfl
namespace Go.Proofs.Yteafjhhkdekagaa
/- THE CELL 'sum', in the pinned program and in every row, IS THE sha256 OF THE DUMP (.gsa) THAT YteafjhhkdekagaaProg.lean LOADS. Nothing in Lean hashes anything: it is a label: what it is worth is what the hold of that sum in a sandbox is worth. -/
noncomputable def Try.pinned : Pinned := { name := "yteafjhhkdekagaa", sum := "a6abe56fa7c4e4d3f3370d5d7a879c645bfe368ba0f3f8ff2032ef5fa3189a9d", checked := Try.checked }
namespace Rows
def none {H : Type} : Left H := { results := [], args := [] }

/-- 'laws.FnLengthOf': WHATEVER THE INPUT: true; the input reads as it did. -/
def fnLengthOfSpec : ChangeSpec := { name := "fnLengthOf", fn := fun _ => fun
  | [d] => { results := [.lit (.bool true)], args := [d] }
  | _ => none }
def fnLengthOfRow : OpenClaim := { program := "yteafjhhkdekagaa", sum := "a6abe56fa7c4e4d3f3370d5d7a879c645bfe368ba0f3f8ff2032ef5fa3189a9d", func := "loop.example/headtrees/laws.FnLengthOf", spec := "fnLengthOf", unfollowed := true, recurses := true, apart := false }
def FnLengthOfSaid : Prop := fnLengthOfRow.holds Try.pinned (OpenSpec.ofChange fnLengthOfSpec)

/-- ITS FALSE NEIGHBOUR: 'it returns false'. Refute it at one input. -/
def fnLengthOfWrong : ChangeSpec := { name := "fnLengthOf", fn := fun _ => fun
  | [d] => { results := [.lit (.bool false)], args := [d] }
  | _ => none }
def FnLengthOfWrongFalsely : Prop := fnLengthOfRow.holds Try.pinned (OpenSpec.ofChange fnLengthOfWrong)

/-- 'laws.FnExactLengthOf': WHATEVER THE INPUT: true; the input reads as it did. -/
def fnExactLengthOfSpec : ChangeSpec := { name := "fnExactLengthOf", fn := fun _ => fun
  | [d] => { results := [.lit (.bool true)], args := [d] }
  | _ => none }
def fnExactLengthOfRow : OpenClaim := { program := "yteafjhhkdekagaa", sum := "a6abe56fa7c4e4d3f3370d5d7a879c645bfe368ba0f3f8ff2032ef5fa3189a9d", func := "loop.example/headtrees/laws.FnExactLengthOf", spec := "fnExactLengthOf", apart := false }
def FnExactLengthOfSaid : Prop := fnExactLengthOfRow.holds Try.pinned (OpenSpec.ofChange fnExactLengthOfSpec)

/-- ITS FALSE NEIGHBOUR: 'it returns false'. Refute it at one input. -/
def fnExactLengthOfWrong : ChangeSpec := { name := "fnExactLengthOf", fn := fun _ => fun
  | [d] => { results := [.lit (.bool false)], args := [d] }
  | _ => none }
def FnExactLengthOfWrongFalsely : Prop := fnExactLengthOfRow.holds Try.pinned (OpenSpec.ofChange fnExactLengthOfWrong)

/-- 'laws.FnLengthsSum': WHATEVER THE INPUT: true; the input reads as it did. -/
def fnLengthsSumSpec : ChangeSpec := { name := "fnLengthsSum", fn := fun _ => fun
  | [d] => { results := [.lit (.bool true)], args := [d] }
  | _ => none }
def fnLengthsSumRow : OpenClaim := { program := "yteafjhhkdekagaa", sum := "a6abe56fa7c4e4d3f3370d5d7a879c645bfe368ba0f3f8ff2032ef5fa3189a9d", func := "loop.example/headtrees/laws.FnLengthsSum", spec := "fnLengthsSum", unfollowed := true, recurses := true, apart := false }
def FnLengthsSumSaid : Prop := fnLengthsSumRow.holds Try.pinned (OpenSpec.ofChange fnLengthsSumSpec)

/-- ITS FALSE NEIGHBOUR: 'it returns false'. Refute it at one input. -/
def fnLengthsSumWrong : ChangeSpec := { name := "fnLengthsSum", fn := fun _ => fun
  | [d] => { results := [.lit (.bool false)], args := [d] }
  | _ => none }
def FnLengthsSumWrongFalsely : Prop := fnLengthsSumRow.holds Try.pinned (OpenSpec.ofChange fnLengthsSumWrong)

/-- 'laws.FnExactLengthsSum': WHATEVER THE INPUT: true; the input reads as it did. -/
def fnExactLengthsSumSpec : ChangeSpec := { name := "fnExactLengthsSum", fn := fun _ => fun
  | [d] => { results := [.lit (.bool true)], args := [d] }
  | _ => none }
def fnExactLengthsSumRow : OpenClaim := { program := "yteafjhhkdekagaa", sum := "a6abe56fa7c4e4d3f3370d5d7a879c645bfe368ba0f3f8ff2032ef5fa3189a9d", func := "loop.example/headtrees/laws.FnExactLengthsSum", spec := "fnExactLengthsSum", apart := false }
def FnExactLengthsSumSaid : Prop := fnExactLengthsSumRow.holds Try.pinned (OpenSpec.ofChange fnExactLengthsSumSpec)

/-- ITS FALSE NEIGHBOUR: 'it returns false'. Refute it at one input. -/
def fnExactLengthsSumWrong : ChangeSpec := { name := "fnExactLengthsSum", fn := fun _ => fun
  | [d] => { results := [.lit (.bool false)], args := [d] }
  | _ => none }
def FnExactLengthsSumWrongFalsely : Prop := fnExactLengthsSumRow.holds Try.pinned (OpenSpec.ofChange fnExactLengthsSumWrong)

/-- 'laws.FnLongestArc': WHATEVER THE INPUT: true; the input reads as it did. -/
def fnLongestArcSpec : ChangeSpec := { name := "fnLongestArc", fn := fun _ => fun
  | [d] => { results := [.lit (.bool true)], args := [d] }
  | _ => none }
def fnLongestArcRow : OpenClaim := { program := "yteafjhhkdekagaa", sum := "a6abe56fa7c4e4d3f3370d5d7a879c645bfe368ba0f3f8ff2032ef5fa3189a9d", func := "loop.example/headtrees/laws.FnLongestArc", spec := "fnLongestArc", recurses := true, apart := false }
def FnLongestArcSaid : Prop := fnLongestArcRow.holds Try.pinned (OpenSpec.ofChange fnLongestArcSpec)

/-- ITS FALSE NEIGHBOUR: 'it returns false'. Refute it at one input. -/
def fnLongestArcWrong : ChangeSpec := { name := "fnLongestArc", fn := fun _ => fun
  | [d] => { results := [.lit (.bool false)], args := [d] }
  | _ => none }
def FnLongestArcWrongFalsely : Prop := fnLongestArcRow.holds Try.pinned (OpenSpec.ofChange fnLongestArcWrong)

/-- 'laws.FnExactLongestArc': WHATEVER THE INPUT: true; the input reads as it did. -/
def fnExactLongestArcSpec : ChangeSpec := { name := "fnExactLongestArc", fn := fun _ => fun
  | [d] => { results := [.lit (.bool true)], args := [d] }
  | _ => none }
def fnExactLongestArcRow : OpenClaim := { program := "yteafjhhkdekagaa", sum := "a6abe56fa7c4e4d3f3370d5d7a879c645bfe368ba0f3f8ff2032ef5fa3189a9d", func := "loop.example/headtrees/laws.FnExactLongestArc", spec := "fnExactLongestArc", apart := false }
def FnExactLongestArcSaid : Prop := fnExactLongestArcRow.holds Try.pinned (OpenSpec.ofChange fnExactLongestArcSpec)

/-- ITS FALSE NEIGHBOUR: 'it returns false'. Refute it at one input. -/
def fnExactLongestArcWrong : ChangeSpec := { name := "fnExactLongestArc", fn := fun _ => fun
  | [d] => { results := [.lit (.bool false)], args := [d] }
  | _ => none }
def FnExactLongestArcWrongFalsely : Prop := fnExactLongestArcRow.holds Try.pinned (OpenSpec.ofChange fnExactLongestArcWrong)

/- THE SECOND FORM. 'bulk': how many values and letters a reading holds, each counted each time it is reached (what is shared counts as often as it is met; a slice's spare places count too). A statement '..UptoSaid' is the law's where the arguments, and the package variables that the reading takes, are together of bulk at most 1048576: NARROWER than '..Said'. Prove '..Said' where nothing that the law and all that it calls make is longer than what came in: it says more and counts as full. Else prove '..UptoSaid'. A law counts once. -/
mutual
def uptoBulk {H : Type} : DataW H → Nat
  | .lit (.string bytes) => bytes.length + 1
  | .lit _ => 1
  | .nil => 1
  | .ptr d => uptoBulk d + 1
  | .slice elems spare => uptoBulkAll elems + uptoBulkAll spare + 1
  | .agg parts => uptoBulkAll parts + 1
  | .iface _ d => uptoBulk d + 1
  | .map entries => uptoBulkEntries entries + 1
  | .held _ => 1
def uptoBulkAll {H : Type} : List (DataW H) → Nat
  | [] => 0
  | d :: r => uptoBulk d + uptoBulkAll r
def uptoBulkEntries {H : Type} : List (Lit × DataW H) → Nat
  | [] => 0
  | x :: r => uptoBulkEntry x + uptoBulkEntries r
def uptoBulkEntry {H : Type} : Lit × DataW H → Nat
  | (.string bytes, d) => bytes.length + uptoBulk d + 1
  | (_, d) => uptoBulk d + 1
 end
def uptoSmall : (H : Type) → List (DataW H) → Bool := fun _ ds => decide (uptoBulkAll ds ≤ 1048576)
def OpenSpec.upto (s : _root_.Go.ChangeSpec) : _root_.Go.OpenSpec := { _root_.Go.OpenSpec.ofChange s with cond := some uptoSmall }

/-- 'laws.FnLengthOf', WHERE WHAT IT READS IS OF BULK AT MOST 1048576: true; the input reads as it did. -/
def fnLengthOfUptoRow : OpenClaim := { program := "yteafjhhkdekagaa", sum := "a6abe56fa7c4e4d3f3370d5d7a879c645bfe368ba0f3f8ff2032ef5fa3189a9d", func := "loop.example/headtrees/laws.FnLengthOf", spec := "fnLengthOf", unfollowed := true, recurses := true, apart := false, narrowed := true }
def FnLengthOfUptoSaid : Prop := fnLengthOfUptoRow.holds Try.pinned (OpenSpec.upto fnLengthOfSpec)

/-- 'laws.FnExactLengthOf', WHERE WHAT IT READS IS OF BULK AT MOST 1048576: true; the input reads as it did. -/
def fnExactLengthOfUptoRow : OpenClaim := { program := "yteafjhhkdekagaa", sum := "a6abe56fa7c4e4d3f3370d5d7a879c645bfe368ba0f3f8ff2032ef5fa3189a9d", func := "loop.example/headtrees/laws.FnExactLengthOf", spec := "fnExactLengthOf", apart := false, narrowed := true }
def FnExactLengthOfUptoSaid : Prop := fnExactLengthOfUptoRow.holds Try.pinned (OpenSpec.upto fnExactLengthOfSpec)

/-- 'laws.FnLengthsSum', WHERE WHAT IT READS IS OF BULK AT MOST 1048576: true; the input reads as it did. -/
def fnLengthsSumUptoRow : OpenClaim := { program := "yteafjhhkdekagaa", sum := "a6abe56fa7c4e4d3f3370d5d7a879c645bfe368ba0f3f8ff2032ef5fa3189a9d", func := "loop.example/headtrees/laws.FnLengthsSum", spec := "fnLengthsSum", unfollowed := true, recurses := true, apart := false, narrowed := true }
def FnLengthsSumUptoSaid : Prop := fnLengthsSumUptoRow.holds Try.pinned (OpenSpec.upto fnLengthsSumSpec)

/-- 'laws.FnExactLengthsSum', WHERE WHAT IT READS IS OF BULK AT MOST 1048576: true; the input reads as it did. -/
def fnExactLengthsSumUptoRow : OpenClaim := { program := "yteafjhhkdekagaa", sum := "a6abe56fa7c4e4d3f3370d5d7a879c645bfe368ba0f3f8ff2032ef5fa3189a9d", func := "loop.example/headtrees/laws.FnExactLengthsSum", spec := "fnExactLengthsSum", apart := false, narrowed := true }
def FnExactLengthsSumUptoSaid : Prop := fnExactLengthsSumUptoRow.holds Try.pinned (OpenSpec.upto fnExactLengthsSumSpec)

/-- 'laws.FnLongestArc', WHERE WHAT IT READS IS OF BULK AT MOST 1048576: true; the input reads as it did. -/
def fnLongestArcUptoRow : OpenClaim := { program := "yteafjhhkdekagaa", sum := "a6abe56fa7c4e4d3f3370d5d7a879c645bfe368ba0f3f8ff2032ef5fa3189a9d", func := "loop.example/headtrees/laws.FnLongestArc", spec := "fnLongestArc", recurses := true, apart := false, narrowed := true }
def FnLongestArcUptoSaid : Prop := fnLongestArcUptoRow.holds Try.pinned (OpenSpec.upto fnLongestArcSpec)

/-- 'laws.FnExactLongestArc', WHERE WHAT IT READS IS OF BULK AT MOST 1048576: true; the input reads as it did. -/
def fnExactLongestArcUptoRow : OpenClaim := { program := "yteafjhhkdekagaa", sum := "a6abe56fa7c4e4d3f3370d5d7a879c645bfe368ba0f3f8ff2032ef5fa3189a9d", func := "loop.example/headtrees/laws.FnExactLongestArc", spec := "fnExactLongestArc", apart := false, narrowed := true }
def FnExactLongestArcUptoSaid : Prop := fnExactLongestArcUptoRow.holds Try.pinned (OpenSpec.upto fnExactLongestArcSpec)

end Rows
end Go.Proofs.Yteafjhhkdekagaa
