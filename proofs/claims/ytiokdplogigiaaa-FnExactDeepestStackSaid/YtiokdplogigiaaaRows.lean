/-
  No cell of these rows narrows 'for every input' (looked for: loops, veiled, ifaces, maps, wideKeys, modest, calm, conditions, laid).
  DERIVED. THE GIVEN ROWS OF THIS SEAT. 4 by the template 'for every input the law returns true; each argument reads behind the call as it read before'; 0 by the template 'total and deterministic' (their statements: YtiokdplogigiaaaTotals.lean).
  GIVEN WITH THE SEED: the statements are not yours to turn. If you find one false, say at which input.
  Laid BY PROGRAM, IN A SANDBOX (cutbox-rows.mjs): the forced cells as the released guide's own fill.sh prints them over the translation 5e1209f8cb7cf871… (all of the seat's roots in one cut). By AI agents, Wed Nov 11 2026. No macro, syntax, notation, axiom, sorry.
-/
import Derived.Test.YtiokdplogigiaaaChecked
import GoSem.Claim
import GoSem.ClaimJoined
import GoSem.ClaimMapViews
import Derived.JoinedTies
import Derived.KernelRfl
namespace Go.Proofs.Ytiokdplogigiaaa
/- THE CELL 'sum', in the pinned program and in every row, IS THE sha256 OF THE DUMP (.gsa) THAT YtiokdplogigiaaaProg.lean LOADS. Nothing in Lean hashes anything: it is a label: what it is worth is what the hold of that sum in a sandbox is worth. -/
noncomputable def Try.pinned : Pinned := { name := "ytiokdplogigiaaa", sum := "5e1209f8cb7cf87188d3695cc31a6f44bb372de7f12be350c7419c5b3897fa57", checked := Try.checked }
namespace Rows
def none {H : Type} : Left H := { results := [], args := [] }

/-- 'laws.FnDeepestStack': WHATEVER THE INPUT: true; the input reads as it did. -/
def fnDeepestStackSpec : ChangeSpec := { name := "fnDeepestStack", fn := fun _ => fun
  | [d] => { results := [.lit (.bool true)], args := [d] }
  | _ => none }
def fnDeepestStackRow : OpenClaim := { program := "ytiokdplogigiaaa", sum := "5e1209f8cb7cf87188d3695cc31a6f44bb372de7f12be350c7419c5b3897fa57", func := "loop.example/headtrees/laws.FnDeepestStack", spec := "fnDeepestStack", unfollowed := true, recurses := true, apart := false }
def FnDeepestStackSaid : Prop := fnDeepestStackRow.holds Try.pinned (OpenSpec.ofChange fnDeepestStackSpec)

/-- ITS FALSE NEIGHBOUR: 'it returns false'. Refute it at one input. -/
def fnDeepestStackWrong : ChangeSpec := { name := "fnDeepestStack", fn := fun _ => fun
  | [d] => { results := [.lit (.bool false)], args := [d] }
  | _ => none }
def FnDeepestStackWrongFalsely : Prop := fnDeepestStackRow.holds Try.pinned (OpenSpec.ofChange fnDeepestStackWrong)

/-- 'laws.FnExactRunStack': WHATEVER THE INPUT: true; the input reads as it did. -/
def fnExactRunStackSpec : ChangeSpec := { name := "fnExactRunStack", fn := fun _ => fun
  | [d1, d2] => { results := [.lit (.bool true)], args := [d1, d2] }
  | _ => none }
def fnExactRunStackRow : OpenClaim := { program := "ytiokdplogigiaaa", sum := "5e1209f8cb7cf87188d3695cc31a6f44bb372de7f12be350c7419c5b3897fa57", func := "loop.example/headtrees/laws.FnExactRunStack", spec := "fnExactRunStack", unfollowed := true, recurses := true, apart := false }
def FnExactRunStackSaid : Prop := fnExactRunStackRow.holds Try.pinned (OpenSpec.ofChange fnExactRunStackSpec)

/-- ITS FALSE NEIGHBOUR: 'it returns false'. Refute it at one input. -/
def fnExactRunStackWrong : ChangeSpec := { name := "fnExactRunStack", fn := fun _ => fun
  | [d1, d2] => { results := [.lit (.bool false)], args := [d1, d2] }
  | _ => none }
def FnExactRunStackWrongFalsely : Prop := fnExactRunStackRow.holds Try.pinned (OpenSpec.ofChange fnExactRunStackWrong)

/-- 'laws.FnExactDeepestStack': WHATEVER THE INPUT: true; the input reads as it did. -/
def fnExactDeepestStackSpec : ChangeSpec := { name := "fnExactDeepestStack", fn := fun _ => fun
  | [d1, d2] => { results := [.lit (.bool true)], args := [d1, d2] }
  | _ => none }
def fnExactDeepestStackRow : OpenClaim := { program := "ytiokdplogigiaaa", sum := "5e1209f8cb7cf87188d3695cc31a6f44bb372de7f12be350c7419c5b3897fa57", func := "loop.example/headtrees/laws.FnExactDeepestStack", spec := "fnExactDeepestStack", unfollowed := true, recurses := true, apart := false }
def FnExactDeepestStackSaid : Prop := fnExactDeepestStackRow.holds Try.pinned (OpenSpec.ofChange fnExactDeepestStackSpec)

/-- ITS FALSE NEIGHBOUR: 'it returns false'. Refute it at one input. -/
def fnExactDeepestStackWrong : ChangeSpec := { name := "fnExactDeepestStack", fn := fun _ => fun
  | [d1, d2] => { results := [.lit (.bool false)], args := [d1, d2] }
  | _ => none }
def FnExactDeepestStackWrongFalsely : Prop := fnExactDeepestStackRow.holds Try.pinned (OpenSpec.ofChange fnExactDeepestStackWrong)

/-- 'laws.FnExactRunEager': WHATEVER THE INPUT: true; the input reads as it did. -/
def fnExactRunEagerSpec : ChangeSpec := { name := "fnExactRunEager", fn := fun _ => fun
  | [d1, d2] => { results := [.lit (.bool true)], args := [d1, d2] }
  | _ => none }
def fnExactRunEagerRow : OpenClaim := { program := "ytiokdplogigiaaa", sum := "5e1209f8cb7cf87188d3695cc31a6f44bb372de7f12be350c7419c5b3897fa57", func := "loop.example/headtrees/laws.FnExactRunEager", spec := "fnExactRunEager", unfollowed := true, recurses := true, apart := false }
def FnExactRunEagerSaid : Prop := fnExactRunEagerRow.holds Try.pinned (OpenSpec.ofChange fnExactRunEagerSpec)

/-- ITS FALSE NEIGHBOUR: 'it returns false'. Refute it at one input. -/
def fnExactRunEagerWrong : ChangeSpec := { name := "fnExactRunEager", fn := fun _ => fun
  | [d1, d2] => { results := [.lit (.bool false)], args := [d1, d2] }
  | _ => none }
def FnExactRunEagerWrongFalsely : Prop := fnExactRunEagerRow.holds Try.pinned (OpenSpec.ofChange fnExactRunEagerWrong)

/- THE SECOND FORM. 'bulk': how many values and letters a reading holds, each counted each time it is reached (what is shared counts as often as it is met; a slice's spare places count too). A statement '..UptoSaid' is the law's where the arguments, and the package variables that the reading takes, are together of bulk at most 1048576: NARROWER than '..Said'. Prove '..Said' where nothing that the law and all that it calls make is longer than what came in: it says more and counts as full. Else prove '..UptoSaid'. A law counts once. -/
mutual
def uptoBulk {H : Type} : DataW H → Nat
  | .lit (.string bytes) => bytes.length + 1
  | .lit _ => 1
  | .nil => 1
  | .ptr d => uptoBulk d + 1
  | .slice elems spare => uptoBulkAll elems + uptoBulkAll spare + 1
  | .agg parts => uptoBulkAll parts + 1
  | .iface _ d => uptoBulk d + 1
  | .map entries => uptoBulkEntries entries + 1
  | .held _ => 1
def uptoBulkAll {H : Type} : List (DataW H) → Nat
  | [] => 0
  | d :: r => uptoBulk d + uptoBulkAll r
def uptoBulkEntries {H : Type} : List (Lit × DataW H) → Nat
  | [] => 0
  | x :: r => uptoBulkEntry x + uptoBulkEntries r
def uptoBulkEntry {H : Type} : Lit × DataW H → Nat
  | (.string bytes, d) => bytes.length + uptoBulk d + 1
  | (_, d) => uptoBulk d + 1
 end
def uptoSmall : (H : Type) → List (DataW H) → Bool := fun _ ds => decide (uptoBulkAll ds ≤ 1048576)
def OpenSpec.upto (s : _root_.Go.ChangeSpec) : _root_.Go.OpenSpec := { _root_.Go.OpenSpec.ofChange s with cond := some uptoSmall }

/-- 'laws.FnDeepestStack', WHERE WHAT IT READS IS OF BULK AT MOST 1048576: true; the input reads as it did. -/
def fnDeepestStackUptoRow : OpenClaim := { program := "ytiokdplogigiaaa", sum := "5e1209f8cb7cf87188d3695cc31a6f44bb372de7f12be350c7419c5b3897fa57", func := "loop.example/headtrees/laws.FnDeepestStack", spec := "fnDeepestStack", unfollowed := true, recurses := true, apart := false, narrowed := true }
def FnDeepestStackUptoSaid : Prop := fnDeepestStackUptoRow.holds Try.pinned (OpenSpec.upto fnDeepestStackSpec)

/-- 'laws.FnExactRunStack', WHERE WHAT IT READS IS OF BULK AT MOST 1048576: true; the input reads as it did. -/
def fnExactRunStackUptoRow : OpenClaim := { program := "ytiokdplogigiaaa", sum := "5e1209f8cb7cf87188d3695cc31a6f44bb372de7f12be350c7419c5b3897fa57", func := "loop.example/headtrees/laws.FnExactRunStack", spec := "fnExactRunStack", unfollowed := true, recurses := true, apart := false, narrowed := true }
def FnExactRunStackUptoSaid : Prop := fnExactRunStackUptoRow.holds Try.pinned (OpenSpec.upto fnExactRunStackSpec)

/-- 'laws.FnExactDeepestStack', WHERE WHAT IT READS IS OF BULK AT MOST 1048576: true; the input reads as it did. -/
def fnExactDeepestStackUptoRow : OpenClaim := { program := "ytiokdplogigiaaa", sum := "5e1209f8cb7cf87188d3695cc31a6f44bb372de7f12be350c7419c5b3897fa57", func := "loop.example/headtrees/laws.FnExactDeepestStack", spec := "fnExactDeepestStack", unfollowed := true, recurses := true, apart := false, narrowed := true }
def FnExactDeepestStackUptoSaid : Prop := fnExactDeepestStackUptoRow.holds Try.pinned (OpenSpec.upto fnExactDeepestStackSpec)

/-- 'laws.FnExactRunEager', WHERE WHAT IT READS IS OF BULK AT MOST 1048576: true; the input reads as it did. -/
def fnExactRunEagerUptoRow : OpenClaim := { program := "ytiokdplogigiaaa", sum := "5e1209f8cb7cf87188d3695cc31a6f44bb372de7f12be350c7419c5b3897fa57", func := "loop.example/headtrees/laws.FnExactRunEager", spec := "fnExactRunEager", unfollowed := true, recurses := true, apart := false, narrowed := true }
def FnExactRunEagerUptoSaid : Prop := fnExactRunEagerUptoRow.holds Try.pinned (OpenSpec.upto fnExactRunEagerSpec)

end Rows
end Go.Proofs.Ytiokdplogigiaaa
