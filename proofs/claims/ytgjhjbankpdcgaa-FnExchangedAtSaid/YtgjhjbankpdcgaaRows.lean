/-
  No cell of these rows narrows 'for every input' (looked for: loops, veiled, ifaces, maps, wideKeys, modest, calm, conditions, laid).
  DERIVED. THE GIVEN ROWS OF THIS SEAT. 5 by the template 'for every input the law returns true; each argument reads behind the call as it read before'; 0 by the template 'total and deterministic' (their statements: YtgjhjbankpdcgaaTotals.lean).
  GIVEN WITH THE SEED: the statements are not yours to turn. If you find one false, say at which input.
  Laid BY PROGRAM, IN A SANDBOX (cutbox-rows.mjs): the forced cells as the released guide's own fill.sh prints them over the translation 27e4056dc6428252… (all of the seat's roots in one cut). By AI agents, Wed Nov 11 2026. No macro, syntax, notation, axiom, sorry.
-/
import Derived.Test.YtgjhjbankpdcgaaChecked
import GoSem.Claim
import GoSem.ClaimJoined
import GoSem.ClaimMapViews
import Derived.JoinedTies
import Derived.KernelRfl
namespace Go.Proofs.Ytgjhjbankpdcgaa
/- THE CELL 'sum', in the pinned program and in every row, IS THE sha256 OF THE DUMP (.gsa) THAT YtgjhjbankpdcgaaProg.lean LOADS. Nothing in Lean hashes anything: it is a label: what it is worth is what the hold of that sum in a sandbox is worth. -/
noncomputable def Try.pinned : Pinned := { name := "ytgjhjbankpdcgaa", sum := "27e4056dc64282528195f1c94e53d041cad16a1d1cf6d120d2616b7d94233a2b", checked := Try.checked }
namespace Rows
def none {H : Type} : Left H := { results := [], args := [] }

/-- 'laws.FnCountTurned': WHATEVER THE INPUT: true; the input reads as it did. -/
def fnCountTurnedSpec : ChangeSpec := { name := "fnCountTurned", fn := fun _ => fun
  | [d] => { results := [.lit (.bool true)], args := [d] }
  | _ => none }
def fnCountTurnedRow : OpenClaim := { program := "ytgjhjbankpdcgaa", sum := "27e4056dc64282528195f1c94e53d041cad16a1d1cf6d120d2616b7d94233a2b", func := "loop.example/headtrees/laws.FnCountTurned", spec := "fnCountTurned", recurses := true, apart := false }
def FnCountTurnedSaid : Prop := fnCountTurnedRow.holds Try.pinned (OpenSpec.ofChange fnCountTurnedSpec)

/-- ITS FALSE NEIGHBOUR: 'it returns false'. Refute it at one input. -/
def fnCountTurnedWrong : ChangeSpec := { name := "fnCountTurned", fn := fun _ => fun
  | [d] => { results := [.lit (.bool false)], args := [d] }
  | _ => none }
def FnCountTurnedWrongFalsely : Prop := fnCountTurnedRow.holds Try.pinned (OpenSpec.ofChange fnCountTurnedWrong)

/-- 'laws.FnExchangedAt': WHATEVER THE INPUT: true; the input reads as it did. -/
def fnExchangedAtSpec : ChangeSpec := { name := "fnExchangedAt", fn := fun _ => fun
  | [d] => { results := [.lit (.bool true)], args := [d] }
  | _ => none }
def fnExchangedAtRow : OpenClaim := { program := "ytgjhjbankpdcgaa", sum := "27e4056dc64282528195f1c94e53d041cad16a1d1cf6d120d2616b7d94233a2b", func := "loop.example/headtrees/laws.FnExchangedAt", spec := "fnExchangedAt", recurses := true, apart := false }
def FnExchangedAtSaid : Prop := fnExchangedAtRow.holds Try.pinned (OpenSpec.ofChange fnExchangedAtSpec)

/-- ITS FALSE NEIGHBOUR: 'it returns false'. Refute it at one input. -/
def fnExchangedAtWrong : ChangeSpec := { name := "fnExchangedAt", fn := fun _ => fun
  | [d] => { results := [.lit (.bool false)], args := [d] }
  | _ => none }
def FnExchangedAtWrongFalsely : Prop := fnExchangedAtRow.holds Try.pinned (OpenSpec.ofChange fnExchangedAtWrong)

/-- 'laws.FnExactSidesOf': WHATEVER THE INPUT: true; the input reads as it did. -/
def fnExactSidesOfSpec : ChangeSpec := { name := "fnExactSidesOf", fn := fun _ => fun
  | [d1, d2] => { results := [.lit (.bool true)], args := [d1, d2] }
  | _ => none }
def fnExactSidesOfRow : OpenClaim := { program := "ytgjhjbankpdcgaa", sum := "27e4056dc64282528195f1c94e53d041cad16a1d1cf6d120d2616b7d94233a2b", func := "loop.example/headtrees/laws.FnExactSidesOf", spec := "fnExactSidesOf", apart := false }
def FnExactSidesOfSaid : Prop := fnExactSidesOfRow.holds Try.pinned (OpenSpec.ofChange fnExactSidesOfSpec)

/-- ITS FALSE NEIGHBOUR: 'it returns false'. Refute it at one input. -/
def fnExactSidesOfWrong : ChangeSpec := { name := "fnExactSidesOf", fn := fun _ => fun
  | [d1, d2] => { results := [.lit (.bool false)], args := [d1, d2] }
  | _ => none }
def FnExactSidesOfWrongFalsely : Prop := fnExactSidesOfRow.holds Try.pinned (OpenSpec.ofChange fnExactSidesOfWrong)

/-- 'laws.FnExactCountTurned': WHATEVER THE INPUT: true; the input reads as it did. -/
def fnExactCountTurnedSpec : ChangeSpec := { name := "fnExactCountTurned", fn := fun _ => fun
  | [d] => { results := [.lit (.bool true)], args := [d] }
  | _ => none }
def fnExactCountTurnedRow : OpenClaim := { program := "ytgjhjbankpdcgaa", sum := "27e4056dc64282528195f1c94e53d041cad16a1d1cf6d120d2616b7d94233a2b", func := "loop.example/headtrees/laws.FnExactCountTurned", spec := "fnExactCountTurned", recurses := true, apart := false }
def FnExactCountTurnedSaid : Prop := fnExactCountTurnedRow.holds Try.pinned (OpenSpec.ofChange fnExactCountTurnedSpec)

/-- ITS FALSE NEIGHBOUR: 'it returns false'. Refute it at one input. -/
def fnExactCountTurnedWrong : ChangeSpec := { name := "fnExactCountTurned", fn := fun _ => fun
  | [d] => { results := [.lit (.bool false)], args := [d] }
  | _ => none }
def FnExactCountTurnedWrongFalsely : Prop := fnExactCountTurnedRow.holds Try.pinned (OpenSpec.ofChange fnExactCountTurnedWrong)

/-- 'laws.FnExactExchangedAt': WHATEVER THE INPUT: true; the input reads as it did. -/
def fnExactExchangedAtSpec : ChangeSpec := { name := "fnExactExchangedAt", fn := fun _ => fun
  | [d1, d2] => { results := [.lit (.bool true)], args := [d1, d2] }
  | _ => none }
def fnExactExchangedAtRow : OpenClaim := { program := "ytgjhjbankpdcgaa", sum := "27e4056dc64282528195f1c94e53d041cad16a1d1cf6d120d2616b7d94233a2b", func := "loop.example/headtrees/laws.FnExactExchangedAt", spec := "fnExactExchangedAt", apart := false }
def FnExactExchangedAtSaid : Prop := fnExactExchangedAtRow.holds Try.pinned (OpenSpec.ofChange fnExactExchangedAtSpec)

/-- ITS FALSE NEIGHBOUR: 'it returns false'. Refute it at one input. -/
def fnExactExchangedAtWrong : ChangeSpec := { name := "fnExactExchangedAt", fn := fun _ => fun
  | [d1, d2] => { results := [.lit (.bool false)], args := [d1, d2] }
  | _ => none }
def FnExactExchangedAtWrongFalsely : Prop := fnExactExchangedAtRow.holds Try.pinned (OpenSpec.ofChange fnExactExchangedAtWrong)

/- THE SECOND FORM. 'bulk': how many values and letters a reading holds, each counted each time it is reached (what is shared counts as often as it is met; a slice's spare places count too). A statement '..UptoSaid' is the law's where the arguments, and the package variables that the reading takes, are together of bulk at most 1048576: NARROWER than '..Said'. Prove '..Said' where nothing that the law and all that it calls make is longer than what came in: it says more and counts as full. Else prove '..UptoSaid'. A law counts once. -/
mutual
def uptoBulk {H : Type} : DataW H → Nat
  | .lit (.string bytes) => bytes.length + 1
  | .lit _ => 1
  | .nil => 1
  | .ptr d => uptoBulk d + 1
  | .slice elems spare => uptoBulkAll elems + uptoBulkAll spare + 1
  | .agg parts => uptoBulkAll parts + 1
  | .iface _ d => uptoBulk d + 1
  | .map entries => uptoBulkEntries entries + 1
  | .held _ => 1
def uptoBulkAll {H : Type} : List (DataW H) → Nat
  | [] => 0
  | d :: r => uptoBulk d + uptoBulkAll r
def uptoBulkEntries {H : Type} : List (Lit × DataW H) → Nat
  | [] => 0
  | x :: r => uptoBulkEntry x + uptoBulkEntries r
def uptoBulkEntry {H : Type} : Lit × DataW H → Nat
  | (.string bytes, d) => bytes.length + uptoBulk d + 1
  | (_, d) => uptoBulk d + 1
 end
def uptoSmall : (H : Type) → List (DataW H) → Bool := fun _ ds => decide (uptoBulkAll ds ≤ 1048576)
def OpenSpec.upto (s : _root_.Go.ChangeSpec) : _root_.Go.OpenSpec := { _root_.Go.OpenSpec.ofChange s with cond := some uptoSmall }

/-- 'laws.FnCountTurned', WHERE WHAT IT READS IS OF BULK AT MOST 1048576: true; the input reads as it did. -/
def fnCountTurnedUptoRow : OpenClaim := { program := "ytgjhjbankpdcgaa", sum := "27e4056dc64282528195f1c94e53d041cad16a1d1cf6d120d2616b7d94233a2b", func := "loop.example/headtrees/laws.FnCountTurned", spec := "fnCountTurned", recurses := true, apart := false, narrowed := true }
def FnCountTurnedUptoSaid : Prop := fnCountTurnedUptoRow.holds Try.pinned (OpenSpec.upto fnCountTurnedSpec)

/-- 'laws.FnExchangedAt', WHERE WHAT IT READS IS OF BULK AT MOST 1048576: true; the input reads as it did. -/
def fnExchangedAtUptoRow : OpenClaim := { program := "ytgjhjbankpdcgaa", sum := "27e4056dc64282528195f1c94e53d041cad16a1d1cf6d120d2616b7d94233a2b", func := "loop.example/headtrees/laws.FnExchangedAt", spec := "fnExchangedAt", recurses := true, apart := false, narrowed := true }
def FnExchangedAtUptoSaid : Prop := fnExchangedAtUptoRow.holds Try.pinned (OpenSpec.upto fnExchangedAtSpec)

/-- 'laws.FnExactSidesOf', WHERE WHAT IT READS IS OF BULK AT MOST 1048576: true; the input reads as it did. -/
def fnExactSidesOfUptoRow : OpenClaim := { program := "ytgjhjbankpdcgaa", sum := "27e4056dc64282528195f1c94e53d041cad16a1d1cf6d120d2616b7d94233a2b", func := "loop.example/headtrees/laws.FnExactSidesOf", spec := "fnExactSidesOf", apart := false, narrowed := true }
def FnExactSidesOfUptoSaid : Prop := fnExactSidesOfUptoRow.holds Try.pinned (OpenSpec.upto fnExactSidesOfSpec)

/-- 'laws.FnExactCountTurned', WHERE WHAT IT READS IS OF BULK AT MOST 1048576: true; the input reads as it did. -/
def fnExactCountTurnedUptoRow : OpenClaim := { program := "ytgjhjbankpdcgaa", sum := "27e4056dc64282528195f1c94e53d041cad16a1d1cf6d120d2616b7d94233a2b", func := "loop.example/headtrees/laws.FnExactCountTurned", spec := "fnExactCountTurned", recurses := true, apart := false, narrowed := true }
def FnExactCountTurnedUptoSaid : Prop := fnExactCountTurnedUptoRow.holds Try.pinned (OpenSpec.upto fnExactCountTurnedSpec)

/-- 'laws.FnExactExchangedAt', WHERE WHAT IT READS IS OF BULK AT MOST 1048576: true; the input reads as it did. -/
def fnExactExchangedAtUptoRow : OpenClaim := { program := "ytgjhjbankpdcgaa", sum := "27e4056dc64282528195f1c94e53d041cad16a1d1cf6d120d2616b7d94233a2b", func := "loop.example/headtrees/laws.FnExactExchangedAt", spec := "fnExactExchangedAt", apart := false, narrowed := true }
def FnExactExchangedAtUptoSaid : Prop := fnExactExchangedAtUptoRow.holds Try.pinned (OpenSpec.upto fnExactExchangedAtSpec)

end Rows
end Go.Proofs.Ytgjhjbankpdcgaa
