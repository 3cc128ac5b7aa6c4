/-
  No cell of these rows narrows 'for every input' (looked for: loops, veiled, ifaces, maps, wideKeys, modest, calm, conditions, laid).
  DERIVED. THE GIVEN ROWS OF THIS SEAT. 7 by the template 'for every input the law returns true; each argument reads behind the call as it read before'; 0 by the template 'total and deterministic' (their statements: YtegmjhjihbhakaaTotals.lean).
  GIVEN WITH THE SEED: the statements are not yours to turn. If you find one false, say at which input.
  Laid BY PROGRAM, IN A SANDBOX (cutbox-rows.mjs): the forced cells as the released guide's own fill.sh prints them over the translation bfc2ec2356f3c453… (all of the seat's roots in one cut). By AI agents, Wed Nov 11 2026. No macro, syntax, notation, axiom, sorry.
-/
import Derived.Test.YtegmjhjihbhakaaChecked
import GoSem.Claim
import GoSem.ClaimJoined
import GoSem.ClaimMapViews
import Derived.JoinedTies
import Derived.KernelRfl
namespace Go.Proofs.Ytegmjhjihbhakaa
/- THE CELL 'sum', in the pinned program and in every row, IS THE sha256 OF THE DUMP (.gsa) THAT YtegmjhjihbhakaaProg.lean LOADS. Nothing in Lean hashes anything: it is a label: what it is worth is what the hold of that sum in a sandbox is worth. -/
noncomputable def Try.pinned : Pinned := { name := "ytegmjhjihbhakaa", sum := "bfc2ec2356f3c45379e08069c1e02e4b46625dd0efafc1c4c8e0893cfe97e892", checked := Try.checked }
namespace Rows
def none {H : Type} : Left H := { results := [], args := [] }

/-- 'laws.FnCrossOk': WHATEVER THE INPUT: true; the input reads as it did. -/
def fnCrossOkSpec : ChangeSpec := { name := "fnCrossOk", fn := fun _ => fun
  | [d] => { results := [.lit (.bool true)], args := [d] }
  | _ => none }
def fnCrossOkRow : OpenClaim := { program := "ytegmjhjihbhakaa", sum := "bfc2ec2356f3c45379e08069c1e02e4b46625dd0efafc1c4c8e0893cfe97e892", func := "loop.example/headtrees/laws.FnCrossOk", spec := "fnCrossOk", apart := false }
def FnCrossOkSaid : Prop := fnCrossOkRow.holds Try.pinned (OpenSpec.ofChange fnCrossOkSpec)

/-- ITS FALSE NEIGHBOUR: 'it returns false'. Refute it at one input. -/
def fnCrossOkWrong : ChangeSpec := { name := "fnCrossOk", fn := fun _ => fun
  | [d] => { results := [.lit (.bool false)], args := [d] }
  | _ => none }
def FnCrossOkWrongFalsely : Prop := fnCrossOkRow.holds Try.pinned (OpenSpec.ofChange fnCrossOkWrong)

/-- 'laws.FnCoveredOk': WHATEVER THE INPUT: true; the input reads as it did. -/
def fnCoveredOkSpec : ChangeSpec := { name := "fnCoveredOk", fn := fun _ => fun
  | [d] => { results := [.lit (.bool true)], args := [d] }
  | _ => none }
def fnCoveredOkRow : OpenClaim := { program := "ytegmjhjihbhakaa", sum := "bfc2ec2356f3c45379e08069c1e02e4b46625dd0efafc1c4c8e0893cfe97e892", func := "loop.example/headtrees/laws.FnCoveredOk", spec := "fnCoveredOk", recurses := true, apart := false }
def FnCoveredOkSaid : Prop := fnCoveredOkRow.holds Try.pinned (OpenSpec.ofChange fnCoveredOkSpec)

/-- ITS FALSE NEIGHBOUR: 'it returns false'. Refute it at one input. -/
def fnCoveredOkWrong : ChangeSpec := { name := "fnCoveredOk", fn := fun _ => fun
  | [d] => { results := [.lit (.bool false)], args := [d] }
  | _ => none }
def FnCoveredOkWrongFalsely : Prop := fnCoveredOkRow.holds Try.pinned (OpenSpec.ofChange fnCoveredOkWrong)

/-- 'laws.FnExactSidesOf': WHATEVER THE INPUT: true; the input reads as it did. -/
def fnExactSidesOfSpec : ChangeSpec := { name := "fnExactSidesOf", fn := fun _ => fun
  | [d1, d2] => { results := [.lit (.bool true)], args := [d1, d2] }
  | _ => none }
def fnExactSidesOfRow : OpenClaim := { program := "ytegmjhjihbhakaa", sum := "bfc2ec2356f3c45379e08069c1e02e4b46625dd0efafc1c4c8e0893cfe97e892", func := "loop.example/headtrees/laws.FnExactSidesOf", spec := "fnExactSidesOf", apart := false }
def FnExactSidesOfSaid : Prop := fnExactSidesOfRow.holds Try.pinned (OpenSpec.ofChange fnExactSidesOfSpec)

/-- ITS FALSE NEIGHBOUR: 'it returns false'. Refute it at one input. -/
def fnExactSidesOfWrong : ChangeSpec := { name := "fnExactSidesOf", fn := fun _ => fun
  | [d1, d2] => { results := [.lit (.bool false)], args := [d1, d2] }
  | _ => none }
def FnExactSidesOfWrongFalsely : Prop := fnExactSidesOfRow.holds Try.pinned (OpenSpec.ofChange fnExactSidesOfWrong)

/-- 'laws.FnExactCrossOk': WHATEVER THE INPUT: true; the input reads as it did. -/
def fnExactCrossOkSpec : ChangeSpec := { name := "fnExactCrossOk", fn := fun _ => fun
  | [d1, d2, d3, d4] => { results := [.lit (.bool true)], args := [d1, d2, d3, d4] }
  | _ => none }
def fnExactCrossOkRow : OpenClaim := { program := "ytegmjhjihbhakaa", sum := "bfc2ec2356f3c45379e08069c1e02e4b46625dd0efafc1c4c8e0893cfe97e892", func := "loop.example/headtrees/laws.FnExactCrossOk", spec := "fnExactCrossOk", apart := false }
def FnExactCrossOkSaid : Prop := fnExactCrossOkRow.holds Try.pinned (OpenSpec.ofChange fnExactCrossOkSpec)

/-- ITS FALSE NEIGHBOUR: 'it returns false'. Refute it at one input. -/
def fnExactCrossOkWrong : ChangeSpec := { name := "fnExactCrossOk", fn := fun _ => fun
  | [d1, d2, d3, d4] => { results := [.lit (.bool false)], args := [d1, d2, d3, d4] }
  | _ => none }
def FnExactCrossOkWrongFalsely : Prop := fnExactCrossOkRow.holds Try.pinned (OpenSpec.ofChange fnExactCrossOkWrong)

/-- 'laws.FnExactCrossingsOf': WHATEVER THE INPUT: true; the input reads as it did. -/
def fnExactCrossingsOfSpec : ChangeSpec := { name := "fnExactCrossingsOf", fn := fun _ => fun
  | [d] => { results := [.lit (.bool true)], args := [d] }
  | _ => none }
def fnExactCrossingsOfRow : OpenClaim := { program := "ytegmjhjihbhakaa", sum := "bfc2ec2356f3c45379e08069c1e02e4b46625dd0efafc1c4c8e0893cfe97e892", func := "loop.example/headtrees/laws.FnExactCrossingsOf", spec := "fnExactCrossingsOf", unfollowed := true, recurses := true, apart := false }
def FnExactCrossingsOfSaid : Prop := fnExactCrossingsOfRow.holds Try.pinned (OpenSpec.ofChange fnExactCrossingsOfSpec)

/-- ITS FALSE NEIGHBOUR: 'it returns false'. Refute it at one input. -/
def fnExactCrossingsOfWrong : ChangeSpec := { name := "fnExactCrossingsOf", fn := fun _ => fun
  | [d] => { results := [.lit (.bool false)], args := [d] }
  | _ => none }
def FnExactCrossingsOfWrongFalsely : Prop := fnExactCrossingsOfRow.holds Try.pinned (OpenSpec.ofChange fnExactCrossingsOfWrong)

/-- 'laws.FnExactCoveredOk': WHATEVER THE INPUT: true; the input reads as it did. -/
def fnExactCoveredOkSpec : ChangeSpec := { name := "fnExactCoveredOk", fn := fun _ => fun
  | [d1, d2] => { results := [.lit (.bool true)], args := [d1, d2] }
  | _ => none }
def fnExactCoveredOkRow : OpenClaim := { program := "ytegmjhjihbhakaa", sum := "bfc2ec2356f3c45379e08069c1e02e4b46625dd0efafc1c4c8e0893cfe97e892", func := "loop.example/headtrees/laws.FnExactCoveredOk", spec := "fnExactCoveredOk", apart := false }
def FnExactCoveredOkSaid : Prop := fnExactCoveredOkRow.holds Try.pinned (OpenSpec.ofChange fnExactCoveredOkSpec)

/-- ITS FALSE NEIGHBOUR: 'it returns false'. Refute it at one input. -/
def fnExactCoveredOkWrong : ChangeSpec := { name := "fnExactCoveredOk", fn := fun _ => fun
  | [d1, d2] => { results := [.lit (.bool false)], args := [d1, d2] }
  | _ => none }
def FnExactCoveredOkWrongFalsely : Prop := fnExactCoveredOkRow.holds Try.pinned (OpenSpec.ofChange fnExactCoveredOkWrong)

/-- 'laws.FnExactBackOf': WHATEVER THE INPUT: true; the input reads as it did. -/
def fnExactBackOfSpec : ChangeSpec := { name := "fnExactBackOf", fn := fun _ => fun
  | [d] => { results := [.lit (.bool true)], args := [d] }
  | _ => none }
def fnExactBackOfRow : OpenClaim := { program := "ytegmjhjihbhakaa", sum := "bfc2ec2356f3c45379e08069c1e02e4b46625dd0efafc1c4c8e0893cfe97e892", func := "loop.example/headtrees/laws.FnExactBackOf", spec := "fnExactBackOf", unfollowed := true, recurses := true, apart := false }
def FnExactBackOfSaid : Prop := fnExactBackOfRow.holds Try.pinned (OpenSpec.ofChange fnExactBackOfSpec)

/-- ITS FALSE NEIGHBOUR: 'it returns false'. Refute it at one input. -/
def fnExactBackOfWrong : ChangeSpec := { name := "fnExactBackOf", fn := fun _ => fun
  | [d] => { results := [.lit (.bool false)], args := [d] }
  | _ => none }
def FnExactBackOfWrongFalsely : Prop := fnExactBackOfRow.holds Try.pinned (OpenSpec.ofChange fnExactBackOfWrong)

/- THE SECOND FORM. 'bulk': how many values and letters a reading holds, each counted each time it is reached (what is shared counts as often as it is met; a slice's spare places count too). A statement '..UptoSaid' is the law's where the arguments, and the package variables that the reading takes, are together of bulk at most 1048576: NARROWER than '..Said'. Prove '..Said' where nothing that the law and all that it calls make is longer than what came in: it says more and counts as full. Else prove '..UptoSaid'. A law counts once. -/
mutual
def uptoBulk {H : Type} : DataW H → Nat
  | .lit (.string bytes) => bytes.length + 1
  | .lit _ => 1
  | .nil => 1
  | .ptr d => uptoBulk d + 1
  | .slice elems spare => uptoBulkAll elems + uptoBulkAll spare + 1
  | .agg parts => uptoBulkAll parts + 1
  | .iface _ d => uptoBulk d + 1
  | .map entries => uptoBulkEntries entries + 1
  | .held _ => 1
def uptoBulkAll {H : Type} : List (DataW H) → Nat
  | [] => 0
  | d :: r => uptoBulk d + uptoBulkAll r
def uptoBulkEntries {H : Type} : List (Lit × DataW H) → Nat
  | [] => 0
  | x :: r => uptoBulkEntry x + uptoBulkEntries r
def uptoBulkEntry {H : Type} : Lit × DataW H → Nat
  | (.string bytes, d) => bytes.length + uptoBulk d + 1
  | (_, d) => uptoBulk d + 1
 end
def uptoSmall : (H : Type) → List (DataW H) → Bool := fun _ ds => decide (uptoBulkAll ds ≤ 1048576)
def OpenSpec.upto (s : _root_.Go.ChangeSpec) : _root_.Go.OpenSpec := { _root_.Go.OpenSpec.ofChange s with cond := some uptoSmall }

/-- 'laws.FnCrossOk', WHERE WHAT IT READS IS OF BULK AT MOST 1048576: true; the input reads as it did. -/
def fnCrossOkUptoRow : OpenClaim := { program := "ytegmjhjihbhakaa", sum := "bfc2ec2356f3c45379e08069c1e02e4b46625dd0efafc1c4c8e0893cfe97e892", func := "loop.example/headtrees/laws.FnCrossOk", spec := "fnCrossOk", apart := false, narrowed := true }
def FnCrossOkUptoSaid : Prop := fnCrossOkUptoRow.holds Try.pinned (OpenSpec.upto fnCrossOkSpec)

/-- 'laws.FnCoveredOk', WHERE WHAT IT READS IS OF BULK AT MOST 1048576: true; the input reads as it did. -/
def fnCoveredOkUptoRow : OpenClaim := { program := "ytegmjhjihbhakaa", sum := "bfc2ec2356f3c45379e08069c1e02e4b46625dd0efafc1c4c8e0893cfe97e892", func := "loop.example/headtrees/laws.FnCoveredOk", spec := "fnCoveredOk", recurses := true, apart := false, narrowed := true }
def FnCoveredOkUptoSaid : Prop := fnCoveredOkUptoRow.holds Try.pinned (OpenSpec.upto fnCoveredOkSpec)

/-- 'laws.FnExactSidesOf', WHERE WHAT IT READS IS OF BULK AT MOST 1048576: true; the input reads as it did. -/
def fnExactSidesOfUptoRow : OpenClaim := { program := "ytegmjhjihbhakaa", sum := "bfc2ec2356f3c45379e08069c1e02e4b46625dd0efafc1c4c8e0893cfe97e892", func := "loop.example/headtrees/laws.FnExactSidesOf", spec := "fnExactSidesOf", apart := false, narrowed := true }
def FnExactSidesOfUptoSaid : Prop := fnExactSidesOfUptoRow.holds Try.pinned (OpenSpec.upto fnExactSidesOfSpec)

/-- 'laws.FnExactCrossOk', WHERE WHAT IT READS IS OF BULK AT MOST 1048576: true; the input reads as it did. -/
def fnExactCrossOkUptoRow : OpenClaim := { program := "ytegmjhjihbhakaa", sum := "bfc2ec2356f3c45379e08069c1e02e4b46625dd0efafc1c4c8e0893cfe97e892", func := "loop.example/headtrees/laws.FnExactCrossOk", spec := "fnExactCrossOk", apart := false, narrowed := true }
def FnExactCrossOkUptoSaid : Prop := fnExactCrossOkUptoRow.holds Try.pinned (OpenSpec.upto fnExactCrossOkSpec)

/-- 'laws.FnExactCrossingsOf', WHERE WHAT IT READS IS OF BULK AT MOST 1048576: true; the input reads as it did. -/
def fnExactCrossingsOfUptoRow : OpenClaim := { program := "ytegmjhjihbhakaa", sum := "bfc2ec2356f3c45379e08069c1e02e4b46625dd0efafc1c4c8e0893cfe97e892", func := "loop.example/headtrees/laws.FnExactCrossingsOf", spec := "fnExactCrossingsOf", unfollowed := true, recurses := true, apart := false, narrowed := true }
def FnExactCrossingsOfUptoSaid : Prop := fnExactCrossingsOfUptoRow.holds Try.pinned (OpenSpec.upto fnExactCrossingsOfSpec)

/-- 'laws.FnExactCoveredOk', WHERE WHAT IT READS IS OF BULK AT MOST 1048576: true; the input reads as it did. -/
def fnExactCoveredOkUptoRow : OpenClaim := { program := "ytegmjhjihbhakaa", sum := "bfc2ec2356f3c45379e08069c1e02e4b46625dd0efafc1c4c8e0893cfe97e892", func := "loop.example/headtrees/laws.FnExactCoveredOk", spec := "fnExactCoveredOk", apart := false, narrowed := true }
def FnExactCoveredOkUptoSaid : Prop := fnExactCoveredOkUptoRow.holds Try.pinned (OpenSpec.upto fnExactCoveredOkSpec)

/-- 'laws.FnExactBackOf', WHERE WHAT IT READS IS OF BULK AT MOST 1048576: true; the input reads as it did. -/
def fnExactBackOfUptoRow : OpenClaim := { program := "ytegmjhjihbhakaa", sum := "bfc2ec2356f3c45379e08069c1e02e4b46625dd0efafc1c4c8e0893cfe97e892", func := "loop.example/headtrees/laws.FnExactBackOf", spec := "fnExactBackOf", unfollowed := true, recurses := true, apart := false, narrowed := true }
def FnExactBackOfUptoSaid : Prop := fnExactBackOfUptoRow.holds Try.pinned (OpenSpec.upto fnExactBackOfSpec)

end Rows
end Go.Proofs.Ytegmjhjihbhakaa
