/-
  No cell of these rows narrows 'for every input' (looked for: loops, veiled, ifaces, maps, wideKeys, modest, calm, conditions, laid).
  DERIVED. THE GIVEN ROWS OF THIS SEAT. 5 by the template 'for every input the law returns true; each argument reads behind the call as it read before'; 0 by the template 'total and deterministic' (their statements: YthhbbiielebblaaTotals.lean).
  GIVEN WITH THE SEED: the statements are not yours to turn. If you find one false, say at which input.
  Laid BY PROGRAM, IN A SANDBOX (cutbox-rows.mjs): the forced cells as the released guide's own fill.sh prints them over the translation 5f2f9f9aff880f1d… (all of the seat's roots in one cut). By AI agents, Wed Nov 11 2026. No macro, syntax, notation, axiom, sorry.
-/
import Derived.Test.YthhbbiielebblaaChecked
import GoSem.Claim
import GoSem.ClaimJoined
import GoSem.ClaimMapViews
import Derived.JoinedTies
import Derived.KernelRfl
namespace Go.Proofs.Ythhbbiielebblaa
/- THE CELL 'sum', in the pinned program and in every row, IS THE sha256 OF THE DUMP (.gsa) THAT YthhbbiielebblaaProg.lean LOADS. Nothing in Lean hashes anything: it is a label: what it is worth is what the hold of that sum in a sandbox is worth. -/
noncomputable def Try.pinned : Pinned := { name := "ythhbbiielebblaa", sum := "5f2f9f9aff880f1dc95b4932f5aad9e17f3488d3ef58573fac5a6494916368bc", checked := Try.checked }
namespace Rows
def none {H : Type} : Left H := { results := [], args := [] }

/-- 'laws.FnCountFlat': WHATEVER THE INPUT: true; the input reads as it did. -/
def fnCountFlatSpec : ChangeSpec := { name := "fnCountFlat", fn := fun _ => fun
  | [d] => { results := [.lit (.bool true)], args := [d] }
  | _ => none }
def fnCountFlatRow : OpenClaim := { program := "ythhbbiielebblaa", sum := "5f2f9f9aff880f1dc95b4932f5aad9e17f3488d3ef58573fac5a6494916368bc", func := "loop.example/headtrees/laws.FnCountFlat", spec := "fnCountFlat", recurses := true, apart := false }
def FnCountFlatSaid : Prop := fnCountFlatRow.holds Try.pinned (OpenSpec.ofChange fnCountFlatSpec)

/-- ITS FALSE NEIGHBOUR: 'it returns false'. Refute it at one input. -/
def fnCountFlatWrong : ChangeSpec := { name := "fnCountFlat", fn := fun _ => fun
  | [d] => { results := [.lit (.bool false)], args := [d] }
  | _ => none }
def FnCountFlatWrongFalsely : Prop := fnCountFlatRow.holds Try.pinned (OpenSpec.ofChange fnCountFlatWrong)

/-- 'laws.FnCountRows': WHATEVER THE INPUT: true; the input reads as it did. -/
def fnCountRowsSpec : ChangeSpec := { name := "fnCountRows", fn := fun _ => fun
  | [d] => { results := [.lit (.bool true)], args := [d] }
  | _ => none }
def fnCountRowsRow : OpenClaim := { program := "ythhbbiielebblaa", sum := "5f2f9f9aff880f1dc95b4932f5aad9e17f3488d3ef58573fac5a6494916368bc", func := "loop.example/headtrees/laws.FnCountRows", spec := "fnCountRows", recurses := true, apart := false }
def FnCountRowsSaid : Prop := fnCountRowsRow.holds Try.pinned (OpenSpec.ofChange fnCountRowsSpec)

/-- ITS FALSE NEIGHBOUR: 'it returns false'. Refute it at one input. -/
def fnCountRowsWrong : ChangeSpec := { name := "fnCountRows", fn := fun _ => fun
  | [d] => { results := [.lit (.bool false)], args := [d] }
  | _ => none }
def FnCountRowsWrongFalsely : Prop := fnCountRowsRow.holds Try.pinned (OpenSpec.ofChange fnCountRowsWrong)

/-- 'laws.FnExactCountFlat': WHATEVER THE INPUT: true; the input reads as it did. -/
def fnExactCountFlatSpec : ChangeSpec := { name := "fnExactCountFlat", fn := fun _ => fun
  | [d] => { results := [.lit (.bool true)], args := [d] }
  | _ => none }
def fnExactCountFlatRow : OpenClaim := { program := "ythhbbiielebblaa", sum := "5f2f9f9aff880f1dc95b4932f5aad9e17f3488d3ef58573fac5a6494916368bc", func := "loop.example/headtrees/laws.FnExactCountFlat", spec := "fnExactCountFlat", recurses := true, apart := false }
def FnExactCountFlatSaid : Prop := fnExactCountFlatRow.holds Try.pinned (OpenSpec.ofChange fnExactCountFlatSpec)

/-- ITS FALSE NEIGHBOUR: 'it returns false'. Refute it at one input. -/
def fnExactCountFlatWrong : ChangeSpec := { name := "fnExactCountFlat", fn := fun _ => fun
  | [d] => { results := [.lit (.bool false)], args := [d] }
  | _ => none }
def FnExactCountFlatWrongFalsely : Prop := fnExactCountFlatRow.holds Try.pinned (OpenSpec.ofChange fnExactCountFlatWrong)

/-- 'laws.FnExactCountRows': WHATEVER THE INPUT: true; the input reads as it did. -/
def fnExactCountRowsSpec : ChangeSpec := { name := "fnExactCountRows", fn := fun _ => fun
  | [d] => { results := [.lit (.bool true)], args := [d] }
  | _ => none }
def fnExactCountRowsRow : OpenClaim := { program := "ythhbbiielebblaa", sum := "5f2f9f9aff880f1dc95b4932f5aad9e17f3488d3ef58573fac5a6494916368bc", func := "loop.example/headtrees/laws.FnExactCountRows", spec := "fnExactCountRows", recurses := true, apart := false }
def FnExactCountRowsSaid : Prop := fnExactCountRowsRow.holds Try.pinned (OpenSpec.ofChange fnExactCountRowsSpec)

/-- ITS FALSE NEIGHBOUR: 'it returns false'. Refute it at one input. -/
def fnExactCountRowsWrong : ChangeSpec := { name := "fnExactCountRows", fn := fun _ => fun
  | [d] => { results := [.lit (.bool false)], args := [d] }
  | _ => none }
def FnExactCountRowsWrongFalsely : Prop := fnExactCountRowsRow.holds Try.pinned (OpenSpec.ofChange fnExactCountRowsWrong)

/-- 'laws.FnExactFlatAt': WHATEVER THE INPUT: true; the input reads as it did. -/
def fnExactFlatAtSpec : ChangeSpec := { name := "fnExactFlatAt", fn := fun _ => fun
  | [d1, d2] => { results := [.lit (.bool true)], args := [d1, d2] }
  | _ => none }
def fnExactFlatAtRow : OpenClaim := { program := "ythhbbiielebblaa", sum := "5f2f9f9aff880f1dc95b4932f5aad9e17f3488d3ef58573fac5a6494916368bc", func := "loop.example/headtrees/laws.FnExactFlatAt", spec := "fnExactFlatAt", recurses := true, apart := false }
def FnExactFlatAtSaid : Prop := fnExactFlatAtRow.holds Try.pinned (OpenSpec.ofChange fnExactFlatAtSpec)

/-- ITS FALSE NEIGHBOUR: 'it returns false'. Refute it at one input. -/
def fnExactFlatAtWrong : ChangeSpec := { name := "fnExactFlatAt", fn := fun _ => fun
  | [d1, d2] => { results := [.lit (.bool false)], args := [d1, d2] }
  | _ => none }
def FnExactFlatAtWrongFalsely : Prop := fnExactFlatAtRow.holds Try.pinned (OpenSpec.ofChange fnExactFlatAtWrong)

/- THE SECOND FORM. 'bulk': how many values and letters a reading holds, each counted each time it is reached (what is shared counts as often as it is met; a slice's spare places count too). A statement '..UptoSaid' is the law's where the arguments, and the package variables that the reading takes, are together of bulk at most 1048576: NARROWER than '..Said'. Prove '..Said' where nothing that the law and all that it calls make is longer than what came in: it says more and counts as full. Else prove '..UptoSaid'. A law counts once. -/
mutual
def uptoBulk {H : Type} : DataW H → Nat
  | .lit (.string bytes) => bytes.length + 1
  | .lit _ => 1
  | .nil => 1
  | .ptr d => uptoBulk d + 1
  | .slice elems spare => uptoBulkAll elems + uptoBulkAll spare + 1
  | .agg parts => uptoBulkAll parts + 1
  | .iface _ d => uptoBulk d + 1
  | .map entries => uptoBulkEntries entries + 1
  | .held _ => 1
def uptoBulkAll {H : Type} : List (DataW H) → Nat
  | [] => 0
  | d :: r => uptoBulk d + uptoBulkAll r
def uptoBulkEntries {H : Type} : List (Lit × DataW H) → Nat
  | [] => 0
  | x :: r => uptoBulkEntry x + uptoBulkEntries r
def uptoBulkEntry {H : Type} : Lit × DataW H → Nat
  | (.string bytes, d) => bytes.length + uptoBulk d + 1
  | (_, d) => uptoBulk d + 1
 end
def uptoSmall : (H : Type) → List (DataW H) → Bool := fun _ ds => decide (uptoBulkAll ds ≤ 1048576)
def OpenSpec.upto (s : _root_.Go.ChangeSpec) : _root_.Go.OpenSpec := { _root_.Go.OpenSpec.ofChange s with cond := some uptoSmall }

/-- 'laws.FnCountFlat', WHERE WHAT IT READS IS OF BULK AT MOST 1048576: true; the input reads as it did. -/
def fnCountFlatUptoRow : OpenClaim := { program := "ythhbbiielebblaa", sum := "5f2f9f9aff880f1dc95b4932f5aad9e17f3488d3ef58573fac5a6494916368bc", func := "loop.example/headtrees/laws.FnCountFlat", spec := "fnCountFlat", recurses := true, apart := false, narrowed := true }
def FnCountFlatUptoSaid : Prop := fnCountFlatUptoRow.holds Try.pinned (OpenSpec.upto fnCountFlatSpec)

/-- 'laws.FnCountRows', WHERE WHAT IT READS IS OF BULK AT MOST 1048576: true; the input reads as it did. -/
def fnCountRowsUptoRow : OpenClaim := { program := "ythhbbiielebblaa", sum := "5f2f9f9aff880f1dc95b4932f5aad9e17f3488d3ef58573fac5a6494916368bc", func := "loop.example/headtrees/laws.FnCountRows", spec := "fnCountRows", recurses := true, apart := false, narrowed := true }
def FnCountRowsUptoSaid : Prop := fnCountRowsUptoRow.holds Try.pinned (OpenSpec.upto fnCountRowsSpec)

/-- 'laws.FnExactCountFlat', WHERE WHAT IT READS IS OF BULK AT MOST 1048576: true; the input reads as it did. -/
def fnExactCountFlatUptoRow : OpenClaim := { program := "ythhbbiielebblaa", sum := "5f2f9f9aff880f1dc95b4932f5aad9e17f3488d3ef58573fac5a6494916368bc", func := "loop.example/headtrees/laws.FnExactCountFlat", spec := "fnExactCountFlat", recurses := true, apart := false, narrowed := true }
def FnExactCountFlatUptoSaid : Prop := fnExactCountFlatUptoRow.holds Try.pinned (OpenSpec.upto fnExactCountFlatSpec)

/-- 'laws.FnExactCountRows', WHERE WHAT IT READS IS OF BULK AT MOST 1048576: true; the input reads as it did. -/
def fnExactCountRowsUptoRow : OpenClaim := { program := "ythhbbiielebblaa", sum := "5f2f9f9aff880f1dc95b4932f5aad9e17f3488d3ef58573fac5a6494916368bc", func := "loop.example/headtrees/laws.FnExactCountRows", spec := "fnExactCountRows", recurses := true, apart := false, narrowed := true }
def FnExactCountRowsUptoSaid : Prop := fnExactCountRowsUptoRow.holds Try.pinned (OpenSpec.upto fnExactCountRowsSpec)

/-- 'laws.FnExactFlatAt', WHERE WHAT IT READS IS OF BULK AT MOST 1048576: true; the input reads as it did. -/
def fnExactFlatAtUptoRow : OpenClaim := { program := "ythhbbiielebblaa", sum := "5f2f9f9aff880f1dc95b4932f5aad9e17f3488d3ef58573fac5a6494916368bc", func := "loop.example/headtrees/laws.FnExactFlatAt", spec := "fnExactFlatAt", recurses := true, apart := false, narrowed := true }
def FnExactFlatAtUptoSaid : Prop := fnExactFlatAtUptoRow.holds Try.pinned (OpenSpec.upto fnExactFlatAtSpec)

end Rows
end Go.Proofs.Ythhbbiielebblaa
