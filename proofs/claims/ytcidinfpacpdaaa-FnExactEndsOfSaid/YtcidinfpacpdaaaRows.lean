/-
  No cell of these rows narrows 'for every input' (looked for: loops, veiled, ifaces, maps, wideKeys, modest, calm, conditions, laid).
  DERIVED. THE GIVEN ROWS OF THIS SEAT. 9 by the template 'for every input the law returns true; each argument reads behind the call as it read before'; 0 by the template 'total and deterministic' (their statements: YtcidinfpacpdaaaTotals.lean).
  GIVEN WITH THE SEED: the statements are not yours to turn. If you find one false, say at which input.
  Laid BY PROGRAM, IN A SANDBOX (cutbox-rows.mjs): the forced cells as the released guide's own fill.sh prints them over the translation 90cf849f3b3dee73… (all of the seat's roots in one cut). By AI agents, Wed Nov 11 2026. No macro, syntax, notation, axiom, sorry.
-/
import Derived.Test.YtcidinfpacpdaaaChecked
import GoSem.Claim
import GoSem.ClaimJoined
import GoSem.ClaimMapViews
import Derived.JoinedTies
import Derived.KernelRfl
namespace Go.Proofs.Ytcidinfpacpdaaa
/- THE CELL 'sum', in the pinned program and in every row, IS THE sha256 OF THE DUMP (.gsa) THAT YtcidinfpacpdaaaProg.lean LOADS. Nothing in Lean hashes anything: it is a label: what it is worth is what the hold of that sum in a sandbox is worth. -/
noncomputable def Try.pinned : Pinned := { name := "ytcidinfpacpdaaa", sum := "90cf849f3b3dee7392823f6bbe44e77ae9fcf741479447451f6ba666f2795249", checked := Try.checked }
namespace Rows
def none {H : Type} : Left H := { results := [], args := [] }

/-- 'laws.FnEndsOf': WHATEVER THE INPUT: true; the input reads as it did. -/
def fnEndsOfSpec : ChangeSpec := { name := "fnEndsOf", fn := fun _ => fun
  | [d] => { results := [.lit (.bool true)], args := [d] }
  | _ => none }
def fnEndsOfRow : OpenClaim := { program := "ytcidinfpacpdaaa", sum := "90cf849f3b3dee7392823f6bbe44e77ae9fcf741479447451f6ba666f2795249", func := "loop.example/headtrees/laws.FnEndsOf", spec := "fnEndsOf", unfollowed := true, recurses := true, apart := false }
def FnEndsOfSaid : Prop := fnEndsOfRow.holds Try.pinned (OpenSpec.ofChange fnEndsOfSpec)

/-- ITS FALSE NEIGHBOUR: 'it returns false'. Refute it at one input. -/
def fnEndsOfWrong : ChangeSpec := { name := "fnEndsOf", fn := fun _ => fun
  | [d] => { results := [.lit (.bool false)], args := [d] }
  | _ => none }
def FnEndsOfWrongFalsely : Prop := fnEndsOfRow.holds Try.pinned (OpenSpec.ofChange fnEndsOfWrong)

/-- 'laws.FnPairsApart': WHATEVER THE INPUT: true; the input reads as it did. -/
def fnPairsApartSpec : ChangeSpec := { name := "fnPairsApart", fn := fun _ => fun
  | [d] => { results := [.lit (.bool true)], args := [d] }
  | _ => none }
def fnPairsApartRow : OpenClaim := { program := "ytcidinfpacpdaaa", sum := "90cf849f3b3dee7392823f6bbe44e77ae9fcf741479447451f6ba666f2795249", func := "loop.example/headtrees/laws.FnPairsApart", spec := "fnPairsApart", unfollowed := true, recurses := true, apart := false }
def FnPairsApartSaid : Prop := fnPairsApartRow.holds Try.pinned (OpenSpec.ofChange fnPairsApartSpec)

/-- ITS FALSE NEIGHBOUR: 'it returns false'. Refute it at one input. -/
def fnPairsApartWrong : ChangeSpec := { name := "fnPairsApart", fn := fun _ => fun
  | [d] => { results := [.lit (.bool false)], args := [d] }
  | _ => none }
def FnPairsApartWrongFalsely : Prop := fnPairsApartRow.holds Try.pinned (OpenSpec.ofChange fnPairsApartWrong)

/-- 'laws.FnCrossingsSum': WHATEVER THE INPUT: true; the input reads as it did. -/
def fnCrossingsSumSpec : ChangeSpec := { name := "fnCrossingsSum", fn := fun _ => fun
  | [d] => { results := [.lit (.bool true)], args := [d] }
  | _ => none }
def fnCrossingsSumRow : OpenClaim := { program := "ytcidinfpacpdaaa", sum := "90cf849f3b3dee7392823f6bbe44e77ae9fcf741479447451f6ba666f2795249", func := "loop.example/headtrees/laws.FnCrossingsSum", spec := "fnCrossingsSum", unfollowed := true, recurses := true, apart := false }
def FnCrossingsSumSaid : Prop := fnCrossingsSumRow.holds Try.pinned (OpenSpec.ofChange fnCrossingsSumSpec)

/-- ITS FALSE NEIGHBOUR: 'it returns false'. Refute it at one input. -/
def fnCrossingsSumWrong : ChangeSpec := { name := "fnCrossingsSum", fn := fun _ => fun
  | [d] => { results := [.lit (.bool false)], args := [d] }
  | _ => none }
def FnCrossingsSumWrongFalsely : Prop := fnCrossingsSumRow.holds Try.pinned (OpenSpec.ofChange fnCrossingsSumWrong)

/-- 'laws.FnSidesFor': WHATEVER THE INPUT: true; the input reads as it did. -/
def fnSidesForSpec : ChangeSpec := { name := "fnSidesFor", fn := fun _ => fun
  | [d] => { results := [.lit (.bool true)], args := [d] }
  | _ => none }
def fnSidesForRow : OpenClaim := { program := "ytcidinfpacpdaaa", sum := "90cf849f3b3dee7392823f6bbe44e77ae9fcf741479447451f6ba666f2795249", func := "loop.example/headtrees/laws.FnSidesFor", spec := "fnSidesFor", unfollowed := true, recurses := true, apart := false }
def FnSidesForSaid : Prop := fnSidesForRow.holds Try.pinned (OpenSpec.ofChange fnSidesForSpec)

/-- ITS FALSE NEIGHBOUR: 'it returns false'. Refute it at one input. -/
def fnSidesForWrong : ChangeSpec := { name := "fnSidesFor", fn := fun _ => fun
  | [d] => { results := [.lit (.bool false)], args := [d] }
  | _ => none }
def FnSidesForWrongFalsely : Prop := fnSidesForRow.holds Try.pinned (OpenSpec.ofChange fnSidesForWrong)

/-- 'laws.FnExactEndsOf': WHATEVER THE INPUT: true; the input reads as it did. -/
def fnExactEndsOfSpec : ChangeSpec := { name := "fnExactEndsOf", fn := fun _ => fun
  | [d] => { results := [.lit (.bool true)], args := [d] }
  | _ => none }
def fnExactEndsOfRow : OpenClaim := { program := "ytcidinfpacpdaaa", sum := "90cf849f3b3dee7392823f6bbe44e77ae9fcf741479447451f6ba666f2795249", func := "loop.example/headtrees/laws.FnExactEndsOf", spec := "fnExactEndsOf", apart := false }
def FnExactEndsOfSaid : Prop := fnExactEndsOfRow.holds Try.pinned (OpenSpec.ofChange fnExactEndsOfSpec)

/-- ITS FALSE NEIGHBOUR: 'it returns false'. Refute it at one input. -/
def fnExactEndsOfWrong : ChangeSpec := { name := "fnExactEndsOf", fn := fun _ => fun
  | [d] => { results := [.lit (.bool false)], args := [d] }
  | _ => none }
def FnExactEndsOfWrongFalsely : Prop := fnExactEndsOfRow.holds Try.pinned (OpenSpec.ofChange fnExactEndsOfWrong)

/-- 'laws.FnExactPairsApart': WHATEVER THE INPUT: true; the input reads as it did. -/
def fnExactPairsApartSpec : ChangeSpec := { name := "fnExactPairsApart", fn := fun _ => fun
  | [d] => { results := [.lit (.bool true)], args := [d] }
  | _ => none }
def fnExactPairsApartRow : OpenClaim := { program := "ytcidinfpacpdaaa", sum := "90cf849f3b3dee7392823f6bbe44e77ae9fcf741479447451f6ba666f2795249", func := "loop.example/headtrees/laws.FnExactPairsApart", spec := "fnExactPairsApart", apart := false }
def FnExactPairsApartSaid : Prop := fnExactPairsApartRow.holds Try.pinned (OpenSpec.ofChange fnExactPairsApartSpec)

/-- ITS FALSE NEIGHBOUR: 'it returns false'. Refute it at one input. -/
def fnExactPairsApartWrong : ChangeSpec := { name := "fnExactPairsApart", fn := fun _ => fun
  | [d] => { results := [.lit (.bool false)], args := [d] }
  | _ => none }
def FnExactPairsApartWrongFalsely : Prop := fnExactPairsApartRow.holds Try.pinned (OpenSpec.ofChange fnExactPairsApartWrong)

/-- 'laws.FnExactCrossingsSum': WHATEVER THE INPUT: true; the input reads as it did. -/
def fnExactCrossingsSumSpec : ChangeSpec := { name := "fnExactCrossingsSum", fn := fun _ => fun
  | [d] => { results := [.lit (.bool true)], args := [d] }
  | _ => none }
def fnExactCrossingsSumRow : OpenClaim := { program := "ytcidinfpacpdaaa", sum := "90cf849f3b3dee7392823f6bbe44e77ae9fcf741479447451f6ba666f2795249", func := "loop.example/headtrees/laws.FnExactCrossingsSum", spec := "fnExactCrossingsSum", apart := false }
def FnExactCrossingsSumSaid : Prop := fnExactCrossingsSumRow.holds Try.pinned (OpenSpec.ofChange fnExactCrossingsSumSpec)

/-- ITS FALSE NEIGHBOUR: 'it returns false'. Refute it at one input. -/
def fnExactCrossingsSumWrong : ChangeSpec := { name := "fnExactCrossingsSum", fn := fun _ => fun
  | [d] => { results := [.lit (.bool false)], args := [d] }
  | _ => none }
def FnExactCrossingsSumWrongFalsely : Prop := fnExactCrossingsSumRow.holds Try.pinned (OpenSpec.ofChange fnExactCrossingsSumWrong)

/-- 'laws.FnExactSidesFor': WHATEVER THE INPUT: true; the input reads as it did. -/
def fnExactSidesForSpec : ChangeSpec := { name := "fnExactSidesFor", fn := fun _ => fun
  | [d] => { results := [.lit (.bool true)], args := [d] }
  | _ => none }
def fnExactSidesForRow : OpenClaim := { program := "ytcidinfpacpdaaa", sum := "90cf849f3b3dee7392823f6bbe44e77ae9fcf741479447451f6ba666f2795249", func := "loop.example/headtrees/laws.FnExactSidesFor", spec := "fnExactSidesFor", recurses := true, apart := false }
def FnExactSidesForSaid : Prop := fnExactSidesForRow.holds Try.pinned (OpenSpec.ofChange fnExactSidesForSpec)

/-- ITS FALSE NEIGHBOUR: 'it returns false'. Refute it at one input. -/
def fnExactSidesForWrong : ChangeSpec := { name := "fnExactSidesFor", fn := fun _ => fun
  | [d] => { results := [.lit (.bool false)], args := [d] }
  | _ => none }
def FnExactSidesForWrongFalsely : Prop := fnExactSidesForRow.holds Try.pinned (OpenSpec.ofChange fnExactSidesForWrong)

/-- 'laws.FnExactStarOk': WHATEVER THE INPUT: true; the input reads as it did. -/
def fnExactStarOkSpec : ChangeSpec := { name := "fnExactStarOk", fn := fun _ => fun
  | [d] => { results := [.lit (.bool true)], args := [d] }
  | _ => none }
def fnExactStarOkRow : OpenClaim := { program := "ytcidinfpacpdaaa", sum := "90cf849f3b3dee7392823f6bbe44e77ae9fcf741479447451f6ba666f2795249", func := "loop.example/headtrees/laws.FnExactStarOk", spec := "fnExactStarOk", apart := false }
def FnExactStarOkSaid : Prop := fnExactStarOkRow.holds Try.pinned (OpenSpec.ofChange fnExactStarOkSpec)

/-- ITS FALSE NEIGHBOUR: 'it returns false'. Refute it at one input. -/
def fnExactStarOkWrong : ChangeSpec := { name := "fnExactStarOk", fn := fun _ => fun
  | [d] => { results := [.lit (.bool false)], args := [d] }
  | _ => none }
def FnExactStarOkWrongFalsely : Prop := fnExactStarOkRow.holds Try.pinned (OpenSpec.ofChange fnExactStarOkWrong)

/- THE SECOND FORM. 'bulk': how many values and letters a reading holds, each counted each time it is reached (what is shared counts as often as it is met; a slice's spare places count too). A statement '..UptoSaid' is the law's where the arguments, and the package variables that the reading takes, are together of bulk at most 1048576: NARROWER than '..Said'. Prove '..Said' where nothing that the law and all that it calls make is longer than what came in: it says more and counts as full. Else prove '..UptoSaid'. A law counts once. -/
mutual
def uptoBulk {H : Type} : DataW H → Nat
  | .lit (.string bytes) => bytes.length + 1
  | .lit _ => 1
  | .nil => 1
  | .ptr d => uptoBulk d + 1
  | .slice elems spare => uptoBulkAll elems + uptoBulkAll spare + 1
  | .agg parts => uptoBulkAll parts + 1
  | .iface _ d => uptoBulk d + 1
  | .map entries => uptoBulkEntries entries + 1
  | .held _ => 1
def uptoBulkAll {H : Type} : List (DataW H) → Nat
  | [] => 0
  | d :: r => uptoBulk d + uptoBulkAll r
def uptoBulkEntries {H : Type} : List (Lit × DataW H) → Nat
  | [] => 0
  | x :: r => uptoBulkEntry x + uptoBulkEntries r
def uptoBulkEntry {H : Type} : Lit × DataW H → Nat
  | (.string bytes, d) => bytes.length + uptoBulk d + 1
  | (_, d) => uptoBulk d + 1
 end
def uptoSmall : (H : Type) → List (DataW H) → Bool := fun _ ds => decide (uptoBulkAll ds ≤ 1048576)
def OpenSpec.upto (s : _root_.Go.ChangeSpec) : _root_.Go.OpenSpec := { _root_.Go.OpenSpec.ofChange s with cond := some uptoSmall }

/-- 'laws.FnEndsOf', WHERE WHAT IT READS IS OF BULK AT MOST 1048576: true; the input reads as it did. -/
def fnEndsOfUptoRow : OpenClaim := { program := "ytcidinfpacpdaaa", sum := "90cf849f3b3dee7392823f6bbe44e77ae9fcf741479447451f6ba666f2795249", func := "loop.example/headtrees/laws.FnEndsOf", spec := "fnEndsOf", unfollowed := true, recurses := true, apart := false, narrowed := true }
def FnEndsOfUptoSaid : Prop := fnEndsOfUptoRow.holds Try.pinned (OpenSpec.upto fnEndsOfSpec)

/-- 'laws.FnPairsApart', WHERE WHAT IT READS IS OF BULK AT MOST 1048576: true; the input reads as it did. -/
def fnPairsApartUptoRow : OpenClaim := { program := "ytcidinfpacpdaaa", sum := "90cf849f3b3dee7392823f6bbe44e77ae9fcf741479447451f6ba666f2795249", func := "loop.example/headtrees/laws.FnPairsApart", spec := "fnPairsApart", unfollowed := true, recurses := true, apart := false, narrowed := true }
def FnPairsApartUptoSaid : Prop := fnPairsApartUptoRow.holds Try.pinned (OpenSpec.upto fnPairsApartSpec)

/-- 'laws.FnCrossingsSum', WHERE WHAT IT READS IS OF BULK AT MOST 1048576: true; the input reads as it did. -/
def fnCrossingsSumUptoRow : OpenClaim := { program := "ytcidinfpacpdaaa", sum := "90cf849f3b3dee7392823f6bbe44e77ae9fcf741479447451f6ba666f2795249", func := "loop.example/headtrees/laws.FnCrossingsSum", spec := "fnCrossingsSum", unfollowed := true, recurses := true, apart := false, narrowed := true }
def FnCrossingsSumUptoSaid : Prop := fnCrossingsSumUptoRow.holds Try.pinned (OpenSpec.upto fnCrossingsSumSpec)

/-- 'laws.FnSidesFor', WHERE WHAT IT READS IS OF BULK AT MOST 1048576: true; the input reads as it did. -/
def fnSidesForUptoRow : OpenClaim := { program := "ytcidinfpacpdaaa", sum := "90cf849f3b3dee7392823f6bbe44e77ae9fcf741479447451f6ba666f2795249", func := "loop.example/headtrees/laws.FnSidesFor", spec := "fnSidesFor", unfollowed := true, recurses := true, apart := false, narrowed := true }
def FnSidesForUptoSaid : Prop := fnSidesForUptoRow.holds Try.pinned (OpenSpec.upto fnSidesForSpec)

/-- 'laws.FnExactEndsOf', WHERE WHAT IT READS IS OF BULK AT MOST 1048576: true; the input reads as it did. -/
def fnExactEndsOfUptoRow : OpenClaim := { program := "ytcidinfpacpdaaa", sum := "90cf849f3b3dee7392823f6bbe44e77ae9fcf741479447451f6ba666f2795249", func := "loop.example/headtrees/laws.FnExactEndsOf", spec := "fnExactEndsOf", apart := false, narrowed := true }
def FnExactEndsOfUptoSaid : Prop := fnExactEndsOfUptoRow.holds Try.pinned (OpenSpec.upto fnExactEndsOfSpec)

/-- 'laws.FnExactPairsApart', WHERE WHAT IT READS IS OF BULK AT MOST 1048576: true; the input reads as it did. -/
def fnExactPairsApartUptoRow : OpenClaim := { program := "ytcidinfpacpdaaa", sum := "90cf849f3b3dee7392823f6bbe44e77ae9fcf741479447451f6ba666f2795249", func := "loop.example/headtrees/laws.FnExactPairsApart", spec := "fnExactPairsApart", apart := false, narrowed := true }
def FnExactPairsApartUptoSaid : Prop := fnExactPairsApartUptoRow.holds Try.pinned (OpenSpec.upto fnExactPairsApartSpec)

/-- 'laws.FnExactCrossingsSum', WHERE WHAT IT READS IS OF BULK AT MOST 1048576: true; the input reads as it did. -/
def fnExactCrossingsSumUptoRow : OpenClaim := { program := "ytcidinfpacpdaaa", sum := "90cf849f3b3dee7392823f6bbe44e77ae9fcf741479447451f6ba666f2795249", func := "loop.example/headtrees/laws.FnExactCrossingsSum", spec := "fnExactCrossingsSum", apart := false, narrowed := true }
def FnExactCrossingsSumUptoSaid : Prop := fnExactCrossingsSumUptoRow.holds Try.pinned (OpenSpec.upto fnExactCrossingsSumSpec)

/-- 'laws.FnExactSidesFor', WHERE WHAT IT READS IS OF BULK AT MOST 1048576: true; the input reads as it did. -/
def fnExactSidesForUptoRow : OpenClaim := { program := "ytcidinfpacpdaaa", sum := "90cf849f3b3dee7392823f6bbe44e77ae9fcf741479447451f6ba666f2795249", func := "loop.example/headtrees/laws.FnExactSidesFor", spec := "fnExactSidesFor", recurses := true, apart := false, narrowed := true }
def FnExactSidesForUptoSaid : Prop := fnExactSidesForUptoRow.holds Try.pinned (OpenSpec.upto fnExactSidesForSpec)

/-- 'laws.FnExactStarOk', WHERE WHAT IT READS IS OF BULK AT MOST 1048576: true; the input reads as it did. -/
def fnExactStarOkUptoRow : OpenClaim := { program := "ytcidinfpacpdaaa", sum := "90cf849f3b3dee7392823f6bbe44e77ae9fcf741479447451f6ba666f2795249", func := "loop.example/headtrees/laws.FnExactStarOk", spec := "fnExactStarOk", apart := false, narrowed := true }
def FnExactStarOkUptoSaid : Prop := fnExactStarOkUptoRow.holds Try.pinned (OpenSpec.upto fnExactStarOkSpec)

end Rows
end Go.Proofs.Ytcidinfpacpdaaa
