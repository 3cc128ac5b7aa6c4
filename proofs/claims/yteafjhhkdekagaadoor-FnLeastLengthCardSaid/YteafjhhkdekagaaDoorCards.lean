/-
  DERIVED. GIVEN WITH THE SEED: THE CARDS: each row of YteafjhhkdekagaaDoorRows.lean that lists a variable, with what it lists TIED to the program's text (the seventh form; the later family's looks); each row that meets fmt, with fmt's text TOLD by the authors' own Lean function (tested against real Go, not proved from fmt's source: count such statements apart). THE CARD IS WHAT COUNTS. Prove the row's statement (the work); the ties are given (YteafjhhkdekagaaDoorTie.lean); close each card by the builder's one call (the guide's Derived/Test/ToyasCard.lean, 'card_holds'). Laid BY PROGRAM, IN A SANDBOX (cutbox-door.mjs). By AI agents, Wed Nov 11 2026. No macro, syntax, notation, axiom, sorry.
-/
import Derived.Test.YteafjhhkdekagaaDoorRows
import GoSem.ClaimSeven
namespace Go.Proofs.YteafjhhkdekagaaDoor
namespace Rows

/-- THE TIED CARD OF 'laws.FnLeastLength'. -/
def fnLeastLengthCard : Claim7 := { stood := { row := fnLeastLengthRow, standIns := [], harness := (true, "784da6d8f4e59cf8ea5ac226ef52347db1baf5432ac1ad884bf4fd3b69988b59"), looks := false }, kinds := [], alts := [], laidByText := true, laidKinds := [.data, .data], laidTests := true, laidLooks := .later }
def FnLeastLengthCardSaid : Prop := Claim7.holds Tryd.pinned (.plain (OpenSpec.ofChange fnLeastLengthSpec)) fnLeastLengthCard

/-- THE TIED CARD OF 'laws.FnExactLeastLength'. -/
def fnExactLeastLengthCard : Claim7 := { stood := { row := fnExactLeastLengthRow, standIns := [], harness := (true, "784da6d8f4e59cf8ea5ac226ef52347db1baf5432ac1ad884bf4fd3b69988b59"), looks := false }, kinds := [], alts := [], laidByText := true, laidKinds := [.data, .data], laidTests := true, laidLooks := .later }
def FnExactLeastLengthCardSaid : Prop := Claim7.holds Tryd.pinned (.plain (OpenSpec.ofChange fnExactLeastLengthSpec)) fnExactLeastLengthCard

/-- THE SECOND FORM's CARD OF 'laws.FnLeastLength'. -/
def fnLeastLengthUptoCard : Claim7 := { stood := { row := fnLeastLengthUptoRow, standIns := [], harness := (true, "784da6d8f4e59cf8ea5ac226ef52347db1baf5432ac1ad884bf4fd3b69988b59"), looks := false }, kinds := [], alts := [], laidByText := true, laidKinds := [.data, .data], laidTests := true, laidLooks := .later }
def FnLeastLengthUptoCardSaid : Prop := Claim7.holds Tryd.pinned (.plain (OpenSpec.upto fnLeastLengthSpec)) fnLeastLengthUptoCard

/-- THE SECOND FORM's CARD OF 'laws.FnExactLeastLength'. -/
def fnExactLeastLengthUptoCard : Claim7 := { stood := { row := fnExactLeastLengthUptoRow, standIns := [], harness := (true, "784da6d8f4e59cf8ea5ac226ef52347db1baf5432ac1ad884bf4fd3b69988b59"), looks := false }, kinds := [], alts := [], laidByText := true, laidKinds := [.data, .data], laidTests := true, laidLooks := .later }
def FnExactLeastLengthUptoCardSaid : Prop := Claim7.holds Tryd.pinned (.plain (OpenSpec.upto fnExactLeastLengthSpec)) fnExactLeastLengthUptoCard
end Rows
end Go.Proofs.YteafjhhkdekagaaDoor
