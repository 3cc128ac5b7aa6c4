/-
  DERIVED. GIVEN WITH THE SEED: THE CARDS: each row of YtmmfabigcffdfaaDoorRows.lean that lists a variable, with what it lists TIED to the program's text (the seventh form; the later family's looks); each row that meets fmt, with fmt's text TOLD by the authors' own Lean function (tested against real Go, not proved from fmt's source: count such statements apart). THE CARD IS WHAT COUNTS. Prove the row's statement (the work); the ties are given (YtmmfabigcffdfaaDoorTie.lean); close each card by the builder's one call (the guide's Derived/Test/ToyasCard.lean, 'card_holds'). Laid BY PROGRAM, IN A SANDBOX (cutbox-door.mjs). By AI agents, Wed Nov 11 2026. No macro, syntax, notation, axiom, sorry.
-/
import Derived.Test.YtmmfabigcffdfaaDoorRows
import GoSem.ClaimSeven
namespace Go.Proofs.YtmmfabigcffdfaaDoor
namespace Rows

/-- THE TIED CARD OF 'laws.FnRunStack'. -/
def fnRunStackCard : Claim7 := { stood := { row := fnRunStackRow, standIns := [], harness := (true, "e9f12949e6f3d8f0f87b396f0c4040b4da1b4fe58180176d8fc9dc390182cd34"), looks := false }, kinds := [], alts := [], laidByText := true, laidKinds := [.data, .data], laidTests := true, laidLooks := .later }
def FnRunStackCardSaid : Prop := Claim7.holds Tryd.pinned (.plain (OpenSpec.ofChange fnRunStackSpec)) fnRunStackCard

/-- THE TIED CARD OF 'laws.FnMovesFor'. -/
def fnMovesForCard : Claim7 := { stood := { row := fnMovesForRow, standIns := [], harness := (true, "e9f12949e6f3d8f0f87b396f0c4040b4da1b4fe58180176d8fc9dc390182cd34"), looks := false }, kinds := [], alts := [], laidByText := true, laidKinds := [.data, .data], laidTests := true, laidLooks := .later }
def FnMovesForCardSaid : Prop := Claim7.holds Tryd.pinned (.plain (OpenSpec.ofChange fnMovesForSpec)) fnMovesForCard

/-- THE TIED CARD OF 'laws.FnExactMovesFor'. -/
def fnExactMovesForCard : Claim7 := { stood := { row := fnExactMovesForRow, standIns := [], harness := (true, "e9f12949e6f3d8f0f87b396f0c4040b4da1b4fe58180176d8fc9dc390182cd34"), looks := false }, kinds := [], alts := [], laidByText := true, laidKinds := [.data, .data], laidTests := true, laidLooks := .later }
def FnExactMovesForCardSaid : Prop := Claim7.holds Tryd.pinned (.plain (OpenSpec.ofChange fnExactMovesForSpec)) fnExactMovesForCard

/-- THE SECOND FORM's CARD OF 'laws.FnRunStack'. -/
def fnRunStackUptoCard : Claim7 := { stood := { row := fnRunStackUptoRow, standIns := [], harness := (true, "e9f12949e6f3d8f0f87b396f0c4040b4da1b4fe58180176d8fc9dc390182cd34"), looks := false }, kinds := [], alts := [], laidByText := true, laidKinds := [.data, .data], laidTests := true, laidLooks := .later }
def FnRunStackUptoCardSaid : Prop := Claim7.holds Tryd.pinned (.plain (OpenSpec.upto fnRunStackSpec)) fnRunStackUptoCard

/-- THE SECOND FORM's CARD OF 'laws.FnMovesFor'. -/
def fnMovesForUptoCard : Claim7 := { stood := { row := fnMovesForUptoRow, standIns := [], harness := (true, "e9f12949e6f3d8f0f87b396f0c4040b4da1b4fe58180176d8fc9dc390182cd34"), looks := false }, kinds := [], alts := [], laidByText := true, laidKinds := [.data, .data], laidTests := true, laidLooks := .later }
def FnMovesForUptoCardSaid : Prop := Claim7.holds Tryd.pinned (.plain (OpenSpec.upto fnMovesForSpec)) fnMovesForUptoCard

/-- THE SECOND FORM's CARD OF 'laws.FnExactMovesFor'. -/
def fnExactMovesForUptoCard : Claim7 := { stood := { row := fnExactMovesForUptoRow, standIns := [], harness := (true, "e9f12949e6f3d8f0f87b396f0c4040b4da1b4fe58180176d8fc9dc390182cd34"), looks := false }, kinds := [], alts := [], laidByText := true, laidKinds := [.data, .data], laidTests := true, laidLooks := .later }
def FnExactMovesForUptoCardSaid : Prop := Claim7.holds Tryd.pinned (.plain (OpenSpec.upto fnExactMovesForSpec)) fnExactMovesForUptoCard
end Rows
end Go.Proofs.YtmmfabigcffdfaaDoor
