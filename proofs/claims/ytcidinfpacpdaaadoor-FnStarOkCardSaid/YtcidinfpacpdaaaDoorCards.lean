/-
  DERIVED. GIVEN WITH THE SEED: THE CARDS: each row of YtcidinfpacpdaaaDoorRows.lean that lists a variable, with what it lists TIED to the program's text (the seventh form; the later family's looks); each row that meets fmt, with fmt's text TOLD by the authors' own Lean function (tested against real Go, not proved from fmt's source: count such statements apart). THE CARD IS WHAT COUNTS. Prove the row's statement (the work); the ties are given (YtcidinfpacpdaaaDoorTie.lean); close each card by the builder's one call (the guide's Derived/Test/ToyasCard.lean, 'card_holds'). Laid BY PROGRAM, IN A SANDBOX (cutbox-door.mjs). By AI agents, Wed Nov 11 2026. No macro, syntax, notation, axiom, sorry.
-/
import Derived.Test.YtcidinfpacpdaaaDoorRows
import GoSem.ClaimSeven
namespace Go.Proofs.YtcidinfpacpdaaaDoor
namespace Rows

/-- THE TIED CARD OF 'laws.FnStarOk'. -/
def fnStarOkCard : Claim7 := { stood := { row := fnStarOkRow, standIns := [], harness := (true, "46d75fb9698f9ba2ad190df5128ba68b99300771983fd718ac92d3065210f65c"), looks := false }, kinds := [], alts := [], laidByText := true, laidKinds := [.data, .data], laidTests := true, laidLooks := .later }
def FnStarOkCardSaid : Prop := Claim7.holds Tryd.pinned (.plain (OpenSpec.ofChange fnStarOkSpec)) fnStarOkCard

/-- THE SECOND FORM's CARD OF 'laws.FnStarOk'. -/
def fnStarOkUptoCard : Claim7 := { stood := { row := fnStarOkUptoRow, standIns := [], harness := (true, "46d75fb9698f9ba2ad190df5128ba68b99300771983fd718ac92d3065210f65c"), looks := false }, kinds := [], alts := [], laidByText := true, laidKinds := [.data, .data], laidTests := true, laidLooks := .later }
def FnStarOkUptoCardSaid : Prop := Claim7.holds Tryd.pinned (.plain (OpenSpec.upto fnStarOkSpec)) fnStarOkUptoCard
end Rows
end Go.Proofs.YtcidinfpacpdaaaDoor
