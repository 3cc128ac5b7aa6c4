/-
  DERIVED. GIVEN WITH THE SEED: THE CARDS: each row of YtenenhmofmdcbabDoorRows.lean that lists a variable, with what it lists TIED to the program's text (the seventh form; the later family's looks); each row that meets fmt, with fmt's text TOLD by the authors' own Lean function (tested against real Go, not proved from fmt's source: count such statements apart). THE CARD IS WHAT COUNTS. Prove the row's statement (the work); the ties are given (YtenenhmofmdcbabDoorTie.lean); close each card by the builder's one call (the guide's Derived/Test/ToyasCard.lean, 'card_holds'). Laid BY PROGRAM, IN A SANDBOX (cutbox-door.mjs). By AI agents, Wed Nov 11 2026. No macro, syntax, notation, axiom, sorry.
-/
import Derived.Test.YtenenhmofmdcbabDoorRows
import GoSem.ClaimSeven
namespace Go.Proofs.YtenenhmofmdcbabDoor
namespace Rows

/-- THE TIED CARD OF 'laws.FnExactYieldOf'. -/
def fnExactYieldOfCard : Claim7 := { stood := { row := fnExactYieldOfRow, standIns := [], harness := (true, "a9518d368638366a8071d02abb62dccb84c15decaad7f29a6b77eadab2376bc3"), looks := false }, kinds := [], alts := [], laidByText := true, laidKinds := [.data, .data], laidTests := true, laidLooks := .later }
def FnExactYieldOfCardSaid : Prop := Claim7.holds Tryd.pinned (.plain (OpenSpec.ofChange fnExactYieldOfSpec)) fnExactYieldOfCard

/-- THE TIED CARD OF 'laws.FnExactDependsOf'. -/
def fnExactDependsOfCard : Claim7 := { stood := { row := fnExactDependsOfRow, standIns := [], harness := (true, "a9518d368638366a8071d02abb62dccb84c15decaad7f29a6b77eadab2376bc3"), looks := false }, kinds := [], alts := [], laidByText := true, laidKinds := [.data, .data], laidTests := true, laidLooks := .later }
def FnExactDependsOfCardSaid : Prop := Claim7.holds Tryd.pinned (.plain (OpenSpec.ofChange fnExactDependsOfSpec)) fnExactDependsOfCard

/-- THE TIED CARD OF 'laws.FnExactUnderOk'. -/
def fnExactUnderOkCard : Claim7 := { stood := { row := fnExactUnderOkRow, standIns := [], harness := (true, "a9518d368638366a8071d02abb62dccb84c15decaad7f29a6b77eadab2376bc3"), looks := false }, kinds := [], alts := [], laidByText := true, laidKinds := [.data, .data], laidTests := true, laidLooks := .later }
def FnExactUnderOkCardSaid : Prop := Claim7.holds Tryd.pinned (.plain (OpenSpec.ofChange fnExactUnderOkSpec)) fnExactUnderOkCard

/-- THE TIED CARD OF 'laws.FnExactMeetOf'. -/
def fnExactMeetOfCard : Claim7 := { stood := { row := fnExactMeetOfRow, standIns := [], harness := (true, "a9518d368638366a8071d02abb62dccb84c15decaad7f29a6b77eadab2376bc3"), looks := false }, kinds := [], alts := [], laidByText := true, laidKinds := [.data, .data], laidTests := true, laidLooks := .later }
def FnExactMeetOfCardSaid : Prop := Claim7.holds Tryd.pinned (.plain (OpenSpec.ofChange fnExactMeetOfSpec)) fnExactMeetOfCard

/-- THE SECOND FORM's CARD OF 'laws.FnExactYieldOf'. -/
def fnExactYieldOfUptoCard : Claim7 := { stood := { row := fnExactYieldOfUptoRow, standIns := [], harness := (true, "a9518d368638366a8071d02abb62dccb84c15decaad7f29a6b77eadab2376bc3"), looks := false }, kinds := [], alts := [], laidByText := true, laidKinds := [.data, .data], laidTests := true, laidLooks := .later }
def FnExactYieldOfUptoCardSaid : Prop := Claim7.holds Tryd.pinned (.plain (OpenSpec.upto fnExactYieldOfSpec)) fnExactYieldOfUptoCard

/-- THE SECOND FORM's CARD OF 'laws.FnExactDependsOf'. -/
def fnExactDependsOfUptoCard : Claim7 := { stood := { row := fnExactDependsOfUptoRow, standIns := [], harness := (true, "a9518d368638366a8071d02abb62dccb84c15decaad7f29a6b77eadab2376bc3"), looks := false }, kinds := [], alts := [], laidByText := true, laidKinds := [.data, .data], laidTests := true, laidLooks := .later }
def FnExactDependsOfUptoCardSaid : Prop := Claim7.holds Tryd.pinned (.plain (OpenSpec.upto fnExactDependsOfSpec)) fnExactDependsOfUptoCard

/-- THE SECOND FORM's CARD OF 'laws.FnExactUnderOk'. -/
def fnExactUnderOkUptoCard : Claim7 := { stood := { row := fnExactUnderOkUptoRow, standIns := [], harness := (true, "a9518d368638366a8071d02abb62dccb84c15decaad7f29a6b77eadab2376bc3"), looks := false }, kinds := [], alts := [], laidByText := true, laidKinds := [.data, .data], laidTests := true, laidLooks := .later }
def FnExactUnderOkUptoCardSaid : Prop := Claim7.holds Tryd.pinned (.plain (OpenSpec.upto fnExactUnderOkSpec)) fnExactUnderOkUptoCard

/-- THE SECOND FORM's CARD OF 'laws.FnExactMeetOf'. -/
def fnExactMeetOfUptoCard : Claim7 := { stood := { row := fnExactMeetOfUptoRow, standIns := [], harness := (true, "a9518d368638366a8071d02abb62dccb84c15decaad7f29a6b77eadab2376bc3"), looks := false }, kinds := [], alts := [], laidByText := true, laidKinds := [.data, .data], laidTests := true, laidLooks := .later }
def FnExactMeetOfUptoCardSaid : Prop := Claim7.holds Tryd.pinned (.plain (OpenSpec.upto fnExactMeetOfSpec)) fnExactMeetOfUptoCard
end Rows
end Go.Proofs.YtenenhmofmdcbabDoor
