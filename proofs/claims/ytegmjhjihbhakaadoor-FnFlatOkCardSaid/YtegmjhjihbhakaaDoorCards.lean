/-
  DERIVED. GIVEN WITH THE SEED: THE CARDS: each row of YtegmjhjihbhakaaDoorRows.lean that lists a variable, with what it lists TIED to the program's text (the seventh form; the later family's looks); each row that meets fmt, with fmt's text TOLD by the authors' own Lean function (tested against real Go, not proved from fmt's source: count such statements apart). THE CARD IS WHAT COUNTS. Prove the row's statement (the work); the ties are given (YtegmjhjihbhakaaDoorTie.lean); close each card by the builder's one call (the guide's Derived/Test/ToyasCard.lean, 'card_holds'). Laid BY PROGRAM, IN A SANDBOX (cutbox-door.mjs). By AI agents, Wed Nov 11 2026. No macro, syntax, notation, axiom, sorry.
-/
import Derived.Test.YtegmjhjihbhakaaDoorRows
import GoSem.ClaimSeven
namespace Go.Proofs.YtegmjhjihbhakaaDoor
namespace Rows

/-- THE TIED CARD OF 'laws.FnYieldOf'. -/
def fnYieldOfCard : Claim7 := { stood := { row := fnYieldOfRow, standIns := [], harness := (true, "1a724fa77434db9af473cca326a58ccfd20c58422d72a8f77b89b47844eac004"), looks := false }, kinds := [], alts := [], laidByText := true, laidKinds := [.data, .data], laidTests := true, laidLooks := .later }
def FnYieldOfCardSaid : Prop := Claim7.holds Tryd.pinned (.plain (OpenSpec.ofChange fnYieldOfSpec)) fnYieldOfCard

/-- THE TIED CARD OF 'laws.FnDependsOf'. -/
def fnDependsOfCard : Claim7 := { stood := { row := fnDependsOfRow, standIns := [], harness := (true, "1a724fa77434db9af473cca326a58ccfd20c58422d72a8f77b89b47844eac004"), looks := false }, kinds := [], alts := [], laidByText := true, laidKinds := [.data, .data], laidTests := true, laidLooks := .later }
def FnDependsOfCardSaid : Prop := Claim7.holds Tryd.pinned (.plain (OpenSpec.ofChange fnDependsOfSpec)) fnDependsOfCard

/-- THE TIED CARD OF 'laws.FnUnderOk'. -/
def fnUnderOkCard : Claim7 := { stood := { row := fnUnderOkRow, standIns := [], harness := (true, "1a724fa77434db9af473cca326a58ccfd20c58422d72a8f77b89b47844eac004"), looks := false }, kinds := [], alts := [], laidByText := true, laidKinds := [.data, .data], laidTests := true, laidLooks := .later }
def FnUnderOkCardSaid : Prop := Claim7.holds Tryd.pinned (.plain (OpenSpec.ofChange fnUnderOkSpec)) fnUnderOkCard

/-- THE TIED CARD OF 'laws.FnMeetOf'. -/
def fnMeetOfCard : Claim7 := { stood := { row := fnMeetOfRow, standIns := [], harness := (true, "1a724fa77434db9af473cca326a58ccfd20c58422d72a8f77b89b47844eac004"), looks := false }, kinds := [], alts := [], laidByText := true, laidKinds := [.data, .data], laidTests := true, laidLooks := .later }
def FnMeetOfCardSaid : Prop := Claim7.holds Tryd.pinned (.plain (OpenSpec.ofChange fnMeetOfSpec)) fnMeetOfCard

/-- THE TIED CARD OF 'laws.FnSidesOf'. -/
def fnSidesOfCard : Claim7 := { stood := { row := fnSidesOfRow, standIns := [], harness := (true, "1a724fa77434db9af473cca326a58ccfd20c58422d72a8f77b89b47844eac004"), looks := false }, kinds := [], alts := [], laidByText := true, laidKinds := [.data, .data], laidTests := true, laidLooks := .later }
def FnSidesOfCardSaid : Prop := Claim7.holds Tryd.pinned (.plain (OpenSpec.ofChange fnSidesOfSpec)) fnSidesOfCard

/-- THE TIED CARD OF 'laws.FnCrossingsOf'. -/
def fnCrossingsOfCard : Claim7 := { stood := { row := fnCrossingsOfRow, standIns := [], harness := (true, "1a724fa77434db9af473cca326a58ccfd20c58422d72a8f77b89b47844eac004"), looks := false }, kinds := [], alts := [], laidByText := true, laidKinds := [.data, .data], laidTests := true, laidLooks := .later }
def FnCrossingsOfCardSaid : Prop := Claim7.holds Tryd.pinned (.plain (OpenSpec.ofChange fnCrossingsOfSpec)) fnCrossingsOfCard

/-- THE TIED CARD OF 'laws.FnFlatOk'. -/
def fnFlatOkCard : Claim7 := { stood := { row := fnFlatOkRow, standIns := [], harness := (true, "1a724fa77434db9af473cca326a58ccfd20c58422d72a8f77b89b47844eac004"), looks := false }, kinds := [], alts := [], laidByText := true, laidKinds := [.data, .data], laidTests := true, laidLooks := .later }
def FnFlatOkCardSaid : Prop := Claim7.holds Tryd.pinned (.plain (OpenSpec.ofChange fnFlatOkSpec)) fnFlatOkCard

/-- THE TIED CARD OF 'laws.FnBackOf'. -/
def fnBackOfCard : Claim7 := { stood := { row := fnBackOfRow, standIns := [], harness := (true, "1a724fa77434db9af473cca326a58ccfd20c58422d72a8f77b89b47844eac004"), looks := false }, kinds := [], alts := [], laidByText := true, laidKinds := [.data, .data], laidTests := true, laidLooks := .later }
def FnBackOfCardSaid : Prop := Claim7.holds Tryd.pinned (.plain (OpenSpec.ofChange fnBackOfSpec)) fnBackOfCard

/-- THE TIED CARD OF 'laws.FnExactYieldOf'. -/
def fnExactYieldOfCard : Claim7 := { stood := { row := fnExactYieldOfRow, standIns := [], harness := (true, "1a724fa77434db9af473cca326a58ccfd20c58422d72a8f77b89b47844eac004"), looks := false }, kinds := [], alts := [], laidByText := true, laidKinds := [.data, .data], laidTests := true, laidLooks := .later }
def FnExactYieldOfCardSaid : Prop := Claim7.holds Tryd.pinned (.plain (OpenSpec.ofChange fnExactYieldOfSpec)) fnExactYieldOfCard

/-- THE TIED CARD OF 'laws.FnExactDependsOf'. -/
def fnExactDependsOfCard : Claim7 := { stood := { row := fnExactDependsOfRow, standIns := [], harness := (true, "1a724fa77434db9af473cca326a58ccfd20c58422d72a8f77b89b47844eac004"), looks := false }, kinds := [], alts := [], laidByText := true, laidKinds := [.data, .data], laidTests := true, laidLooks := .later }
def FnExactDependsOfCardSaid : Prop := Claim7.holds Tryd.pinned (.plain (OpenSpec.ofChange fnExactDependsOfSpec)) fnExactDependsOfCard

/-- THE TIED CARD OF 'laws.FnExactUnderOk'. -/
def fnExactUnderOkCard : Claim7 := { stood := { row := fnExactUnderOkRow, standIns := [], harness := (true, "1a724fa77434db9af473cca326a58ccfd20c58422d72a8f77b89b47844eac004"), looks := false }, kinds := [], alts := [], laidByText := true, laidKinds := [.data, .data], laidTests := true, laidLooks := .later }
def FnExactUnderOkCardSaid : Prop := Claim7.holds Tryd.pinned (.plain (OpenSpec.ofChange fnExactUnderOkSpec)) fnExactUnderOkCard

/-- THE TIED CARD OF 'laws.FnExactMeetOf'. -/
def fnExactMeetOfCard : Claim7 := { stood := { row := fnExactMeetOfRow, standIns := [], harness := (true, "1a724fa77434db9af473cca326a58ccfd20c58422d72a8f77b89b47844eac004"), looks := false }, kinds := [], alts := [], laidByText := true, laidKinds := [.data, .data], laidTests := true, laidLooks := .later }
def FnExactMeetOfCardSaid : Prop := Claim7.holds Tryd.pinned (.plain (OpenSpec.ofChange fnExactMeetOfSpec)) fnExactMeetOfCard

/-- THE TIED CARD OF 'laws.FnExactFlatOk'. -/
def fnExactFlatOkCard : Claim7 := { stood := { row := fnExactFlatOkRow, standIns := [], harness := (true, "1a724fa77434db9af473cca326a58ccfd20c58422d72a8f77b89b47844eac004"), looks := false }, kinds := [], alts := [], laidByText := true, laidKinds := [.data, .data], laidTests := true, laidLooks := .later }
def FnExactFlatOkCardSaid : Prop := Claim7.holds Tryd.pinned (.plain (OpenSpec.ofChange fnExactFlatOkSpec)) fnExactFlatOkCard

/-- THE SECOND FORM's CARD OF 'laws.FnYieldOf'. -/
def fnYieldOfUptoCard : Claim7 := { stood := { row := fnYieldOfUptoRow, standIns := [], harness := (true, "1a724fa77434db9af473cca326a58ccfd20c58422d72a8f77b89b47844eac004"), looks := false }, kinds := [], alts := [], laidByText := true, laidKinds := [.data, .data], laidTests := true, laidLooks := .later }
def FnYieldOfUptoCardSaid : Prop := Claim7.holds Tryd.pinned (.plain (OpenSpec.upto fnYieldOfSpec)) fnYieldOfUptoCard

/-- THE SECOND FORM's CARD OF 'laws.FnDependsOf'. -/
def fnDependsOfUptoCard : Claim7 := { stood := { row := fnDependsOfUptoRow, standIns := [], harness := (true, "1a724fa77434db9af473cca326a58ccfd20c58422d72a8f77b89b47844eac004"), looks := false }, kinds := [], alts := [], laidByText := true, laidKinds := [.data, .data], laidTests := true, laidLooks := .later }
def FnDependsOfUptoCardSaid : Prop := Claim7.holds Tryd.pinned (.plain (OpenSpec.upto fnDependsOfSpec)) fnDependsOfUptoCard

/-- THE SECOND FORM's CARD OF 'laws.FnUnderOk'. -/
def fnUnderOkUptoCard : Claim7 := { stood := { row := fnUnderOkUptoRow, standIns := [], harness := (true, "1a724fa77434db9af473cca326a58ccfd20c58422d72a8f77b89b47844eac004"), looks := false }, kinds := [], alts := [], laidByText := true, laidKinds := [.data, .data], laidTests := true, laidLooks := .later }
def FnUnderOkUptoCardSaid : Prop := Claim7.holds Tryd.pinned (.plain (OpenSpec.upto fnUnderOkSpec)) fnUnderOkUptoCard

/-- THE SECOND FORM's CARD OF 'laws.FnMeetOf'. -/
def fnMeetOfUptoCard : Claim7 := { stood := { row := fnMeetOfUptoRow, standIns := [], harness := (true, "1a724fa77434db9af473cca326a58ccfd20c58422d72a8f77b89b47844eac004"), looks := false }, kinds := [], alts := [], laidByText := true, laidKinds := [.data, .data], laidTests := true, laidLooks := .later }
def FnMeetOfUptoCardSaid : Prop := Claim7.holds Tryd.pinned (.plain (OpenSpec.upto fnMeetOfSpec)) fnMeetOfUptoCard

/-- THE SECOND FORM's CARD OF 'laws.FnSidesOf'. -/
def fnSidesOfUptoCard : Claim7 := { stood := { row := fnSidesOfUptoRow, standIns := [], harness := (true, "1a724fa77434db9af473cca326a58ccfd20c58422d72a8f77b89b47844eac004"), looks := false }, kinds := [], alts := [], laidByText := true, laidKinds := [.data, .data], laidTests := true, laidLooks := .later }
def FnSidesOfUptoCardSaid : Prop := Claim7.holds Tryd.pinned (.plain (OpenSpec.upto fnSidesOfSpec)) fnSidesOfUptoCard

/-- THE SECOND FORM's CARD OF 'laws.FnCrossingsOf'. -/
def fnCrossingsOfUptoCard : Claim7 := { stood := { row := fnCrossingsOfUptoRow, standIns := [], harness := (true, "1a724fa77434db9af473cca326a58ccfd20c58422d72a8f77b89b47844eac004"), looks := false }, kinds := [], alts := [], laidByText := true, laidKinds := [.data, .data], laidTests := true, laidLooks := .later }
def FnCrossingsOfUptoCardSaid : Prop := Claim7.holds Tryd.pinned (.plain (OpenSpec.upto fnCrossingsOfSpec)) fnCrossingsOfUptoCard

/-- THE SECOND FORM's CARD OF 'laws.FnFlatOk'. -/
def fnFlatOkUptoCard : Claim7 := { stood := { row := fnFlatOkUptoRow, standIns := [], harness := (true, "1a724fa77434db9af473cca326a58ccfd20c58422d72a8f77b89b47844eac004"), looks := false }, kinds := [], alts := [], laidByText := true, laidKinds := [.data, .data], laidTests := true, laidLooks := .later }
def FnFlatOkUptoCardSaid : Prop := Claim7.holds Tryd.pinned (.plain (OpenSpec.upto fnFlatOkSpec)) fnFlatOkUptoCard

/-- THE SECOND FORM's CARD OF 'laws.FnBackOf'. -/
def fnBackOfUptoCard : Claim7 := { stood := { row := fnBackOfUptoRow, standIns := [], harness := (true, "1a724fa77434db9af473cca326a58ccfd20c58422d72a8f77b89b47844eac004"), looks := false }, kinds := [], alts := [], laidByText := true, laidKinds := [.data, .data], laidTests := true, laidLooks := .later }
def FnBackOfUptoCardSaid : Prop := Claim7.holds Tryd.pinned (.plain (OpenSpec.upto fnBackOfSpec)) fnBackOfUptoCard

/-- THE SECOND FORM's CARD OF 'laws.FnExactYieldOf'. -/
def fnExactYieldOfUptoCard : Claim7 := { stood := { row := fnExactYieldOfUptoRow, standIns := [], harness := (true, "1a724fa77434db9af473cca326a58ccfd20c58422d72a8f77b89b47844eac004"), looks := false }, kinds := [], alts := [], laidByText := true, laidKinds := [.data, .data], laidTests := true, laidLooks := .later }
def FnExactYieldOfUptoCardSaid : Prop := Claim7.holds Tryd.pinned (.plain (OpenSpec.upto fnExactYieldOfSpec)) fnExactYieldOfUptoCard

/-- THE SECOND FORM's CARD OF 'laws.FnExactDependsOf'. -/
def fnExactDependsOfUptoCard : Claim7 := { stood := { row := fnExactDependsOfUptoRow, standIns := [], harness := (true, "1a724fa77434db9af473cca326a58ccfd20c58422d72a8f77b89b47844eac004"), looks := false }, kinds := [], alts := [], laidByText := true, laidKinds := [.data, .data], laidTests := true, laidLooks := .later }
def FnExactDependsOfUptoCardSaid : Prop := Claim7.holds Tryd.pinned (.plain (OpenSpec.upto fnExactDependsOfSpec)) fnExactDependsOfUptoCard

/-- THE SECOND FORM's CARD OF 'laws.FnExactUnderOk'. -/
def fnExactUnderOkUptoCard : Claim7 := { stood := { row := fnExactUnderOkUptoRow, standIns := [], harness := (true, "1a724fa77434db9af473cca326a58ccfd20c58422d72a8f77b89b47844eac004"), looks := false }, kinds := [], alts := [], laidByText := true, laidKinds := [.data, .data], laidTests := true, laidLooks := .later }
def FnExactUnderOkUptoCardSaid : Prop := Claim7.holds Tryd.pinned (.plain (OpenSpec.upto fnExactUnderOkSpec)) fnExactUnderOkUptoCard

/-- THE SECOND FORM's CARD OF 'laws.FnExactMeetOf'. -/
def fnExactMeetOfUptoCard : Claim7 := { stood := { row := fnExactMeetOfUptoRow, standIns := [], harness := (true, "1a724fa77434db9af473cca326a58ccfd20c58422d72a8f77b89b47844eac004"), looks := false }, kinds := [], alts := [], laidByText := true, laidKinds := [.data, .data], laidTests := true, laidLooks := .later }
def FnExactMeetOfUptoCardSaid : Prop := Claim7.holds Tryd.pinned (.plain (OpenSpec.upto fnExactMeetOfSpec)) fnExactMeetOfUptoCard

/-- THE SECOND FORM's CARD OF 'laws.FnExactFlatOk'. -/
def fnExactFlatOkUptoCard : Claim7 := { stood := { row := fnExactFlatOkUptoRow, standIns := [], harness := (true, "1a724fa77434db9af473cca326a58ccfd20c58422d72a8f77b89b47844eac004"), looks := false }, kinds := [], alts := [], laidByText := true, laidKinds := [.data, .data], laidTests := true, laidLooks := .later }
def FnExactFlatOkUptoCardSaid : Prop := Claim7.holds Tryd.pinned (.plain (OpenSpec.upto fnExactFlatOkSpec)) fnExactFlatOkUptoCard
end Rows
end Go.Proofs.YtegmjhjihbhakaaDoor
