/-
  DERIVED. GIVEN WITH THE SEED: THE CARDS: each row of YtgnjabkkcglmkaaDoorRows.lean that lists a variable, with what it lists TIED to the program's text (the seventh form; the later family's looks); each row that meets fmt, with fmt's text TOLD by the authors' own Lean function (tested against real Go, not proved from fmt's source: count such statements apart). THE CARD IS WHAT COUNTS. Prove the row's statement (the work); the ties are given (YtgnjabkkcglmkaaDoorTie.lean); close each card by the builder's one call (the guide's Derived/Test/ToyasCard.lean, 'card_holds'). Laid BY PROGRAM, IN A SANDBOX (cutbox-door.mjs). By AI agents, Wed Nov 11 2026. No macro, syntax, notation, axiom, sorry.
-/
import Derived.Test.YtgnjabkkcglmkaaDoorRows
import GoSem.ClaimSeven
namespace Go.Proofs.YtgnjabkkcglmkaaDoor
namespace Rows

/-- THE TIED CARD OF 'laws.FnGapsOf'. -/
def fnGapsOfCard : Claim7 := { stood := { row := fnGapsOfRow, standIns := [], harness := (true, "f7bd78ec5b6bb7de28b338194feaeb71b887b4bcfba8690fdb0f728377f85169"), looks := false }, kinds := [], alts := [], laidByText := true, laidKinds := [.data, .data], laidTests := true, laidLooks := .later }
def FnGapsOfCardSaid : Prop := Claim7.holds Tryd.pinned (.plain (OpenSpec.ofChange fnGapsOfSpec)) fnGapsOfCard

/-- THE TIED CARD OF 'laws.FnMostGaps'. -/
def fnMostGapsCard : Claim7 := { stood := { row := fnMostGapsRow, standIns := [], harness := (true, "f7bd78ec5b6bb7de28b338194feaeb71b887b4bcfba8690fdb0f728377f85169"), looks := false }, kinds := [], alts := [], laidByText := true, laidKinds := [.data, .data], laidTests := true, laidLooks := .later }
def FnMostGapsCardSaid : Prop := Claim7.holds Tryd.pinned (.plain (OpenSpec.ofChange fnMostGapsSpec)) fnMostGapsCard

/-- THE TIED CARD OF 'laws.FnTurnsOk'. -/
def fnTurnsOkCard : Claim7 := { stood := { row := fnTurnsOkRow, standIns := [], harness := (true, "f7bd78ec5b6bb7de28b338194feaeb71b887b4bcfba8690fdb0f728377f85169"), looks := false }, kinds := [], alts := [], laidByText := true, laidKinds := [.data, .data], laidTests := true, laidLooks := .later }
def FnTurnsOkCardSaid : Prop := Claim7.holds Tryd.pinned (.plain (OpenSpec.ofChange fnTurnsOkSpec)) fnTurnsOkCard

/-- THE TIED CARD OF 'laws.FnNestedOk'. -/
def fnNestedOkCard : Claim7 := { stood := { row := fnNestedOkRow, standIns := [], harness := (true, "f7bd78ec5b6bb7de28b338194feaeb71b887b4bcfba8690fdb0f728377f85169"), looks := false }, kinds := [], alts := [], laidByText := true, laidKinds := [.data, .data], laidTests := true, laidLooks := .later }
def FnNestedOkCardSaid : Prop := Claim7.holds Tryd.pinned (.plain (OpenSpec.ofChange fnNestedOkSpec)) fnNestedOkCard

/-- THE TIED CARD OF 'laws.FnRowsOf'. -/
def fnRowsOfCard : Claim7 := { stood := { row := fnRowsOfRow, standIns := [], harness := (true, "f7bd78ec5b6bb7de28b338194feaeb71b887b4bcfba8690fdb0f728377f85169"), looks := false }, kinds := [], alts := [], laidByText := true, laidKinds := [.data, .data], laidTests := true, laidLooks := .later }
def FnRowsOfCardSaid : Prop := Claim7.holds Tryd.pinned (.plain (OpenSpec.ofChange fnRowsOfSpec)) fnRowsOfCard

/-- THE TIED CARD OF 'laws.FnExactGapsOf'. -/
def fnExactGapsOfCard : Claim7 := { stood := { row := fnExactGapsOfRow, standIns := [], harness := (true, "f7bd78ec5b6bb7de28b338194feaeb71b887b4bcfba8690fdb0f728377f85169"), looks := false }, kinds := [], alts := [], laidByText := true, laidKinds := [.data, .data], laidTests := true, laidLooks := .later }
def FnExactGapsOfCardSaid : Prop := Claim7.holds Tryd.pinned (.plain (OpenSpec.ofChange fnExactGapsOfSpec)) fnExactGapsOfCard

/-- THE TIED CARD OF 'laws.FnExactMostGaps'. -/
def fnExactMostGapsCard : Claim7 := { stood := { row := fnExactMostGapsRow, standIns := [], harness := (true, "f7bd78ec5b6bb7de28b338194feaeb71b887b4bcfba8690fdb0f728377f85169"), looks := false }, kinds := [], alts := [], laidByText := true, laidKinds := [.data, .data], laidTests := true, laidLooks := .later }
def FnExactMostGapsCardSaid : Prop := Claim7.holds Tryd.pinned (.plain (OpenSpec.ofChange fnExactMostGapsSpec)) fnExactMostGapsCard

/-- THE TIED CARD OF 'laws.FnExactNestedOk'. -/
def fnExactNestedOkCard : Claim7 := { stood := { row := fnExactNestedOkRow, standIns := [], harness := (true, "f7bd78ec5b6bb7de28b338194feaeb71b887b4bcfba8690fdb0f728377f85169"), looks := false }, kinds := [], alts := [], laidByText := true, laidKinds := [.data, .data], laidTests := true, laidLooks := .later }
def FnExactNestedOkCardSaid : Prop := Claim7.holds Tryd.pinned (.plain (OpenSpec.ofChange fnExactNestedOkSpec)) fnExactNestedOkCard

/-- THE SECOND FORM's CARD OF 'laws.FnGapsOf'. -/
def fnGapsOfUptoCard : Claim7 := { stood := { row := fnGapsOfUptoRow, standIns := [], harness := (true, "f7bd78ec5b6bb7de28b338194feaeb71b887b4bcfba8690fdb0f728377f85169"), looks := false }, kinds := [], alts := [], laidByText := true, laidKinds := [.data, .data], laidTests := true, laidLooks := .later }
def FnGapsOfUptoCardSaid : Prop := Claim7.holds Tryd.pinned (.plain (OpenSpec.upto fnGapsOfSpec)) fnGapsOfUptoCard

/-- THE SECOND FORM's CARD OF 'laws.FnMostGaps'. -/
def fnMostGapsUptoCard : Claim7 := { stood := { row := fnMostGapsUptoRow, standIns := [], harness := (true, "f7bd78ec5b6bb7de28b338194feaeb71b887b4bcfba8690fdb0f728377f85169"), looks := false }, kinds := [], alts := [], laidByText := true, laidKinds := [.data, .data], laidTests := true, laidLooks := .later }
def FnMostGapsUptoCardSaid : Prop := Claim7.holds Tryd.pinned (.plain (OpenSpec.upto fnMostGapsSpec)) fnMostGapsUptoCard

/-- THE SECOND FORM's CARD OF 'laws.FnTurnsOk'. -/
def fnTurnsOkUptoCard : Claim7 := { stood := { row := fnTurnsOkUptoRow, standIns := [], harness := (true, "f7bd78ec5b6bb7de28b338194feaeb71b887b4bcfba8690fdb0f728377f85169"), looks := false }, kinds := [], alts := [], laidByText := true, laidKinds := [.data, .data], laidTests := true, laidLooks := .later }
def FnTurnsOkUptoCardSaid : Prop := Claim7.holds Tryd.pinned (.plain (OpenSpec.upto fnTurnsOkSpec)) fnTurnsOkUptoCard

/-- THE SECOND FORM's CARD OF 'laws.FnNestedOk'. -/
def fnNestedOkUptoCard : Claim7 := { stood := { row := fnNestedOkUptoRow, standIns := [], harness := (true, "f7bd78ec5b6bb7de28b338194feaeb71b887b4bcfba8690fdb0f728377f85169"), looks := false }, kinds := [], alts := [], laidByText := true, laidKinds := [.data, .data], laidTests := true, laidLooks := .later }
def FnNestedOkUptoCardSaid : Prop := Claim7.holds Tryd.pinned (.plain (OpenSpec.upto fnNestedOkSpec)) fnNestedOkUptoCard

/-- THE SECOND FORM's CARD OF 'laws.FnRowsOf'. -/
def fnRowsOfUptoCard : Claim7 := { stood := { row := fnRowsOfUptoRow, standIns := [], harness := (true, "f7bd78ec5b6bb7de28b338194feaeb71b887b4bcfba8690fdb0f728377f85169"), looks := false }, kinds := [], alts := [], laidByText := true, laidKinds := [.data, .data], laidTests := true, laidLooks := .later }
def FnRowsOfUptoCardSaid : Prop := Claim7.holds Tryd.pinned (.plain (OpenSpec.upto fnRowsOfSpec)) fnRowsOfUptoCard

/-- THE SECOND FORM's CARD OF 'laws.FnExactGapsOf'. -/
def fnExactGapsOfUptoCard : Claim7 := { stood := { row := fnExactGapsOfUptoRow, standIns := [], harness := (true, "f7bd78ec5b6bb7de28b338194feaeb71b887b4bcfba8690fdb0f728377f85169"), looks := false }, kinds := [], alts := [], laidByText := true, laidKinds := [.data, .data], laidTests := true, laidLooks := .later }
def FnExactGapsOfUptoCardSaid : Prop := Claim7.holds Tryd.pinned (.plain (OpenSpec.upto fnExactGapsOfSpec)) fnExactGapsOfUptoCard

/-- THE SECOND FORM's CARD OF 'laws.FnExactMostGaps'. -/
def fnExactMostGapsUptoCard : Claim7 := { stood := { row := fnExactMostGapsUptoRow, standIns := [], harness := (true, "f7bd78ec5b6bb7de28b338194feaeb71b887b4bcfba8690fdb0f728377f85169"), looks := false }, kinds := [], alts := [], laidByText := true, laidKinds := [.data, .data], laidTests := true, laidLooks := .later }
def FnExactMostGapsUptoCardSaid : Prop := Claim7.holds Tryd.pinned (.plain (OpenSpec.upto fnExactMostGapsSpec)) fnExactMostGapsUptoCard

/-- THE SECOND FORM's CARD OF 'laws.FnExactNestedOk'. -/
def fnExactNestedOkUptoCard : Claim7 := { stood := { row := fnExactNestedOkUptoRow, standIns := [], harness := (true, "f7bd78ec5b6bb7de28b338194feaeb71b887b4bcfba8690fdb0f728377f85169"), looks := false }, kinds := [], alts := [], laidByText := true, laidKinds := [.data, .data], laidTests := true, laidLooks := .later }
def FnExactNestedOkUptoCardSaid : Prop := Claim7.holds Tryd.pinned (.plain (OpenSpec.upto fnExactNestedOkSpec)) fnExactNestedOkUptoCard
end Rows
end Go.Proofs.YtgnjabkkcglmkaaDoor
