/-
  DERIVED. GIVEN WITH THE SEED: THE CARDS: each row of YtgjhjbankpdcgaaDoorRows.lean that lists a variable, with what it lists TIED to the program's text (the seventh form; the later family's looks); each row that meets fmt, with fmt's text TOLD by the authors' own Lean function (tested against real Go, not proved from fmt's source: count such statements apart). THE CARD IS WHAT COUNTS. Prove the row's statement (the work); the ties are given (YtgjhjbankpdcgaaDoorTie.lean); close each card by the builder's one call (the guide's Derived/Test/ToyasCard.lean, 'card_holds'). Laid BY PROGRAM, IN A SANDBOX (cutbox-door.mjs). By AI agents, Wed Nov 11 2026. No macro, syntax, notation, axiom, sorry.
-/
import Derived.Test.YtgjhjbankpdcgaaDoorRows
import GoSem.ClaimSeven
namespace Go.Proofs.YtgjhjbankpdcgaaDoor
namespace Rows

/-- THE TIED CARD OF 'laws.FnSidesOf'. -/
def fnSidesOfCard : Claim7 := { stood := { row := fnSidesOfRow, standIns := [], harness := (true, "3f28823926b693d188caaf65f1d080eca78ccfd202ca74938f2620956d371d7d"), looks := false }, kinds := [], alts := [], laidByText := true, laidKinds := [.data, .data], laidTests := true, laidLooks := .later }
def FnSidesOfCardSaid : Prop := Claim7.holds Tryd.pinned (.plain (OpenSpec.ofChange fnSidesOfSpec)) fnSidesOfCard

/-- THE TIED CARD OF 'laws.FnFlatAt'. -/
def fnFlatAtCard : Claim7 := { stood := { row := fnFlatAtRow, standIns := [], harness := (true, "3f28823926b693d188caaf65f1d080eca78ccfd202ca74938f2620956d371d7d"), looks := false }, kinds := [], alts := [], laidByText := true, laidKinds := [.data, .data], laidTests := true, laidLooks := .later }
def FnFlatAtCardSaid : Prop := Claim7.holds Tryd.pinned (.plain (OpenSpec.ofChange fnFlatAtSpec)) fnFlatAtCard

/-- THE TIED CARD OF 'laws.FnPlaceOf'. -/
def fnPlaceOfCard : Claim7 := { stood := { row := fnPlaceOfRow, standIns := [], harness := (true, "3f28823926b693d188caaf65f1d080eca78ccfd202ca74938f2620956d371d7d"), looks := false }, kinds := [], alts := [], laidByText := true, laidKinds := [.data, .data], laidTests := true, laidLooks := .later }
def FnPlaceOfCardSaid : Prop := Claim7.holds Tryd.pinned (.plain (OpenSpec.ofChange fnPlaceOfSpec)) fnPlaceOfCard

/-- THE TIED CARD OF 'laws.FnFlatOrder'. -/
def fnFlatOrderCard : Claim7 := { stood := { row := fnFlatOrderRow, standIns := [], harness := (true, "3f28823926b693d188caaf65f1d080eca78ccfd202ca74938f2620956d371d7d"), looks := false }, kinds := [], alts := [], laidByText := true, laidKinds := [.data, .data], laidTests := true, laidLooks := .later }
def FnFlatOrderCardSaid : Prop := Claim7.holds Tryd.pinned (.plain (OpenSpec.ofChange fnFlatOrderSpec)) fnFlatOrderCard

/-- THE TIED CARD OF 'laws.FnExchangesFor'. -/
def fnExchangesForCard : Claim7 := { stood := { row := fnExchangesForRow, standIns := [], harness := (true, "3f28823926b693d188caaf65f1d080eca78ccfd202ca74938f2620956d371d7d"), looks := false }, kinds := [], alts := [], laidByText := true, laidKinds := [.data, .data], laidTests := true, laidLooks := .later }
def FnExchangesForCardSaid : Prop := Claim7.holds Tryd.pinned (.plain (OpenSpec.ofChange fnExchangesForSpec)) fnExchangesForCard

/-- THE TIED CARD OF 'laws.FnMadeFlat'. -/
def fnMadeFlatCard : Claim7 := { stood := { row := fnMadeFlatRow, standIns := [], harness := (true, "3f28823926b693d188caaf65f1d080eca78ccfd202ca74938f2620956d371d7d"), looks := false }, kinds := [], alts := [], laidByText := true, laidKinds := [.data, .data], laidTests := true, laidLooks := .later }
def FnMadeFlatCardSaid : Prop := Claim7.holds Tryd.pinned (.plain (OpenSpec.ofChange fnMadeFlatSpec)) fnMadeFlatCard

/-- THE TIED CARD OF 'laws.FnExactPlaceOf'. -/
def fnExactPlaceOfCard : Claim7 := { stood := { row := fnExactPlaceOfRow, standIns := [], harness := (true, "3f28823926b693d188caaf65f1d080eca78ccfd202ca74938f2620956d371d7d"), looks := false }, kinds := [], alts := [], laidByText := true, laidKinds := [.data, .data], laidTests := true, laidLooks := .later }
def FnExactPlaceOfCardSaid : Prop := Claim7.holds Tryd.pinned (.plain (OpenSpec.ofChange fnExactPlaceOfSpec)) fnExactPlaceOfCard

/-- THE TIED CARD OF 'laws.FnExactFlatOrder'. -/
def fnExactFlatOrderCard : Claim7 := { stood := { row := fnExactFlatOrderRow, standIns := [], harness := (true, "3f28823926b693d188caaf65f1d080eca78ccfd202ca74938f2620956d371d7d"), looks := false }, kinds := [], alts := [], laidByText := true, laidKinds := [.data, .data], laidTests := true, laidLooks := .later }
def FnExactFlatOrderCardSaid : Prop := Claim7.holds Tryd.pinned (.plain (OpenSpec.ofChange fnExactFlatOrderSpec)) fnExactFlatOrderCard

/-- THE TIED CARD OF 'laws.FnExactExchangesFor'. -/
def fnExactExchangesForCard : Claim7 := { stood := { row := fnExactExchangesForRow, standIns := [], harness := (true, "3f28823926b693d188caaf65f1d080eca78ccfd202ca74938f2620956d371d7d"), looks := false }, kinds := [], alts := [], laidByText := true, laidKinds := [.data, .data], laidTests := true, laidLooks := .later }
def FnExactExchangesForCardSaid : Prop := Claim7.holds Tryd.pinned (.plain (OpenSpec.ofChange fnExactExchangesForSpec)) fnExactExchangesForCard

/-- THE TIED CARD OF 'laws.FnExactMadeFlat'. -/
def fnExactMadeFlatCard : Claim7 := { stood := { row := fnExactMadeFlatRow, standIns := [], harness := (true, "3f28823926b693d188caaf65f1d080eca78ccfd202ca74938f2620956d371d7d"), looks := false }, kinds := [], alts := [], laidByText := true, laidKinds := [.data, .data], laidTests := true, laidLooks := .later }
def FnExactMadeFlatCardSaid : Prop := Claim7.holds Tryd.pinned (.plain (OpenSpec.ofChange fnExactMadeFlatSpec)) fnExactMadeFlatCard

/-- THE SECOND FORM's CARD OF 'laws.FnSidesOf'. -/
def fnSidesOfUptoCard : Claim7 := { stood := { row := fnSidesOfUptoRow, standIns := [], harness := (true, "3f28823926b693d188caaf65f1d080eca78ccfd202ca74938f2620956d371d7d"), looks := false }, kinds := [], alts := [], laidByText := true, laidKinds := [.data, .data], laidTests := true, laidLooks := .later }
def FnSidesOfUptoCardSaid : Prop := Claim7.holds Tryd.pinned (.plain (OpenSpec.upto fnSidesOfSpec)) fnSidesOfUptoCard

/-- THE SECOND FORM's CARD OF 'laws.FnFlatAt'. -/
def fnFlatAtUptoCard : Claim7 := { stood := { row := fnFlatAtUptoRow, standIns := [], harness := (true, "3f28823926b693d188caaf65f1d080eca78ccfd202ca74938f2620956d371d7d"), looks := false }, kinds := [], alts := [], laidByText := true, laidKinds := [.data, .data], laidTests := true, laidLooks := .later }
def FnFlatAtUptoCardSaid : Prop := Claim7.holds Tryd.pinned (.plain (OpenSpec.upto fnFlatAtSpec)) fnFlatAtUptoCard

/-- THE SECOND FORM's CARD OF 'laws.FnPlaceOf'. -/
def fnPlaceOfUptoCard : Claim7 := { stood := { row := fnPlaceOfUptoRow, standIns := [], harness := (true, "3f28823926b693d188caaf65f1d080eca78ccfd202ca74938f2620956d371d7d"), looks := false }, kinds := [], alts := [], laidByText := true, laidKinds := [.data, .data], laidTests := true, laidLooks := .later }
def FnPlaceOfUptoCardSaid : Prop := Claim7.holds Tryd.pinned (.plain (OpenSpec.upto fnPlaceOfSpec)) fnPlaceOfUptoCard

/-- THE SECOND FORM's CARD OF 'laws.FnFlatOrder'. -/
def fnFlatOrderUptoCard : Claim7 := { stood := { row := fnFlatOrderUptoRow, standIns := [], harness := (true, "3f28823926b693d188caaf65f1d080eca78ccfd202ca74938f2620956d371d7d"), looks := false }, kinds := [], alts := [], laidByText := true, laidKinds := [.data, .data], laidTests := true, laidLooks := .later }
def FnFlatOrderUptoCardSaid : Prop := Claim7.holds Tryd.pinned (.plain (OpenSpec.upto fnFlatOrderSpec)) fnFlatOrderUptoCard

/-- THE SECOND FORM's CARD OF 'laws.FnExchangesFor'. -/
def fnExchangesForUptoCard : Claim7 := { stood := { row := fnExchangesForUptoRow, standIns := [], harness := (true, "3f28823926b693d188caaf65f1d080eca78ccfd202ca74938f2620956d371d7d"), looks := false }, kinds := [], alts := [], laidByText := true, laidKinds := [.data, .data], laidTests := true, laidLooks := .later }
def FnExchangesForUptoCardSaid : Prop := Claim7.holds Tryd.pinned (.plain (OpenSpec.upto fnExchangesForSpec)) fnExchangesForUptoCard

/-- THE SECOND FORM's CARD OF 'laws.FnMadeFlat'. -/
def fnMadeFlatUptoCard : Claim7 := { stood := { row := fnMadeFlatUptoRow, standIns := [], harness := (true, "3f28823926b693d188caaf65f1d080eca78ccfd202ca74938f2620956d371d7d"), looks := false }, kinds := [], alts := [], laidByText := true, laidKinds := [.data, .data], laidTests := true, laidLooks := .later }
def FnMadeFlatUptoCardSaid : Prop := Claim7.holds Tryd.pinned (.plain (OpenSpec.upto fnMadeFlatSpec)) fnMadeFlatUptoCard

/-- THE SECOND FORM's CARD OF 'laws.FnExactPlaceOf'. -/
def fnExactPlaceOfUptoCard : Claim7 := { stood := { row := fnExactPlaceOfUptoRow, standIns := [], harness := (true, "3f28823926b693d188caaf65f1d080eca78ccfd202ca74938f2620956d371d7d"), looks := false }, kinds := [], alts := [], laidByText := true, laidKinds := [.data, .data], laidTests := true, laidLooks := .later }
def FnExactPlaceOfUptoCardSaid : Prop := Claim7.holds Tryd.pinned (.plain (OpenSpec.upto fnExactPlaceOfSpec)) fnExactPlaceOfUptoCard

/-- THE SECOND FORM's CARD OF 'laws.FnExactFlatOrder'. -/
def fnExactFlatOrderUptoCard : Claim7 := { stood := { row := fnExactFlatOrderUptoRow, standIns := [], harness := (true, "3f28823926b693d188caaf65f1d080eca78ccfd202ca74938f2620956d371d7d"), looks := false }, kinds := [], alts := [], laidByText := true, laidKinds := [.data, .data], laidTests := true, laidLooks := .later }
def FnExactFlatOrderUptoCardSaid : Prop := Claim7.holds Tryd.pinned (.plain (OpenSpec.upto fnExactFlatOrderSpec)) fnExactFlatOrderUptoCard

/-- THE SECOND FORM's CARD OF 'laws.FnExactExchangesFor'. -/
def fnExactExchangesForUptoCard : Claim7 := { stood := { row := fnExactExchangesForUptoRow, standIns := [], harness := (true, "3f28823926b693d188caaf65f1d080eca78ccfd202ca74938f2620956d371d7d"), looks := false }, kinds := [], alts := [], laidByText := true, laidKinds := [.data, .data], laidTests := true, laidLooks := .later }
def FnExactExchangesForUptoCardSaid : Prop := Claim7.holds Tryd.pinned (.plain (OpenSpec.upto fnExactExchangesForSpec)) fnExactExchangesForUptoCard

/-- THE SECOND FORM's CARD OF 'laws.FnExactMadeFlat'. -/
def fnExactMadeFlatUptoCard : Claim7 := { stood := { row := fnExactMadeFlatUptoRow, standIns := [], harness := (true, "3f28823926b693d188caaf65f1d080eca78ccfd202ca74938f2620956d371d7d"), looks := false }, kinds := [], alts := [], laidByText := true, laidKinds := [.data, .data], laidTests := true, laidLooks := .later }
def FnExactMadeFlatUptoCardSaid : Prop := Claim7.holds Tryd.pinned (.plain (OpenSpec.upto fnExactMadeFlatSpec)) fnExactMadeFlatUptoCard
end Rows
end Go.Proofs.YtgjhjbankpdcgaaDoor
