/-
  DERIVED. GIVEN WITH THE SEED: THE CARDS: each row of YtiokdplogigiaaaDoorRows.lean that lists a variable, with what it lists TIED to the program's text (the seventh form; the later family's looks); each row that meets fmt, with fmt's text TOLD by the authors' own Lean function (tested against real Go, not proved from fmt's source: count such statements apart). THE CARD IS WHAT COUNTS. Prove the row's statement (the work); the ties are given (YtiokdplogigiaaaDoorTie.lean); close each card by the builder's one call (the guide's Derived/Test/ToyasCard.lean, 'card_holds'). Laid BY PROGRAM, IN A SANDBOX (cutbox-door.mjs). By AI agents, Wed Nov 11 2026. No macro, syntax, notation, axiom, sorry.
-/
import Derived.Test.YtiokdplogigiaaaDoorRows
import GoSem.ClaimSeven
namespace Go.Proofs.YtiokdplogigiaaaDoor
namespace Rows

/-- THE TIED CARD OF 'laws.FnRunStack'. -/
def fnRunStackCard : Claim7 := { stood := { row := fnRunStackRow, standIns := [], harness := (true, "788104e9d323eafdcbf2446695d2ad53250c41f68c817ddf0603ec0acb915512"), looks := false }, kinds := [], alts := [], laidByText := true, laidKinds := [.data, .data], laidTests := true, laidLooks := .later }
def FnRunStackCardSaid : Prop := Claim7.holds Tryd.pinned (.plain (OpenSpec.ofChange fnRunStackSpec)) fnRunStackCard

/-- THE TIED CARD OF 'laws.FnMovesFor'. -/
def fnMovesForCard : Claim7 := { stood := { row := fnMovesForRow, standIns := [], harness := (true, "788104e9d323eafdcbf2446695d2ad53250c41f68c817ddf0603ec0acb915512"), looks := false }, kinds := [], alts := [], laidByText := true, laidKinds := [.data, .data], laidTests := true, laidLooks := .later }
def FnMovesForCardSaid : Prop := Claim7.holds Tryd.pinned (.plain (OpenSpec.ofChange fnMovesForSpec)) fnMovesForCard

/-- THE TIED CARD OF 'laws.FnRunEager'. -/
def fnRunEagerCard : Claim7 := { stood := { row := fnRunEagerRow, standIns := [], harness := (true, "788104e9d323eafdcbf2446695d2ad53250c41f68c817ddf0603ec0acb915512"), looks := false }, kinds := [], alts := [], laidByText := true, laidKinds := [.data, .data], laidTests := true, laidLooks := .later }
def FnRunEagerCardSaid : Prop := Claim7.holds Tryd.pinned (.plain (OpenSpec.ofChange fnRunEagerSpec)) fnRunEagerCard

/-- THE TIED CARD OF 'laws.FnEagerFor'. -/
def fnEagerForCard : Claim7 := { stood := { row := fnEagerForRow, standIns := [], harness := (true, "788104e9d323eafdcbf2446695d2ad53250c41f68c817ddf0603ec0acb915512"), looks := false }, kinds := [], alts := [], laidByText := true, laidKinds := [.data, .data], laidTests := true, laidLooks := .later }
def FnEagerForCardSaid : Prop := Claim7.holds Tryd.pinned (.plain (OpenSpec.ofChange fnEagerForSpec)) fnEagerForCard

/-- THE TIED CARD OF 'laws.FnExactMovesFor'. -/
def fnExactMovesForCard : Claim7 := { stood := { row := fnExactMovesForRow, standIns := [], harness := (true, "788104e9d323eafdcbf2446695d2ad53250c41f68c817ddf0603ec0acb915512"), looks := false }, kinds := [], alts := [], laidByText := true, laidKinds := [.data, .data], laidTests := true, laidLooks := .later }
def FnExactMovesForCardSaid : Prop := Claim7.holds Tryd.pinned (.plain (OpenSpec.ofChange fnExactMovesForSpec)) fnExactMovesForCard

/-- THE TIED CARD OF 'laws.FnExactEagerFor'. -/
def fnExactEagerForCard : Claim7 := { stood := { row := fnExactEagerForRow, standIns := [], harness := (true, "788104e9d323eafdcbf2446695d2ad53250c41f68c817ddf0603ec0acb915512"), looks := false }, kinds := [], alts := [], laidByText := true, laidKinds := [.data, .data], laidTests := true, laidLooks := .later }
def FnExactEagerForCardSaid : Prop := Claim7.holds Tryd.pinned (.plain (OpenSpec.ofChange fnExactEagerForSpec)) fnExactEagerForCard

/-- THE SECOND FORM's CARD OF 'laws.FnRunStack'. -/
def fnRunStackUptoCard : Claim7 := { stood := { row := fnRunStackUptoRow, standIns := [], harness := (true, "788104e9d323eafdcbf2446695d2ad53250c41f68c817ddf0603ec0acb915512"), looks := false }, kinds := [], alts := [], laidByText := true, laidKinds := [.data, .data], laidTests := true, laidLooks := .later }
def FnRunStackUptoCardSaid : Prop := Claim7.holds Tryd.pinned (.plain (OpenSpec.upto fnRunStackSpec)) fnRunStackUptoCard

/-- THE SECOND FORM's CARD OF 'laws.FnMovesFor'. -/
def fnMovesForUptoCard : Claim7 := { stood := { row := fnMovesForUptoRow, standIns := [], harness := (true, "788104e9d323eafdcbf2446695d2ad53250c41f68c817ddf0603ec0acb915512"), looks := false }, kinds := [], alts := [], laidByText := true, laidKinds := [.data, .data], laidTests := true, laidLooks := .later }
def FnMovesForUptoCardSaid : Prop := Claim7.holds Tryd.pinned (.plain (OpenSpec.upto fnMovesForSpec)) fnMovesForUptoCard

/-- THE SECOND FORM's CARD OF 'laws.FnRunEager'. -/
def fnRunEagerUptoCard : Claim7 := { stood := { row := fnRunEagerUptoRow, standIns := [], harness := (true, "788104e9d323eafdcbf2446695d2ad53250c41f68c817ddf0603ec0acb915512"), looks := false }, kinds := [], alts := [], laidByText := true, laidKinds := [.data, .data], laidTests := true, laidLooks := .later }
def FnRunEagerUptoCardSaid : Prop := Claim7.holds Tryd.pinned (.plain (OpenSpec.upto fnRunEagerSpec)) fnRunEagerUptoCard

/-- THE SECOND FORM's CARD OF 'laws.FnEagerFor'. -/
def fnEagerForUptoCard : Claim7 := { stood := { row := fnEagerForUptoRow, standIns := [], harness := (true, "788104e9d323eafdcbf2446695d2ad53250c41f68c817ddf0603ec0acb915512"), looks := false }, kinds := [], alts := [], laidByText := true, laidKinds := [.data, .data], laidTests := true, laidLooks := .later }
def FnEagerForUptoCardSaid : Prop := Claim7.holds Tryd.pinned (.plain (OpenSpec.upto fnEagerForSpec)) fnEagerForUptoCard

/-- THE SECOND FORM's CARD OF 'laws.FnExactMovesFor'. -/
def fnExactMovesForUptoCard : Claim7 := { stood := { row := fnExactMovesForUptoRow, standIns := [], harness := (true, "788104e9d323eafdcbf2446695d2ad53250c41f68c817ddf0603ec0acb915512"), looks := false }, kinds := [], alts := [], laidByText := true, laidKinds := [.data, .data], laidTests := true, laidLooks := .later }
def FnExactMovesForUptoCardSaid : Prop := Claim7.holds Tryd.pinned (.plain (OpenSpec.upto fnExactMovesForSpec)) fnExactMovesForUptoCard

/-- THE SECOND FORM's CARD OF 'laws.FnExactEagerFor'. -/
def fnExactEagerForUptoCard : Claim7 := { stood := { row := fnExactEagerForUptoRow, standIns := [], harness := (true, "788104e9d323eafdcbf2446695d2ad53250c41f68c817ddf0603ec0acb915512"), looks := false }, kinds := [], alts := [], laidByText := true, laidKinds := [.data, .data], laidTests := true, laidLooks := .later }
def FnExactEagerForUptoCardSaid : Prop := Claim7.holds Tryd.pinned (.plain (OpenSpec.upto fnExactEagerForSpec)) fnExactEagerForUptoCard
end Rows
end Go.Proofs.YtiokdplogigiaaaDoor
