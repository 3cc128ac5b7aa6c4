/-
  DERIVED. GIVEN WITH THE SEED: THE CARDS: each row of YteefjoepogdgpaaDoorRows.lean that lists a variable, with what it lists TIED to the program's text (the seventh form; the later family's looks); each row that meets fmt, with fmt's text TOLD by the authors' own Lean function (tested against real Go, not proved from fmt's source: count such statements apart). THE CARD IS WHAT COUNTS. Prove the row's statement (the work); the ties are given (YteefjoepogdgpaaDoorTie.lean); close each card by the builder's one call (the guide's Derived/Test/ToyasCard.lean, 'card_holds'). Laid BY PROGRAM, IN A SANDBOX (cutbox-door.mjs). By AI agents, Wed Nov 11 2026. No macro, syntax, notation, axiom, sorry.
-/
import Derived.Test.YteefjoepogdgpaaDoorRows
import GoSem.ClaimSeven
namespace Go.Proofs.YteefjoepogdgpaaDoor
namespace Rows

/-- THE TIED CARD OF 'laws.FnScoreOf'. -/
def fnScoreOfCard : Claim7 := { stood := { row := fnScoreOfRow, standIns := [], harness := (true, "b19c6c4bbfa6cbcb48dd6664f1f3287cbee03ef1a371cf045b29cfc214bfea49"), looks := false }, kinds := [], alts := [], laidByText := true, laidKinds := [.data, .data], laidTests := true, laidLooks := .later }
def FnScoreOfCardSaid : Prop := Claim7.holds Tryd.pinned (.plain (OpenSpec.ofChange fnScoreOfSpec)) fnScoreOfCard

/-- THE SECOND FORM's CARD OF 'laws.FnScoreOf'. -/
def fnScoreOfUptoCard : Claim7 := { stood := { row := fnScoreOfUptoRow, standIns := [], harness := (true, "b19c6c4bbfa6cbcb48dd6664f1f3287cbee03ef1a371cf045b29cfc214bfea49"), looks := false }, kinds := [], alts := [], laidByText := true, laidKinds := [.data, .data], laidTests := true, laidLooks := .later }
def FnScoreOfUptoCardSaid : Prop := Claim7.holds Tryd.pinned (.plain (OpenSpec.upto fnScoreOfSpec)) fnScoreOfUptoCard
end Rows
end Go.Proofs.YteefjoepogdgpaaDoor
