/-
  DERIVED. GIVEN WITH THE SEED: THE CARDS: each row of YtlnjhjhppejoiaaDoorRows.lean that lists a variable, with what it lists TIED to the program's text (the seventh form; the later family's looks); each row that meets fmt, with fmt's text TOLD by the authors' own Lean function (tested against real Go, not proved from fmt's source: count such statements apart). THE CARD IS WHAT COUNTS. Prove the row's statement (the work); the ties are given (YtlnjhjhppejoiaaDoorTie.lean); close each card by the builder's one call (the guide's Derived/Test/ToyasCard.lean, 'card_holds'). Laid BY PROGRAM, IN A SANDBOX (cutbox-door.mjs). By AI agents, Wed Nov 11 2026. No macro, syntax, notation, axiom, sorry.
-/
import Derived.Test.YtlnjhjhppejoiaaDoorRows
import GoSem.ClaimSeven
namespace Go.Proofs.YtlnjhjhppejoiaaDoor
namespace Rows

/-- THE TIED CARD OF 'laws.FnMadeFlat'. -/
def fnMadeFlatCard : Claim7 := { stood := { row := fnMadeFlatRow, standIns := [], harness := (true, "246819cc49a82695c345dc0aedddcce847645094d4e82ca0efc098cedc7b42e1"), looks := false }, kinds := [], alts := [], laidByText := true, laidKinds := [.data, .data], laidTests := true, laidLooks := .later }
def FnMadeFlatCardSaid : Prop := Claim7.holds Tryd.pinned (.plain (OpenSpec.ofChange fnMadeFlatSpec)) fnMadeFlatCard

/-- THE TIED CARD OF 'laws.FnExactMovesFor'. -/
def fnExactMovesForCard : Claim7 := { stood := { row := fnExactMovesForRow, standIns := [], harness := (true, "246819cc49a82695c345dc0aedddcce847645094d4e82ca0efc098cedc7b42e1"), looks := false }, kinds := [], alts := [], laidByText := true, laidKinds := [.data, .data], laidTests := true, laidLooks := .later }
def FnExactMovesForCardSaid : Prop := Claim7.holds Tryd.pinned (.plain (OpenSpec.ofChange fnExactMovesForSpec)) fnExactMovesForCard

/-- THE SECOND FORM's CARD OF 'laws.FnMadeFlat'. -/
def fnMadeFlatUptoCard : Claim7 := { stood := { row := fnMadeFlatUptoRow, standIns := [], harness := (true, "246819cc49a82695c345dc0aedddcce847645094d4e82ca0efc098cedc7b42e1"), looks := false }, kinds := [], alts := [], laidByText := true, laidKinds := [.data, .data], laidTests := true, laidLooks := .later }
def FnMadeFlatUptoCardSaid : Prop := Claim7.holds Tryd.pinned (.plain (OpenSpec.upto fnMadeFlatSpec)) fnMadeFlatUptoCard

/-- THE SECOND FORM's CARD OF 'laws.FnExactMovesFor'. -/
def fnExactMovesForUptoCard : Claim7 := { stood := { row := fnExactMovesForUptoRow, standIns := [], harness := (true, "246819cc49a82695c345dc0aedddcce847645094d4e82ca0efc098cedc7b42e1"), looks := false }, kinds := [], alts := [], laidByText := true, laidKinds := [.data, .data], laidTests := true, laidLooks := .later }
def FnExactMovesForUptoCardSaid : Prop := Claim7.holds Tryd.pinned (.plain (OpenSpec.upto fnExactMovesForSpec)) fnExactMovesForUptoCard
end Rows
end Go.Proofs.YtlnjhjhppejoiaaDoor
