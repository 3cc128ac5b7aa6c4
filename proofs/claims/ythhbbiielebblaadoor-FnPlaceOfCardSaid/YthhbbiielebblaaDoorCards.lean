/-
  DERIVED. GIVEN WITH THE SEED: THE CARDS: each row of YthhbbiielebblaaDoorRows.lean that lists a variable, with what it lists TIED to the program's text (the seventh form; the later family's looks); each row that meets fmt, with fmt's text TOLD by the authors' own Lean function (tested against real Go, not proved from fmt's source: count such statements apart). THE CARD IS WHAT COUNTS. Prove the row's statement (the work); the ties are given (YthhbbiielebblaaDoorTie.lean); close each card by the builder's one call (the guide's Derived/Test/ToyasCard.lean, 'card_holds'). Laid BY PROGRAM, IN A SANDBOX (cutbox-door.mjs). By AI agents, Wed Nov 11 2026. No macro, syntax, notation, axiom, sorry.
-/
import Derived.Test.YthhbbiielebblaaDoorRows
import GoSem.ClaimSeven
namespace Go.Proofs.YthhbbiielebblaaDoor
namespace Rows

/-- THE TIED CARD OF 'laws.FnFlatAt'. -/
def fnFlatAtCard : Claim7 := { stood := { row := fnFlatAtRow, standIns := [], harness := (true, "afb76b084fb84ed12facfdcbba4829071eb22fafe61c75c54d13b69acc3a688d"), looks := false }, kinds := [], alts := [], laidByText := true, laidKinds := [.data, .data], laidTests := true, laidLooks := .later }
def FnFlatAtCardSaid : Prop := Claim7.holds Tryd.pinned (.plain (OpenSpec.ofChange fnFlatAtSpec)) fnFlatAtCard

/-- THE TIED CARD OF 'laws.FnPlaceOf'. -/
def fnPlaceOfCard : Claim7 := { stood := { row := fnPlaceOfRow, standIns := [], harness := (true, "afb76b084fb84ed12facfdcbba4829071eb22fafe61c75c54d13b69acc3a688d"), looks := false }, kinds := [], alts := [], laidByText := true, laidKinds := [.data, .data], laidTests := true, laidLooks := .later }
def FnPlaceOfCardSaid : Prop := Claim7.holds Tryd.pinned (.plain (OpenSpec.ofChange fnPlaceOfSpec)) fnPlaceOfCard

/-- THE TIED CARD OF 'laws.FnExactPlaceOf'. -/
def fnExactPlaceOfCard : Claim7 := { stood := { row := fnExactPlaceOfRow, standIns := [], harness := (true, "afb76b084fb84ed12facfdcbba4829071eb22fafe61c75c54d13b69acc3a688d"), looks := false }, kinds := [], alts := [], laidByText := true, laidKinds := [.data, .data], laidTests := true, laidLooks := .later }
def FnExactPlaceOfCardSaid : Prop := Claim7.holds Tryd.pinned (.plain (OpenSpec.ofChange fnExactPlaceOfSpec)) fnExactPlaceOfCard

/-- THE SECOND FORM's CARD OF 'laws.FnFlatAt'. -/
def fnFlatAtUptoCard : Claim7 := { stood := { row := fnFlatAtUptoRow, standIns := [], harness := (true, "afb76b084fb84ed12facfdcbba4829071eb22fafe61c75c54d13b69acc3a688d"), looks := false }, kinds := [], alts := [], laidByText := true, laidKinds := [.data, .data], laidTests := true, laidLooks := .later }
def FnFlatAtUptoCardSaid : Prop := Claim7.holds Tryd.pinned (.plain (OpenSpec.upto fnFlatAtSpec)) fnFlatAtUptoCard

/-- THE SECOND FORM's CARD OF 'laws.FnPlaceOf'. -/
def fnPlaceOfUptoCard : Claim7 := { stood := { row := fnPlaceOfUptoRow, standIns := [], harness := (true, "afb76b084fb84ed12facfdcbba4829071eb22fafe61c75c54d13b69acc3a688d"), looks := false }, kinds := [], alts := [], laidByText := true, laidKinds := [.data, .data], laidTests := true, laidLooks := .later }
def FnPlaceOfUptoCardSaid : Prop := Claim7.holds Tryd.pinned (.plain (OpenSpec.upto fnPlaceOfSpec)) fnPlaceOfUptoCard

/-- THE SECOND FORM's CARD OF 'laws.FnExactPlaceOf'. -/
def fnExactPlaceOfUptoCard : Claim7 := { stood := { row := fnExactPlaceOfUptoRow, standIns := [], harness := (true, "afb76b084fb84ed12facfdcbba4829071eb22fafe61c75c54d13b69acc3a688d"), looks := false }, kinds := [], alts := [], laidByText := true, laidKinds := [.data, .data], laidTests := true, laidLooks := .later }
def FnExactPlaceOfUptoCardSaid : Prop := Claim7.holds Tryd.pinned (.plain (OpenSpec.upto fnExactPlaceOfSpec)) fnExactPlaceOfUptoCard
end Rows
end Go.Proofs.YthhbbiielebblaaDoor
