/-
  From a row's list of tables to where they lie. Conditions: none.
-/
import Derived.Test.YtenenhmofmdcbabDoorRu
import Derived.Lib.LaidTab
import Derived.Stop.LaidErr
set_option linter.unusedSimpArgs false
set_option linter.unusedVariables false
namespace Go.Rv

theorem tabAt_of {P : Program} {W : World} {name : String} {k : IntKind} {zs : List Int} {g : Nat} (h : Lib.TabIs P W name k zs) (hg : P.globalNamed name = some g) (h0 : 0 < zs.length) : TabAt W (S0 W) g (.int k) zs := by
  have hc := h.cell hg 0 h0
  refine ⟨S0_of (cell_lt hc), cell_lt hc, fun i x hx => ?_⟩
  have hil : i < zs.length := (List.getElem?_eq_some_iff.1 hx).1
  refine ⟨[.int k x], rfl, fun j u hj => ?_⟩
  have hj0 : j = 0 := by have := (List.getElem?_eq_some_iff.1 hj).1; simpa using this
  subst hj0
  simp at hj
  subst hj
  have hci := h.cell hg i hil
  have hxi : zs.getD i 0 = x := by simp [List.getD, hx]
  rw [hxi] at hci
  simpa [Ty.cells] using hci

end Go.Rv
