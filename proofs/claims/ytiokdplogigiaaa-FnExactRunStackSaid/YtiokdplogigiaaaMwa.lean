/-
  Plain mathematics: words of a tree. Conditions: none.
-/
import Derived.Test.YtiokdplogigiaaaMe
set_option linter.unusedVariables false
set_option linter.unusedSimpArgs false
namespace Go.Rv

/-- A word that one may ask for: of a tree, from 1 on. -/
def wordB (h : List Int) (v : Int) : Bool := treeB h && (decide (1 ≤ v) && decide (v ≤ (h.length : Nat)))

theorem wordB_iff {h : List Int} {v : Int} : wordB h v = true ↔ ∃ w : Nat, v = (w : Int) ∧ Tree h ∧ 1 ≤ w ∧ w ≤ h.length := by
  unfold wordB
  simp only [Bool.and_eq_true, decide_eq_true_eq, tree_iff]
  constructor
  · rintro ⟨T, h1, h2⟩
    exact ⟨v.toNat, by omega, T, by omega, by omega⟩
  · rintro ⟨w, rfl, T, h1, h2⟩
    exact ⟨T, by omega, by omega⟩

end Go.Rv
