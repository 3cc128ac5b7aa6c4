/-
  Fixed answers that the laws check. Conditions: none.
-/
import Derived.Test.YtiokdplogigiaaaMd
set_option linter.unusedVariables false
set_option linter.unusedSimpArgs false
namespace Go.Rv

theorem tree0 : treeB [0] = true := by decide
theorem tree1 : treeB [1] = false := by decide
theorem tree21 : treeB [2, 1] = false := by decide

theorem alive_eq : laws_alive = some true := by
  unfold laws_alive laws_alive_n1
  simp [implTree_eq, tree0, tree1]

end Go.Rv
