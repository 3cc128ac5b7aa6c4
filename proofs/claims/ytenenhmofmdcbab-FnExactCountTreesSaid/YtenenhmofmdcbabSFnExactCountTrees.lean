/-
  The law FnExactCountTrees, in plain words: it is true of every argument. Conditions: none.
-/
import Derived.Test.YtenenhmofmdcbabMi
set_option linter.unusedVariables false
set_option linter.unusedSimpArgs false
namespace Go.Rv

theorem same_FnExactCountTrees (x : Int) (w : (Lit.int .i64 x).wf = true) : laws_FnExactCountTrees x = some true := by
  unfold laws_FnExactCountTrees laws_FnExactCountTrees_n1
  simp [specCount_eq, implCount_eq]

end Go.Rv
