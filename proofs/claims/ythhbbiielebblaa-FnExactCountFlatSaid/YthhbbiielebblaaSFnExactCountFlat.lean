/-
  The law FnExactCountFlat, in plain words: it is true of every argument. Conditions: none.
-/
import Derived.Test.YthhbbiielebblaaMcp
set_option linter.unusedVariables false
set_option linter.unusedSimpArgs false
namespace Go.Rv

theorem same_FnExactCountFlat (x : Int) (w : (Lit.int .i64 x).wf = true) : laws_FnExactCountFlat x = some true := by
  unfold laws_FnExactCountFlat laws_FnExactCountFlat_n1
  simp [specCountFlat_eq, implCountFlat_eq]

end Go.Rv
