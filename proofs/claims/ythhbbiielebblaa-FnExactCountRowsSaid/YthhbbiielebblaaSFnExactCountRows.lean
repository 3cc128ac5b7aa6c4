/-
  The law FnExactCountRows, in plain words: it is true of every argument. Conditions: none.
-/
import Derived.Test.YthhbbiielebblaaMcpr
set_option linter.unusedVariables false
set_option linter.unusedSimpArgs false
namespace Go.Rv

theorem same_FnExactCountRows (x : Int) (w : (Lit.int .i64 x).wf = true) : laws_FnExactCountRows x = some true := by
  unfold laws_FnExactCountRows laws_FnExactCountRows_n1
  simp [specCountRows_eq, implCountRows_eq]

end Go.Rv
