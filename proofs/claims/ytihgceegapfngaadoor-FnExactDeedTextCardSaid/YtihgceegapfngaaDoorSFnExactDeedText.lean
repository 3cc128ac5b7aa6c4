/-
  The law FnExactDeedText, in plain words: it is true of every argument. Conditions: none.
-/
import Derived.Test.YtihgceegapfngaaDoorHFnExactDeedText
import Derived.Test.YtihgceegapfngaaDoorFB
set_option linter.unusedVariables false
set_option linter.unusedSimpArgs false
namespace Go.Rv

theorem same_FnExactDeedText (x : Int × Int × Int × Unit) (w : Fits (.pair (.int .i64) (.pair (.int .i64) (.pair (.int .i64) .unit))) x) : laws_FnExactDeedText x.1 x.2.1 x.2.2.1 = some true :=
  core_FnExactDeedText implDeedText_eq _ _ _

end Go.Rv
