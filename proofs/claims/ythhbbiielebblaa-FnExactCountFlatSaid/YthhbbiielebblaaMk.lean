/-
  The model's root. Conditions: none.
-/
import Derived.Test.YthhbbiielebblaaMer
set_option linter.unusedVariables false
set_option linter.unusedSimpArgs false
namespace Go.Rv

end Go.Rv
