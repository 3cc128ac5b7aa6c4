/-
  Lists of numbers that are compared. Conditions: none.
-/
import Derived.Test.YthhbbiielebblaaMb
set_option linter.unusedVariables false
set_option linter.unusedSimpArgs false
namespace Go.Rv

end Go.Rv
