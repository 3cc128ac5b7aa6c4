/-
  Plain mathematics: chapter 4's tables, each number and its flat tree. Conditions: none.
-/
import Derived.Test.YthhbbiielebblaaMcm
set_option linter.unusedVariables false
set_option linter.unusedSimpArgs false
namespace Go.Rv

end Go.Rv
