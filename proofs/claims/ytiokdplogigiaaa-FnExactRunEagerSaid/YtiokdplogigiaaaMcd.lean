/-
  Plain mathematics: trees that are drawn, often flat. Conditions: none.
-/
import Derived.Test.YtiokdplogigiaaaMn
set_option linter.unusedVariables false
set_option linter.unusedSimpArgs false
namespace Go.Rv

end Go.Rv
