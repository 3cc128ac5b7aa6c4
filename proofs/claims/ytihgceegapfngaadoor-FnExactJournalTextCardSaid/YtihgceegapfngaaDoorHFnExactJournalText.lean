/-
  Plain mathematics of what the law reaches. Conditions: none.
-/
import Derived.Test.YtihgceegapfngaaDoorGFnExactJournalText
set_option linter.unusedVariables false
set_option linter.unusedSimpArgs false
namespace Go.Rv

end Go.Rv
