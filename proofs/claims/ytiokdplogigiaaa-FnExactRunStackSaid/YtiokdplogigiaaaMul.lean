/-
  Plain mathematics: the words of a set, as the program lists them. Conditions: none.
-/
import Derived.Test.YtiokdplogigiaaaMu
set_option linter.unusedVariables false
set_option linter.unusedSimpArgs false
namespace Go.Rv

end Go.Rv
