/-
  Trees of heads: the root, as the program finds it. Conditions: none.
-/
import Derived.Test.YtiokdplogigiaaaMe
set_option linter.unusedVariables false
set_option linter.unusedSimpArgs false
namespace Go.Rv

/-! The root -/

def rootI (h : List Int) : Int := if treeB h then (top h : Int) else -1

end Go.Rv
