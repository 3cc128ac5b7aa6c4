/-
  The law FnRaisedBy, in plain words: it is true of every argument. Conditions: none.
-/
import Derived.Test.YteefjoepogdgpaaHFnRaisedBy
set_option linter.unusedVariables false
set_option linter.unusedSimpArgs false
namespace Go.Rv

theorem same_FnRaisedBy (x : List Int) (w : ∀ n ∈ x, (Lit.int .u8 n).wf = true) (l : x.length ≤ maxLen) : laws_FnRaisedBy x = some true :=
  core_FnRaisedBy implRaised_eq implBest_eq implBestFlat_eq x w l

end Go.Rv
