/-
  The law FnScoresOk, in plain words: it is true of every argument. Conditions: none.
-/
import Derived.Test.YteefjoepogdgpaaHFnScoresOk
set_option linter.unusedVariables false
set_option linter.unusedSimpArgs false
namespace Go.Rv

theorem same_FnScoresOk (x : List Int) (w : ∀ n ∈ x, (Lit.int .u8 n).wf = true) (l : x.length ≤ maxLen) : laws_FnScoresOk x = some true :=
  core_FnScoresOk implScores_eq x w l

end Go.Rv
