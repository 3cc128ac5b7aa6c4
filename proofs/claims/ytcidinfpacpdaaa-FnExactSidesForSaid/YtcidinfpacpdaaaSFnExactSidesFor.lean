/-
  The law FnExactSidesFor, in plain words: it is true of every argument. Conditions: none.
-/
import Derived.Test.YtcidinfpacpdaaaHFnExactSidesFor
set_option linter.unusedVariables false
set_option linter.unusedSimpArgs false
namespace Go.Rv

theorem same_FnExactSidesFor (x : List Int) (w : ∀ n ∈ x, (Lit.int .i64 n).wf = true) (l : x.length ≤ maxLen) : laws_FnExactSidesFor x = some true :=
  core_FnExactSidesFor (fun h _ => implSidesFor_eq h) x w l

end Go.Rv
