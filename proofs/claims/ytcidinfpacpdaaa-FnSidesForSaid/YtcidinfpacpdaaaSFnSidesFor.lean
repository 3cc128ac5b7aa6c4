/-
  The law FnSidesFor, in plain words: it is true of every argument. Conditions: none.
-/
import Derived.Test.YtcidinfpacpdaaaHFnSidesFor
set_option linter.unusedVariables false
set_option linter.unusedSimpArgs false
namespace Go.Rv

theorem same_FnSidesFor (x : List Int) (w : ∀ n ∈ x, (Lit.int .u8 n).wf = true) (l : x.length ≤ maxLen) : laws_FnSidesFor x = some true :=
  core_FnSidesFor (fun h _ => implSidesFor_eq h) x w l

end Go.Rv
