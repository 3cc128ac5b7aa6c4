/-
  The law FnExactReadDeed, in plain words: it is true of every argument. Conditions: none.
-/
import Derived.Test.YtihgceegapfngaaDoorHFnExactReadDeed
set_option linter.unusedVariables false
set_option linter.unusedSimpArgs false
namespace Go.Rv

theorem same_FnExactReadDeed (s : ByteArray) (w : s.size ≤ maxLen) : laws_FnExactReadDeed s = some true :=
  core_FnExactReadDeed (fun s h => implRead_eq s (by omega)) s

end Go.Rv
