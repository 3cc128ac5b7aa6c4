/-
  The law FnExactReadJournal, in plain words: it is true of every argument. Conditions: none.
-/
import Derived.Test.YtihgceegapfngaaDoorHFnExactReadJournal
set_option linter.unusedVariables false
set_option linter.unusedSimpArgs false
namespace Go.Rv

theorem same_FnExactReadJournal (s : ByteArray) (w : s.size ≤ maxLen) : laws_FnExactReadJournal s = some true :=
  core_FnExactReadJournal (fun s h => implReadJ_eq s (by omega)) s

end Go.Rv
