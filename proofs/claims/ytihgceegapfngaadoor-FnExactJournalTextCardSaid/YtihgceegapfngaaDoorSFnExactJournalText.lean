/-
  The law FnExactJournalText, in plain words: it is true of every argument. Conditions: none.
-/
import Derived.Test.YtihgceegapfngaaDoorHFnExactJournalText
import Derived.Test.YtihgceegapfngaaDoorFB
set_option linter.unusedVariables false
set_option linter.unusedSimpArgs false
namespace Go.Rv

theorem same_FnExactJournalText (x : List (Int × Int × Int × Unit)) (w : Fits (.list (.pair (.int .i64) (.pair (.int .i64) (.pair (.int .i64) .unit)))) x) : laws_FnExactJournalText x = some true :=
  core_FnExactJournalText implJournal_eq x w.1

end Go.Rv
