/-
  The law FnExactDeskOk, in plain words: it is true of every argument. Conditions: none.
-/
import Derived.Test.YtihgceegapfngacHFnExactDeskOk
import Derived.Test.YtihgceegapfngacFB
set_option linter.unusedVariables false
set_option linter.unusedSimpArgs false
namespace Go.Rv

theorem same_FnExactDeskOk (x : List Int × List (List Int) × Unit) (w : Fits (.pair (.list (.int .i64)) (.pair (.list (.list (.int .i64))) .unit)) x) : laws_FnExactDeskOk x.1 x.2.1 = some true :=
  core_FnExactDeskOk (fun n p _ => implDeskOk_eq n p) x.1 x.2.1 w.1.1 w.2.1.1 (fun r hr => (w.2.1.2 r hr).1)

end Go.Rv
