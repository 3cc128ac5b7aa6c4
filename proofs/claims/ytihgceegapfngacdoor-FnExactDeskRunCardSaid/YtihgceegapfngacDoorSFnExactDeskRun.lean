/-
  The law FnExactDeskRun,in plain words: it is true of every argument. Conditions: none.
-/
import Derived.Test.YtihgceegapfngacDoorHFnExactDeskRun
import Derived.Test.YtihgceegapfngacDoorFB
set_option linter.unusedVariables false
set_option linter.unusedSimpArgs false
namespace Go.Rv
theorem same_FnExactDeskRun (x : List Int × List (List Int) × Unit) (w : Fits (.pair (.list (.int .i64)) (.pair (.list (.list (.int .i64))) .unit)) x) (y : List (Int × Int × Int × Unit)) (v : Fits (.list (.pair (.int .i64) (.pair (.int .i64) (.pair (.int .i64) .unit)))) y) : N1z x.1 x.2.1 y = some true :=
  core_FnExactDeskRun (fun n p l _ => implDeskRun_eq n p l) x.1 x.2.1 y w.1.1 w.2.1.1 (fun r hr => (w.2.1.2 r hr).1) v.1
end Go.Rv
