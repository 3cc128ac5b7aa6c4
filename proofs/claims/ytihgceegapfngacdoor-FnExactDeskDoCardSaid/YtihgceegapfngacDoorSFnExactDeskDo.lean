/-
  The law FnExactDeskDo,in plain words: it is true of every argument. Conditions: none.
-/
import Derived.Test.YtihgceegapfngacDoorHFnExactDeskDo
import Derived.Test.YtihgceegapfngacDoorFB
set_option linter.unusedVariables false
set_option linter.unusedSimpArgs false
namespace Go.Rv
theorem same_FnExactDeskDo (x : List Int × List (List Int) × Unit) (w : Fits (.pair (.list (.int .i64)) (.pair (.list (.list (.int .i64))) .unit)) x) (y : Int × Int × Int × Unit) (v : Fits (.pair (.int .i64) (.pair (.int .i64) (.pair (.int .i64) .unit))) y) : N1w x.1 x.2.1 y.1 y.2.1 y.2.2.1 = some true :=
  core_FnExactDeskDo (fun n p a _ => implDo_eq n p a) x.1 x.2.1 _ _ _ w.1.1 w.2.1.1 (fun r hr => (w.2.1.2 r hr).1)
end Go.Rv
