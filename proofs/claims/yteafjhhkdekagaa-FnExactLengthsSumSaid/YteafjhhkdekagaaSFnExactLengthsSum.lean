/-
  The law FnExactLengthsSum, in plain words: it is true of every argument. Conditions: none.
-/
import Derived.Test.YteafjhhkdekagaaHFnExactLengthsSum
set_option linter.unusedVariables false
set_option linter.unusedSimpArgs false
namespace Go.Rv

theorem core_FnExactLengthsSum (hI : ∀ n, impl_LengthsSum n = some (lsumI n)) (x : Int) : laws_FnExactLengthsSum x = some true := by
  unfold laws_FnExactLengthsSum laws_FnExactLengthsSum_n1
  simp [specSum_eq, hI]

theorem same_FnExactLengthsSum (x : Int) (w : (Lit.int .i64 x).wf = true) : laws_FnExactLengthsSum x = some true := core_FnExactLengthsSum implSum_eq x

end Go.Rv
