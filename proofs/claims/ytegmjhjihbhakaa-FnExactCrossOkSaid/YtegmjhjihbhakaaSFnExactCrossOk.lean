/-
  The law FnExactCrossOk, in plain words: it is true of every argument. Conditions: none.
-/
import Derived.Test.YtegmjhjihbhakaaMca
set_option linter.unusedVariables false
set_option linter.unusedSimpArgs false
namespace Go.Rv

theorem same_FnExactCrossOk (a : Int) (wa : (Lit.int .i64 a).wf = true) (b : Int) (wb : (Lit.int .i64 b).wf = true) (c : Int) (wc : (Lit.int .i64 c).wf = true) (d : Int) (wd : (Lit.int .i64 d).wf = true) : laws_FnExactCrossOk a b c d = some true := by
  unfold laws_FnExactCrossOk laws_FnExactCrossOk_n1
  simp [implCross_eq, specCross_eq]

end Go.Rv
