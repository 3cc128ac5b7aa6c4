/-
  The law FnExactOrderOk, in plain words: it is true of every argument. Conditions: none.
-/
import Derived.Test.YtenenhmofmdcbabMi
set_option linter.unusedVariables false
set_option linter.unusedSimpArgs false
namespace Go.Rv

theorem same_FnExactOrderOk (x : List Int) (w : ∀ n ∈ x, (Lit.int .i64 n).wf = true) (l : x.length ≤ maxLen) (m : Int) (wm : (Lit.int .i64 m).wf = true) : laws_FnExactOrderOk x m = some true := by
  unfold laws_FnExactOrderOk laws_FnExactOrderOk_n1
  by_cases h : x.length ≤ 1048576
  · rw [show decide (((x.length : Nat) : Int) > 1048576) = false from decide_eq_false (by omega)]
    simp [toIntS_eq x h, specOrder_eq x m h, implOrder_eq, eqIntS_eq x x h]
  · rw [show decide (((x.length : Nat) : Int) > 1048576) = true from decide_eq_true (by omega)]
    rfl

end Go.Rv
