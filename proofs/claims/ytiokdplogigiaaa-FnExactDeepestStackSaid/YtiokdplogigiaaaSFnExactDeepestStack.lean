/-
  The law FnExactDeepestStack, in plain words: it is true of every argument. Conditions: none.
-/
import Derived.Test.YtiokdplogigiaaaMsb
set_option linter.unusedVariables false
set_option linter.unusedSimpArgs false
namespace Go.Rv

theorem same_FnExactDeepestStack (x : Int) (wx : (Lit.int .i64 x).wf = true) (y : ByteArray) (ly : y.size ≤ maxLen) : laws_FnExactDeepestStack x y = some true := by
  unfold laws_FnExactDeepestStack laws_FnExactDeepestStack_n1
  by_cases h : y.size ≤ 1048576
  · rw [decide_eq_false (show ¬ ((y.size : Nat) : Int) > 1048576 by omega)]
    obtain ⟨v, hv⟩ := deep_val x y (by omega)
    rw [deep_same x y (by omega), hv]
    simp
  · rw [decide_eq_true (show ((y.size : Nat) : Int) > 1048576 by omega)]
    rfl

end Go.Rv
