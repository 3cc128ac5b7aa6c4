/-
  The law FnExactCrossingsSum, in plain words: it is true of every argument. Conditions: none.
-/
import Derived.Test.YtcidinfpacpdaaaHFnExactCrossingsSum
set_option linter.unusedVariables false
set_option linter.unusedSimpArgs false
namespace Go.Rv

theorem core_FnExactCrossingsSum (hI : ∀ h, h.length ≤ 1048576 → impl_CrossingsSum h = some (csumI h)) (x : List Int) (w : ∀ n ∈ x, (Lit.int .i64 n).wf = true) (l : x.length ≤ maxLen) : laws_FnExactCrossingsSum x = some true := by
  unfold laws_FnExactCrossingsSum laws_FnExactCrossingsSum_n1
  by_cases h : x.length ≤ 1048576
  · rw [show decide (((x.length : Nat) : Int) > 1048576) = false from decide_eq_false (by omega)]
    simp [toIntS_eq x h, specCsum_eq x, hI x h, eqIntS_eq x x h]
  · rw [show decide (((x.length : Nat) : Int) > 1048576) = true from decide_eq_true (by omega)]
    rfl

theorem same_FnExactCrossingsSum (x : List Int) (w : ∀ n ∈ x, (Lit.int .i64 n).wf = true) (l : x.length ≤ maxLen) : laws_FnExactCrossingsSum x = some true :=
  core_FnExactCrossingsSum (fun h _ => implCsum_eq h) x w l

end Go.Rv
