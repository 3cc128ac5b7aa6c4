/-
  The law FnExactCountTurned, in plain words: it is true of every argument. Conditions: none.
-/
import Derived.Test.YtgjhjbankpdcgaaHFnExactCountTurned
set_option linter.unusedVariables false
set_option linter.unusedSimpArgs false
namespace Go.Rv

theorem core_FnExactCountTurned (hI : ∀ h, h.length ≤ 1048576 → impl_CountTurned h = some (turnI h)) (x : List Int) (w : ∀ n ∈ x, (Lit.int .i64 n).wf = true) (l : x.length ≤ maxLen) : laws_FnExactCountTurned x = some true := by
  unfold laws_FnExactCountTurned laws_FnExactCountTurned_n1
  by_cases h : x.length ≤ 1048576
  · rw [show decide (((x.length : Nat) : Int) > 1048576) = false from decide_eq_false (by omega)]
    simp only [toIntS_eq x h, hI x h, specTurned_eq x h, eqIntS_eq x x h, Option.bind_some, bne_self_eq_false, beq_self_eq_true, Bool.not_true, cond_false]
  · rw [show decide (((x.length : Nat) : Int) > 1048576) = true from decide_eq_true (by omega)]
    rfl

theorem same_FnExactCountTurned (x : List Int) (w : ∀ n ∈ x, (Lit.int .i64 n).wf = true) (l : x.length ≤ maxLen) : laws_FnExactCountTurned x = some true :=
  core_FnExactCountTurned (fun h _ => implTurned_eq h) x w l

end Go.Rv
