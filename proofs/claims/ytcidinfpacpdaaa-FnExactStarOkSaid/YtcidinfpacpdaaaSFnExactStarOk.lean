/-
  The law FnExactStarOk, in plain words: it is true of every argument. Conditions: none.
-/
import Derived.Test.YtcidinfpacpdaaaHFnExactStarOk
set_option linter.unusedVariables false
set_option linter.unusedSimpArgs false
namespace Go.Rv

theorem core_FnExactStarOk (hI : ∀ h, h.length ≤ 1048576 → impl_StarOk h = some (starB h)) (x : List Int) (w : ∀ n ∈ x, (Lit.int .i64 n).wf = true) (l : x.length ≤ maxLen) : laws_FnExactStarOk x = some true := by
  unfold laws_FnExactStarOk laws_FnExactStarOk_n1
  by_cases h : x.length ≤ 1048576
  · rw [show decide (((x.length : Nat) : Int) > 1048576) = false from decide_eq_false (by omega)]
    simp [toIntS_eq x h, specStar_eq x, hI x h, eqIntS_eq x x h]
  · rw [show decide (((x.length : Nat) : Int) > 1048576) = true from decide_eq_true (by omega)]
    rfl

theorem same_FnExactStarOk (x : List Int) (w : ∀ n ∈ x, (Lit.int .i64 n).wf = true) (l : x.length ≤ maxLen) : laws_FnExactStarOk x = some true :=
  core_FnExactStarOk (fun h hl => implStar_eq h hl) x w l

end Go.Rv
