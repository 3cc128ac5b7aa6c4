/-
  The law FnExactScoreOf, in plain words: it is true of every argument. Conditions: what the program's ScoreOf says.
-/
import Derived.Test.YteefjoepogdgpaaHFnExactScoreOf
import Derived.Test.YteefjoepogdgpaaFB
set_option linter.unusedVariables false
set_option linter.unusedSimpArgs false
namespace Go.Rv

theorem core_FnExactScoreOf (hI : ∀ S h, szT S ≤ 1048576 → h.length ≤ 1048576 → impl_ScoreOf S h = some (scoreI S h)) (x : List (List Int)) (l : x.length ≤ maxLen) (l2 : ∀ r ∈ x, r.length ≤ maxLen) (y : List Int) (ly : y.length ≤ maxLen) : laws_FnExactScoreOf x y = some true := by
  unfold laws_FnExactScoreOf laws_FnExactScoreOf_n1
  by_cases h : y.length ≤ 1048576
  · rw [show decide (((y.length : Nat) : Int) > 1048576) = false from decide_eq_false (by omega)]
    obtain ⟨v, hv, V⟩ := szSS x l l2
    rw [hv]
    simp only [cond_false, Option.bind_some]
    rcases V with V | ⟨V, sz⟩
    · rw [decide_eq_true V]
      rfl
    · rw [decide_eq_false (by omega)]
      have s1 : x.length ≤ 1048576 := by unfold szT at sz; omega
      simp [toIntSS_eq sz, toIntS_eq y h, specScoreOf_eq x y s1, hI x y sz h, eqIntSS_refl sz, eqIntS_eq y y h]
  · rw [show decide (((y.length : Nat) : Int) > 1048576) = true from decide_eq_true (by omega)]
    rfl

theorem same_FnExactScoreOf (x : List (List Int)) (f : Fits (.list (.list (.int .i64))) x) (y : List Int) (wy : ∀ n ∈ y, (Lit.int .i64 n).wf = true) (ly : y.length ≤ maxLen) : laws_FnExactScoreOf x y = some true :=
  core_FnExactScoreOf implScoreOf_eq x f.1 (fun r hr => (f.2 r hr).1) y ly

end Go.Rv
