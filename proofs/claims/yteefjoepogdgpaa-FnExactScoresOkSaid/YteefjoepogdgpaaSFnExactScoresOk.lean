/-
  The law FnExactScoresOk, in plain words: it is true of every argument. Conditions: what the program's ScoresOk says.
-/
import Derived.Test.YteefjoepogdgpaaHFnExactScoresOk
import Derived.Test.YteefjoepogdgpaaFB
set_option linter.unusedVariables false
set_option linter.unusedSimpArgs false
namespace Go.Rv

theorem core_FnExactScoresOk (hI : ∀ S, szT S ≤ 1048576 → impl_ScoresOk S = some (okB S)) (x : List (List Int)) (l : x.length ≤ maxLen) (l2 : ∀ r ∈ x, r.length ≤ maxLen) : laws_FnExactScoresOk x = some true := by
  unfold laws_FnExactScoresOk laws_FnExactScoresOk_n1
  obtain ⟨v, hv, V⟩ := szSS x l l2
  rw [hv]
  simp only [Option.bind_some]
  rcases V with V | ⟨V, sz⟩
  · rw [decide_eq_true V]
    rfl
  · rw [decide_eq_false (by omega)]
    have s1 : x.length ≤ 1048576 := by unfold szT at sz; omega
    simp [toIntSS_eq sz, specScores_eq x s1, hI x sz, eqIntSS_refl sz]

theorem same_FnExactScoresOk (x : List (List Int)) (f : Fits (.list (.list (.int .i64))) x) : laws_FnExactScoresOk x = some true :=
  core_FnExactScoresOk implScores_eq x f.1 (fun r hr => (f.2 r hr).1)

end Go.Rv
