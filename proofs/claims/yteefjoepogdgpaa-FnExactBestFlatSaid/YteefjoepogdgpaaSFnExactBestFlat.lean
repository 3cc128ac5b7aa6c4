/-
  The law FnExactBestFlat, in plain words: it is true of every argument. Conditions: what the program's BestFlat says.
-/
import Derived.Test.YteefjoepogdgpaaHFnExactBestFlat
import Derived.Test.YteefjoepogdgpaaFB
set_option linter.unusedVariables false
set_option linter.unusedSimpArgs false
namespace Go.Rv

theorem core_FnExactBestFlat (hI : ∀ S, szT S ≤ 1048576 → impl_BestFlat S = some (bflatI S)) (x : List (List Int)) (l : x.length ≤ maxLen) (l2 : ∀ r ∈ x, r.length ≤ maxLen) : laws_FnExactBestFlat x = some true := by
  unfold laws_FnExactBestFlat laws_FnExactBestFlat_n1
  obtain ⟨v, hv, V⟩ := szSS x l l2
  rw [hv]
  simp only [Option.bind_some]
  rcases V with V | ⟨V, sz⟩
  · rw [decide_eq_true V]
    rfl
  · rw [decide_eq_false (by omega)]
    have s1 : x.length ≤ 1048576 := by unfold szT at sz; omega
    simp [toIntSS_eq sz, specBestFlat_eq x s1, hI x sz, eqIntSS_refl sz]

theorem same_FnExactBestFlat (x : List (List Int)) (f : Fits (.list (.list (.int .i64))) x) : laws_FnExactBestFlat x = some true :=
  core_FnExactBestFlat implBestFlat_eq x f.1 (fun r hr => (f.2 r hr).1)

end Go.Rv
