/-
  Plain mathematics: chapter 4's tables, each flat tree and its number. Conditions: none.
-/
import Derived.Test.YthhbbiielebblaaMcl
set_option linter.unusedVariables false
set_option linter.unusedSimpArgs false
namespace Go.Rv

def treeS (n k : Nat) : Option (List Int) := (specTreeK RR).1 1 (n : Int) 0 (k : Int) (List.replicate n 0)
theorem srchF_cons {P : List Int → Bool} {k : Nat} (h : ∀ v, v ≤ k + 1 → v ≠ 1 → srchF P (k + 1) k [v] = true) : srchF P (k + 1) (k + 1) [] = true := by
  rw [srchF, List.all_eq_true]
  intro v hv
  rw [fN_eq, fM_eq, List.nil_append]
  by_cases e : v = 1
  · subst e
    rfl
  · rw [h v (by simp only [List.mem_range] at hv; omega) e, Bool.or_true]

end Go.Rv
