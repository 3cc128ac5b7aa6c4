/-
  Plain mathematics: what the model's MovesFor says. Conditions: none.
-/
import Derived.Test.YtiokdplogigiaaaMgo
set_option linter.unusedVariables false
set_option linter.unusedSimpArgs false
namespace Go.Rv

theorem rule_three (H : List Int) (i : Nat) (st : List Nat) : ruleM H i st = 83 ∨ ruleM H i st = 76 ∨ ruleM H i st = 82 := by
  unfold ruleM
  split
  · split
    · exact .inr (.inl rfl)
    · split
      · exact .inr (.inr rfl)
      · exact .inl rfl
  · exact .inl rfl

theorem mvB_bytes {m : Nat} (h : m = 83 ∨ m = 76 ∨ m = 82) : bytesN (mvB m) = [m] ∧ (mvB m).size = 1 := by
  rcases h with rfl | rfl | rfl <;> exact ⟨rfl, rfl⟩

theorem gone_start (n : Nat) : goneL n 1 [] = List.replicate n false := by
  apply List.ext_getElem?
  intro k
  by_cases hk : k < n
  · rw [goneL_get hk]
    simp [List.getElem?_replicate, hk]
  · rw [List.getElem?_eq_none (by rw [goneL_length]; omega), List.getElem?_eq_none (by simp; omega)]

end Go.Rv
