/-
  Plain mathematics: what the model's EagerFor says. Conditions: none.
-/
import Derived.Test.YtiokdplogigiaaaMgx
import Derived.Test.YtiokdplogigiaaaMgp
set_option linter.unusedVariables false
set_option linter.unusedSimpArgs false
namespace Go.Rv

def ruleP (H : List Int) (i k : Nat) : Bool := hd H i == k || hd H k == i

theorem ruleE_four (H : List Int) (i : Nat) (st : List Nat) : ruleE H i st = 83 ∨ ruleE H i st = 76 ∨ ruleE H i st = 82 ∨ ruleE H i st = 68 := by
  unfold ruleE
  split
  · exact .inl rfl
  · split
    · exact .inr (.inl rfl)
    · split
      · exact .inr (.inr (.inl rfl))
      · split
        · exact .inr (.inr (.inr rfl))
        · exact .inl rfl

theorem mvE_bytes {m : Nat} (h : m = 83 ∨ m = 76 ∨ m = 82 ∨ m = 68) : bytesN (mvB m) = [m] ∧ (mvB m).size = 1 ∧ bidx (mvB m) 0 = some (m : Int) := by
  rcases h with rfl | rfl | rfl | rfl <;> exact ⟨rfl, rfl, rfl⟩

end Go.Rv
