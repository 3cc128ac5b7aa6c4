/-
  Plain mathematics: what the program says of rows in chapter 4. Conditions: none.
-/
import Derived.Test.YthhbbiielebblaaMco
set_option linter.unusedVariables false
set_option linter.unusedSimpArgs false
namespace Go.Rv

theorem implRows_tab : ((List.range 7).all fun n => impl_CountRows (n : Int) == some (rowsT n : Int)) = true := by decide +kernel

theorem implCountRows_eq (n : Int) : impl_CountRows n = some (rowI n) := by
  unfold rowI
  by_cases h : 0 ≤ n ∧ n ≤ 6
  · obtain ⟨k, rfl⟩ : ∃ k : Nat, n = (k : Int) := ⟨n.toNat, by omega⟩
    have := List.all_eq_true.mp implRows_tab k (by simp only [List.mem_range]; omega)
    rw [if_pos h, Int.toNat_natCast]
    simpa using this
  · rw [if_neg h]
    unfold impl_CountRows impl_CountRows_n1
    by_cases h1 : n < 0
    · rw [decide_eq_true h1]
      rfl
    · rw [decide_eq_false h1, decide_eq_true (show n > 6 by omega)]
      rfl

end Go.Rv
