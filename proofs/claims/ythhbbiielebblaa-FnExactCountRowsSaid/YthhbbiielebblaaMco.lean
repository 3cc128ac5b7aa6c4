/-
  Plain mathematics: what the model of chapter 4 says. Conditions: none.
-/
import Derived.Test.YthhbbiielebblaaMcn
import Derived.Test.YthhbbiielebblaaMcd
import Derived.Test.YthhbbiielebblaaMk
set_option linter.unusedVariables false
set_option linter.unusedSimpArgs false
namespace Go.Rv

theorem specIn_eq (a b c : Int) : spec_l1In a b c = some (decide (b ≤ a) && decide (a ≤ c)) := by
  unfold spec_l1In spec_l1In_n1
  by_cases h : b ≤ a
  · rw [decide_eq_true (show a ≥ b from h)]
    rfl
  · rw [decide_eq_false (show ¬ a ≥ b from h)]
    rfl

/-- How many flat trees there are, and rows; -1 for none. -/
def cntI (n : Int) : Int := if 1 ≤ n ∧ n ≤ 6 then (flatT n.toNat : Int) else -1
def rowI (n : Int) : Int := if 0 ≤ n ∧ n ≤ 6 then (rowsT n.toNat : Int) else -1

theorem specFlatN {n : Nat} (h : n ≤ 6) : spec_l4Flat (n : Int) = some (flatT n : Int) := by
  have := List.all_eq_true.mp specFlatT n (by simp only [List.mem_range]; omega)
  simpa using this
theorem specRowsN {n : Nat} (h : n ≤ 6) : spec_l4Rows (n : Int) = some (rowsT n : Int) := by
  have := List.all_eq_true.mp specRowsT n (by simp only [List.mem_range]; omega)
  simpa using this

theorem specCountFlat_eq (n : Int) : spec_CountFlat n = some (cntI n) := by
  unfold spec_CountFlat spec_CountFlat_n1 cntI
  rw [specIn_eq]
  by_cases h : 1 ≤ n ∧ n ≤ 6
  · obtain ⟨k, rfl⟩ : ∃ k : Nat, n = (k : Int) := ⟨n.toNat, by omega⟩
    rw [decide_eq_true h.1, decide_eq_true h.2, if_pos h]
    simp only [Option.bind_some, Bool.and_self, Bool.not_true, cond_false, specFlatN (n := k) (by omega), Int.toNat_natCast]
  · rw [if_neg h]
    have : (decide (1 ≤ n) && decide (n ≤ 6)) = false := by
      rw [Bool.eq_false_iff]
      intro x
      simp only [Bool.and_eq_true, decide_eq_true_eq] at x
      exact h x
    rw [this]
    rfl

theorem specCountRows_eq (n : Int) : spec_CountRows n = some (rowI n) := by
  unfold spec_CountRows spec_CountRows_n1 rowI
  rw [specIn_eq]
  by_cases h : 0 ≤ n ∧ n ≤ 6
  · obtain ⟨k, rfl⟩ : ∃ k : Nat, n = (k : Int) := ⟨n.toNat, by omega⟩
    rw [decide_eq_true h.1, decide_eq_true h.2, if_pos h]
    simp only [Option.bind_some, Bool.and_self, Bool.not_true, cond_false, specRowsN (n := k) (by omega), Int.toNat_natCast]
  · rw [if_neg h]
    have : (decide (0 ≤ n) && decide (n ≤ 6)) = false := by
      rw [Bool.eq_false_iff]
      intro x
      simp only [Bool.and_eq_true, decide_eq_true_eq] at x
      exact h x
    rw [this]
    rfl

/-- Whether there is a flat tree of that many words with that number. -/
def atB (n k : Int) : Prop := (1 ≤ n ∧ n ≤ 6) ∧ 0 ≤ k ∧ k < (flatT n.toNat : Int)
instance (n k : Int) : Decidable (atB n k) := by unfold atB; infer_instance
def atS (n k : Int) : Bool × List Int := if atB n k then (true, (treeS n.toNat k.toNat).getD []) else (false, [])

theorem flatT_le (n : Nat) : flatT n ≤ 728 := by unfold flatT; split <;> omega

theorem flatI_iff {h : List Int} : flatI h = true ↔ Tree h ∧ FlatP h := by
  unfold flatI
  rw [Bool.and_eq_true, tree_iff, flatB_iff]

end Go.Rv
