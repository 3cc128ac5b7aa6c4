/-
  Plain mathematics: arcs that cross. Conditions: none.
-/
import Derived.Test.YtgnjabkkcglmkaaDoorGN
import Derived.Test.YtgnjabkkcglmkaaDoorMa
set_option linter.unusedVariables false
set_option linter.unusedSimpArgs false
namespace Go.Rv

def arcX (l r l' r' : Int) : Bool := decide ((l < l' ∧ l' < r ∧ r < r') ∨ (l' < l ∧ l < r' ∧ r' < r))
def pairB (a b : Int) : Bool := decide (1 ≤ a ∧ 1 ≤ b ∧ a ≠ b)
def crossI (a b c d : Int) : Bool := pairB a b && pairB c d && arcX (imin a b) (imax a b) (imin c d) (imax c d)

theorem min_max {a b : Int} (h : a ≠ b) : imin a b < imax a b := by
  unfold imin imax
  split <;> split <;> omega

theorem some_yes {p : Prop} [Decidable p] (h : p) : some true = some (decide p) := by rw [decide_eq_true h]
theorem some_no {p : Prop} [Decidable p] (h : ¬ p) : some false = some (decide p) := by rw [decide_eq_false h]

theorem arcBetween_eq (a b : Int) : impl_arcBetween a b = some (if pairB a b then (true, imin a b, imax a b) else (false, 0, 0)) := by
  unfold impl_arcBetween impl_arcBetween_n1 pairB
  by_cases h1 : a < 1
  · rw [decide_eq_true h1, decide_eq_false (show ¬ (1 ≤ a ∧ 1 ≤ b ∧ a ≠ b) by omega)]; rfl
  · rw [decide_eq_false h1]
    by_cases h2 : b < 1
    · rw [decide_eq_true h2, decide_eq_false (show ¬ (1 ≤ a ∧ 1 ≤ b ∧ a ≠ b) by omega)]; rfl
    · rw [decide_eq_false h2]
      by_cases h3 : a = b
      · rw [decide_eq_false (show ¬ (1 ≤ a ∧ 1 ≤ b ∧ a ≠ b) by omega), h3]; simp
      · rw [decide_eq_true (show 1 ≤ a ∧ 1 ≤ b ∧ a ≠ b by omega), show (a == b) = false from beq_eq_false_iff_ne.2 h3]; rfl

theorem covers_eq (l r x : Int) : impl_arc_covers l r x = some (decide (l < x ∧ x < r)) := by
  unfold impl_arc_covers impl_arc_covers_n1
  by_cases h1 : l < x
  · rw [decide_eq_true h1]; simp [h1]
  · rw [decide_eq_false h1]; simp [h1]

theorem leavesOut_eq (l r x : Int) : impl_arc_leavesOut l r x = some (decide (x < l ∨ r < x)) := by
  unfold impl_arc_leavesOut impl_arc_leavesOut_n1
  by_cases h1 : x < l
  · rw [decide_eq_true h1]; simp [h1]
  · rw [decide_eq_false h1]; simp [h1]

theorem crosses_eq {l r l' r' : Int} (h : l < r) (h' : l' < r') : impl_arc_crosses l r l' r' = some (arcX l r l' r') := by
  unfold impl_arc_crosses impl_arc_crosses_n1
  simp only [covers_eq, leavesOut_eq, Option.bind_some]
  unfold arcX
  by_cases h1 : l < l' ∧ l' < r
  · rw [decide_eq_true h1]
    by_cases h2 : r' < l ∨ r < r'
    · rw [decide_eq_true h2]; exact some_yes (by omega)
    · rw [decide_eq_false h2]
      by_cases h3 : l < r' ∧ r' < r
      · rw [decide_eq_true h3]
        by_cases h4 : l' < l ∨ r < l'
        · omega
        · rw [decide_eq_false h4]; exact some_no (by omega)
      · rw [decide_eq_false h3]; exact some_no (by omega)
  · rw [decide_eq_false h1]
    by_cases h3 : l < r' ∧ r' < r
    · rw [decide_eq_true h3]
      by_cases h4 : l' < l ∨ r < l'
      · rw [decide_eq_true h4]; exact some_yes (by omega)
      · rw [decide_eq_false h4]; exact some_no (by omega)
    · rw [decide_eq_false h3]; exact some_no (by omega)

theorem implCross_eq (a b c d : Int) : impl_CrossOk a b c d = some (crossI a b c d) := by
  unfold impl_CrossOk impl_CrossOk_n1 crossI
  rw [arcBetween_eq, arcBetween_eq]
  simp only [Option.bind_some]
  by_cases h1 : pairB a b = true
  · by_cases h2 : pairB c d = true
    · rw [if_pos h1, if_pos h2, h1, h2]
      have e1 : a ≠ b := by unfold pairB at h1; rw [decide_eq_true_eq] at h1; exact h1.2.2
      have e2 : c ≠ d := by unfold pairB at h2; rw [decide_eq_true_eq] at h2; exact h2.2.2
      simp only [cond_true, crosses_eq (min_max e1) (min_max e2), Option.bind_some, Bool.true_and]
    · rw [if_pos h1, if_neg h2, h1, Bool.eq_false_iff.2 h2]; rfl
  · rw [if_neg h1, Bool.eq_false_iff.2 h1]; rfl

theorem crossI_swap (a b c d : Int) : crossI c d a b = crossI a b c d := by
  unfold crossI
  rw [Bool.and_comm (pairB c d)]
  congr 1
  unfold arcX
  apply Bool.eq_iff_iff.2
  simp only [decide_eq_true_eq]
  omega

theorem imin_comm (a b : Int) : imin b a = imin a b := by unfold imin; split <;> split <;> omega
theorem imax_comm (a b : Int) : imax b a = imax a b := by unfold imax; split <;> split <;> omega
theorem pairB_comm (a b : Int) : pairB b a = pairB a b := by
  unfold pairB
  apply Bool.eq_iff_iff.2
  simp only [decide_eq_true_eq]
  omega

theorem crossI_turn (a b c d : Int) : crossI b a c d = crossI a b c d := by
  unfold crossI
  rw [pairB_comm, imin_comm, imax_comm]

theorem crossI_apart {a b c d : Int} (h : crossI a b c d = true) : a ≠ c ∧ a ≠ d ∧ b ≠ c ∧ b ≠ d := by
  unfold crossI arcX imin imax at h
  simp only [Bool.and_eq_true, decide_eq_true_eq] at h
  have h2 := h.2
  refine ⟨?_, ?_, ?_, ?_⟩ <;> intro e <;> subst e <;> revert h2 <;> split <;> split <;> omega

end Go.Rv
