/-
  Plain mathematics: arcs that cross. Conditions: none.
-/
import Derived.Test.YtegmjhjihbhakaaDoorGN
import Derived.Test.YtegmjhjihbhakaaDoorMa
set_option linter.unusedVariables false
set_option linter.unusedSimpArgs false
namespace Go.Rv

def arcX (l r l' r' : Int) : Bool := decide ((l < l' ∧ l' < r ∧ r < r') ∨ (l' < l ∧ l < r' ∧ r' < r))
def pairB (a b : Int) : Bool := decide (1 ≤ a ∧ 1 ≤ b ∧ a ≠ b)
def crossI (a b c d : Int) : Bool := pairB a b && pairB c d && arcX (imin a b) (imax a b) (imin c d) (imax c d)

theorem min_max {a b : Int} (h : a ≠ b) : imin a b < imax a b := by
  unfold imin imax
  split <;> split <;> omega

theorem some_yes {p : Prop} [Decidable p] (h : p) : some true = some (decide p) := by rw [decide_eq_true h]
theorem some_no {p : Prop} [Decidable p] (h : ¬ p) : some false = some (decide p) := by rw [decide_eq_false h]

theorem arcBetween_eq (a b : Int) : impl_arcBetween a b = some (if pairB a b then (true, imin a b, imax a b) else (false, 0, 0)) := by
  unfold impl_arcBetween impl_arcBetween_n1 pairB
  by_cases h1 : a < 1
  · rw [decide_eq_true h1, decide_eq_false (show ¬ (1 ≤ a ∧ 1 ≤ b ∧ a ≠ b) by omega)]; rfl
  · rw [decide_eq_false h1]
    by_cases h2 : b < 1
    · rw [decide_eq_true h2, decide_eq_false (show ¬ (1 ≤ a ∧ 1 ≤ b ∧ a ≠ b) by omega)]; rfl
    · rw [decide_eq_false h2]
      by_cases h3 : a = b
      · rw [decide_eq_false (show ¬ (1 ≤ a ∧ 1 ≤ b ∧ a ≠ b) by omega), h3]; simp
      · rw [decide_eq_true (show 1 ≤ a ∧ 1 ≤ b ∧ a ≠ b by omega), show (a == b) = false from beq_eq_false_iff_ne.2 h3]; rfl

theorem covers_eq (l r x : Int) : impl_arc_covers l r x = some (decide (l < x ∧ x < r)) := by
  unfold impl_arc_covers impl_arc_covers_n1
  by_cases h1 : l < x
  · rw [decide_eq_true h1]; simp [h1]
  · rw [decide_eq_false h1]; simp [h1]

theorem leavesOut_eq (l r x : Int) : impl_arc_leavesOut l r x = some (decide (x < l ∨ r < x)) := by
  unfold impl_arc_leavesOut impl_arc_leavesOut_n1
  by_cases h1 : x < l
  · rw [decide_eq_true h1]; simp [h1]
  · rw [decide_eq_false h1]; simp [h1]

theorem crosses_eq {l r l' r' : Int} (h : l < r) (h' : l' < r') : impl_arc_crosses l r l' r' = some (arcX l r l' r') := by
  unfold impl_arc_crosses impl_arc_crosses_n1
  simp only [covers_eq, leavesOut_eq, Option.bind_some]
  unfold arcX
  by_cases h1 : l < l' ∧ l' < r
  · rw [decide_eq_true h1]
    by_cases h2 : r' < l ∨ r < r'
    · rw [decide_eq_true h2]; exact some_yes (by omega)
    · rw [decide_eq_false h2]
      by_cases h3 : l < r' ∧ r' < r
      · rw [decide_eq_true h3]
        by_cases h4 : l' < l ∨ r < l'
        · omega
        · rw [decide_eq_false h4]; exact some_no (by omega)
      · rw [decide_eq_false h3]; exact some_no (by omega)
  · rw [decide_eq_false h1]
    by_cases h3 : l < r' ∧ r' < r
    · rw [decide_eq_true h3]
      by_cases h4 : l' < l ∨ r < l'
      · rw [decide_eq_true h4]; exact some_yes (by omega)
      · rw [decide_eq_false h4]; exact some_no (by omega)
    · rw [decide_eq_false h3]; exact some_no (by omega)

theorem specCross_eq (a b c d : Int) : spec_CrossOk a b c d = some (crossI a b c d) := by
  unfold spec_CrossOk spec_CrossOk_n3 spec_CrossOk_n1 spec_CrossOk_n2 crossI
  by_cases h1 : pairB a b = true
  · by_cases h2 : pairB c d = true
    · rw [h1, h2]
      unfold pairB at h1 h2
      rw [decide_eq_true_eq] at h1 h2
      rw [decide_eq_false (show ¬ a < 1 by omega), decide_eq_false (show ¬ b < 1 by omega), decide_eq_false (show ¬ c < 1 by omega), decide_eq_false (show ¬ d < 1 by omega),
        show (a == b) = false from beq_eq_false_iff_ne.2 h1.2.2, show (c == d) = false from beq_eq_false_iff_ne.2 h2.2.2]
      simp only [cond_false, Option.bind_some, Sum.elim_inl, Bool.true_and]
      have m1 := min_max h1.2.2
      have m2 := min_max h2.2.2
      generalize imin a b = l at m1 ⊢
      generalize imax a b = r at m1 ⊢
      generalize imin c d = l' at m2 ⊢
      generalize imax c d = r' at m2 ⊢
      unfold arcX
      by_cases x1 : l < l'
      · rw [decide_eq_true x1, decide_eq_false (show ¬ l' < l by omega)]
        by_cases x2 : l' < r
        · rw [decide_eq_true x2]
          by_cases x3 : r < r'
          · rw [decide_eq_true x3]; exact some_yes (by omega)
          · rw [decide_eq_false x3]; exact some_no (by omega)
        · rw [decide_eq_false x2]; exact some_no (by omega)
      · rw [decide_eq_false x1]
        by_cases x4 : l' < l
        · rw [decide_eq_true x4]
          by_cases x5 : l < r'
          · rw [decide_eq_true x5]
            by_cases x6 : r' < r
            · rw [decide_eq_true x6]; exact some_yes (by omega)
            · rw [decide_eq_false x6]; exact some_no (by omega)
          · rw [decide_eq_false x5]; exact some_no (by omega)
        · rw [decide_eq_false x4]; exact some_no (by omega)
    · rw [h1, Bool.eq_false_iff.2 h2]
      unfold pairB at h1 h2
      rw [decide_eq_true_eq] at h1 h2
      rw [decide_eq_false (show ¬ a < 1 by omega), decide_eq_false (show ¬ b < 1 by omega)]
      by_cases y1 : c < 1
      · rw [decide_eq_true y1]; rfl
      · rw [decide_eq_false y1]
        by_cases y2 : d < 1
        · rw [decide_eq_true y2]; rfl
        · rw [decide_eq_false y2, show (a == b) = false from beq_eq_false_iff_ne.2 h1.2.2, show (c == d) = true by rw [beq_iff_eq]; omega]; rfl
  · rw [Bool.eq_false_iff.2 h1]
    unfold pairB at h1
    rw [decide_eq_true_eq] at h1
    by_cases y1 : a < 1
    · rw [decide_eq_true y1]; rfl
    · rw [decide_eq_false y1]
      by_cases y2 : b < 1
      · rw [decide_eq_true y2]; rfl
      · rw [decide_eq_false y2, show (a == b) = true by rw [beq_iff_eq]; omega]
        cases decide (c < 1) <;> cases decide (d < 1) <;> rfl

theorem crossI_swap (a b c d : Int) : crossI c d a b = crossI a b c d := by
  unfold crossI
  rw [Bool.and_comm (pairB c d)]
  congr 1
  unfold arcX
  apply Bool.eq_iff_iff.2
  simp only [decide_eq_true_eq]
  omega

theorem imin_comm (a b : Int) : imin b a = imin a b := by unfold imin; split <;> split <;> omega
theorem imax_comm (a b : Int) : imax b a = imax a b := by unfold imax; split <;> split <;> omega
theorem pairB_comm (a b : Int) : pairB b a = pairB a b := by
  unfold pairB
  apply Bool.eq_iff_iff.2
  simp only [decide_eq_true_eq]
  omega

theorem crossI_turn (a b c d : Int) : crossI b a c d = crossI a b c d := by
  unfold crossI
  rw [pairB_comm, imin_comm, imax_comm]

theorem crossI_apart {a b c d : Int} (h : crossI a b c d = true) : a ≠ c ∧ a ≠ d ∧ b ≠ c ∧ b ≠ d := by
  unfold crossI arcX imin imax at h
  simp only [Bool.and_eq_true, decide_eq_true_eq] at h
  have h2 := h.2
  refine ⟨?_, ?_, ?_, ?_⟩ <;> intro e <;> subst e <;> revert h2 <;> split <;> split <;> omega

end Go.Rv
