/-
  Plain mathematics: arcs that cross. Conditions: none.
-/
import Derived.Test.YtiokdplogigiaaaGN
import Derived.Test.YtiokdplogigiaaaMa
set_option linter.unusedVariables false
set_option linter.unusedSimpArgs false
namespace Go.Rv

def arcX (l r l' r' : Int) : Bool := decide ((l < l' ∧ l' < r ∧ r < r') ∨ (l' < l ∧ l < r' ∧ r' < r))
def pairB (a b : Int) : Bool := decide (1 ≤ a ∧ 1 ≤ b ∧ a ≠ b)
def crossI (a b c d : Int) : Bool := pairB a b && pairB c d && arcX (imin a b) (imax a b) (imin c d) (imax c d)

theorem min_max {a b : Int} (h : a ≠ b) : imin a b < imax a b := by
  unfold imin imax
  split <;> split <;> omega

theorem some_yes {p : Prop} [Decidable p] (h : p) : some true = some (decide p) := by rw [decide_eq_true h]
theorem some_no {p : Prop} [Decidable p] (h : ¬ p) : some false = some (decide p) := by rw [decide_eq_false h]

theorem crossI_swap (a b c d : Int) : crossI c d a b = crossI a b c d := by
  unfold crossI
  rw [Bool.and_comm (pairB c d)]
  congr 1
  unfold arcX
  apply Bool.eq_iff_iff.2
  simp only [decide_eq_true_eq]
  omega

theorem imin_comm (a b : Int) : imin b a = imin a b := by unfold imin; split <;> split <;> omega
theorem imax_comm (a b : Int) : imax b a = imax a b := by unfold imax; split <;> split <;> omega
theorem pairB_comm (a b : Int) : pairB b a = pairB a b := by
  unfold pairB
  apply Bool.eq_iff_iff.2
  simp only [decide_eq_true_eq]
  omega

theorem crossI_turn (a b c d : Int) : crossI b a c d = crossI a b c d := by
  unfold crossI
  rw [pairB_comm, imin_comm, imax_comm]

theorem crossI_apart {a b c d : Int} (h : crossI a b c d = true) : a ≠ c ∧ a ≠ d ∧ b ≠ c ∧ b ≠ d := by
  unfold crossI arcX imin imax at h
  simp only [Bool.and_eq_true, decide_eq_true_eq] at h
  have h2 := h.2
  refine ⟨?_, ?_, ?_, ?_⟩ <;> intro e <;> subst e <;> revert h2 <;> split <;> split <;> omega

end Go.Rv
