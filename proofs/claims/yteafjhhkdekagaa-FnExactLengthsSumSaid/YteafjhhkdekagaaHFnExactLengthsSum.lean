/-
  Plain mathematics of what the law reaches. Conditions: none.
-/
import Derived.Test.YteafjhhkdekagaaGFnExactLengthsSum
set_option linter.unusedVariables false
set_option linter.unusedSimpArgs false
namespace Go.Rv
theorem l1In_eq (a b c : Int) : spec_l1In a b c = some (decide (b ≤ a) && decide (a ≤ c)) := by
  unfold spec_l1In spec_l1In_n1
  by_cases h : a ≥ b
  · have e : decide (a ≥ b) = true := decide_eq_true h
    rw [e]; rfl
  · have e : decide (a ≥ b) = false := decide_eq_false h
    rw [e]; rfl

theorem all_lt {n : Nat} {p : Nat → Bool} (h : (List.range n).all p = true) {i : Nat} (hi : i < n) : p i = true :=
  List.all_eq_true.1 h i (List.mem_range.2 hi)

def factN : Nat → Nat
  | 0 => 1
  | n + 1 => factN n * (n + 1)

def lsumN (n : Nat) : Nat := factN n * (n - 1) * (n + 1) / 3
def lsumI (n : Int) : Int := if 1 ≤ n ∧ n ≤ 8 then ((lsumN n.toNat : Nat) : Int) else -1

theorem specSum_tab : ((List.range 8).all fun k => spec_LengthsSum ((k + 1 : Nat) : Int) == some ((lsumN (k + 1) : Nat) : Int)) = true := by decide +kernel
theorem specSum_eq (n : Int) : spec_LengthsSum n = some (lsumI n) := by
  unfold lsumI
  by_cases h : 1 ≤ n ∧ n ≤ 8
  · rw [if_pos h]
    have := all_lt specSum_tab (i := n.toNat - 1) (by omega)
    rw [beq_iff_eq, show n.toNat - 1 + 1 = n.toNat by omega, show ((n.toNat : Nat) : Int) = n by omega] at this
    exact this
  · rw [if_neg h]
    have e : spec_LengthsSum n = spec_LengthsSum_n9 n := by unfold spec_LengthsSum; rfl
    rw [e]
    unfold spec_LengthsSum_n9 spec_LengthsSum_n1
    rw [l1In_eq]
    by_cases h1 : 1 ≤ n
    · rw [decide_eq_true h1, decide_eq_false (show ¬ n ≤ 8 by omega)]
      rfl
    · rw [decide_eq_false h1]
      rfl

theorem implSum_tab : ((List.range 8).all fun k => impl_LengthsSum ((k + 1 : Nat) : Int) == some ((lsumN (k + 1) : Nat) : Int)) = true := by decide +kernel
theorem implSum_eq (n : Int) : impl_LengthsSum n = some (lsumI n) := by
  unfold lsumI
  by_cases h : 1 ≤ n ∧ n ≤ 8
  · rw [if_pos h]
    have := all_lt implSum_tab (i := n.toNat - 1) (by omega)
    rw [beq_iff_eq, show n.toNat - 1 + 1 = n.toNat by omega, show ((n.toNat : Nat) : Int) = n by omega] at this
    exact this
  · rw [if_neg h]
    unfold impl_LengthsSum impl_LengthsSum_n1
    by_cases h1 : n < 1
    · rw [decide_eq_true h1]
      rfl
    · rw [decide_eq_false h1, decide_eq_true (show n > 8 by omega)]
      rfl

end Go.Rv
