/-
  Plain mathematics: the model's rule for the machine with a stack. Conditions: none.
-/
import Derived.Test.YtiokdplogigiaaaMgm
import Derived.Test.YtiokdplogigiaaaMt
set_option linter.unusedVariables false
set_option linter.unusedSimpArgs false
namespace Go.Rv

/-- Which words were taken away. -/
def goneL (n i : Nat) (st : List Nat) : List Bool := (List.range n).map fun k => decide (k + 1 < i) && !st.contains (k + 1)
theorem goneL_length (n i : Nat) (st : List Nat) : (goneL n i st).length = n := by simp [goneL]
theorem goneL_get {n i : Nat} {st : List Nat} {k : Nat} (hk : k < n) : (goneL n i st)[k]? = some (decide (k + 1 < i) && !st.contains (k + 1)) := by simp [goneL, hk]

theorem idx_at {α : Type} (xs : List α) (k : Nat) : idx xs (k : Int) = xs[k]? := by
  unfold idx
  rw [if_pos (by omega), Int.toNat_natCast]

end Go.Rv
