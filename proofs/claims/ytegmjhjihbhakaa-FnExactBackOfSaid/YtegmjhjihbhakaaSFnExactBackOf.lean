/-
  The law FnExactBackOf, in plain words: it is true of every argument. Conditions: none.
-/
import Derived.Test.YtegmjhjihbhakaaMcc
import Derived.Test.YtegmjhjihbhakaaMg
set_option linter.unusedVariables false
set_option linter.unusedSimpArgs false
namespace Go.Rv

theorem same_FnExactBackOf (x : List Int) (w : ∀ n ∈ x, (Lit.int .i64 n).wf = true) (l : x.length ≤ maxLen) : laws_FnExactBackOf x = some true := by
  unfold laws_FnExactBackOf laws_FnExactBackOf_n1
  by_cases h : x.length ≤ 1048576
  · rw [show decide (((x.length : Nat) : Int) > 1048576) = false from decide_eq_false (by omega)]
    have hd := backI_length x
    have m1 := markIntS_eq 1 x h (by omega)
    have m2 := markIntS_eq 1 (backI x) (by omega) (by omega)
    have m3 := heldIntS_eq 1 (backI x).length (by omega) (by omega)
    have e1 : decide (((1 + x.length : Nat) : Int) < 0) = false := decide_eq_false (by omega)
    have e2 : decide (((1 + (backI x).length : Nat) : Int) < 0) = false := decide_eq_false (by omega)
    simp only [show ((1 : Nat) : Int) = 1 from rfl] at m1 m2 m3
    simp only [toIntS_eq x h, specBack_eq x, implBack_eq, eqIntS_eq x x h, eqIntS_eq (backI x) (backI x) (by omega), Option.bind_some, cond_false, beq_self_eq_true, Bool.not_true, m1, m2, m3, e1, e2]
    simp
  · rw [show decide (((x.length : Nat) : Int) > 1048576) = true from decide_eq_true (by omega)]
    rfl

end Go.Rv
