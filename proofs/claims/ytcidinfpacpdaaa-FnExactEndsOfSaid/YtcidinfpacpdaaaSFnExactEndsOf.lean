/-
  The law FnExactEndsOf, in plain words: it is true of every argument. Conditions: none.
-/
import Derived.Test.YtcidinfpacpdaaaHFnExactEndsOf
set_option linter.unusedVariables false
set_option linter.unusedSimpArgs false
namespace Go.Rv

theorem core_FnExactEndsOf (hI : ∀ h, h.length ≤ 1048576 → impl_EndsOf h = some (endsI h)) (x : List Int) (w : ∀ n ∈ x, (Lit.int .i64 n).wf = true) (l : x.length ≤ maxLen) : laws_FnExactEndsOf x = some true := by
  unfold laws_FnExactEndsOf laws_FnExactEndsOf_n1
  by_cases h : x.length ≤ 1048576
  · rw [show decide (((x.length : Nat) : Int) > 1048576) = false from decide_eq_false (by omega)]
    have hs := specEnds_eq x
    have hi := hI x h
    have hl : (endsI x).length ≤ 8 := by
      unfold endsI
      split
      · rename_i t
        have T := (tree_iff x).mp t
        have := T.le
        simp
        omega
      · simp
    generalize endsI x = r at hs hi hl
    have m1 := markIntS_eq 1 x h (by omega)
    have m2 := markIntS_eq 1 r (by omega) (by omega)
    have m3 := heldIntS_eq 1 r.length (by omega) (by omega)
    have e1 : decide (((1 + x.length : Nat) : Int) < 0) = false := decide_eq_false (by omega)
    have e2 : decide (((1 + r.length : Nat) : Int) < 0) = false := decide_eq_false (by omega)
    simp only [show ((1 : Nat) : Int) = 1 from rfl] at m1 m2 m3
    simp only [toIntS_eq x h, hs, hi, eqIntS_eq x x h, eqIntS_eq r r (by omega), Option.bind_some, cond_false, beq_self_eq_true, Bool.not_true, m1, m2, m3, e1, e2]
    simp
  · rw [show decide (((x.length : Nat) : Int) > 1048576) = true from decide_eq_true (by omega)]
    rfl

theorem same_FnExactEndsOf (x : List Int) (w : ∀ n ∈ x, (Lit.int .i64 n).wf = true) (l : x.length ≤ maxLen) : laws_FnExactEndsOf x = some true :=
  core_FnExactEndsOf (fun h _ => implEnds_eq h) x w l

end Go.Rv
