/-
  The law FnExactMadeFlat, in plain words: it is true of every argument. Conditions: none.
-/
import Derived.Test.YtgjhjbankpdcgaaDoorHFnExactMadeFlat
set_option linter.unusedVariables false
set_option linter.unusedSimpArgs false
namespace Go.Rv

theorem core_FnExactMadeFlat (hI : ∀ h, h.length ≤ 1048576 → impl_MadeFlat h = some (if treeB h = true then putRow h (flatOI h) else [])) (x : List Int) (w : ∀ n ∈ x, (Lit.int .i64 n).wf = true) (l : x.length ≤ maxLen) : laws_FnExactMadeFlat x = some true := by
  unfold laws_FnExactMadeFlat laws_FnExactMadeFlat_n1
  by_cases h : x.length ≤ 1048576
  · rw [show decide (((x.length : Nat) : Int) > 1048576) = false from decide_eq_false (by omega)]
    generalize hr : (if treeB x = true then putRow x (flatOI x) else []) = r
    have hs : spec_MadeFlat x = some r := by rw [specMade_eq x h, hr]
    have hi : impl_MadeFlat x = some r := by rw [hI x h, hr]
    have hl : r.length ≤ 8 := by
      subst hr
      split
      · rename_i t
        have T := (tree_iff x).mp t
        have := T.le
        have := flatOI_length T
        have := putRow_length x (flatOI x)
        omega
      · simp
    have m1 := markIntS_eq 1 x h (by omega)
    have m2 := markIntS_eq 1 r (by omega) (by omega)
    have m3 := heldIntS_eq 1 r.length (by omega) (by omega)
    have e1 : decide (((1 + x.length : Nat) : Int) < 0) = false := decide_eq_false (by omega)
    have e2 : decide (((1 + r.length : Nat) : Int) < 0) = false := decide_eq_false (by omega)
    simp only [show ((1 : Nat) : Int) = 1 from rfl] at m1 m2 m3
    simp only [toIntS_eq x h, hs, hi, eqIntS_eq x x h, eqIntS_eq r r (by omega), Option.bind_some, cond_false, beq_self_eq_true, Bool.not_true, m1, m2, m3, e1, e2]
    simp
  · rw [show decide (((x.length : Nat) : Int) > 1048576) = true from decide_eq_true (by omega)]
    rfl

theorem same_FnExactMadeFlat (x : List Int) (w : ∀ n ∈ x, (Lit.int .i64 n).wf = true) (l : x.length ≤ maxLen) : laws_FnExactMadeFlat x = some true :=
  core_FnExactMadeFlat (fun h _ => implMade_eq h) x w l

end Go.Rv
