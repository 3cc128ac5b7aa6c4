/-
  The law FnLongestArc, in plain words: it is true of every argument. Conditions: none.
-/
import Derived.Test.YteafjhhkdekagaaHFnLongestArc
set_option linter.unusedVariables false
set_option linter.unusedSimpArgs false
namespace Go.Rv

theorem core_FnLongestArc (hL : ∀ h, h.length ≤ 1048576 → impl_LengthOf h = some (lenI h)) (hA : ∀ h, h.length ≤ 1048576 → impl_LongestArc h = some (longI h)) (x : List Int) (w : ∀ n ∈ x, (Lit.int .u8 n).wf = true) (l : x.length ≤ maxLen) : laws_FnLongestArc x = some true := by
  unfold laws_FnLongestArc laws_FnLongestArc_n1
  by_cases hx : x.length ≤ 1048576
  · rw [show decide (((x.length : Nat) : Int) > 1048576) = false from decide_eq_false (by omega)]
    obtain ⟨h, h8, hdr⟩ := drawn_wild x w l 9 (by omega)
    have hd' : spec_DrawLongestArc x = some h := by unfold spec_DrawLongestArc spec_DrawLongestArc_n1; exact hdr
    simp only [hd', cond_false, Option.bind_some, hL h (by omega), hA h (by omega), specLong_eq, bne_self_eq_false, alive_eq, implTree_eq]
    unfold lenI longI
    cases t : treeB h with
    | false => rfl
    | true =>
      have T := (tree_iff h).mp t
      have hp := T.pos
      have a := long_le_len h
      have b := long_lt T
      have c := long_short T
      simp only [if_true]
      rw [decide_eq_false (show ¬ ((longN h : Nat) : Int) < 0 by omega), decide_eq_true (show ((longN h : Nat) : Int) ≤ ((lenN h : Nat) : Int) by omega), decide_eq_true (show ((longN h : Nat) : Int) < ((h.length : Nat) : Int) by omega)]
      simp only [cond_true, cond_false]
      rw [wrap64 (x := ((h.length : Nat) : Int) - 1) (by omega) (by omega)]
      congr 1
      rw [beq_iff_eq, Bool.eq_iff_iff, decide_eq_true_eq, beq_iff_eq]
      constructor
      · intro q
        have := c.mp (by omega)
        omega
      · intro q
        have := c.mpr (by omega)
        omega
  · rw [show decide (((x.length : Nat) : Int) > 1048576) = true from decide_eq_true (by omega)]
    rfl

theorem same_FnLongestArc (x : List Int) (w : ∀ n ∈ x, (Lit.int .u8 n).wf = true) (l : x.length ≤ maxLen) : laws_FnLongestArc x = some true :=
  core_FnLongestArc (fun h _ => implLen_eq h) (fun h _ => implLong_eq h) x w l

end Go.Rv
