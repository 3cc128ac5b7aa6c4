/-
  The law FnCrossingsOf, in plain words: it is true of every argument. Conditions: none.
-/
import Derived.Test.YtegmjhjihbhakaaDoorMci
import Derived.Test.YtegmjhjihbhakaaDoorMcd
import Derived.Test.YtegmjhjihbhakaaDoorMoa
set_option linter.unusedVariables false
set_option linter.unusedSimpArgs false
namespace Go.Rv

theorem same_FnCrossingsOf (x : List Int) (w : ∀ n ∈ x, (Lit.int .u8 n).wf = true) (l : x.length ≤ maxLen) : laws_FnCrossingsOf x = some true := by
  unfold laws_FnCrossingsOf laws_FnCrossingsOf_n1
  by_cases hx : x.length ≤ 1048576
  · rw [show decide (((x.length : Nat) : Int) > 1048576) = false from decide_eq_false (by omega)]
    obtain ⟨h, h8, hdr⟩ := drawn_flat x w l 9 (by omega)
    have hd' : spec_DrawCrossingsOf x = some h := by unfold spec_DrawCrossingsOf spec_DrawCrossingsOf_n1; exact hdr
    simp only [cond_false, hd', Option.bind_some, implCrossings_eq, specCrossings_eq h (by omega), bne_self_eq_false, implTree_eq, alive_eq, implBack_eq, implFlat_eq]
    cases hT : treeB h with
    | false => simp [crossingsI, hT]
    | true =>
      have T := (tree_iff h).1 hT
      have T' := back_tree T
      have hT' : treeB (backL h) = true := (tree_iff _).2 T'
      have hb : backI h = backL h := by unfold backI; rw [hT]; rfl
      have c1 : crossingsI h = (crossN h : Int) := by unfold crossingsI; rw [hT]; rfl
      have c2 : crossingsI (backL h) = (crossN h : Int) := by unfold crossingsI; rw [hT', back_cross T]; rfl
      rw [hb, c1, c2, show decide (((crossN h : Nat) : Int) < 0) = false from decide_eq_false (by omega), beq_self_eq_true]
      by_cases e : crossN h = 0
      · rw [e]; rfl
      · rw [show ((((crossN h : Nat) : Int)) == 0) = false from beq_eq_false_iff_ne.2 (by omega)]
        have hf : flatI h = false := by
          unfold flatI
          rw [hT, Bool.true_and]
          cases hfl : flatB h with
          | false => rfl
          | true => exact absurd ((plan_iff T).1 (flatB_iff.1 hfl)).1 e
        have h4 : ¬ h.length < 4 := fun h4 => e (cross_four T h4)
        rw [hf, show decide (((h.length : Nat) : Int) ≥ 4) = true from decide_eq_true (by omega)]
        rfl
  · rw [show decide (((x.length : Nat) : Int) > 1048576) = true from decide_eq_true (by omega)]
    rfl

end Go.Rv
