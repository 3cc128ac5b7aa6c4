/-
  The law FnMostGaps, in plain words: it is true of every argument. Conditions: none.
-/
import Derived.Test.YtgnjabkkcglmkaaDoorMge
import Derived.Test.YtgnjabkkcglmkaaDoorMcs
import Derived.Test.YtgnjabkkcglmkaaDoorMgb
import Derived.Test.YtgnjabkkcglmkaaDoorMoa
set_option linter.unusedVariables false
set_option linter.unusedSimpArgs false
namespace Go.Rv

theorem core_FnMostGaps (hM : ∀ h, impl_MostGaps h = some (mostI h)) (x : List Int) (w : ∀ n ∈ x, (Lit.int .u8 n).wf = true) (l : x.length ≤ maxLen) : laws_FnMostGaps x = some true := by
  unfold laws_FnMostGaps laws_FnMostGaps_n1
  by_cases hx : x.length ≤ 1048576
  · rw [show decide (((x.length : Nat) : Int) > 1048576) = false from decide_eq_false (by omega)]
    obtain ⟨h, h8, hdr⟩ := drawn_wild x w l 9 (by omega)
    have hd' : spec_DrawMostGaps x = some h := by unfold spec_DrawMostGaps spec_DrawMostGaps_n1; exact hdr
    simp only [hd', cond_false, Option.bind_some, hM, specMost_eq, bne_self_eq_false, implTree_eq, alive_eq, implFlat_eq, implCrossings_eq]
    cases hT : treeB h with
    | false =>
      have m : mostI h = -1 := by unfold mostI; rw [hT]; rfl
      rw [m]
      rfl
    | true =>
      have T := (tree_iff h).mp hT
      have m : mostI h = (mostK h h.length : Int) - 1 := by unfold mostI; rw [hT]; rfl
      have p := most_pos T
      have f : ((mostI h == 0) == flatI h) = true := by
        rw [beq_iff_eq, Bool.eq_iff_iff, beq_iff_eq, flatI, hT, Bool.true_and, flatB_iff, ← most_flat T, m]
        omega
      rw [f, decide_eq_false (show ¬ mostI h < 0 by omega)]
      simp only [cond_false, cond_true]
      have c : crossingsI h = (crossN h : Int) := by unfold crossingsI; rw [hT]; rfl
      rw [c]
      by_cases z : crossN h = 0
      · have := most_two T z
        rw [decide_eq_false (by omega), decide_eq_true (show mostI h ≤ 1 by omega)]
        rfl
      · rw [decide_eq_true (by omega)]
        rfl
  · rw [show decide (((x.length : Nat) : Int) > 1048576) = true from decide_eq_true (by omega)]
    rfl

theorem same_FnMostGaps (x : List Int) (w : ∀ n ∈ x, (Lit.int .u8 n).wf = true) (l : x.length ≤ maxLen) : laws_FnMostGaps x = some true :=
  core_FnMostGaps implMost_eq x w l

end Go.Rv
