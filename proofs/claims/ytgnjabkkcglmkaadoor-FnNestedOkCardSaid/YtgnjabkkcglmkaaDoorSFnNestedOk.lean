/-
  The law FnNestedOk, in plain words: it is true of every argument. Conditions: none.
-/
import Derived.Test.YtgnjabkkcglmkaaDoorMge
import Derived.Test.YtgnjabkkcglmkaaDoorMct
import Derived.Test.YtgnjabkkcglmkaaDoorMgb
import Derived.Test.YtgnjabkkcglmkaaDoorMoa
set_option linter.unusedVariables false
set_option linter.unusedSimpArgs false
namespace Go.Rv

theorem core_FnNestedOk (hM : ∀ h, h.length ≤ 1048576 → impl_NestedOk h = some (nestI h)) (x : List Int) (w : ∀ n ∈ x, (Lit.int .u8 n).wf = true) (l : x.length ≤ maxLen) : laws_FnNestedOk x = some true := by
  unfold laws_FnNestedOk laws_FnNestedOk_n1
  by_cases hx : x.length ≤ 1048576
  · rw [show decide (((x.length : Nat) : Int) > 1048576) = false from decide_eq_false (by omega)]
    obtain ⟨h, h8, hdr⟩ := drawn_wild x w l 9 (by omega)
    have hd' : spec_DrawNestedOk x = some h := by unfold spec_DrawNestedOk spec_DrawNestedOk_n1; exact hdr
    have bl := backI_length h
    simp only [hd', cond_false, Option.bind_some, hM h (by omega), hM (backI h) (by omega), specNested_eq h (by omega), bne_self_eq_false, specTree_eq, alive_eq, implFlat_eq, implCrossings_eq, implBack_eq]
    cases hT : treeB h with
    | false =>
      have m : nestI h = false := by unfold nestI; rw [hT, Bool.and_false]
      rw [m]
      rfl
    | true =>
      have T := (tree_iff h).mp hT
      have b : backI h = backL h := by unfold backI; rw [hT]; rfl
      have c : crossingsI h = (crossN h : Int) := by unfold crossingsI; rw [hT]; rfl
      rw [b, c, nest_back T, beq_self_eq_true]
      have key : crossN h = 0 ∨ flatI h = true → nestI h = true := by
        rintro (z | z)
        · exact nest_plane T z
        · exact nest_plane T ((plan_iff T).mp (flatB_iff.mp (by unfold flatI at z; rw [hT, Bool.true_and] at z; exact z))).1
      by_cases z : crossN h = 0
      · rw [decide_eq_false (by omega), key (.inl z)]
        cases flatI h <;> rfl
      · rw [decide_eq_true (by omega)]
        cases f : flatI h with
        | false => rfl
        | true =>
          rw [key (.inr f)]
          rfl
  · rw [show decide (((x.length : Nat) : Int) > 1048576) = true from decide_eq_true (by omega)]
    rfl

theorem same_FnNestedOk (x : List Int) (w : ∀ n ∈ x, (Lit.int .u8 n).wf = true) (l : x.length ≤ maxLen) : laws_FnNestedOk x = some true :=
  core_FnNestedOk (fun h _ => implNested_eq h) x w l

end Go.Rv
