/-
  The law FnExactMovesFor, in plain words: it is true of every argument. Conditions: none.
-/
import Derived.Test.YtiokdplogigiaaaDoorHFnExactMovesFor
set_option linter.unusedVariables false
set_option linter.unusedSimpArgs false
namespace Go.Rv

theorem seqs_selfX (a : ByteArray) : seqs a a = true := by unfold seqs; exact beq_self_eq_true _

theorem core_FnExactMovesFor (hM : ∀ h, h.length ≤ 1048576 → impl_MovesFor h = spec_MovesFor h) (x : List Int) (w : ∀ n ∈ x, (Lit.int .i64 n).wf = true) (l : x.length ≤ maxLen) : laws_FnExactMovesFor x = some true := by
  unfold laws_FnExactMovesFor laws_FnExactMovesFor_n1
  by_cases h : x.length ≤ 1048576
  · rw [show decide (((x.length : Nat) : Int) > 1048576) = false from decide_eq_false (by omega)]
    have ex : ∃ r, spec_MovesFor x = some r := by
      cases f : flatI x with
      | false => exact ⟨_, specMoves_none h f⟩
      | true =>
        have TF := f
        unfold flatI at TF
        rw [Bool.and_eq_true, tree_iff, flatB_iff] at TF
        obtain ⟨mv, ms, g, _⟩ := specMoves_flat TF.1 TF.2
        exact ⟨_, g⟩
    obtain ⟨r, hr⟩ := ex
    simp only [toIntS_eq x h, hr, hM x h, eqIntS_eq x x h, Option.bind_some, seqs_selfX, bne_self_eq_false, beq_self_eq_true, Bool.not_true, cond_false]
  · rw [show decide (((x.length : Nat) : Int) > 1048576) = true from decide_eq_true (by omega)]
    rfl

theorem same_FnExactMovesFor (x : List Int) (w : ∀ n ∈ x, (Lit.int .i64 n).wf = true) (l : x.length ≤ maxLen) : laws_FnExactMovesFor x = some true :=
  core_FnExactMovesFor implMoves_eq x w l

end Go.Rv
