/-
  The law FnExactExchangesFor, in plain words: it is true of every argument. Conditions: none.
-/
import Derived.Test.YtgjhjbankpdcgaaDoorHFnExactExchangesFor
set_option linter.unusedVariables false
set_option linter.unusedSimpArgs false
namespace Go.Rv

theorem core_FnExactExchangesFor (hI : ∀ h, h.length ≤ 1048576 → impl_ExchangesFor h = some (if treeB h = true then (turnN (flatOI h) : Int) else -1)) (x : List Int) (w : ∀ n ∈ x, (Lit.int .i64 n).wf = true) (l : x.length ≤ maxLen) : laws_FnExactExchangesFor x = some true := by
  unfold laws_FnExactExchangesFor laws_FnExactExchangesFor_n1
  by_cases h : x.length ≤ 1048576
  · rw [show decide (((x.length : Nat) : Int) > 1048576) = false from decide_eq_false (by omega)]
    simp only [toIntS_eq x h, hI x h, specExchanges_eq x h, eqIntS_eq x x h, Option.bind_some, bne_self_eq_false, beq_self_eq_true, Bool.not_true, cond_false]
  · rw [show decide (((x.length : Nat) : Int) > 1048576) = true from decide_eq_true (by omega)]
    rfl

theorem same_FnExactExchangesFor (x : List Int) (w : ∀ n ∈ x, (Lit.int .i64 n).wf = true) (l : x.length ≤ maxLen) : laws_FnExactExchangesFor x = some true :=
  core_FnExactExchangesFor (fun h _ => implExchanges_eq h) x w l

end Go.Rv
