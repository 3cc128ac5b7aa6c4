/-
  Plain mathematics: lists that ascend. Conditions: none.
-/
import Derived.Test.YtegmjhjihbhakaaDoorGN
import Derived.Test.YtegmjhjihbhakaaDoorMt
set_option linter.unusedVariables false
set_option linter.unusedSimpArgs false
namespace Go.Rv

theorem ascend_true (l : List Int) (hl : l.length ≤ 1048576) (hp : l.Pairwise (· < ·)) : laws_ascend l = some true := by
  have e : laws_ascend l = laws_ascend_n9 l := by unfold laws_ascend; rfl
  rw [e]
  unfold laws_ascend_n9 laws_ascend_n1 laws_ascend_n8 laws_ascend_n6 laws_ascend_n2 laws_ascend_n5 laws_ascend_n4 laws_ascend_n7
  have hloop := nloop_to (body := fun (s : Int) => ((laws_ascend_n3 l s).map (Sum.elim (fun (t : Int) => Sum.inl t) (Sum.elim (fun (t : Bool) => Sum.inr (Sum.inl t)) (fun (t : Unit) => Sum.inr (Sum.inr t)))) : Option ((Int) ⊕ (Bool ⊕ Unit))))
    (fun k => ((k + 1 : Nat) : Int)) (l.length - 1) (.inr ())
    (by
      intro k hk
      simp only [laws_ascend_n3]
      have h1 : k < l.length := by omega
      have h2 : k + 1 < l.length := by omega
      have hlt := (List.pairwise_iff_getElem.1 hp) k (k + 1) h1 h2 (by omega)
      rw [show decide (((k + 1 : Nat) : Int) < ((l.length : Nat) : Int)) = true from decide_eq_true (by omega), wrap64 (x := ((k + 1 : Nat) : Int) - 1) (by omega) (by omega), show ((k + 1 : Nat) : Int) - 1 = (k : Int) by omega, idx_lt h1, idx_lt h2, wrap64 (by omega) (by omega)]
      simp only [cond_true, Option.bind_some]
      rw [show decide (l[k] ≥ l[k + 1]) = false from decide_eq_false (by omega)]
      rfl)
    (by
      simp only [laws_ascend_n3]
      rw [show decide (((l.length - 1 + 1 : Nat) : Int) < ((l.length : Nat) : Int)) = false from decide_eq_false (by omega)]
      rfl)
  simp only [Option.bind_some]
  rw [show (1 : Int) = ((0 + 1 : Nat) : Int) from rfl, hloop LL (by simp only [LL]; omega)]
  rfl

end Go.Rv
