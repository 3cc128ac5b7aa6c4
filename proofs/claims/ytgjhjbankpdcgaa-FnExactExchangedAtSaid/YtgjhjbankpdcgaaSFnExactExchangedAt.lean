/-
  The law FnExactExchangedAt, in plain words: it is true of every argument. Conditions: none.
-/
import Derived.Test.YtgjhjbankpdcgaaHFnExactExchangedAt
set_option linter.unusedVariables false
set_option linter.unusedSimpArgs false
namespace Go.Rv

theorem core_FnExactExchangedAt (hX : ∀ o k, o.length ≤ 1048576 → impl_ExchangedAt o k = some (excI o k)) (x : List Int) (w : ∀ n ∈ x, (Lit.int .i64 n).wf = true) (l : x.length ≤ maxLen) (y : Int) (wy : (Lit.int .i64 y).wf = true) : laws_FnExactExchangedAt x y = some true := by
  unfold laws_FnExactExchangedAt laws_FnExactExchangedAt_n1
  by_cases h : x.length ≤ 1048576
  · rw [show decide (((x.length : Nat) : Int) > 1048576) = false from decide_eq_false (by omega)]
    generalize hr : excI x y = r
    have hs : spec_ExchangedAt x y = some r := by rw [specExchanged_eq x y h, hr]
    have hi : impl_ExchangedAt x y = some r := by rw [hX x y h, hr]
    have hl : r.2.length ≤ 8 := by
      subst hr
      unfold excI
      split
      · rename_i b
        have := (orderB_iff x _).mp b.1
        unfold excL
        simp only [List.length_set]
        omega
      · simp
    have m1 := markIntS_eq 1 x h (by omega)
    have m2 := markIntS_eq 1 r.2 (by omega) (by omega)
    have m3 := heldIntS_eq 1 r.2.length (by omega) (by omega)
    have e1 : decide (((1 + x.length : Nat) : Int) < 0) = false := decide_eq_false (by omega)
    have e2 : decide (((1 + r.2.length : Nat) : Int) < 0) = false := decide_eq_false (by omega)
    simp only [show ((1 : Nat) : Int) = 1 from rfl] at m1 m2 m3
    simp only [toIntS_eq x h, hs, hi, eqIntS_eq x x h, eqIntS_eq r.2 r.2 (by omega), Option.bind_some, cond_false, beq_self_eq_true, Bool.not_true, m1, m2, m3, e1, e2, bne_self_eq_false]
  · rw [show decide (((x.length : Nat) : Int) > 1048576) = true from decide_eq_true (by omega)]
    rfl

theorem same_FnExactExchangedAt (x : List Int) (w : ∀ n ∈ x, (Lit.int .i64 n).wf = true) (l : x.length ≤ maxLen) (y : Int) (wy : (Lit.int .i64 y).wf = true) : laws_FnExactExchangedAt x y = some true :=
  core_FnExactExchangedAt (fun o k _ => implExchanged_eq o k) x w l y wy

end Go.Rv
