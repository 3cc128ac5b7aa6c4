/-
  The law FnExactRowsOf, in plain words: it is true of every argument. Conditions: none.
-/
import Derived.Test.YtdnefgbdhomgcaaDoorMcs
import Derived.Test.YtdnefgbdhomgcaaDoorMg
set_option linter.unusedVariables false
set_option linter.unusedSimpArgs false
namespace Go.Rv

def rowsMarked (m : Nat) : Bool :=
  match spec_RowsOf_n8 (wordsL m) with
  | some R => match laws_eqIntSS R R, laws_markIntSS 1 R with
    | some true, some (k, M) => laws_heldIntSS M 1 == some k && decide (0 ≤ k)
    | _, _ => false
  | none => false

theorem rowsMarked_tab : ((List.range 256).all rowsMarked) = true := by decide +kernel

theorem same_FnExactRowsOf (x : List Int) (w : ∀ n ∈ x, (Lit.int .i64 n).wf = true) (l : x.length ≤ maxLen) (v : Int) (wv : (Lit.int .i64 v).wf = true) : laws_FnExactRowsOf x v = some true := by
  unfold laws_FnExactRowsOf laws_FnExactRowsOf_n1
  by_cases h : x.length ≤ 1048576
  · rw [show decide (((x.length : Nat) : Int) > 1048576) = false from decide_eq_false (by omega)]
    have key : ∃ m, m < 256 ∧ yieldI x v = wordsL m := by
      unfold yieldI
      cases hw : wordB x v with
      | false => exact ⟨0, by omega, rfl⟩
      | true =>
        obtain ⟨k, rfl, T, k1, k2⟩ := wordB_iff.1 hw
        exact ⟨ymask x (k : Int).toNat, ymask_lt T.le _, rfl⟩
    obtain ⟨m, hm, hy⟩ := key
    have t := all_lt rowsMarked_tab hm
    unfold rowsMarked at t
    split at t
    · rename_i R e
      have s : spec_RowsOf x v = some R := by
        unfold spec_RowsOf spec_RowsOf_n9 spec_RowsOf_n1
        rw [specYield_eq, hy]
        exact e
      have i : impl_RowsOf x v = some R := by rw [implRows_eq, s]
      split at t
      · rename_i k M e1 e2
        simp only [Bool.and_eq_true, beq_iff_eq, decide_eq_true_eq] at t
        obtain ⟨t1, t2⟩ := t
        have m2 := markIntS_eq 1 x (by omega) (by omega)
        simp only [show ((1 : Nat) : Int) = 1 from rfl] at m2
        have d1 : decide (((1 + x.length : Nat) : Int) < 0) = false := decide_eq_false (by omega)
        have d2 : decide (k < 0) = false := decide_eq_false (by omega)
        simp only [cond_false, toIntS_eq x h, Option.bind_some, s, i, e1, Bool.not_true, eqIntS_eq x x h, beq_self_eq_true, m2, d1, e2, t1, d2, bne_self_eq_false]
      · cases t
    · cases t
  · rw [show decide (((x.length : Nat) : Int) > 1048576) = true from decide_eq_true (by omega)]
    rfl

end Go.Rv
