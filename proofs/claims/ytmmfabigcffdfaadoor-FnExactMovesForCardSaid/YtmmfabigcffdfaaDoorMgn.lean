/-
  Plain mathematics: the model's rule for the machine with a stack. Conditions: none.
-/
import Derived.Test.YtmmfabigcffdfaaDoorMgm
import Derived.Test.YtmmfabigcffdfaaDoorMt
set_option linter.unusedVariables false
set_option linter.unusedSimpArgs false
namespace Go.Rv

/-- Which words were taken away. -/
def goneL (n i : Nat) (st : List Nat) : List Bool := (List.range n).map fun k => decide (k + 1 < i) && !st.contains (k + 1)
theorem goneL_length (n i : Nat) (st : List Nat) : (goneL n i st).length = n := by simp [goneL]
theorem goneL_get {n i : Nat} {st : List Nat} {k : Nat} (hk : k < n) : (goneL n i st)[k]? = some (decide (k + 1 < i) && !st.contains (k + 1)) := by simp [goneL, hk]

theorem idx_at {α : Type} (xs : List α) (k : Nat) : idx xs (k : Int) = xs[k]? := by
  unfold idx
  rw [if_pos (by omega), Int.toNat_natCast]

open Classical in
theorem l6Free_eq {H : List Int} (T : Tree H) (i : Nat) (st : List Nat) (w : Nat) : spec_l6Free H (w : Int) (goneL H.length i st) = some (decide (LeafU H i st w)) := by
  have e : spec_l6Free H (w : Int) (goneL H.length i st) = spec_l6Free_n9 H (w : Int) (goneL H.length i st) := by unfold spec_l6Free; rfl
  have hle := T.le
  rw [e]
  unfold spec_l6Free_n9 spec_l6Free_n1 spec_l6Free_n8 spec_l6Free_n6 spec_l6Free_n2 spec_l6Free_n5 spec_l6Free_n4 spec_l6Free_n7
  have q := nloop_while (body := fun (s : Int) => ((spec_l6Free_n3 H (w : Int) (goneL H.length i st) s).map (Sum.elim (fun (t : Int) => Sum.inl t) (Sum.elim (fun (t : Bool) => Sum.inr (Sum.inl t)) (fun (t : Unit) => Sum.inr (Sum.inr t)))) : Option ((Int) ⊕ (Bool ⊕ Unit))))
    (fun k => (k : Int)) H.length (fun k => !(hd H (k + 1) == w) || (decide (k + 1 < i) && !st.contains (k + 1))) (fun b => if b then Sum.inr () else Sum.inl false)
    (by
      intro k hk p
      have g := T.get (w := k + 1) (by omega) (by omega)
      rw [show k + 1 - 1 = k by omega] at g
      simp only [spec_l6Free_n3]
      rw [decide_eq_true (show (k : Int) < ((H.length : Nat) : Int) by omega), idx_at, g, idx_at, goneL_get hk, wrap64 (by omega) (by omega)]
      simp only [cond_true, Option.bind_some]
      by_cases c : hd H (k + 1) = w
      · rw [c] at p ⊢
        have p : (decide (k + 1 < i) && !st.contains (k + 1)) = true := by simpa using p
        rw [beq_self_eq_true, p]
        rfl
      · rw [show (((hd H (k + 1) : Nat) : Int) == (w : Int)) = false from beq_eq_false_iff_ne.2 (by omega)]
        rfl)
    (by
      intro k hk p
      have g := T.get (w := k + 1) (by omega) (by omega)
      rw [show k + 1 - 1 = k by omega] at g
      simp only [spec_l6Free_n3]
      rw [decide_eq_true (show (k : Int) < ((H.length : Nat) : Int) by omega), idx_at, g, idx_at, goneL_get hk]
      simp only [cond_true, Option.bind_some]
      rw [Bool.or_eq_false_iff] at p
      have c : hd H (k + 1) = w := by simpa using p.1
      rw [c, beq_self_eq_true, p.2]
      rfl)
    (by
      simp only [spec_l6Free_n3]
      rw [decide_eq_false (show ¬ ((H.length : Nat) : Int) < ((H.length : Nat) : Int) by omega)]
      rfl) LL (by simp only [LL]; omega)
  simp only [Option.bind_some]
  have q' := q
  rw [show ((0 : Nat) : Int) = 0 from rfl] at q'
  rw [q']
  have key : ((List.range H.length).all fun k => !(hd H (k + 1) == w) || (decide (k + 1 < i) && !st.contains (k + 1))) = decide (LeafU H i st w) := by
    rw [Bool.eq_iff_iff, decide_eq_true_eq, List.all_eq_true]
    constructor
    · intro a c c1 c2 u eq
      have := a (c - 1) (by simp only [List.mem_range]; omega)
      rw [show c - 1 + 1 = c by omega, eq] at this
      simp only [beq_self_eq_true, Bool.not_true, Bool.false_or, Bool.and_eq_true, decide_eq_true_eq, Bool.not_eq_true'] at this
      rcases u with u | u
      · have z := this.2
        rw [Bool.eq_false_iff] at z
        exact z (List.contains_iff_mem.mpr u)
      · omega
    · intro a k hk
      simp only [List.mem_range] at hk
      by_cases c : hd H (k + 1) = w
      · have n1 : ¬ InU i st (k + 1) := fun u => a (k + 1) (by omega) (by omega) u c
        unfold InU at n1
        simp only [Bool.or_eq_true, Bool.and_eq_true, decide_eq_true_eq, Bool.not_eq_true']
        right
        refine ⟨by omega, ?_⟩
        rw [Bool.eq_false_iff]
        intro z
        exact n1 (.inl (List.contains_iff_mem.mp z))
      · simp [c]
  rw [key]
  cases decide (LeafU H i st w) <;> rfl

end Go.Rv
