/-
  The law FnExchangedAt, in plain words: it is true of every argument. Conditions: none.
-/
import Derived.Test.YtgjhjbankpdcgaaHFnExchangedAt
set_option linter.unusedVariables false
set_option linter.unusedSimpArgs false
namespace Go.Rv

theorem core_FnExchangedAt (hX : ∀ o k, o.length ≤ 1048576 → impl_ExchangedAt o k = some (excI o k)) (hT : ∀ o, o.length ≤ 1048576 → impl_CountTurned o = some (turnI o)) (x : List Int) (w : ∀ n ∈ x, (Lit.int .u8 n).wf = true) (l : x.length ≤ maxLen) : laws_FnExchangedAt x = some true := by
  unfold laws_FnExchangedAt laws_FnExchangedAt_n1
  by_cases hx : x.length ≤ 1048576
  · rw [show decide (((x.length : Nat) : Int) > 1048576) = false from decide_eq_false (by omega)]
    obtain ⟨k, o, hd', o1, o8⟩ := drawn_exchanged x w l
    simp only [hd', cond_false, Option.bind_some, hX o k (by omega), specExchanged_eq o k (by omega)]
    by_cases b : orderB o o.length = true ∧ 0 ≤ k ∧ k ≤ (o.length : Int) - 2
    · obtain ⟨j, rfl⟩ : ∃ j : Nat, k = (j : Int) := ⟨k.toNat, by omega⟩
      obtain ⟨u, v, gu, gv, t2, l2, t3, t4⟩ := exc_all (k := j) b.1 (by omega)
      have e1 : excI o (j : Int) = (true, excL o j) := by unfold excI; rw [if_pos b, Int.toNat_natCast]
      have e2 : excI (excL o j) (j : Int) = (true, o) := by unfold excI; rw [if_pos ⟨by rw [l2]; exact t2, b.2.1, by rw [l2]; exact b.2.2⟩, Int.toNat_natCast, t4]
      have e3 : turnI o = (turnN o : Int) := by unfold turnI; rw [b.1]; rfl
      have e4 : turnI (excL o j) = (turnN (excL o j) : Int) := by unfold turnI; rw [l2, t2]; rfl
      have s1 : (excL o j == excL o j) = true := beq_self_eq_true _
      have s2 : (o == o) = true := beq_self_eq_true _
      have i1 : inb (j : Int) o.length = some j := by unfold inb; rw [if_pos (by omega)]; simp
      have w1 : IntKind.wrap .i64 ((j : Int) + 1) = ((j + 1 : Nat) : Int) := by rw [wrap64 (by omega) (by omega)]; omega
      have i2 : inb ((j + 1 : Nat) : Int) o.length = some (j + 1) := by unfold inb; rw [if_pos (by omega)]; simp
      have le := turn_small o8 o.length (Nat.le_refl _)
      rw [List.take_of_length_le (Nat.le_refl _)] at le
      simp only [e1, sameInts_eq (excL o j) (excL o j) (by omega), Option.bind_some, s1, Bool.not_true, cond_false, bne_self_eq_false, i1, gu, w1, i2, gv, hX (excL o j) (j : Int) (by omega), e2, implOrder_eq, t2, cond_true, hT (excL o j) (by omega), hT o (by omega), e3, e4, t3, sameInts_eq o o (by omega), s2]
      by_cases g : u > v
      · rw [decide_eq_true g, if_pos g, wrap64 (x := (turnN o : Int) + -1) (by omega) (by omega), beq_self_eq_true]
        rfl
      · rw [decide_eq_false g, if_neg g, wrap64 (x := (turnN o : Int) + 1) (by omega) (by omega), beq_self_eq_true]
        rfl
    · have e1 : excI o k = (false, []) := by unfold excI; rw [if_neg b]
      simp only [e1, sameInts_eq [] [] (by simp), alive_eq]
      rfl
  · rw [show decide (((x.length : Nat) : Int) > 1048576) = true from decide_eq_true (by omega)]
    rfl

theorem same_FnExchangedAt (x : List Int) (w : ∀ n ∈ x, (Lit.int .u8 n).wf = true) (l : x.length ≤ maxLen) : laws_FnExchangedAt x = some true :=
  core_FnExchangedAt (fun o k _ => implExchanged_eq o k) (fun o _ => implTurned_eq o) x w l

end Go.Rv
