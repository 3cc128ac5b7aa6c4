/-
  Plain mathematics: how many moves of each kind. Conditions: none.
-/
import Derived.Test.YtiokdplogigiaaaMgp
set_option linter.unusedVariables false
set_option linter.unusedSimpArgs false
namespace Go.Rv

/-- Words that stand before their heads. -/
def leftN (h : List Int) (n : Nat) : Nat := (List.range n).countP fun k => decide (k + 1 < hd h (k + 1))

theorem countP_same {p q : Nat → Bool} {n : Nat} (h : ∀ k, k < n → q k = p k) : (List.range n).countP q = (List.range n).countP p :=
  List.countP_congr (fun k hk => by rw [h k (by simpa using hk)])

theorem countP_one {p q : Nat → Bool} {j : Nat} : ∀ {n : Nat}, j < n → (∀ k, k < n → k ≠ j → q k = p k) → p j = false → q j = true → (List.range n).countP q = (List.range n).countP p + 1
  | 0, hj, _, _, _ => by omega
  | n + 1, hj, hk, h1, h2 => by
    rw [List.range_succ, List.countP_append, List.countP_append]
    by_cases e : j = n
    · subst e
      rw [countP_same (p := p) (fun k kk => hk k (by omega) (by omega))]
      simp [h1, h2]
    · rw [countP_one (n := n) (by omega) (fun k kk => hk k (by omega)) h1 h2]
      have := hk n (by omega) (by omega)
      simp only [List.countP_cons, List.countP_nil, this]
      omega

theorem step_count {n m : Nat} {c c' : Conf} (R : RInv n c) (e : stepM n m c = some c') :
    c'.1 = c.1 + (if m = 83 then 1 else 0) ∧ leftN c'.2.2 n = leftN c.2.2 n + (if m = 76 then 1 else 0) := by
  obtain ⟨i, st, h⟩ := c
  have M := R.base
  have hl : h.length = n := M.len
  have hi : i ≤ n + 1 := M.hi
  unfold stepM at e
  simp only at e
  by_cases m1 : m = 83
  · rw [if_pos m1] at e
    by_cases le : i ≤ n
    · rw [if_pos le] at e
      injection e with e
      subst e
      rw [if_pos m1, if_neg (by omega)]
      exact ⟨rfl, rfl⟩
    · rw [if_neg le] at e
      cases e
  · rw [if_neg m1] at e
    rw [if_neg m1]
    split at e
    · rename_i s t rest
      have rs := M.rng s (List.mem_cons_self ..)
      have rt := M.rng t (List.mem_cons_of_mem _ (List.mem_cons_self ..))
      simp only at rs rt
      have dd := M.dec
      rw [List.pairwise_cons] at dd
      have lt : t < s := dd.1 t (List.mem_cons_self ..)
      by_cases m2 : m = 76
      · rw [if_pos m2] at e
        injection e with e
        subst e
        rw [if_pos m2]
        refine ⟨rfl, ?_⟩
        unfold leftN
        refine countP_one (j := t - 1) (by omega) ?_ ?_ ?_
        · intro k hk ne
          simp only
          rw [hd_set rt.1 (by omega) s (k + 1) (by omega), if_neg (by omega)]
        · simp only
          rw [show t - 1 + 1 = t by omega, rt.2.2]
          exact decide_eq_false (by omega)
        · simp only
          rw [show t - 1 + 1 = t by omega, hd_set rt.1 (by omega) s t rt.1, if_pos rfl]
          exact decide_eq_true lt
      · rw [if_neg m2] at e
        rw [if_neg m2]
        by_cases m3 : m = 82
        · rw [if_pos m3] at e
          injection e with e
          subst e
          refine ⟨rfl, ?_⟩
          unfold leftN
          refine countP_same ?_
          intro k hk
          simp only
          rw [hd_set rs.1 (by omega) t (k + 1) (by omega)]
          by_cases q : k + 1 = s
          · rw [if_pos q, q, rs.2.2, decide_eq_false (by omega), decide_eq_false (by omega)]
          · rw [if_neg q]
        · rw [if_neg m3] at e
          cases e
    · cases e

theorem run_count {n : Nat} : ∀ {ms : List Nat} {c c' : Conf}, RInv n c → runM n ms c = some c' → c'.1 = c.1 + ms.count 83 ∧ leftN c'.2.2 n = leftN c.2.2 n + ms.count 76
  | [], c, c', R, e => by
    unfold runM at e
    injection e with e
    subst e
    exact ⟨rfl, rfl⟩
  | m :: ms, c, c', R, e => by
    unfold runM at e
    obtain ⟨d, e1, e2⟩ := Option.bind_eq_some_iff.mp e
    have a := step_count R e1
    have b := run_count (step_ok R e1).1 e2
    rw [List.count_cons, List.count_cons]
    refine ⟨?_, ?_⟩
    · rw [b.1, a.1]
      by_cases q : m = 83 <;> simp [q] <;> omega
    · rw [b.2, a.2]
      by_cases q : m = 76 <;> simp [q] <;> omega

theorem rule_count {H : List Int} {ms : List Nat} {r : Nat} (e : runM H.length ms (1, [], List.replicate H.length 0) = some (H.length + 1, [r], H)) : ms.count 83 = H.length ∧ ms.count 76 = leftN H H.length := by
  have := run_count (RInv.start H.length) e
  have z : leftN (List.replicate H.length 0) H.length = 0 := by
    unfold leftN
    rw [List.countP_eq_zero]
    intro k hk
    have u := (RInv.start H.length).unread (k + 1) (by simp only; omega) (by simp only [List.mem_range] at hk; omega)
    simp only at u
    rw [u]
    simp
  simp only at this
  omega

end Go.Rv
