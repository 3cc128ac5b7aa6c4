/-
  Plain mathematics: how deep the stack is. Conditions: none.
-/
import Derived.Test.YtiokdplogigiaaaMgq
set_option linter.unusedVariables false
set_option linter.unusedSimpArgs false
namespace Go.Rv

theorem runM_take {n : Nat} : ∀ {ms : List Nat} {c c' : Conf} (k : Nat), runM n ms c = some c' → ∃ d, runM n (ms.take k) c = some d
  | _, c, c', 0, e => ⟨c, by rw [List.take_zero]; rfl⟩
  | [], c, c', k + 1, e => ⟨c, rfl⟩
  | m :: ms, c, c', k + 1, e => by
    unfold runM at e
    obtain ⟨d, e1, e2⟩ := Option.bind_eq_some_iff.mp e
    obtain ⟨d', h⟩ := runM_take k e2
    refine ⟨d', ?_⟩
    rw [List.take_succ_cons, runM, e1]
    exact h

/-- How many words are on the stack after so many moves. -/
def levN (ms : List Nat) (k : Nat) : Nat := 2 * (ms.take k).count 83 - k
def deepN (ms : List Nat) : Nat → Nat
  | 0 => 0
  | k + 1 => max (deepN ms k) (levN ms (k + 1))

theorem deepN_le (ms : List Nat) (b : Nat) : ∀ k, deepN ms k ≤ b ↔ ∀ j, 1 ≤ j → j ≤ k → levN ms j ≤ b
  | 0 => by
    constructor
    · intro _ j h1 h2
      omega
    · intro _
      exact Nat.zero_le _
  | k + 1 => by
    rw [deepN, Nat.max_le, deepN_le ms b k]
    constructor
    · rintro ⟨h1, h2⟩ j j1 j2
      by_cases e : j = k + 1
      · rw [e]
        exact h2
      · exact h1 j j1 (by omega)
    · intro x
      exact ⟨fun j j1 j2 => x j j1 (by omega), x (k + 1) (by omega) (by omega)⟩

/-- What holds after each of the first moves of a way that ends well. -/
theorem lev_ok {n : Nat} {ms : List Nat} {c' : Conf} (e : runM n ms (1, [], List.replicate n 0) = some c') {k : Nat} (hk : k ≤ ms.length) :
    k ≤ 2 * (ms.take k).count 83 ∧ (ms.take k).count 83 ≤ n ∧ (1 ≤ k → 1 ≤ levN ms k) := by
  obtain ⟨d, hd⟩ := runM_take k e
  have a := run_inv (RInv.start n) hd
  have b := run_count (RInv.start n) hd
  have hi := a.1.base.hi
  have a2 := a.2
  simp only [List.length_nil] at a2 b
  rw [List.length_take, Nat.min_eq_left hk] at a2
  refine ⟨by omega, by omega, ?_⟩
  intro k1
  have ne : d.2.1 ≠ [] := fun z => by
    have := a.1.base.ne z
    rw [z] at a2
    simp only [List.length_nil] at a2
    omega
  have := List.length_pos_iff.mpr ne
  unfold levN
  omega

theorem take_one {ms : List Nat} {n : Nat} {c' : Conf} (e : runM n ms (1, [], List.replicate n 0) = some c') {k : Nat} (hk : k < ms.length) :
    (ms.take (k + 1)).count 83 = (ms.take k).count 83 + (if ms[k] = 83 then 1 else 0) := by
  rw [List.take_succ_eq_append_getElem hk, List.count_append, List.count_singleton]
  by_cases q : ms[k] = 83 <;> simp [q]

/-- The first moves that are all S. -/
def firstN : List Nat → Nat
  | [] => 0
  | m :: ms => if m = 83 then firstN ms + 1 else 0

theorem firstN_le : ∀ ms, firstN ms ≤ ms.length
  | [] => Nat.le_refl _
  | m :: ms => by
    unfold firstN
    have := firstN_le ms
    split <;> simp only [List.length_cons] <;> omega

theorem firstN_iff : ∀ (ms : List Nat) (k : Nat), k ≤ ms.length → (k ≤ firstN ms ↔ (ms.take k).count 83 = k)
  | _, 0, _ => by simp
  | [], k + 1, h => by simp at h
  | m :: ms, k + 1, h => by
    have ih := firstN_iff ms k (by simp only [List.length_cons] at h; omega)
    have cl := List.count_le_length (a := 83) (l := ms.take k)
    rw [List.length_take] at cl
    rw [List.take_succ_cons, List.count_cons]
    unfold firstN
    by_cases q : m = 83
    · subst q
      simp only [if_pos, beq_self_eq_true]
      omega
    · rw [if_neg q]
      simp [q]
      omega

/-- How deep a way that ends well goes. -/
theorem deep_ok {n r : Nat} {ms : List Nat} {h : List Int} (n8 : n ≤ 8) (e : runM n ms (1, [], List.replicate n 0) = some (n + 1, [r], h)) :
    1 ≤ deepN ms ms.length ∧ deepN ms ms.length ≤ n ∧ (2 ≤ n → 2 ≤ deepN ms ms.length) ∧ (deepN ms ms.length = n ↔ firstN ms = n) := by
  obtain ⟨T, _, _, hl, sz⟩ := run_flat n8 e
  have hp := T.pos
  have n1 : 1 ≤ n := by omega
  have up : deepN ms ms.length ≤ n := (deepN_le ms n ms.length).mpr (fun j j1 j2 => by
    have := lev_ok e j2
    have cl := List.count_le_length (a := 83) (l := ms.take j)
    rw [List.length_take] at cl
    unfold levN
    omega)
  have ge : ∀ j, 1 ≤ j → j ≤ ms.length → levN ms j ≤ deepN ms ms.length := (deepN_le ms _ ms.length).mp (Nat.le_refl _)
  have tot := (run_count (RInv.start n) e).1
  simp only at tot
  have fl := firstN_le ms
  refine ⟨Nat.le_trans ((lev_ok e (k := 1) (by omega)).2.2 (by omega)) (ge 1 (by omega) (by omega)), up, ?_, ?_⟩
  · intro n2
    have l2 := lev_ok e (k := 2) (by omega)
    have := l2.2.2 (by omega)
    have g := ge 2 (by omega) (by omega)
    unfold levN at this g
    omega
  · constructor
    · intro d
      refine Classical.byContradiction fun c => ?_
      have fn : firstN ms ≤ n := by
        have := (firstN_iff ms (firstN ms) fl).mp (Nat.le_refl _)
        have := (lev_ok e fl).2.1
        omega
      have lt : deepN ms ms.length ≤ n - 1 := (deepN_le ms (n - 1) ms.length).mpr (fun j j1 j2 => by
        have a := lev_ok e j2
        have cl := List.count_le_length (a := 83) (l := ms.take j)
        rw [List.length_take] at cl
        unfold levN
        refine Classical.byContradiction fun q => ?_
        have jn : j = n ∧ (ms.take j).count 83 = j := by omega
        have := (firstN_iff ms j j2).mpr jn.2
        omega)
      omega
    · intro f
      have c := (firstN_iff ms n (by omega)).mp (by omega)
      have g := ge n n1 (by omega)
      unfold levN at g
      omega

end Go.Rv
