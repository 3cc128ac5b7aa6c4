/-
  Plain mathematics: the most gaps, and yields that go by turns, as the model has them. Conditions: none.
-/
import Derived.Test.YtdnefgbdhomgcaaDoorMgc
import Derived.Test.YtdnefgbdhomgcaaDoorMci
set_option linter.unusedVariables false
set_option linter.unusedSimpArgs false
namespace Go.Rv

noncomputable def mostK (h : List Int) (k : Nat) : Nat := (List.range k).foldl (fun m i => max m (endsN (ymask h (i + 1)))) 0
noncomputable def mostI (h : List Int) : Int := if treeB h then (mostK h h.length : Int) - 1 else -1

theorem mostK_succ (h : List Int) (k : Nat) : mostK h (k + 1) = max (mostK h k) (endsN (ymask h (k + 1))) := by
  simp [mostK, List.range_succ]

theorem mostK_le (h : List Int) : ∀ k, mostK h k ≤ 8
  | 0 => by simp [mostK]
  | k + 1 => by
    have := mostK_le h k
    have := endsN_le8 (ymask h (k + 1))
    rw [mostK_succ]
    omega

theorem mostK_iff (h : List Int) (b : Nat) : ∀ k, mostK h k ≤ b ↔ ∀ i, i < k → endsN (ymask h (i + 1)) ≤ b
  | 0 => by simp [mostK]
  | k + 1 => by
    rw [mostK_succ, Nat.max_le, mostK_iff h b k]
    constructor
    · rintro ⟨h1, h2⟩ i hi
      by_cases e : i = k
      · rw [e]
        exact h2
      · exact h1 i (by omega)
    · intro x
      exact ⟨fun i hi => x i (by omega), x k (by omega)⟩

/-! The most gaps, and what they say -/

theorem most_flat {h : List Int} (T : Tree h) : mostK h h.length ≤ 1 ↔ FlatP h := by
  rw [← flatB_iff, flat_rows T, mostK_iff, List.all_eq_true]
  constructor
  · intro x i hi
    exact (ends_row (ymask_lt T.le _)).mpr (x i (by simpa using hi))
  · intro x i hi
    exact (ends_row (ymask_lt T.le _)).mp (x i (by simpa using hi))

theorem most_pos {h : List Int} (T : Tree h) : 1 ≤ mostK h h.length := by
  have hp := T.pos
  have := (mostK_iff h 0 h.length).mp
  by_cases e : mostK h h.length ≤ 0
  · have := this e 0 (by omega)
    have := ends_pos (ymask_lt T.le (0 + 1)) (ymask_pos T (by omega) (by omega))
    omega
  · omega

theorem most_two {h : List Int} (T : Tree h) (N : crossN h = 0) : mostK h h.length ≤ 2 := by
  rw [mostK_iff]
  intro i hi
  refine Classical.byContradiction fun c => ?_
  obtain ⟨a, x, b, y, d, h1, h2, h3, h4, h5, ta, tx, tb, ty, td⟩ := ends_three (ymask_lt T.le _) c
  rw [ymask_bit T] at ta tx tb ty td
  have td' := T.und_rng (undB_iff.mp td)
  have nt : i + 1 ≠ top h := by
    intro e
    have := T.und_top (a := x + 1) (by omega) (by omega)
    rw [← e] at this
    rw [undB_iff.mpr this] at tx
    cases tx
  have nx : ¬ Und h (x + 1) (i + 1) := fun u => by
    rw [undB_iff.mpr u] at tx
    cases tx
  have ny : ¬ Und h (y + 1) (i + 1) := fun u => by
    rw [undB_iff.mpr u] at ty
    cases ty
  exact no_turns T ((arcs_pairs T).mp N) (T.conn_und (k := i + 1) (by omega) (by omega)) (T.conn_rest nt) (fun w u v => v.2.2 u)
    (undB_iff.mp ta) ⟨by omega, by omega, nx⟩ (undB_iff.mp tb) ⟨by omega, by omega, ny⟩ (by omega) (by omega) (by omega)

/-! Yields by turns -/

noncomputable def nestK (h : List Int) (i : Nat) : Bool := (List.range i).all fun j => !turnsI h ((i + 1 : Nat) : Int) ((j + 1 : Nat) : Int)
noncomputable def nestI (h : List Int) : Bool := (List.range h.length).all (nestK h) && treeB h

end Go.Rv
