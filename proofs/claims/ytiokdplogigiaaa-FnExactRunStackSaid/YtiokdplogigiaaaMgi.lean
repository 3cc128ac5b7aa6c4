/-
  Plain mathematics: where the machine ends is a flat tree. Conditions: none.
-/
import Derived.Test.YtiokdplogigiaaaMgh
set_option linter.unusedVariables false
set_option linter.unusedSimpArgs false
namespace Go.Rv

theorem count_none {l : List Int} (hu : ∀ i : Nat, l[i]? ≠ some (0 : Int)) : l.count 0 = 0 := by
  rw [List.count_eq_zero]
  intro m
  obtain ⟨i, hi, e⟩ := List.getElem_of_mem m
  exact hu i (by rw [List.getElem?_eq_getElem hi, e])

theorem count_one : ∀ {l : List Int} {r : Nat}, l[r]? = some (0 : Int) → (∀ i : Nat, l[i]? = some (0 : Int) → i = r) → l.count 0 = 1
  | [], r, h, _ => by simp at h
  | x :: xs, 0, h, u => by
    have e : x = 0 := by simpa using h
    subst e
    rw [List.count_cons_self, count_none]
    intro i hi
    have := u (i + 1) (by simpa using hi)
    omega
  | x :: xs, r + 1, h, u => by
    have ne : x ≠ 0 := by
      intro e
      have := u 0 (by simp [e])
      omega
    rw [List.count_cons_of_ne ne]
    refine count_one (r := r) (by simpa using h) ?_
    intro i hi
    have := u (i + 1) (by simpa using hi)
    omega

theorem MInv.get {n i : Nat} {st : List Nat} {h : List Int} (M : MInv n i st h) {w : Nat} (w1 : 1 ≤ w) (w2 : w ≤ n) : h[w - 1]? = some ((hd h w : Nat) : Int) := by
  have hl := M.len
  have lt : w - 1 < h.length := by omega
  have := M.num _ (List.getElem_mem lt)
  rw [List.getElem?_eq_getElem lt]
  unfold hd
  rw [List.getD_eq_getElem?_getD, List.getElem?_eq_getElem lt, Option.getD_some]
  congr 1
  omega

theorem MInv.tree {n r : Nat} {h : List Int} (M : MInv n (n + 1) [r] h) (n8 : n ≤ 8) : Tree h ∧ FlatP h ∧ top h = r := by
  have hl := M.len
  have rr := M.rng r (List.mem_cons_self ..)
  obtain ⟨m, ρ, e, k⟩ := M.rank
  simp only [List.length_cons, List.length_nil] at e
  have away : ∀ w, 1 ≤ w → w ≤ n → w ≠ r → ρ w < m ∧ 1 ≤ hd h w ∧ hd h w ≤ n ∧ (hd h w = r ∨ ρ w < ρ (hd h w)) := by
    intro w w1 w2 ne
    have := k w w1 (by omega) (by simpa using ne)
    exact ⟨this.1, this.2.1, by omega, this.2.2.2.imp (fun x => by simpa using x) id⟩
  have way : ∀ f w, 1 ≤ w → w ≤ n → (w = r ∨ m - ρ w ≤ f) → (climb h (f + 1) w).isSome = true := by
    intro f
    induction f with
    | zero =>
      intro w w1 w2 c
      by_cases q : w = r
      · unfold climb
        rw [M.get w1 w2, q, rr.2.2]
        rfl
      · have := (away w w1 w2 q).1
        omega
    | succ f ih =>
      intro w w1 w2 c
      unfold climb
      rw [M.get w1 w2]
      by_cases q : w = r
      · rw [q, rr.2.2]
        rfl
      · obtain ⟨a1, a2, a3, a4⟩ := away w w1 w2 q
        have c := c.resolve_left q
        simp only
        rw [if_neg (by omega), Option.isSome_map]
        refine ih (hd h w) a2 a3 ?_
        rcases a4 with a4 | a4
        · exact .inl a4
        · right
          omega
  have T : Tree h := by
    refine ⟨by omega, by omega, ?_, ?_, ?_⟩
    · unfold inRange
      rw [List.all_eq_true]
      intro x hx
      have := M.num x hx
      unfold okHead
      rw [hl, decide_eq_true this.1, decide_eq_true this.2]
      rfl
    · refine count_one (r := r - 1) (by rw [M.get rr.1 (by omega), rr.2.2]; rfl) ?_
      intro i hi
      have lt : i < n := by
        refine Classical.byContradiction fun c => ?_
        rw [List.getElem?_eq_none (by omega)] at hi
        cases hi
      have g := M.get (w := i + 1) (by omega) (by omega)
      rw [show i + 1 - 1 = i by omega, hi] at g
      injection g with g
      refine Classical.byContradiction fun c => ?_
      have := (away (i + 1) (by omega) (by omega) (by omega)).2.1
      omega
    · intro i hi
      have := way (h.length - 1) (i + 1) (by omega) (by omega) (.inr (by omega))
      rwa [show h.length - 1 + 1 = h.length by omega] at this
  have t : top h = r := ((T.hd_zero rr.1 (by omega)).mp rr.2.2).symm
  refine ⟨T, ?_, t⟩
  rw [flat_below T]
  intro w j w1 w2 w3 b
  exact M.below w j w1 (by omega) w3 b

end Go.Rv
