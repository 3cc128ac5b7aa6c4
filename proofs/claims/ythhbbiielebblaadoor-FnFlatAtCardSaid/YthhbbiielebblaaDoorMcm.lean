/-
  Plain mathematics: chapter 4's tables, each flat tree and its number. Conditions: none.
-/
import Derived.Test.YthhbbiielebblaaDoorMcl
set_option linter.unusedVariables false
set_option linter.unusedSimpArgs false
namespace Go.Rv

def treeS (n k : Nat) : Option (List Int) := (specTreeK RR).1 1 (n : Int) 0 (k : Int) (List.replicate n 0)
def rankS (h : List Int) : Option Int := (specRankK RR).1 h 1 (h.length : Int) (top h : Int)

def chkH (h : List Int) : Bool :=
  match rankS h with
  | some (.ofNat k) => Nat.blt k (flatT h.length) && treeS h.length k == some h
  | _ => false

theorem h_tab5 : ((List.range 5).all fun n => srchF chkH (n + 1) (n + 1) []) = true := by decide +kernel
theorem h_tab6_0 : srchF chkH 6 5 [0] = true := by decide +kernel
theorem h_tab6_2 : srchF chkH 6 5 [2] = true := by decide +kernel
theorem h_tab6_3 : srchF chkH 6 5 [3] = true := by decide +kernel
theorem h_tab6_4 : srchF chkH 6 5 [4] = true := by decide +kernel
theorem h_tab6_5 : srchF chkH 6 5 [5] = true := by decide +kernel
theorem h_tab6_6 : srchF chkH 6 5 [6] = true := by decide +kernel
theorem srchF_cons {P : List Int → Bool} {k : Nat} (h : ∀ v, v ≤ k + 1 → v ≠ 1 → srchF P (k + 1) k [v] = true) : srchF P (k + 1) (k + 1) [] = true := by
  rw [srchF, List.all_eq_true]
  intro v hv
  rw [fN_eq, fM_eq, List.nil_append]
  by_cases e : v = 1
  · subst e
    rfl
  · rw [h v (by simp only [List.mem_range] at hv; omega) e, Bool.or_true]

theorem h_tab {n : Nat} (n1 : 1 ≤ n) (n6 : n ≤ 6) : srchF chkH n n [] = true := by
  by_cases e : n = 6
  · subst e
    refine srchF_cons ?_
    intro v hv ne
    have : v = 0 ∨ v = 2 ∨ v = 3 ∨ v = 4 ∨ v = 5 ∨ v = 6 := by omega
    rcases this with rfl | rfl | rfl | rfl | rfl | rfl
    · exact h_tab6_0
    · exact h_tab6_2
    · exact h_tab6_3
    · exact h_tab6_4
    · exact h_tab6_5
    · exact h_tab6_6
  · have s := List.all_eq_true.mp h_tab5 (n - 1) (by simp only [List.mem_range]; omega)
    simp only [show n - 1 + 1 = n by omega] at s
    exact s

/-- A flat tree of at most six words has a number, and the tree of that number is it. -/
theorem place_ok {h : List Int} (T : Tree h) (F : FlatP h) (l : h.length ≤ 6) : ∃ k : Nat, k < flatT h.length ∧ rankS h = some (k : Int) ∧ treeS h.length k = some h := by
  have hp := T.pos
  have c := flat_allF (h_tab hp l) T F rfl
  unfold chkH at c
  split at c
  · rename_i k e
    rw [Bool.and_eq_true, Nat.blt_eq, beq_iff_eq] at c
    exact ⟨k, c.1, e, c.2⟩
  · cases c

end Go.Rv
