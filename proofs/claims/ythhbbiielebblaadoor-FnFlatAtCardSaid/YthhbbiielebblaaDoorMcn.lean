/-
  Plain mathematics: chapter 4's tables, each number and its flat tree. Conditions: none.
-/
import Derived.Test.YthhbbiielebblaaDoorMcm
set_option linter.unusedVariables false
set_option linter.unusedSimpArgs false
namespace Go.Rv

def chkK (n k : Nat) : Bool :=
  match treeS n k with
  | some h => fL h fun h => flatC h && Nat.beq h.length n && rankS h == some (k : Int) && (Nat.beq (k + 1) (flatT n) || match treeS n (k + 1) with
    | some g => Nat.ble (top h) (top g)
    | none => false)
  | none => false

theorem k_tab5 : ((List.range 5).all fun n => (List.range (flatT (n + 1))).all fun k => chkK (n + 1) k) = true := by decide +kernel
theorem k_tab6_0 : ((List.range 104).all fun k => chkK 6 (0 + k)) = true := by decide +kernel
theorem k_tab6_1 : ((List.range 104).all fun k => chkK 6 (104 + k)) = true := by decide +kernel
theorem k_tab6_2 : ((List.range 104).all fun k => chkK 6 (208 + k)) = true := by decide +kernel
theorem k_tab6_3 : ((List.range 104).all fun k => chkK 6 (312 + k)) = true := by decide +kernel
theorem k_tab6_4 : ((List.range 104).all fun k => chkK 6 (416 + k)) = true := by decide +kernel
theorem k_tab6_5 : ((List.range 104).all fun k => chkK 6 (520 + k)) = true := by decide +kernel
theorem k_tab6_6 : ((List.range 104).all fun k => chkK 6 (624 + k)) = true := by decide +kernel
theorem k_tab {n k : Nat} (n1 : 1 ≤ n) (n6 : n ≤ 6) (hk : k < flatT n) : chkK n k = true := by
  by_cases e : n = 6
  · subst e
    have hk : k < 728 := hk
    have g (a : Nat) (h : ((List.range 104).all fun k => chkK 6 (a + k)) = true) (x : a ≤ k) (y : k < a + 104) : chkK 6 k = true := by
      have := List.all_eq_true.mp h (k - a) (by simp only [List.mem_range]; omega)
      rwa [show a + (k - a) = k by omega] at this
    by_cases h0 : k < 104
    · exact g 0 k_tab6_0 (by omega) (by omega)
    by_cases h1 : k < 208
    · exact g 104 k_tab6_1 (by omega) (by omega)
    by_cases h2 : k < 312
    · exact g 208 k_tab6_2 (by omega) (by omega)
    by_cases h3 : k < 416
    · exact g 312 k_tab6_3 (by omega) (by omega)
    by_cases h4 : k < 520
    · exact g 416 k_tab6_4 (by omega) (by omega)
    by_cases h5 : k < 624
    · exact g 520 k_tab6_5 (by omega) (by omega)
    exact g 624 k_tab6_6 (by omega) (by omega)
  · have s := List.all_eq_true.mp k_tab5 (n - 1) (by simp only [List.mem_range]; omega)
    simp only [show n - 1 + 1 = n by omega] at s
    exact List.all_eq_true.mp s k (by simpa using hk)

/-- The tree of a number. -/
theorem at_ok {n k : Nat} (n1 : 1 ≤ n) (n6 : n ≤ 6) (hk : k < flatT n) : ∃ h, treeS n k = some h ∧ Tree h ∧ FlatP h ∧ h.length = n ∧ rankS h = some (k : Int) ∧
    (k + 1 < flatT n → ∃ g, treeS n (k + 1) = some g ∧ top h ≤ top g) := by
  have c := k_tab n1 n6 hk
  unfold chkK at c
  split at c
  · rename_i h e
    rw [fL_eq] at c
    simp only [Bool.and_eq_true, beq_iff_eq, Nat.beq_eq_true_eq, Bool.or_eq_true] at c
    obtain ⟨⟨⟨c1, c2⟩, c3⟩, c4⟩ := c
    have f := flatC_ok c1
    refine ⟨h, e, f.1, f.2, Nat.eq_of_beq_eq_true c2, c3, ?_⟩
    intro lt
    have c4 := c4.resolve_left (fun y => by
      have := Nat.eq_of_beq_eq_true y
      omega)
    split at c4
    · rename_i g e2
      exact ⟨g, e2, Nat.le_of_ble_eq_true c4⟩
    · cases c4
  · cases c

end Go.Rv
