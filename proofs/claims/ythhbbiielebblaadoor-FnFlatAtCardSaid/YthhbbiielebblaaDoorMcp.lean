/-
  Plain mathematics: what the program says in chapter 4. Conditions: none.
-/
import Derived.Test.YthhbbiielebblaaDoorMco
set_option linter.unusedVariables false
set_option linter.unusedSimpArgs false
namespace Go.Rv

theorem implParts_eq : impl_countFlatParts = some (0, 1, 2, 7, 30, 143, 728, 1, 1, 3, 12, 55, 273, 1428) := by kernel_rfl

theorem implCount_tab : ((List.range 6).all fun n => impl_CountFlat ((n + 1 : Nat) : Int) == some (flatT (n + 1) : Int)) = true := by decide +kernel

theorem implCountFlat_eq (n : Int) : impl_CountFlat n = some (cntI n) := by
  unfold cntI
  by_cases h : 1 ≤ n ∧ n ≤ 6
  · obtain ⟨k, rfl⟩ : ∃ k : Nat, n = ((k + 1 : Nat) : Int) := ⟨n.toNat - 1, by omega⟩
    have := List.all_eq_true.mp implCount_tab k (by simp only [List.mem_range]; omega)
    rw [if_pos h, Int.toNat_natCast]
    simpa using this
  · rw [if_neg h]
    unfold impl_CountFlat impl_CountFlat_n1
    by_cases h1 : n < 1
    · rw [decide_eq_true h1]
      rfl
    · rw [decide_eq_false h1, decide_eq_true (show n > 6 by omega)]
      rfl

/-- The tree of a number, as the program tells it. -/
def treeM (n k : Int) : Option (List Int) := impl_flatCounts_tellTree 0 1 2 7 30 143 728 1 1 3 12 55 273 1428 1 n k 0 (List.replicate n.toNat 0)

def chkI (n k : Nat) : Bool :=
  match treeS n k with
  | some h => fL h fun h => Nat.ble h.length 6 && treeM (n : Int) (k : Int) == some h
  | none => false

theorem i_tab5 : ((List.range 5).all fun n => (List.range (flatT (n + 1))).all fun k => chkI (n + 1) k) = true := by decide +kernel
theorem i_tab6_0 : ((List.range 104).all fun k => chkI 6 (0 + k)) = true := by decide +kernel
theorem i_tab6_1 : ((List.range 104).all fun k => chkI 6 (104 + k)) = true := by decide +kernel
theorem i_tab6_2 : ((List.range 104).all fun k => chkI 6 (208 + k)) = true := by decide +kernel
theorem i_tab6_3 : ((List.range 104).all fun k => chkI 6 (312 + k)) = true := by decide +kernel
theorem i_tab6_4 : ((List.range 104).all fun k => chkI 6 (416 + k)) = true := by decide +kernel
theorem i_tab6_5 : ((List.range 104).all fun k => chkI 6 (520 + k)) = true := by decide +kernel
theorem i_tab6_6 : ((List.range 104).all fun k => chkI 6 (624 + k)) = true := by decide +kernel
theorem i_tab {n k : Nat} (n1 : 1 ≤ n) (n6 : n ≤ 6) (hk : k < flatT n) : chkI n k = true := by
  by_cases e : n = 6
  · subst e
    have hk : k < 728 := hk
    have g (a : Nat) (h : ((List.range 104).all fun k => chkI 6 (a + k)) = true) (x : a ≤ k) (y : k < a + 104) : chkI 6 k = true := by
      have := List.all_eq_true.mp h (k - a) (by simp only [List.mem_range]; omega)
      rwa [show a + (k - a) = k by omega] at this
    by_cases h0 : k < 104
    · exact g 0 i_tab6_0 (by omega) (by omega)
    by_cases h1 : k < 208
    · exact g 104 i_tab6_1 (by omega) (by omega)
    by_cases h2 : k < 312
    · exact g 208 i_tab6_2 (by omega) (by omega)
    by_cases h3 : k < 416
    · exact g 312 i_tab6_3 (by omega) (by omega)
    by_cases h4 : k < 520
    · exact g 416 i_tab6_4 (by omega) (by omega)
    by_cases h5 : k < 624
    · exact g 520 i_tab6_5 (by omega) (by omega)
    exact g 624 i_tab6_6 (by omega) (by omega)
  · have s := List.all_eq_true.mp i_tab5 (n - 1) (by simp only [List.mem_range]; omega)
    simp only [show n - 1 + 1 = n by omega] at s
    exact List.all_eq_true.mp s k (by simpa using hk)

theorem i_ok {n k : Nat} (n1 : 1 ≤ n) (n6 : n ≤ 6) (hk : k < flatT n) : ∃ h, treeS n k = some h ∧ treeM (n : Int) (k : Int) = some h ∧ h.length ≤ 6 := by
  have := i_tab n1 n6 hk
  unfold chkI at this
  split at this
  · rename_i h e
    rw [fL_eq, Bool.and_eq_true, beq_iff_eq] at this
    exact ⟨h, e, this.2, Nat.le_of_ble_eq_true this.1⟩
  · cases this

theorem atS_short (n k : Int) : (atS n k).2.length ≤ 6 := by
  unfold atS
  split
  · rename_i b
    have b1 := b.1
    have b2 := b.2
    obtain ⟨h, e, _, l⟩ := i_ok (n := n.toNat) (k := k.toNat) (by omega) (by omega) (by omega)
    simp only [e, Option.getD_some]
    exact l
  · simp

/-- What the model tells of a number. -/
theorem specAtI_eq (n k : Int) : spec_FlatAt n k = some (atS n k) := by
  unfold spec_FlatAt spec_FlatAt_n1 atS
  rw [specIn_eq]
  by_cases h : 1 ≤ n ∧ n ≤ 6
  · obtain ⟨m, rfl⟩ : ∃ k : Nat, n = (k : Int) := ⟨n.toNat, by omega⟩
    have := flatT_le m
    rw [decide_eq_true h.1, decide_eq_true h.2]
    simp only [Option.bind_some, Bool.and_self, Bool.not_true, cond_false, specFlatN (n := m) (by omega), specIn_eq]
    rw [wrap64 (by omega) (by omega)]
    by_cases hk : 0 ≤ k ∧ k ≤ (flatT m : Int) - 1
    · obtain ⟨j, rfl⟩ : ∃ j : Nat, k = (j : Int) := ⟨k.toNat, by omega⟩
      have b : atB (m : Int) (j : Int) := ⟨h, hk.1, by simp only [Int.toNat_natCast]; omega⟩
      obtain ⟨t, ht, _⟩ := i_ok (n := m) (k := j) (by omega) (by omega) (by omega)
      rw [decide_eq_true hk.1, decide_eq_true hk.2, if_pos b]
      simp only [Bool.and_self, Bool.not_true, cond_false, Int.toNat_natCast, ht, Option.getD_some]
      have hm : mk (m : Int) (m : Int) = some m := by unfold mk; rw [if_pos (by omega)]; rfl
      rw [hm, spec4Tree_eq]
      simp only [Option.bind_some]
      unfold treeS at ht
      rw [ht]
      rfl
    · have b : ¬ atB (m : Int) k := by
        rintro ⟨_, h1, h2⟩
        simp only [Int.toNat_natCast] at h2
        exact hk ⟨h1, by omega⟩
      rw [if_neg b]
      have : (decide (0 ≤ k) && decide (k ≤ (flatT m : Int) - 1)) = false := by
        rw [Bool.eq_false_iff]
        intro x
        simp only [Bool.and_eq_true, decide_eq_true_eq] at x
        exact hk x
      rw [this]
      rfl
  · have b : ¬ atB n k := fun x => h x.1
    rw [if_neg b]
    have : (decide (1 ≤ n) && decide (n ≤ 6)) = false := by
      rw [Bool.eq_false_iff]
      intro x
      simp only [Bool.and_eq_true, decide_eq_true_eq] at x
      exact h x
    rw [this]
    rfl

theorem implAt_eq (n k : Int) : impl_FlatAt n k = some (atS n k) := by
  unfold atS
  unfold impl_FlatAt impl_FlatAt_n1
  rw [implCountFlat_eq]
  by_cases b : atB n k
  · obtain ⟨m, rfl⟩ : ∃ m : Nat, n = (m : Int) := ⟨n.toNat, by have := b.1; omega⟩
    obtain ⟨j, rfl⟩ : ∃ j : Nat, k = (j : Int) := ⟨k.toNat, by have := b.2; omega⟩
    have b1 := b.1
    have b2 := b.2
    simp only [Int.toNat_natCast] at b2
    have hc : cntI (m : Int) = (flatT m : Int) := by unfold cntI; rw [if_pos b1, Int.toNat_natCast]
    obtain ⟨t, h0, ht, _⟩ := i_ok (n := m) (k := j) (by omega) (by omega) (by omega)
    unfold treeM at ht
    simp only [Int.toNat_natCast] at ht
    have hm : mk (m : Int) (m : Int) = some m := by unfold mk; rw [if_pos (by omega)]; rfl
    rw [if_pos b, decide_eq_false (show ¬ (j : Int) < 0 by omega)]
    simp only [hc, Option.bind_some, cond_false]
    rw [decide_eq_false (show ¬ (j : Int) ≥ (flatT m : Int) by omega), hm]
    simp only [implParts_eq, Option.bind_some, cond_false, ht, h0, Int.toNat_natCast, Option.getD_some]
  · rw [if_neg b]
    by_cases h0 : k < 0
    · rw [decide_eq_true h0]
      rfl
    · rw [decide_eq_false h0]
      simp only [Option.bind_some, cond_false]
      have : k ≥ cntI n := by
        unfold cntI
        split
        · rename_i h
          have : ¬ k < (flatT n.toNat : Int) := fun x => b ⟨h, by omega, x⟩
          omega
        · omega
      rw [decide_eq_true this]
      rfl

end Go.Rv
