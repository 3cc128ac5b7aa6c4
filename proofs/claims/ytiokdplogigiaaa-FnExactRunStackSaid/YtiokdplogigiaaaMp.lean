/-
  Plain mathematics: orders, turned round and drawn. Conditions: none.
-/
import Derived.Test.YtiokdplogigiaaaMj
set_option linter.unusedVariables false
set_option linter.unusedSimpArgs false
namespace Go.Rv

theorem orderP_iff (o : List Int) (m : Int) : OrderP o m ↔ (∀ x ∈ o, 1 ≤ x ∧ x ≤ m) ∧ o.Nodup := by
  unfold OrderP List.Nodup
  rw [List.pairwise_iff_getElem]
  constructor
  · rintro ⟨h1, h2⟩
    refine ⟨fun x hx => ?_, fun i j hi hj hij => h2 i j hij hj⟩
    obtain ⟨k, hk, rfl⟩ := List.getElem_of_mem hx
    exact h1 k hk
  · rintro ⟨h1, h2⟩
    exact ⟨fun k hk => h1 _ (List.getElem_mem hk), fun i j hij hj => h2 i j (by omega) hj hij⟩

theorem order_mem {o : List Int} (hP : OrderP o (o.length : Nat)) {v : Int} (h1 : 1 ≤ v) (h2 : v ≤ (o.length : Nat)) : v ∈ o := by
  rw [orderP_iff] at hP
  obtain ⟨hr, hn⟩ := hP
  apply Classical.byContradiction
  intro hv
  have hn' : (v :: o).Nodup := List.nodup_cons.2 ⟨hv, hn⟩
  have := List.Nodup.length_le_of_subset (l₂ := (List.range o.length).map fun k => ((k + 1 : Nat) : Int)) hn' (by
    intro x hx
    rw [List.mem_map]
    have hx' : 1 ≤ x ∧ x ≤ (o.length : Nat) := by
      rcases List.mem_cons.1 hx with rfl | h
      · exact ⟨h1, h2⟩
      · exact hr x h
    exact ⟨x.toNat - 1, by rw [List.mem_range]; omega, by omega⟩)
  simp at this
  omega

theorem orderB_iff (o : List Int) (m : Int) : orderB o m = true ↔ 1 ≤ m ∧ m ≤ 8 ∧ (o.length : Int) = m ∧ OrderP o m := by
  unfold orderB
  simp only [Bool.and_eq_true, decide_eq_true_eq, beq_iff_eq, orderAll_iff]
  constructor
  · rintro ⟨⟨⟨a, b⟩, c⟩, d⟩; exact ⟨a, b, c, d⟩
  · rintro ⟨a, b, c, d⟩; exact ⟨⟨⟨a, b⟩, c⟩, d⟩

theorem orderB_reverse (o : List Int) (m : Int) : orderB o.reverse m = orderB o m := by
  rw [Bool.eq_iff_iff, orderB_iff, orderB_iff, orderP_iff, orderP_iff]
  have e : o.reverse.Nodup ↔ o.Nodup := (List.reverse_perm o).nodup_iff
  simp only [List.length_reverse, List.mem_reverse, e]

end Go.Rv
