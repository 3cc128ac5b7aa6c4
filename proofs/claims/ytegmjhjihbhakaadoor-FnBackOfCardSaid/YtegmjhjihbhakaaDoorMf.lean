/-
  Depths, and rows that are marked. Conditions: none.
-/
import Derived.Test.YtegmjhjihbhakaaDoorMe
set_option linter.unusedVariables false
set_option linter.unusedSimpArgs false
namespace Go.Rv

def depRow (h : List Int) : List Int := (List.range h.length).map fun k => (dep h (k + 1) : Int)
def depthsI (h : List Int) : List Int := if treeB h then depRow h else []

theorem depRow_length (h : List Int) : (depRow h).length = h.length := by simp [depRow]
theorem depRow_get (h : List Int) {k : Nat} (hk : k < h.length) : (depRow h)[k]'(by rw [depRow_length]; exact hk) = (dep h (k + 1) : Int) := by simp [depRow]
theorem depRow_drop (h : List Int) {k : Nat} (hk : k < h.length) : (depRow h).drop k = (dep h (k + 1) : Int) :: (depRow h).drop (k + 1) := by
  rw [List.drop_eq_getElem_cons (by rw [depRow_length]; exact hk), depRow_get h hk]

theorem implDepth_eq (h : List Int) : impl_DepthOf h = some (depthsI h) := by
  unfold impl_DepthOf impl_DepthOf_n9 impl_DepthOf_n1 impl_DepthOf_n8 impl_DepthOf_n6 impl_DepthOf_n2 impl_DepthOf_n5 impl_DepthOf_n4 impl_DepthOf_n7 depthsI
  rw [implTree_eq]
  cases hT : treeB h with
  | false => simp
  | true =>
    have T := (tree_iff h).1 hT
    have hle := T.le
    simp only [Option.bind_some, Bool.not_true, cond_false, Sum.elim_inl, if_true, mk_nat (show h.length ≤ 1099511627776 by omega)]
    have hloop := nloop_run (body := fun (s : Int × (List Int)) => ((impl_DepthOf_n3 h h.length s.1 s.2).map (Sum.elim (fun (t : Int × (List Int)) => Sum.inl (t.1, t.2)) (fun (t : (List Int)) => Sum.inr t)) : Option ((Int × (List Int)) ⊕ (((List Int))))))
      (I := fun s => ∃ k : Nat, s.1 = k ∧ k ≤ h.length ∧ s.2.length = h.length) (μ := fun s => h.length - s.1.toNat) (f := fun s => s.2.take s.1.toNat ++ (depRow h).drop s.1.toNat)
      (by
        rintro ⟨_, out⟩ ⟨k, rfl, hk, ho⟩
        simp only at ho
        by_cases hlt : k < h.length
        · left
          refine ⟨((k + 1 : Nat), out.set k (dep h (k + 1))), ?_, ⟨k + 1, rfl, hlt, by simpa using ho⟩, by simp; omega, ?_⟩
          · simp only [impl_DepthOf_n3]
            rw [show decide ((k : Int) < ((h.length : Nat) : Int)) = true from decide_eq_true (by omega), wrap64 (by omega) (by omega), show (k : Int) + 1 = ((k + 1 : Nat) : Int) by omega, steps_eq h (by omega) T.rng k hlt, T.climb_some (by omega) (by omega)]
            simp only [cond_true, Option.bind_some, inb_nat (show k < out.length by omega)]
            simp
          · simp only [Int.toNat_natCast]
            rw [set_take (by omega), depRow_drop h hlt]
            simp
        · right
          have e : k = h.length := by omega
          subst e
          simp only [impl_DepthOf_n3]
          rw [show decide (((h.length : Nat) : Int) < ((h.length : Nat) : Int)) = false from decide_eq_false (by omega)]
          simp [List.take_of_length_le (Nat.le_of_eq ho), List.drop_of_length_le (Nat.le_of_eq (depRow_length h))])
    rw [hloop LL (0, List.replicate h.length 0) ⟨0, by simp, by omega, by simp⟩ (by simp only [LL]; simp; omega)]
    simp

theorem depthsI_length (h : List Int) : (depthsI h).length ≤ h.length := by
  unfold depthsI
  split
  · rw [depRow_length]; exact Nat.le_refl _
  · simp

end Go.Rv
