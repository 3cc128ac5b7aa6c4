/-
  Depths, and rows that are marked. Conditions: none.
-/
import Derived.Test.YtenenhmofmdcbaaMe
set_option linter.unusedVariables false
set_option linter.unusedSimpArgs false
namespace Go.Rv

def depRow (h : List Int) : List Int := (List.range h.length).map fun k => (dep h (k + 1) : Int)
def depthsI (h : List Int) : List Int := if treeB h then depRow h else []

theorem depRow_length (h : List Int) : (depRow h).length = h.length := by simp [depRow]
theorem depRow_get (h : List Int) {k : Nat} (hk : k < h.length) : (depRow h)[k]'(by rw [depRow_length]; exact hk) = (dep h (k + 1) : Int) := by simp [depRow]
theorem depRow_drop (h : List Int) {k : Nat} (hk : k < h.length) : (depRow h).drop k = (dep h (k + 1) : Int) :: (depRow h).drop (k + 1) := by
  rw [List.drop_eq_getElem_cons (by rw [depRow_length]; exact hk), depRow_get h hk]

theorem set_take {l : List Int} {k : Nat} {v : Int} (hk : k < l.length) : (l.set k v).take (k + 1) = l.take k ++ [v] := by
  rw [List.take_set, List.take_add_one, List.getElem?_eq_getElem hk]
  have hl : (l.take k).length = k := by simp; omega
  rw [List.set_append_right _ _ (by omega), hl]
  simp

theorem implDepth_eq (h : List Int) : impl_DepthOf h = some (depthsI h) := by
  unfold impl_DepthOf impl_DepthOf_n9 impl_DepthOf_n1 impl_DepthOf_n8 impl_DepthOf_n6 impl_DepthOf_n2 impl_DepthOf_n5 impl_DepthOf_n4 impl_DepthOf_n7 depthsI
  rw [implTree_eq]
  cases hT : treeB h with
  | false => simp
  | true =>
    have T := (tree_iff h).1 hT
    have hle := T.le
    simp only [Option.bind_some, Bool.not_true, cond_false, Sum.elim_inl, if_true, mk_nat (show h.length ≤ 1099511627776 by omega)]
    have hloop := nloop_run (body := fun (s : Int × (List Int)) => ((impl_DepthOf_n3 h h.length s.1 s.2).map (Sum.elim (fun (t : Int × (List Int)) => Sum.inl (t.1, t.2)) (fun (t : (List Int)) => Sum.inr t)) : Option ((Int × (List Int)) ⊕ (((List Int))))))
      (I := fun s => ∃ k : Nat, s.1 = k ∧ k ≤ h.length ∧ s.2.length = h.length) (μ := fun s => h.length - s.1.toNat) (f := fun s => s.2.take s.1.toNat ++ (depRow h).drop s.1.toNat)
      (by
        rintro ⟨_, out⟩ ⟨k, rfl, hk, ho⟩
        simp only at ho
        by_cases hlt : k < h.length
        · left
          refine ⟨((k + 1 : Nat), out.set k (dep h (k + 1))), ?_, ⟨k + 1, rfl, hlt, by simpa using ho⟩, by simp; omega, ?_⟩
          · simp only [impl_DepthOf_n3]
            rw [show decide ((k : Int) < ((h.length : Nat) : Int)) = true from decide_eq_true (by omega), wrap64 (by omega) (by omega), show (k : Int) + 1 = ((k + 1 : Nat) : Int) by omega, steps_eq h (by omega) T.rng k hlt, T.climb_some (by omega) (by omega)]
            simp only [cond_true, Option.bind_some, inb_nat (show k < out.length by omega)]
            simp
          · simp only [Int.toNat_natCast]
            rw [set_take (by omega), depRow_drop h hlt]
            simp
        · right
          have e : k = h.length := by omega
          subst e
          simp only [impl_DepthOf_n3]
          rw [show decide (((h.length : Nat) : Int) < ((h.length : Nat) : Int)) = false from decide_eq_false (by omega)]
          simp [List.take_of_length_le (Nat.le_of_eq ho), List.drop_of_length_le (Nat.le_of_eq (depRow_length h))])
    rw [hloop LL (0, List.replicate h.length 0) ⟨0, by simp, by omega, by simp⟩ (by simp only [LL]; simp; omega)]
    simp

theorem specDepth_eq (h : List Int) (hl : h.length ≤ 1048576) : spec_DepthOf h = some (depthsI h) := by
  unfold spec_DepthOf spec_DepthOf_n22 spec_DepthOf_n1 spec_DepthOf_n21 spec_DepthOf_n19 spec_DepthOf_n2 spec_DepthOf_n18 spec_DepthOf_n17 spec_DepthOf_n20 depthsI
  simp only [Option.bind_some]
  cases hT : treeB h with
  | false =>
    have hloop := nloop_run (body := fun (s : Int × (List Int)) => ((spec_DepthOf_n16 h s.1 s.2).map (Sum.elim (fun (t : Int × (List Int)) => Sum.inl (t.1, t.2)) (fun (t : (List Int)) => Sum.inr t)) : Option ((Int × (List Int)) ⊕ (((List Int))))))
      (I := fun s => s = (0, [])) (μ := fun s => 0) (f := fun s => [])
      (by
        rintro _ rfl
        right
        simp only [spec_DepthOf_n16, spec_DepthOf_n3]
        rw [specTree_eq, hT]
        by_cases h0 : (0 : Int) < ((h.length : Nat) : Int)
        · rw [decide_eq_true h0]; simp
        · rw [decide_eq_false h0]; simp)
    rw [hloop LL (0, []) rfl (by simp [LL])]
    simp
  | true =>
    have T := (tree_iff h).1 hT
    have hle := T.le
    have hinner : ∀ k, k < h.length → spec_DepthOf_n7 h ((k + 1 : Nat) : Int) = some (dep h (k + 1) : Int) := fun k hk => by
      unfold spec_DepthOf_n7
      have hloop := nloop_run (body := fun (s : Int × Int) => ((spec_DepthOf_n6 h s.1 s.2).map (Sum.elim (fun (t : Int × Int) => Sum.inl (t.1, t.2)) (fun (t : Int) => Sum.inr t)) : Option ((Int × Int) ⊕ (Int))))
        (I := fun s => ∃ i k : Nat, s = ((i : Int), ((k + 1 : Nat) : Int)) ∧ k < h.length ∧ i + dep h (k + 1) < h.length) (μ := fun s => dep h s.2.toNat) (f := fun s => s.1 + (dep h s.2.toNat : Int))
        (by
          rintro _ ⟨i, k, rfl, hk, hi⟩
          have hg := T.get (w := k + 1) (by omega) (by omega)
          rw [show k + 1 - 1 = k by omega, List.getElem?_eq_getElem hk] at hg
          have hg' : h[k] = ((hd h (k + 1) : Nat) : Int) := by simpa using hg
          simp only [spec_DepthOf_n6]
          rw [wrap64 (x := ((k + 1 : Nat) : Int) - 1) (by omega) (by omega), show ((k + 1 : Nat) : Int) - 1 = (k : Int) by omega, idx_lt hk, wrap64 (by omega) (by omega)]
          simp only [Option.bind_some]
          by_cases e : hd h (k + 1) = 0
          · right
            have ht := (T.hd_zero (w := k + 1) (by omega) (by omega)).1 e
            have hd0 : dep h (((k + 1 : Nat) : Int)).toNat = 0 := by
              show dep h (k + 1) = 0
              rw [ht]; exact T.dep_top
            rw [show decide (h[k] > 0) = false from decide_eq_false (by omega), hd0]
            simp
          · left
            have hs := T.dep_step (w := k + 1) (by omega) (by omega) e
            have hle2 := T.hd_le (w := k + 1) (by omega) (by omega)
            rw [show decide (h[k] > 0) = true from decide_eq_true (by omega)]
            refine ⟨(((i + 1 : Nat) : Int), h[k]), by simp, ⟨i + 1, hd h (k + 1) - 1, ?_, by omega, ?_⟩, ?_, ?_⟩
            · rw [hg', show hd h (k + 1) - 1 + 1 = hd h (k + 1) by omega]
            · rw [show hd h (k + 1) - 1 + 1 = hd h (k + 1) by omega]; omega
            · simp only [hg', Int.toNat_natCast]; omega
            · simp only [hg', Int.toNat_natCast]
              rw [hs]
              simp; omega)
      have hdl := T.dep_lt (w := k + 1) (by omega) (by omega)
      rw [hloop LL (0, ((k + 1 : Nat) : Int)) ⟨0, k, rfl, hk, by omega⟩ (by simp only [LL, Int.toNat_natCast]; omega)]
      simp
    have hloop := nloop_run (body := fun (s : Int × (List Int)) => ((spec_DepthOf_n16 h s.1 s.2).map (Sum.elim (fun (t : Int × (List Int)) => Sum.inl (t.1, t.2)) (fun (t : (List Int)) => Sum.inr t)) : Option ((Int × (List Int)) ⊕ (((List Int))))))
      (I := fun s => ∃ k : Nat, s.1 = (k : Int) ∧ k ≤ h.length ∧ s.2.length ≤ k) (μ := fun s => h.length - s.1.toNat) (f := fun s => s.2 ++ (depRow h).drop s.1.toNat)
      (by
        rintro ⟨_, out⟩ ⟨k, rfl, hk, ho⟩
        simp only at ho
        simp only [spec_DepthOf_n16, spec_DepthOf_n3]
        rw [specTree_eq, hT]
        by_cases hlt : k < h.length
        · left
          refine ⟨((k + 1 : Nat), out ++ [(dep h (k + 1) : Int)]), ?_, ⟨k + 1, rfl, hlt, by simp; omega⟩, by simp; omega, ?_⟩
          · rw [show decide ((k : Int) < ((h.length : Nat) : Int)) = true from decide_eq_true (by omega)]
            simp only [cond_true, Option.bind_some, Sum.elim_inl]
            unfold spec_DepthOf_n15 spec_DepthOf_n13 spec_DepthOf_n12 spec_DepthOf_n4 spec_DepthOf_n14 spec_DepthOf_n11 spec_DepthOf_n9 spec_DepthOf_n5 spec_DepthOf_n8 spec_DepthOf_n10
            rw [wrap64 (by omega) (by omega), show (k : Int) + 1 = ((k + 1 : Nat) : Int) by omega]
            simp only [Option.bind_some, hinner k hlt, Option.map_some, room_le (show out.length + [(dep h (k + 1) : Int)].length ≤ 1099511627776 by simp; omega)]
            simp
          · simp only [Int.toNat_natCast]
            rw [depRow_drop h hlt]
            simp
        · right
          have e : k = h.length := by omega
          subst e
          rw [show decide (((h.length : Nat) : Int) < ((h.length : Nat) : Int)) = false from decide_eq_false (by omega)]
          simp [List.drop_of_length_le (Nat.le_of_eq (depRow_length h))])
    rw [hloop LL (0, []) ⟨0, by simp, by omega, by simp⟩ (by simp only [LL]; simp; omega)]
    simp

theorem depthsI_length (h : List Int) : (depthsI h).length ≤ h.length := by
  unfold depthsI
  split
  · rw [depRow_length]; exact Nat.le_refl _
  · simp

end Go.Rv
