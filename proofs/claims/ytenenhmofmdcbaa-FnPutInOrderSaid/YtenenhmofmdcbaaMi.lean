/-
  Counts of trees, orders, trees put in an order. Conditions: none.
-/
import Derived.Test.YtenenhmofmdcbaaMf
set_option linter.unusedVariables false
set_option linter.unusedSimpArgs false
namespace Go.Rv

/-! Counts -/

theorem specCount_out (x : Int) (h : x < 1 ∨ 8 < x) : spec_CountTrees x = some (-1) := by
  unfold spec_CountTrees spec_CountTrees_n1
  rw [l1In_eq]
  have e : (decide ((1 : Int) ≤ x) && decide (x ≤ 8)) = false := by
    simp only [Bool.and_eq_false_iff, decide_eq_false_iff_not]; omega
  rw [e]; rfl

theorem implCount_out (x : Int) (h : x < 1 ∨ 8 < x) : impl_CountTrees x = some (-1) := by
  unfold impl_CountTrees impl_CountTrees_n9 impl_CountTrees_n1
  by_cases h1 : x < 1
  · rw [decide_eq_true h1]; rfl
  · rw [decide_eq_false h1, show decide (x > 8) = true from decide_eq_true (by omega)]; rfl

/-- So many trees, so many words. -/
def countI (x : Int) : Int := if x < 1 ∨ 8 < x then -1 else x ^ (x.toNat - 1)

theorem countI_cases (x : Int) : (x < 1 ∨ 8 < x) ∨ x = 1 ∨ x = 2 ∨ x = 3 ∨ x = 4 ∨ x = 5 ∨ x = 6 ∨ x = 7 ∨ x = 8 := by omega

theorem implCount_eq (x : Int) : impl_CountTrees x = some (countI x) := by
  rcases countI_cases x with h | rfl | rfl | rfl | rfl | rfl | rfl | rfl | rfl
  · rw [implCount_out x h, countI, if_pos h]
  all_goals ((show _ = _); kernel_rfl)

theorem specCount_eq (x : Int) : spec_CountTrees x = some (countI x) := by
  rcases countI_cases x with h | rfl | rfl | rfl | rfl | rfl | rfl | rfl | rfl
  · rw [specCount_out x h, countI, if_pos h]
  all_goals ((show _ = _); kernel_rfl)

/-! Orders -/

def dupB (o : List Int) : Bool := (List.range o.length).any fun j => (List.range j).any fun i => o.getD i 0 == o.getD j 0
def orderAll (o : List Int) (m : Int) : Bool := o.all (fun x => decide (1 ≤ x) && decide (x ≤ m)) && !dupB o
def orderB (o : List Int) (m : Int) : Bool := decide (1 ≤ m) && decide (m ≤ 8) && (((o.length : Nat) : Int) == m) && orderAll o m

def OrderP (o : List Int) (m : Int) : Prop := (∀ (k : Nat) (hk : k < o.length), 1 ≤ o[k] ∧ o[k] ≤ m) ∧ ∀ (i j : Nat) (hij : i < j) (hj : j < o.length), o[i] ≠ o[j]

theorem orderAll_iff (o : List Int) (m : Int) : orderAll o m = true ↔ OrderP o m := by
  unfold orderAll dupB OrderP
  simp only [Bool.and_eq_true, List.all_eq_true, decide_eq_true_eq, Bool.not_eq_true', List.any_eq_false, List.mem_range]
  constructor
  · rintro ⟨h1, h2⟩
    refine ⟨fun k hk => h1 _ (List.getElem_mem hk), fun i j hij hj e => ?_⟩
    have := h2 j hj
    rw [List.any_eq_true] at this
    refine this ⟨i, by simpa using hij, ?_⟩
    simp [List.getD, hj, show i < o.length by omega, e]
  · rintro ⟨h1, h2⟩
    refine ⟨fun x hx => ?_, fun j hj => ?_⟩
    · obtain ⟨k, hk, rfl⟩ := List.getElem_of_mem hx
      exact h1 k hk
    · rw [List.any_eq_true]
      rintro ⟨i, hi, e⟩
      have hi' : i < j := by simpa using hi
      simp only [List.getD, List.getElem?_eq_getElem hj, List.getElem?_eq_getElem (show i < o.length by omega), Option.getD_some, beq_iff_eq] at e
      exact h2 i j hi' hj e

theorem orderAll_false {o : List Int} {m : Int} (h : ¬ OrderP o m) : orderAll o m = false := by
  cases e : orderAll o m with
  | false => rfl
  | true => exact absurd ((orderAll_iff o m).1 e) h

theorem mem_take {o : List Int} {k : Nat} {x : Int} (hk : k ≤ o.length) : x ∈ o.take k ↔ ∃ (i : Nat) (hi : i < k), o[i]'(by omega) = x := by
  constructor
  · intro h
    obtain ⟨i, hi, e⟩ := List.getElem_of_mem h
    have hi' : i < k := by simp at hi; omega
    exact ⟨i, hi', by simpa using e⟩
  · rintro ⟨i, hi, e⟩
    have : (o.take k)[i]'(by simp; omega) = x := by simpa using e
    rw [← this]; exact List.getElem_mem _

theorem implOrder_eq (o : List Int) (m : Int) : impl_OrderOk o m = some (orderB o m) := by
  unfold impl_OrderOk impl_OrderOk_n9 impl_OrderOk_n1 impl_OrderOk_n8 impl_OrderOk_n6 impl_OrderOk_n2 impl_OrderOk_n5 impl_OrderOk_n4 impl_OrderOk_n7 orderB
  by_cases h1 : m < 1
  · rw [decide_eq_true h1, show decide (1 ≤ m) = false from decide_eq_false (by omega)]; rfl
  rw [decide_eq_false h1, show decide (1 ≤ m) = true from decide_eq_true (by omega)]
  by_cases h2 : m > 8
  · rw [decide_eq_true h2, show decide (m ≤ 8) = false from decide_eq_false (by omega)]; rfl
  rw [decide_eq_false h2, show decide (m ≤ 8) = true from decide_eq_true (by omega)]
  by_cases h3 : ((o.length : Nat) : Int) = m
  · rw [show (((o.length : Nat) : Int) != m) = false by simp [h3], show (((o.length : Nat) : Int) == m) = true by simp [h3]]
    simp only [cond_false, Option.bind_some, Sum.elim_inl, Bool.true_and]
    have hloop := nloop_run (body := fun (s : Int × (List Bool)) => ((impl_OrderOk_n3 m o o.length s.1 s.2).map (Sum.elim (fun (t : Int × (List Bool)) => Sum.inl (t.1, t.2)) (Sum.elim (fun (t : Bool) => Sum.inr (Sum.inl t)) (fun (t : Unit) => Sum.inr (Sum.inr t)))) : Option ((Int × (List Bool)) ⊕ (Bool ⊕ Unit))))
      (I := fun s => ∃ k : Nat, s.1 = (k : Int) ∧ k ≤ o.length ∧ s.2.length = 9 ∧ (∀ v : Nat, v < 9 → s.2[v]? = some (decide ((v : Int) ∈ o.take k))) ∧ OrderP (o.take k) m) (μ := fun s => o.length - s.1.toNat)
      (f := fun _ => cond (orderAll o m) (.inr ()) (.inl false))
      (by
        rintro ⟨_, seen⟩ ⟨k, rfl, hk, hs, hseen, hP⟩
        simp only at hs hseen
        simp only [impl_OrderOk_n3]
        by_cases hlt : k < o.length
        · rw [show decide ((k : Int) < ((o.length : Nat) : Int)) = true from decide_eq_true (by omega), idx_lt hlt, wrap64 (by omega) (by omega)]
          simp only [cond_true, Option.bind_some]
          by_cases c1 : o[k] < 1
          · right
            rw [decide_eq_true c1, orderAll_false (fun hh => by have := (hh.1 k hlt).1; omega)]
            rfl
          rw [decide_eq_false c1]
          by_cases c2 : o[k] > m
          · right
            rw [decide_eq_true c2, orderAll_false (fun hh => by have := (hh.1 k hlt).2; omega)]
            rfl
          rw [decide_eq_false c2]
          obtain ⟨v, hv⟩ : ∃ v : Nat, o[k] = (v : Int) := ⟨o[k].toNat, by omega⟩
          have hv9 : v < 9 := by omega
          have hin : inb o[k] 9 = some v := by rw [hv]; exact inb_nat hv9
          have hsame : same seen.length 9 = some () := by simp [same, hs]
          simp only [cond_false, hsame, hin, Option.bind_some, hseen v hv9]
          by_cases c3 : (v : Int) ∈ o.take k
          · right
            rw [decide_eq_true c3]
            obtain ⟨i, hi, e⟩ := (mem_take hk).1 c3
            rw [orderAll_false (fun hh => hh.2 i k hi hlt (by rw [e, hv]))]
            rfl
          · left
            rw [decide_eq_false c3]
            refine ⟨(((k + 1 : Nat) : Int), seen.set v true), by simp, ⟨k + 1, rfl, hlt, by simpa using hs, fun u hu => ?_, ?_⟩, by simp; omega, trivial⟩
            · rw [List.take_add_one, List.getElem?_eq_getElem hlt, hv]
              simp only [Option.toList_some, List.mem_append, List.mem_singleton]
              by_cases e : v = u
              · subst e
                simp [hs, hv9]
              · rw [List.getElem?_set_ne e, hseen u hu]
                have : ¬ (u : Int) = (v : Int) := by omega
                simp [this]
            · have hl : (o.take (k + 1)).length = k + 1 := by simp; omega
              refine ⟨fun i hi => ?_, fun i j hij hj => ?_⟩
              · rw [hl] at hi
                rw [List.getElem_take]
                by_cases e : i = k
                · subst e; omega
                · have := hP.1 i (by simp; omega)
                  rwa [List.getElem_take] at this
              · rw [hl] at hj
                rw [List.getElem_take, List.getElem_take]
                by_cases e : j = k
                · subst e
                  intro hh
                  exact c3 ((mem_take hk).2 ⟨i, hij, by rw [hh, hv]⟩)
                · have := hP.2 i j hij (by simp; omega)
                  rwa [List.getElem_take, List.getElem_take] at this
        · right
          have e : k = o.length := by omega
          subst e
          rw [List.take_length] at hP
          rw [show decide (((o.length : Nat) : Int) < ((o.length : Nat) : Int)) = false from decide_eq_false (by omega), (orderAll_iff o m).2 hP]
          rfl)
    rw [hloop LL (0, List.replicate 9 false) ⟨0, by simp, by omega, by simp, fun v hv => by rw [List.getElem?_replicate, if_pos hv]; simp, ⟨fun k hk => by simp at hk, fun i j hij hj => by simp at hj⟩⟩ (by simp only [LL]; simp; omega)]
    cases orderAll o m <;> rfl
  · rw [show (((o.length : Nat) : Int) != m) = true by simp [h3], show (((o.length : Nat) : Int) == m) = false by simp [h3]]
    rfl

theorem specOrder_eq (o : List Int) (m : Int) (hl : o.length ≤ 1048576) : spec_OrderOk o m = some (orderB o m) := by
  unfold spec_OrderOk spec_OrderOk_n18 spec_OrderOk_n1 spec_OrderOk_n17 spec_OrderOk_n15 spec_OrderOk_n2 spec_OrderOk_n14 spec_OrderOk_n13
  have hin : ∀ k, (hk : k < o.length) → spec_OrderOk_n6 o k = some (cond (decide (o[k] ∈ o.take k)) (.inl false) (.inr ())) := fun k hk => by
    unfold spec_OrderOk_n6
    have hloop := nloop_run (body := fun (s : Int) => ((spec_OrderOk_n5 o k s).map (Sum.elim (fun (t : Int) => Sum.inl t) (Sum.elim (fun (t : Bool) => Sum.inr (Sum.inl t)) (fun (t : Unit) => Sum.inr (Sum.inr t)))) : Option ((Int) ⊕ (Bool ⊕ Unit))))
      (I := fun s => ∃ j : Nat, s = (j : Int) ∧ j ≤ k ∧ o[k] ∉ o.take j) (μ := fun s => k - s.toNat) (f := fun _ => cond (decide (o[k] ∈ o.take k)) (.inl false) (.inr ()))
      (by
        rintro _ ⟨j, rfl, hj, hno⟩
        simp only [spec_OrderOk_n5]
        by_cases hlt : j < k
        · rw [show decide ((j : Int) < (k : Int)) = true from decide_eq_true (by omega), idx_lt (show j < o.length by omega), idx_lt hk, wrap64 (by omega) (by omega)]
          simp only [cond_true, Option.bind_some]
          by_cases e : o[j] = o[k]
          · right
            have : o[k] ∈ o.take k := (mem_take (by omega)).2 ⟨j, hlt, e⟩
            rw [decide_eq_true this]
            simp [e]
          · left
            have e1 : (o[j] == o[k]) = false := by simpa using e
            refine ⟨((j + 1 : Nat) : Int), by simp [e1], ⟨j + 1, rfl, hlt, ?_⟩, by simp; omega, trivial⟩
            rw [List.take_add_one, List.getElem?_eq_getElem (by omega)]
            simp only [Option.toList_some, List.mem_append, List.mem_singleton, not_or]
            exact ⟨hno, fun hh => e hh.symm⟩
        · right
          have e : j = k := by omega
          subst e
          rw [show decide ((j : Int) < (j : Int)) = false from decide_eq_false (by omega), decide_eq_false hno]
          rfl)
    exact hloop LL 0 ⟨0, rfl, by omega, by simp⟩ (by simp only [LL]; simp; omega)
  have hloop := nloop_run (body := fun (s : Int) => ((spec_OrderOk_n12 o m s).map (Sum.elim (fun (t : Int) => Sum.inl t) (Sum.elim (fun (t : Bool) => Sum.inr (Sum.inl t)) (fun (t : Unit) => Sum.inr (Sum.inr t)))) : Option ((Int) ⊕ (Bool ⊕ Unit))))
    (I := fun s => ∃ k : Nat, s = (k : Int) ∧ k ≤ o.length ∧ OrderP (o.take k) m) (μ := fun s => o.length - s.toNat) (f := fun _ => cond (orderAll o m) (.inr ()) (.inl false))
    (by
      rintro _ ⟨k, rfl, hk, hP⟩
      simp only [spec_OrderOk_n12, spec_OrderOk_n3]
      by_cases hlt : k < o.length
      · rw [show decide ((k : Int) < ((o.length : Nat) : Int)) = true from decide_eq_true (by omega)]
        simp only [cond_true, Option.bind_some, Sum.elim_inl]
        unfold spec_OrderOk_n11 spec_OrderOk_n9 spec_OrderOk_n8 spec_OrderOk_n4 spec_OrderOk_n7 spec_OrderOk_n10
        rw [idx_lt hlt, wrap64 (by omega) (by omega)]
        simp only [Option.bind_some, l1In_eq, hin k hlt]
        by_cases c : 1 ≤ o[k] ∧ o[k] ≤ m
        · have e1 : (decide (1 ≤ o[k]) && decide (o[k] ≤ m)) = true := by simp [c.1, c.2]
          rw [e1]
          by_cases c3 : o[k] ∈ o.take k
          · right
            obtain ⟨i, hi, e⟩ := (mem_take hk).1 c3
            rw [decide_eq_true c3, orderAll_false (fun hh => hh.2 i k hi hlt e)]
            rfl
          · left
            rw [decide_eq_false c3]
            refine ⟨((k + 1 : Nat) : Int), by simp, ⟨k + 1, rfl, hlt, ?_⟩, by simp; omega, trivial⟩
            have hl : (o.take (k + 1)).length = k + 1 := by simp; omega
            refine ⟨fun i hi => ?_, fun i j hij hj => ?_⟩
            · rw [hl] at hi
              rw [List.getElem_take]
              by_cases e : i = k
              · subst e; exact c
              · have := hP.1 i (by simp; omega)
                rwa [List.getElem_take] at this
            · rw [hl] at hj
              rw [List.getElem_take, List.getElem_take]
              by_cases e : j = k
              · subst e
                exact fun hh => c3 ((mem_take hk).2 ⟨i, hij, hh⟩)
              · have := hP.2 i j hij (by simp; omega)
                rwa [List.getElem_take, List.getElem_take] at this
        · right
          have e1 : (decide (1 ≤ o[k]) && decide (o[k] ≤ m)) = false := by
            simp only [Bool.and_eq_false_iff, decide_eq_false_iff_not]; omega
          rw [e1, orderAll_false (fun hh => c (hh.1 k hlt))]
          rfl
      · right
        have e : k = o.length := by omega
        subst e
        rw [List.take_length] at hP
        rw [show decide (((o.length : Nat) : Int) < ((o.length : Nat) : Int)) = false from decide_eq_false (by omega), (orderAll_iff o m).2 hP]
        rfl)
  simp only [Option.bind_some]
  rw [hloop LL 0 ⟨0, rfl, by omega, ⟨fun k hk => by simp at hk, fun i j hij hj => by simp at hj⟩⟩ (by simp only [LL]; simp; omega)]
  unfold orderB
  cases orderAll o m with
  | false => simp
  | true =>
    simp only [cond_true, Option.map_some, Sum.elim_inr, Option.bind_some, Sum.elim_inl, spec_OrderOk_n16, l1In_eq, Bool.and_true]
    cases (decide (1 ≤ m) && decide (m ≤ 8)) <;> simp

end Go.Rv
