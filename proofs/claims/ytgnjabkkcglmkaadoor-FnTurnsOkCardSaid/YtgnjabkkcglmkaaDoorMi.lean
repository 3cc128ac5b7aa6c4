/-
  Counts of trees, orders, trees put in an order. Conditions: none.
-/
import Derived.Test.YtgnjabkkcglmkaaDoorMe
set_option linter.unusedVariables false
set_option linter.unusedSimpArgs false
namespace Go.Rv

/-! Orders -/

def dupB (o : List Int) : Bool := (List.range o.length).any fun j => (List.range j).any fun i => o.getD i 0 == o.getD j 0
def orderAll (o : List Int) (m : Int) : Bool := o.all (fun x => decide (1 ≤ x) && decide (x ≤ m)) && !dupB o
def orderB (o : List Int) (m : Int) : Bool := decide (1 ≤ m) && decide (m ≤ 8) && (((o.length : Nat) : Int) == m) && orderAll o m

def OrderP (o : List Int) (m : Int) : Prop := (∀ (k : Nat) (hk : k < o.length), 1 ≤ o[k] ∧ o[k] ≤ m) ∧ ∀ (i j : Nat) (hij : i < j) (hj : j < o.length), o[i] ≠ o[j]

theorem orderAll_iff (o : List Int) (m : Int) : orderAll o m = true ↔ OrderP o m := by
  unfold orderAll dupB OrderP
  simp only [Bool.and_eq_true, List.all_eq_true, decide_eq_true_eq, Bool.not_eq_true', List.any_eq_false, List.mem_range]
  constructor
  · rintro ⟨h1, h2⟩
    refine ⟨fun k hk => h1 _ (List.getElem_mem hk), fun i j hij hj e => ?_⟩
    have := h2 j hj
    rw [List.any_eq_true] at this
    refine this ⟨i, by simpa using hij, ?_⟩
    simp [List.getD, hj, show i < o.length by omega, e]
  · rintro ⟨h1, h2⟩
    refine ⟨fun x hx => ?_, fun j hj => ?_⟩
    · obtain ⟨k, hk, rfl⟩ := List.getElem_of_mem hx
      exact h1 k hk
    · rw [List.any_eq_true]
      rintro ⟨i, hi, e⟩
      have hi' : i < j := by simpa using hi
      simp only [List.getD, List.getElem?_eq_getElem hj, List.getElem?_eq_getElem (show i < o.length by omega), Option.getD_some, beq_iff_eq] at e
      exact h2 i j hi' hj e

theorem orderAll_false {o : List Int} {m : Int} (h : ¬ OrderP o m) : orderAll o m = false := by
  cases e : orderAll o m with
  | false => rfl
  | true => exact absurd ((orderAll_iff o m).1 e) h

theorem mem_take {o : List Int} {k : Nat} {x : Int} (hk : k ≤ o.length) : x ∈ o.take k ↔ ∃ (i : Nat) (hi : i < k), o[i]'(by omega) = x := by
  constructor
  · intro h
    obtain ⟨i, hi, e⟩ := List.getElem_of_mem h
    have hi' : i < k := by simp at hi; omega
    exact ⟨i, hi', by simpa using e⟩
  · rintro ⟨i, hi, e⟩
    have : (o.take k)[i]'(by simp; omega) = x := by simpa using e
    rw [← this]; exact List.getElem_mem _

theorem implOrder_eq (o : List Int) (m : Int) : impl_OrderOk o m = some (orderB o m) := by
  unfold impl_OrderOk impl_OrderOk_n9 impl_OrderOk_n1 impl_OrderOk_n8 impl_OrderOk_n6 impl_OrderOk_n2 impl_OrderOk_n5 impl_OrderOk_n4 impl_OrderOk_n7 orderB
  by_cases h1 : m < 1
  · rw [decide_eq_true h1, show decide (1 ≤ m) = false from decide_eq_false (by omega)]; rfl
  rw [decide_eq_false h1, show decide (1 ≤ m) = true from decide_eq_true (by omega)]
  by_cases h2 : m > 8
  · rw [decide_eq_true h2, show decide (m ≤ 8) = false from decide_eq_false (by omega)]; rfl
  rw [decide_eq_false h2, show decide (m ≤ 8) = true from decide_eq_true (by omega)]
  by_cases h3 : ((o.length : Nat) : Int) = m
  · rw [show (((o.length : Nat) : Int) != m) = false by simp [h3], show (((o.length : Nat) : Int) == m) = true by simp [h3]]
    simp only [cond_false, Option.bind_some, Sum.elim_inl, Bool.true_and]
    have hloop := nloop_run (body := fun (s : Int × (List Bool)) => ((impl_OrderOk_n3 m o o.length s.1 s.2).map (Sum.elim (fun (t : Int × (List Bool)) => Sum.inl (t.1, t.2)) (Sum.elim (fun (t : Bool) => Sum.inr (Sum.inl t)) (fun (t : Unit) => Sum.inr (Sum.inr t)))) : Option ((Int × (List Bool)) ⊕ (Bool ⊕ Unit))))
      (I := fun s => ∃ k : Nat, s.1 = (k : Int) ∧ k ≤ o.length ∧ s.2.length = 9 ∧ (∀ v : Nat, v < 9 → s.2[v]? = some (decide ((v : Int) ∈ o.take k))) ∧ OrderP (o.take k) m) (μ := fun s => o.length - s.1.toNat)
      (f := fun _ => cond (orderAll o m) (.inr ()) (.inl false))
      (by
        rintro ⟨_, seen⟩ ⟨k, rfl, hk, hs, hseen, hP⟩
        simp only at hs hseen
        simp only [impl_OrderOk_n3]
        by_cases hlt : k < o.length
        · rw [show decide ((k : Int) < ((o.length : Nat) : Int)) = true from decide_eq_true (by omega), idx_lt hlt, wrap64 (by omega) (by omega)]
          simp only [cond_true, Option.bind_some]
          by_cases c1 : o[k] < 1
          · right
            rw [decide_eq_true c1, orderAll_false (fun hh => by have := (hh.1 k hlt).1; omega)]
            rfl
          rw [decide_eq_false c1]
          by_cases c2 : o[k] > m
          · right
            rw [decide_eq_true c2, orderAll_false (fun hh => by have := (hh.1 k hlt).2; omega)]
            rfl
          rw [decide_eq_false c2]
          obtain ⟨v, hv⟩ : ∃ v : Nat, o[k] = (v : Int) := ⟨o[k].toNat, by omega⟩
          have hv9 : v < 9 := by omega
          have hin : inb o[k] 9 = some v := by rw [hv]; exact inb_nat hv9
          have hsame : same seen.length 9 = some () := by simp [same, hs]
          simp only [cond_false, hsame, hin, Option.bind_some, hseen v hv9]
          by_cases c3 : (v : Int) ∈ o.take k
          · right
            rw [decide_eq_true c3]
            obtain ⟨i, hi, e⟩ := (mem_take hk).1 c3
            rw [orderAll_false (fun hh => hh.2 i k hi hlt (by rw [e, hv]))]
            rfl
          · left
            rw [decide_eq_false c3]
            refine ⟨(((k + 1 : Nat) : Int), seen.set v true), by simp, ⟨k + 1, rfl, hlt, by simpa using hs, fun u hu => ?_, ?_⟩, by simp; omega, trivial⟩
            · rw [List.take_add_one, List.getElem?_eq_getElem hlt, hv]
              simp only [Option.toList_some, List.mem_append, List.mem_singleton]
              by_cases e : v = u
              · subst e
                simp [hs, hv9]
              · rw [List.getElem?_set_ne e, hseen u hu]
                have : ¬ (u : Int) = (v : Int) := by omega
                simp [this]
            · have hl : (o.take (k + 1)).length = k + 1 := by simp; omega
              refine ⟨fun i hi => ?_, fun i j hij hj => ?_⟩
              · rw [hl] at hi
                rw [List.getElem_take]
                by_cases e : i = k
                · subst e; omega
                · have := hP.1 i (by simp; omega)
                  rwa [List.getElem_take] at this
              · rw [hl] at hj
                rw [List.getElem_take, List.getElem_take]
                by_cases e : j = k
                · subst e
                  intro hh
                  exact c3 ((mem_take hk).2 ⟨i, hij, by rw [hh, hv]⟩)
                · have := hP.2 i j hij (by simp; omega)
                  rwa [List.getElem_take, List.getElem_take] at this
        · right
          have e : k = o.length := by omega
          subst e
          rw [List.take_length] at hP
          rw [show decide (((o.length : Nat) : Int) < ((o.length : Nat) : Int)) = false from decide_eq_false (by omega), (orderAll_iff o m).2 hP]
          rfl)
    rw [hloop LL (0, List.replicate 9 false) ⟨0, by simp, by omega, by simp, fun v hv => by rw [List.getElem?_replicate, if_pos hv]; simp, ⟨fun k hk => by simp at hk, fun i j hij hj => by simp at hj⟩⟩ (by simp only [LL]; simp; omega)]
    cases orderAll o m <;> rfl
  · rw [show (((o.length : Nat) : Int) != m) = true by simp [h3], show (((o.length : Nat) : Int) == m) = false by simp [h3]]
    rfl

end Go.Rv
