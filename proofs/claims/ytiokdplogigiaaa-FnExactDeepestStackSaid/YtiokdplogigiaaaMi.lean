/-
  Counts of trees, orders, trees put in an order. Conditions: none.
-/
import Derived.Test.YtiokdplogigiaaaMe
set_option linter.unusedVariables false
set_option linter.unusedSimpArgs false
namespace Go.Rv

/-! Orders -/

def dupB (o : List Int) : Bool := (List.range o.length).any fun j => (List.range j).any fun i => o.getD i 0 == o.getD j 0
def orderAll (o : List Int) (m : Int) : Bool := o.all (fun x => decide (1 ≤ x) && decide (x ≤ m)) && !dupB o
def orderB (o : List Int) (m : Int) : Bool := decide (1 ≤ m) && decide (m ≤ 8) && (((o.length : Nat) : Int) == m) && orderAll o m

def OrderP (o : List Int) (m : Int) : Prop := (∀ (k : Nat) (hk : k < o.length), 1 ≤ o[k] ∧ o[k] ≤ m) ∧ ∀ (i j : Nat) (hij : i < j) (hj : j < o.length), o[i] ≠ o[j]

theorem orderAll_iff (o : List Int) (m : Int) : orderAll o m = true ↔ OrderP o m := by
  unfold orderAll dupB OrderP
  simp only [Bool.and_eq_true, List.all_eq_true, decide_eq_true_eq, Bool.not_eq_true', List.any_eq_false, List.mem_range]
  constructor
  · rintro ⟨h1, h2⟩
    refine ⟨fun k hk => h1 _ (List.getElem_mem hk), fun i j hij hj e => ?_⟩
    have := h2 j hj
    rw [List.any_eq_true] at this
    refine this ⟨i, by simpa using hij, ?_⟩
    simp [List.getD, hj, show i < o.length by omega, e]
  · rintro ⟨h1, h2⟩
    refine ⟨fun x hx => ?_, fun j hj => ?_⟩
    · obtain ⟨k, hk, rfl⟩ := List.getElem_of_mem hx
      exact h1 k hk
    · rw [List.any_eq_true]
      rintro ⟨i, hi, e⟩
      have hi' : i < j := by simpa using hi
      simp only [List.getD, List.getElem?_eq_getElem hj, List.getElem?_eq_getElem (show i < o.length by omega), Option.getD_some, beq_iff_eq] at e
      exact h2 i j hi' hj e

theorem orderAll_false {o : List Int} {m : Int} (h : ¬ OrderP o m) : orderAll o m = false := by
  cases e : orderAll o m with
  | false => rfl
  | true => exact absurd ((orderAll_iff o m).1 e) h

theorem mem_take {o : List Int} {k : Nat} {x : Int} (hk : k ≤ o.length) : x ∈ o.take k ↔ ∃ (i : Nat) (hi : i < k), o[i]'(by omega) = x := by
  constructor
  · intro h
    obtain ⟨i, hi, e⟩ := List.getElem_of_mem h
    have hi' : i < k := by simp at hi; omega
    exact ⟨i, hi', by simpa using e⟩
  · rintro ⟨i, hi, e⟩
    have : (o.take k)[i]'(by simp; omega) = x := by simpa using e
    rw [← this]; exact List.getElem_mem _

end Go.Rv
