/-
  Rows that are marked. Conditions: none.
-/
import Derived.Test.YtiokdplogigiaaaMe
set_option linter.unusedVariables false
set_option linter.unusedSimpArgs false
namespace Go.Rv

/-! Marks -/

def marks (k n : Nat) : List Int := (List.range n).map fun i => ((k + i : Nat) : Int)
theorem marks_length (k n : Nat) : (marks k n).length = n := by simp [marks]
theorem marks_get (k n : Nat) {i : Nat} (hi : i < n) : (marks k n)[i]'(by rw [marks_length]; exact hi) = ((k + i : Nat) : Int) := by simp [marks]
theorem marks_drop (k n : Nat) {i : Nat} (hi : i < n) : (marks k n).drop i = ((k + i : Nat) : Int) :: (marks k n).drop (i + 1) := by
  rw [List.drop_eq_getElem_cons (by rw [marks_length]; exact hi), marks_get k n hi]

theorem markIntS_eq (k : Nat) (xs : List Int) (h : xs.length ≤ 1048576) (hk : k ≤ 1099511627776) : laws_markIntS k xs = some (((k + xs.length : Nat) : Int), marks k xs.length) := by
  unfold laws_markIntS laws_markIntS_n9 laws_markIntS_n1 laws_markIntS_n8 laws_markIntS_n6 laws_markIntS_n2 laws_markIntS_n5 laws_markIntS_n4 laws_markIntS_n7
  have hloop := nloop_run (body := fun (s : Int × Int × (List Int)) => ((laws_markIntS_n3 s.1 s.2.1 s.2.2).map (Sum.elim (fun (t : Int × Int × (List Int)) => Sum.inl (t.1, t.2.1, t.2.2)) (fun (t : Int × (List Int)) => Sum.inr t)) : Option ((Int × Int × (List Int)) ⊕ ((Int × (List Int))))))
    (I := fun s => ∃ i : Nat, s.1 = ((k + i : Nat) : Int) ∧ s.2.1 = (i : Int) ∧ i ≤ xs.length ∧ s.2.2.length = xs.length) (μ := fun s => xs.length - s.2.1.toNat)
    (f := fun s => (((k + xs.length : Nat) : Int), s.2.2.take s.2.1.toNat ++ (marks k xs.length).drop s.2.1.toNat))
    (by
      rintro ⟨_, _, out⟩ ⟨i, rfl, rfl, hi, ho⟩
      simp only at ho
      simp only [laws_markIntS_n3, Int.toNat_natCast]
      by_cases hlt : i < xs.length
      · left
        refine ⟨(((k + (i + 1) : Nat) : Int), ((i + 1 : Nat) : Int), out.set i ((k + i : Nat) : Int)), ?_, ⟨i + 1, rfl, rfl, hlt, by simpa using ho⟩, by simp; omega, ?_⟩
        · rw [show decide ((i : Int) < ((out.length : Nat) : Int)) = true from decide_eq_true (by omega), inb_nat (show i < out.length by omega), wrap64 (by omega) (by omega), wrap64 (by omega) (by omega)]
          simp; omega
        · simp only [Int.toNat_natCast]
          rw [set_take (by omega), marks_drop k xs.length hlt]
          simp
      · right
        have e : i = xs.length := by omega
        rw [show decide ((i : Int) < ((out.length : Nat) : Int)) = false from decide_eq_false (by omega)]
        subst e
        simp [List.take_of_length_le (Nat.le_of_eq ho), List.drop_of_length_le (Nat.le_of_eq (marks_length k xs.length))])
  simp only [Option.bind_some]
  rw [hloop LL ((k : Int), 0, xs) ⟨0, by simp, by simp, by omega, rfl⟩ (by simp only [LL]; simp; omega)]
  simp

theorem heldIntS_eq (k n : Nat) (h : n ≤ 1048576) (hk : k ≤ 1099511627776) : laws_heldIntS (marks k n) k = some ((k + n : Nat) : Int) := by
  unfold laws_heldIntS laws_heldIntS_n9 laws_heldIntS_n1 laws_heldIntS_n8 laws_heldIntS_n6 laws_heldIntS_n2 laws_heldIntS_n5 laws_heldIntS_n4 laws_heldIntS_n7
  have hloop := nloop_run (body := fun (s : Int × Int) => ((laws_heldIntS_n3 (marks k n) s.1 s.2).map (Sum.elim (fun (t : Int × Int) => Sum.inl (t.1, t.2)) (Sum.elim (fun (t : Int) => Sum.inr (Sum.inl t)) (fun (t : Int) => Sum.inr (Sum.inr t)))) : Option ((Int × Int) ⊕ (Int ⊕ Int))))
    (I := fun s => ∃ i : Nat, s = (((k + i : Nat) : Int), (i : Int)) ∧ i ≤ n) (μ := fun s => n - s.2.toNat) (f := fun s => .inr ((k + n : Nat) : Int))
    (by
      rintro _ ⟨i, rfl, hi⟩
      simp only [laws_heldIntS_n3, marks_length]
      by_cases hlt : i < n
      · left
        refine ⟨(((k + (i + 1) : Nat) : Int), ((i + 1 : Nat) : Int)), ?_, ⟨i + 1, rfl, hlt⟩, by simp; omega, trivial⟩
        rw [show decide ((i : Int) < ((n : Nat) : Int)) = true from decide_eq_true (by omega), idx_lt (by rw [marks_length]; exact hlt), marks_get k n hlt, wrap64 (by omega) (by omega), wrap64 (by omega) (by omega)]
        simp; omega
      · right
        have e : i = n := by omega
        subst e
        rw [show decide ((i : Int) < ((i : Nat) : Int)) = false from decide_eq_false (by omega)]
        simp)
  simp only [Option.bind_some]
  rw [hloop LL ((k : Int), 0) ⟨0, by simp, by omega⟩ (by simp only [LL]; simp; omega)]
  simp

end Go.Rv
