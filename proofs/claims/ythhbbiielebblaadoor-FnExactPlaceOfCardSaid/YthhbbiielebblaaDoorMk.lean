/-
  The model's root. Conditions: none.
-/
import Derived.Test.YthhbbiielebblaaDoorMer
set_option linter.unusedVariables false
set_option linter.unusedSimpArgs false
namespace Go.Rv

theorem specRoot_eq (h : List Int) (hl : h.length ≤ 1048576) : spec_RootOf h = some (rootI h) := by
  unfold spec_RootOf spec_RootOf_n9 spec_RootOf_n1 spec_RootOf_n8 spec_RootOf_n6 spec_RootOf_n2 spec_RootOf_n5 spec_RootOf_n4 spec_RootOf_n7 rootI
  simp only [Option.bind_some]
  cases hT : treeB h with
  | false =>
    have hloop := nloop_run (body := fun (s : Int) => ((spec_RootOf_n3 h s).map (Sum.elim (fun (t : Int) => Sum.inl t) (Sum.elim (fun (t : Int) => Sum.inr (Sum.inl t)) (fun (t : Unit) => Sum.inr (Sum.inr t)))) : Option ((Int) ⊕ (Int ⊕ Unit))))
      (I := fun s => s = 0) (μ := fun s => 0) (f := fun s => .inr ())
      (by
        rintro _ rfl
        right
        simp only [spec_RootOf_n3]
        rw [specTree_eq, hT]
        by_cases h0 : (0 : Int) < ((h.length : Nat) : Int)
        · rw [decide_eq_true h0]; simp
        · rw [decide_eq_false h0]; simp)
    rw [hloop LL 0 rfl (by simp [LL])]
    simp
  | true =>
    have T := (tree_iff h).1 hT
    have hloop := nloop_run (body := fun (s : Int) => ((spec_RootOf_n3 h s).map (Sum.elim (fun (t : Int) => Sum.inl t) (Sum.elim (fun (t : Int) => Sum.inr (Sum.inl t)) (fun (t : Unit) => Sum.inr (Sum.inr t)))) : Option ((Int) ⊕ (Int ⊕ Unit))))
      (I := fun s => ∃ k : Nat, s = (k : Int) ∧ k < top h) (μ := fun s => h.length - s.toNat) (f := fun s => .inl (top h : Int))
      (by
        rintro _ ⟨k, rfl, hk⟩
        have ht := T.top_le
        have hlt : k < h.length := by omega
        have hg := T.get (w := k + 1) (by omega) (by omega)
        rw [show k + 1 - 1 = k by omega, List.getElem?_eq_getElem hlt] at hg
        have hg' : h[k] = ((hd h (k + 1) : Nat) : Int) := by simpa using hg
        simp only [spec_RootOf_n3]
        rw [specTree_eq, hT, show decide ((k : Int) < ((h.length : Nat) : Int)) = true from decide_eq_true (by omega), idx_lt hlt, wrap64 (by omega) (by omega)]
        simp only [cond_true, Option.bind_some]
        by_cases e : hd h (k + 1) = 0
        · right
          have := (T.hd_zero (w := k + 1) (by omega) (by omega)).1 e
          have e1 : h[k] = 0 := by omega
          simp [e1]; omega
        · left
          have hne : k + 1 ≠ top h := fun hh => e ((T.hd_zero (by omega) (by omega)).2 hh)
          have e1 : (h[k] == 0) = false := by simp; omega
          refine ⟨((k + 1 : Nat) : Int), by simp [e1], ⟨k + 1, rfl, by omega⟩, by simp; omega, trivial⟩)
    rw [hloop LL 0 ⟨0, rfl, (top_pos h)⟩ (by simp only [LL]; simp; omega)]
    simp

end Go.Rv
