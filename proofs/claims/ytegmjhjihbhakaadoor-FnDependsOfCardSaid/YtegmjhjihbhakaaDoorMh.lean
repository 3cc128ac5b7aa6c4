/-
  Plain mathematics: numbers in a list, lists that ascend. Conditions: none.
-/
import Derived.Test.YtegmjhjihbhakaaDoorGN
import Derived.Test.YtegmjhjihbhakaaDoorMa
set_option linter.unusedVariables false
set_option linter.unusedSimpArgs false
namespace Go.Rv

theorem hasInt_eq (o : List Int) (v : Int) (hl : o.length ≤ 1048576) : laws_hasInt o v = some (decide (v ∈ o)) := by
  have e : laws_hasInt o v = laws_hasInt_n9 o v := by unfold laws_hasInt; rfl
  rw [e]
  unfold laws_hasInt_n9 laws_hasInt_n1 laws_hasInt_n8 laws_hasInt_n6 laws_hasInt_n5 laws_hasInt_n4 laws_hasInt_n2 laws_hasInt_n7
  have hloop := nloop_run (body := fun (s : Int) => ((laws_hasInt_n3 o v s).map (Sum.elim (fun (t : Int) => Sum.inl t) (Sum.elim (fun (t : Bool) => Sum.inr (Sum.inl t)) (fun (t : Unit) => Sum.inr (Sum.inr t)))) : Option ((Int) ⊕ (Bool ⊕ Unit))))
    (I := fun s => ∃ k : Nat, s = k ∧ k ≤ o.length) (μ := fun s => o.length - s.toNat) (f := fun s => cond (decide (v ∈ o.drop s.toNat)) (.inl true) (.inr ()))
    (by
      rintro _ ⟨k, rfl, hk⟩
      simp only [laws_hasInt_n3]
      by_cases hlt : k < o.length
      · rw [show decide ((k : Int) < ((o.length : Nat) : Int)) = true from decide_eq_true (by omega)]
        simp only [cond_true, idx_lt hlt, Option.bind_some, Int.toNat_natCast]
        rw [wrap64 (by omega) (by omega)]
        simp only [List.drop_eq_getElem_cons hlt]
        by_cases he : o[k] = v
        · right
          have e1 : (o[k] == v) = true := by simpa using he
          rw [e1]
          simp [he]
        · left
          have e1 : (o[k] == v) = false := by simpa using he
          rw [e1]
          have he' : ¬ v = o[k] := fun e => he e.symm
          refine ⟨((k + 1 : Nat) : Int), by simp, ⟨k + 1, rfl, hlt⟩, by simp; omega, ?_⟩
          rw [Int.toNat_natCast]
          simp only [List.mem_cons, he', false_or]
      · right
        have e : k = o.length := by omega
        subst e
        rw [show decide (((o.length : Nat) : Int) < ((o.length : Nat) : Int)) = false from decide_eq_false (by omega)]
        simp)
  simp only [Option.bind_some]
  rw [hloop LL 0 ⟨0, by simp, by omega⟩ (by simp only [LL]; simp; omega)]
  simp only [Int.toNat_zero, List.drop_zero]
  cases decide (v ∈ o) <;> rfl

end Go.Rv
