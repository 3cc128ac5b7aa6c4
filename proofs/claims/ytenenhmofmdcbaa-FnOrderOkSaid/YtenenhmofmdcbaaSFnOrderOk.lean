/-
  The law FnOrderOk, in plain words: it is true of every argument. Conditions: none.
-/
import Derived.Test.YtenenhmofmdcbaaMp
set_option linter.unusedVariables false
set_option linter.unusedSimpArgs false
namespace Go.Rv

theorem order1 : orderB [1] 1 = true := by decide
theorem order0 : orderB [] 0 = false := by decide

theorem turned (o : List Int) (h : o.length ≤ 1000) : laws_FnOrderOk_n6 o = some o.reverse := by
  unfold laws_FnOrderOk_n6 laws_FnOrderOk_n2 laws_FnOrderOk_n5 laws_FnOrderOk_n4
  have hloop := nloop_run (body := fun (s : Int × (List Int)) => ((laws_FnOrderOk_n3 s.1 o s.2).map (Sum.elim (fun (t : Int × (List Int)) => Sum.inl (t.1, t.2)) (fun (t : (List Int)) => Sum.inr t)) : Option ((Int × (List Int)) ⊕ (((List Int))))))
    (I := fun s => ∃ k : Nat, s = ((k : Int) - 1, (o.drop k).reverse) ∧ k ≤ o.length) (μ := fun s => (s.1 + 1).toNat) (f := fun _ => o.reverse)
    (by
      rintro _ ⟨k, rfl, hk⟩
      simp only [laws_FnOrderOk_n3]
      cases k with
      | zero =>
        right
        rw [show decide (((0 : Nat) : Int) - 1 ≥ 0) = false from by decide]
        simp
      | succ k =>
        left
        have hlt : k < o.length := by omega
        rw [show decide (((k + 1 : Nat) : Int) - 1 ≥ 0) = true from decide_eq_true (by omega), show ((k + 1 : Nat) : Int) - 1 = (k : Int) by omega, inb_nat hlt, wrap64 (by omega) (by omega)]
        simp only [cond_true, Option.bind_some, List.getElem?_eq_getElem hlt, room_le (show (o.drop (k + 1)).reverse.length + List.length [o[k]] ≤ 1099511627776 by simp; omega), Option.map_some, Sum.elim_inl]
        refine ⟨_, rfl, ⟨k, by simp only [List.drop_eq_getElem_cons hlt, List.reverse_cons], by omega⟩, by simp, trivial⟩)
  rw [wrap64 (by omega) (by omega)]
  simp only [Option.bind_some]
  rw [hloop LL _ ⟨o.length, by simp, by omega⟩ (by simp only [LL]; omega)]
  rfl

theorem same_FnOrderOk (x : List Int) (w : ∀ n ∈ x, (Lit.int .u8 n).wf = true) (l : x.length ≤ maxLen) : laws_FnOrderOk x = some true := by
  unfold laws_FnOrderOk laws_FnOrderOk_n15 laws_FnOrderOk_n1
  by_cases hx : x.length ≤ 1048576
  · rw [show decide (((x.length : Nat) : Int) > 1048576) = false from decide_eq_false (by omega)]
    obtain ⟨m, o, hd, h8, m0, m1⟩ := drawn_order x w l
    simp only [cond_false, hd, Option.bind_some, implOrder_eq, specOrder_eq o m (by omega), bne_self_eq_false, Sum.elim_inl]
    unfold laws_FnOrderOk_n14
    rw [turned o (by omega)]
    simp only [Option.bind_some]
    unfold laws_FnOrderOk_n13 laws_FnOrderOk_n11 laws_FnOrderOk_n7 laws_FnOrderOk_n10 laws_FnOrderOk_n9 laws_FnOrderOk_n12
    have hloop := nloop_run (body := fun (s : Int) => ((laws_FnOrderOk_n8 m (orderB o m) s o).map (Sum.elim (fun (t : Int) => Sum.inl t) (Sum.elim (fun (t : Bool) => Sum.inr (Sum.inl t)) (fun (t : Unit) => Sum.inr (Sum.inr t)))) : Option ((Int) ⊕ (Bool ⊕ Unit))))
      (I := fun s => 1 ≤ s ∧ s ≤ m + 1) (μ := fun s => (m + 1 - s).toNat) (f := fun _ => .inr ())
      (by
        rintro s ⟨hs1, hs2⟩
        simp only [laws_FnOrderOk_n8]
        by_cases hlt : s ≤ m
        · rw [decide_eq_true hlt]
          cases hO : orderB o m with
          | false => right; rfl
          | true =>
            left
            obtain ⟨a, b, c, hP⟩ := (orderB_iff o m).1 hO
            subst c
            simp only [cond_true, hasInt_eq o s (by omega), Option.bind_some, decide_eq_true (order_mem hP hs1 hlt), Bool.not_true, cond_false]
            rw [wrap64 (by omega) (by omega)]
            exact ⟨s + 1, rfl, ⟨by omega, by omega⟩, by omega, trivial⟩
        · right
          rw [decide_eq_false hlt]
          rfl)
    simp only [Option.bind_some]
    rw [hloop LL 1 ⟨by omega, by omega⟩ (by simp only [LL]; omega)]
    simp [implOrder_eq, orderB_reverse, order1, order0, alive_eq]
  · rw [show decide (((x.length : Nat) : Int) > 1048576) = true from decide_eq_true (by omega)]
    rfl

end Go.Rv
