/-
  The law FnDeepestStack, in plain words: it is true of every argument. Conditions: none.
-/
import Derived.Test.YtiokdplogigiaaaMsb
import Derived.Test.YtiokdplogigiaaaMgs
import Derived.Test.YtiokdplogigiaaaMoa
set_option linter.unusedVariables false
set_option linter.unusedSimpArgs false
namespace Go.Rv

theorem first_loop {mv : ByteArray} (hs : mv.size ≤ 1000) : laws_FnDeepestStack_n4 mv = some (firstN (bytesN mv) : Int) := by
  unfold laws_FnDeepestStack_n4 laws_FnDeepestStack_n3
  have bl := bytesN_length mv
  have fl := firstN_le (bytesN mv)
  have lp := nloop_to (body := fun (s : Int) => ((laws_FnDeepestStack_n2 mv s).map (Sum.elim (fun (t : Int) => Sum.inl t) (fun (t : Int) => Sum.inr t)) : Option ((Int) ⊕ (Int))))
    (fun k => (k : Int)) (firstN (bytesN mv)) (firstN (bytesN mv) : Int)
    (by
      intro k hk
      have hk' : k < (bytesN mv).length := by omega
      have a := (firstN_iff (bytesN mv) k (by omega)).mp (by omega)
      have b := (firstN_iff (bytesN mv) (k + 1) (by omega)).mp (by omega)
      have t1 : ((bytesN mv).take (k + 1)).count 83 = ((bytesN mv).take k).count 83 + (if (bytesN mv)[k] = 83 then 1 else 0) := by
        rw [List.take_succ_eq_append_getElem hk', List.count_append, List.count_singleton]
        by_cases q : (bytesN mv)[k] = 83 <;> simp [q]
      have c : (bytesN mv)[k] = 83 := by
        refine Classical.byContradiction fun q => ?_
        rw [if_neg q] at t1
        omega
      simp only [laws_FnDeepestStack_n2]
      rw [decide_eq_true (show (k : Int) < ((mv.size : Nat) : Int) by omega), bidx_ok (by omega), wrap64 (x := (k : Int) + 1) (by omega) (by omega)]
      simp only [cond_true, Option.bind_some]
      rw [show (((((bytesN mv)[k] : Nat)) : Int) == 83) = true from beq_iff_eq.mpr (by omega)]
      rfl)
    (by
      simp only [laws_FnDeepestStack_n2]
      by_cases lt : firstN (bytesN mv) < mv.size
      · have hk' : firstN (bytesN mv) < (bytesN mv).length := by omega
        have a := (firstN_iff (bytesN mv) (firstN (bytesN mv)) (by omega)).mp (Nat.le_refl _)
        have t1 : ((bytesN mv).take (firstN (bytesN mv) + 1)).count 83 = ((bytesN mv).take (firstN (bytesN mv))).count 83 + (if (bytesN mv)[firstN (bytesN mv)] = 83 then 1 else 0) := by
          rw [List.take_succ_eq_append_getElem hk', List.count_append, List.count_singleton]
          by_cases q : (bytesN mv)[firstN (bytesN mv)] = 83 <;> simp [q]
        have c : ¬ (bytesN mv)[firstN (bytesN mv)] = 83 := by
          intro q
          rw [if_pos q] at t1
          have := (firstN_iff (bytesN mv) (firstN (bytesN mv) + 1) (by omega)).mpr (by omega)
          omega
        rw [decide_eq_true (show ((firstN (bytesN mv) : Nat) : Int) < ((mv.size : Nat) : Int) by omega), bidx_ok lt]
        simp only [cond_true, Option.bind_some]
        rw [show (((((bytesN mv)[firstN (bytesN mv)] : Nat)) : Int) == 83) = false from beq_eq_false_iff_ne.2 (by omega)]
        rfl
      · rw [decide_eq_false (show ¬ ((firstN (bytesN mv) : Nat) : Int) < ((mv.size : Nat) : Int) by omega)]
        rfl) LL (by simp only [LL]; omega)
  have lp' := lp
  rw [show ((0 : Nat) : Int) = 0 from rfl] at lp'
  rw [lp']
  rfl

theorem core_FnDeepestStack (hD : ∀ x mv, mv.size ≤ 1000 → impl_DeepestStack x mv = spec_DeepestStack x mv)
    (x : List Int) (w : ∀ n ∈ x, (Lit.int .u8 n).wf = true) (l : x.length ≤ maxLen) (dr : ∃ n mv, spec_DrawRunStack x = some (n, mv) ∧ mv.size ≤ 1000) : laws_FnDeepestStack x = some true := by
  unfold laws_FnDeepestStack laws_FnDeepestStack_n7 laws_FnDeepestStack_n1
  by_cases hx : x.length ≤ 1048576
  · rw [show decide (((x.length : Nat) : Int) > 1048576) = false from decide_eq_false (by omega)]
    obtain ⟨n, mv, hd, hs⟩ := dr
    have hd' : spec_DrawDeepestStack x = some (n, mv) := by
      unfold spec_DrawDeepestStack spec_DrawDeepestStack_n1
      rw [hd]
      rfl
    simp only [hd', cond_false, Option.bind_some, hD n mv hs, alive_eq]
    cases e : runI n mv with
    | mk ok h =>
      cases ok with
      | false =>
        rw [specDeep_none hs (by rw [e])]
        rfl
      | true =>
        obtain ⟨m, r, rfl, m1, m8, q⟩ := runI_run e
        rw [specDeep_some m8 e q]
        have D := deep_ok m8 q
        rw [bytesN_length] at D
        simp only [Option.bind_some, bne_self_eq_false, cond_false]
        rw [decide_eq_false (show ¬ ((deepN (bytesN mv) mv.size : Nat) : Int) < 0 by omega)]
        simp only [cond_false, Option.bind_some, Sum.elim_inl]
        unfold laws_FnDeepestStack_n6
        rw [first_loop hs]
        simp only [Option.bind_some]
        unfold laws_FnDeepestStack_n5
        have eq : ((((deepN (bytesN mv) mv.size : Nat) : Int) == (m : Int)) == (((firstN (bytesN mv) : Nat) : Int) == (m : Int))) = true := by
          rw [beq_iff_eq, Bool.eq_iff_iff, beq_iff_eq, beq_iff_eq]
          have := D.2.2.2
          constructor
          · intro z
            have := this.mp (by omega)
            omega
          · intro z
            have := this.mpr (by omega)
            omega
        rw [decide_eq_true (by omega), decide_eq_true (by omega), eq]
        by_cases m2 : (m : Int) < 2
        · rw [decide_eq_true m2]
          rfl
        · rw [decide_eq_false m2, decide_eq_true (by have := D.2.2.1 (by omega); omega)]
          rfl
  · rw [show decide (((x.length : Nat) : Int) > 1048576) = true from decide_eq_true (by omega)]
    rfl

theorem same_FnDeepestStack (x : List Int) (w : ∀ n ∈ x, (Lit.int .u8 n).wf = true) (l : x.length ≤ maxLen) : laws_FnDeepestStack x = some true :=
  core_FnDeepestStack (fun x mv h => deep_same x mv (by omega)) x w l (drawn_run x w l)

end Go.Rv
