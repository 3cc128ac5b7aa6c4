/-
  The law FnCrossingsSum, in plain words: it is true of every argument. Conditions: none.
-/
import Derived.Test.YtcidinfpacpdaaaHFnCrossingsSum
set_option linter.unusedVariables false
set_option linter.unusedSimpArgs false
namespace Go.Rv

theorem csum_order {n a : Nat} (n8 : n ≤ 8) (ha : a ≤ 1000000) : laws_FnCrossingsSum_n13 (n : Int) (a : Int) = some (orderAt n a) := by
  unfold laws_FnCrossingsSum_n13
  have lp := nloop_to (body := fun (s : Int × Int × (List Int)) => ((laws_FnCrossingsSum_n12 (n : Int) s.1 s.2.1 s.2.2).map (Sum.elim (fun (t : Int × Int × (List Int)) => Sum.inl (t.1, t.2.1, t.2.2)) (fun (t : (List Int)) => Sum.inr t)) : Option ((Int × Int × (List Int)) ⊕ (((List Int))))))
    (fun k => ((((ordK a k).2 : Nat) : Int), ((k + 1 : Nat) : Int), (ordK a k).1)) n (orderAt n a)
    (by
      intro k hk
      have w : IntKind.wrap .i64 (((k + 1 : Nat) : Int) + 1) = ((k + 1 + 1 : Nat) : Int) := by rw [wrap64 (by omega) (by omega)]; omega
      simp only [laws_FnCrossingsSum_n12]
      rw [decide_eq_true (show ((k + 1 : Nat) : Int) ≤ (n : Int) by omega), w]
      simp only [cond_true]
      rw [order_step ha (by omega) (fun q l => some (Sum.inl (q, ((k + 1 + 1 : Nat) : Int), l)))]
      rfl)
    (by
      simp only [laws_FnCrossingsSum_n12]
      rw [decide_eq_false (show ¬ ((n + 1 : Nat) : Int) ≤ (n : Int) by omega)]
      rfl) LL (by simp only [LL]; omega)
  exact lp

theorem csum_fact {n : Nat} (n1 : 1 ≤ n) (n8 : n ≤ 8) : laws_FnCrossingsSum_n6 (n : Int) = some ((factN n : Nat) : Int) := by
  unfold laws_FnCrossingsSum_n6 laws_FnCrossingsSum_n2 laws_FnCrossingsSum_n5 laws_FnCrossingsSum_n4
  have lp := nloop_to (body := fun (s : Int × Int) => ((laws_FnCrossingsSum_n3 (n : Int) s.1 s.2).map (Sum.elim (fun (t : Int × Int) => Sum.inl (t.1, t.2)) (fun (t : Int) => Sum.inr t)) : Option ((Int × Int) ⊕ (Int))))
    (fun k => (((factN (k + 1) : Nat) : Int), ((k + 2 : Nat) : Int))) (n - 1) ((factN n : Nat) : Int)
    (by
      intro k hk
      have f2 := fact_le (n := k + 1 + 1) (by omega)
      have w : IntKind.wrap .i64 (((k + 2 : Nat) : Int) + 1) = ((k + 1 + 2 : Nat) : Int) := by rw [wrap64 (by omega) (by omega)]; omega
      simp only [laws_FnCrossingsSum_n3]
      rw [decide_eq_true (show ((k + 2 : Nat) : Int) ≤ (n : Int) by omega), w, ← Int.natCast_mul]
      have f3 : factN (k + 1) * (k + 2) ≤ 40320 := f2
      have e3 : factN (k + 1 + 1) = factN (k + 1) * (k + 2) := rfl
      rw [e3]
      generalize factN (k + 1) * (k + 2) = q at f3 ⊢
      rw [wrap64 (by omega) (by omega)]
      rfl)
    (by
      simp only [laws_FnCrossingsSum_n3]
      rw [decide_eq_false (show ¬ ((n - 1 + 2 : Nat) : Int) ≤ (n : Int) by omega), show n - 1 + 1 = n by omega]
      rfl) LL (by simp only [LL]; omega)
  have lp' := lp
  rw [show factN (0 + 1) = 1 from rfl, show ((0 + 2 : Nat) : Int) = 2 from rfl, show ((1 : Nat) : Int) = 1 from rfl] at lp'
  simp only [Option.bind_some]
  rw [lp']
  rfl

theorem csum_loop (hC : ∀ h, h.length ≤ 1048576 → impl_CrossingsSum h = some (csumI h)) {h : List Int} (T : Tree h) (h5 : h.length ≤ 5) :
    laws_FnCrossingsSum_n23 (csumI h) ((h.length : Nat) : Int) ((factN h.length : Nat) : Int) h = some (Sum.inr ((sumR (fun a => crossN (putRow h (orderAt h.length a))) (factN h.length) : Nat) : Int)) := by
  unfold laws_FnCrossingsSum_n23
  have l8 := T.le
  have f8 := fact_le (n := h.length) (by omega)
  have cb : ∀ a, crossN (putRow h (orderAt h.length a)) ≤ 64 := fun a => crossN_le (by rw [putAt_len]; omega)
  have sb : ∀ k, k ≤ factN h.length → sumR (fun a => crossN (putRow h (orderAt h.length a))) k ≤ 40320 * 64 := fun k hk => by
    have := sumR_le (f := fun a => crossN (putRow h (orderAt h.length a))) (g := fun _ => 64) (n := k) fun a _ => cb a
    rw [sumR_const] at this
    omega
  have lp := nloop_to (body := fun (s : Int × Int) => ((laws_FnCrossingsSum_n22 (csumI h) ((h.length : Nat) : Int) ((factN h.length : Nat) : Int) s.1 s.2 h).map (Sum.elim (fun (t : Int × Int) => Sum.inl (t.1, t.2)) (Sum.elim (fun (t : Bool) => Sum.inr (Sum.inl t)) (fun (t : Int) => Sum.inr (Sum.inr t)))) : Option ((Int × Int) ⊕ (Bool ⊕ Int))))
    (fun k => (((sumR (fun a => crossN (putRow h (orderAt h.length a))) k : Nat) : Int), (k : Int))) (factN h.length) (Sum.inr ((sumR (fun a => crossN (putRow h (orderAt h.length a))) (factN h.length) : Nat) : Int))
    (by
      intro k hk
      have b1 := sb k (by omega)
      have b2 := cb k
      have w : IntKind.wrap .i64 ((k : Int) + 1) = ((k + 1 : Nat) : Int) := by rw [wrap64 (by omega) (by omega)]; omega
      have w2 : IntKind.wrap .i64 (((sumR (fun a => crossN (putRow h (orderAt h.length a))) k : Nat) : Int) + ((crossN (putRow h (orderAt h.length k)) : Nat) : Int)) = ((sumR (fun a => crossN (putRow h (orderAt h.length a))) k + crossN (putRow h (orderAt h.length k)) : Nat) : Int) := by rw [wrap64 (by omega) (by omega)]; omega
      have ci : crossingsI (putRow h (orderAt h.length k)) = ((crossN (putRow h (orderAt h.length k)) : Nat) : Int) := by unfold crossingsI; rw [(tree_iff _).mpr (putAt_tree T k)]; rfl
      simp only [laws_FnCrossingsSum_n22, laws_FnCrossingsSum_n9, laws_FnCrossingsSum_n21, laws_FnCrossingsSum_n19, laws_FnCrossingsSum_n18, laws_FnCrossingsSum_n10, laws_FnCrossingsSum_n17, laws_FnCrossingsSum_n15, laws_FnCrossingsSum_n11, laws_FnCrossingsSum_n14, laws_FnCrossingsSum_n20]
      rw [decide_eq_true (show (k : Int) < ((factN h.length : Nat) : Int) by omega), csum_order l8 (by omega), w]
      simp only [cond_true, Option.bind_some, Option.map_some, Sum.elim_inl, laws_FnCrossingsSum_n16, implPut_at T k, Bool.not_true, cond_false]
      rw [hC _ (by rw [putAt_len]; omega), csumI_put T k]
      simp only [Option.bind_some, bne_self_eq_false, cond_false, implCrossings_eq, ci, w2, Option.map_some, Sum.elim_inl]
      rfl)
    (by
      simp only [laws_FnCrossingsSum_n22, laws_FnCrossingsSum_n9]
      rw [decide_eq_false (show ¬ ((factN h.length : Nat) : Int) < ((factN h.length : Nat) : Int) by omega)]
      rfl) LL (by simp only [LL]; omega)
  exact lp

theorem core_FnCrossingsSum (hC : ∀ h, h.length ≤ 1048576 → impl_CrossingsSum h = some (csumI h)) (x : List Int) (w : ∀ n ∈ x, (Lit.int .u8 n).wf = true) (l : x.length ≤ maxLen) : laws_FnCrossingsSum x = some true := by
  unfold laws_FnCrossingsSum laws_FnCrossingsSum_n30 laws_FnCrossingsSum_n1
  by_cases hx : x.length ≤ 1048576
  · rw [show decide (((x.length : Nat) : Int) > 1048576) = false from decide_eq_false (by omega)]
    obtain ⟨h, h8, hdr⟩ := drawn_wild x w l 9 (by omega)
    have hd' : spec_DrawCrossingsSum x = some h := by unfold spec_DrawCrossingsSum spec_DrawCrossingsSum_n1; exact hdr
    simp only [hd', cond_false, Option.bind_some, hC h (by omega), specCsum_eq, bne_self_eq_false, alive_eq, implTree_eq, implBack_eq]
    cases t : treeB h with
    | false =>
      have e0 : csumI h = -1 := by unfold csumI; rw [t]; rfl
      rw [e0]
      rfl
    | true =>
      have T := (tree_iff h).mp t
      have hp := T.pos
      have bk : backI h = backL h := by unfold backI; rw [t]; rfl
      have e0 : csumI h = ((factN h.length * apartN h / 3 : Nat) : Int) := by unfold csumI; rw [t]; rfl
      have e1 : csumI (backL h) = csumI h := by
        unfold csumI
        rw [back_treeB T, t, backL_length, back_apart T]
      rw [show decide (csumI h < 0) = false from decide_eq_false (by omega)]
      simp only [cond_false]
      by_cases h5 : h.length ≤ 5
      · rw [decide_eq_false (show ¬ ((h.length : Nat) : Int) > 5 by omega)]
        simp only [cond_false, Option.bind_some, Sum.elim_inl, laws_FnCrossingsSum_n29]
        rw [csum_fact hp T.le]
        simp only [Option.bind_some, laws_FnCrossingsSum_n28, laws_FnCrossingsSum_n7, laws_FnCrossingsSum_n27, laws_FnCrossingsSum_n25, laws_FnCrossingsSum_n8, laws_FnCrossingsSum_n24]
        rw [csum_loop hC T h5, cross_all T h5]
        simp only [Option.map_some, Sum.elim_inr, Option.bind_some, Sum.elim_inl, laws_FnCrossingsSum_n26]
        congr 1
        rw [beq_iff_eq, e0]
        congr 1
        by_cases h3 : 3 ≤ h.length
        · have f := fact_three h5 h3
          generalize factN h.length / 3 = q at f ⊢
          rw [f, Nat.mul_assoc, Nat.mul_div_cancel_left _ (by omega)]
        · have asu := apart_sum T
          have z : (h.length - 1) * (h.length - 2) / 2 = 0 := by
            have : h.length = 1 ∨ h.length = 2 := by omega
            rcases this with e | e <;> rw [e]
          have a0 : apartN h = 0 := by omega
          rw [a0]
          simp
      · rw [decide_eq_true (show ((h.length : Nat) : Int) > 5 by omega), bk, hC (backL h) (by rw [backL_length]; omega), e1, decide_eq_true (show csumI h ≥ 0 by omega)]
        simp
  · rw [show decide (((x.length : Nat) : Int) > 1048576) = true from decide_eq_true (by omega)]
    rfl

theorem same_FnCrossingsSum (x : List Int) (w : ∀ n ∈ x, (Lit.int .u8 n).wf = true) (l : x.length ≤ maxLen) : laws_FnCrossingsSum x = some true :=
  core_FnCrossingsSum (fun h _ => implCsum_eq h) x w l

end Go.Rv
