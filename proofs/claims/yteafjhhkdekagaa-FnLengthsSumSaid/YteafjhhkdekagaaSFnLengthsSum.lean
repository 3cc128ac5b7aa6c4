/-
  The law FnLengthsSum, in plain words: it is true of every argument. Conditions: none.
-/
import Derived.Test.YteafjhhkdekagaaHFnLengthsSum
set_option linter.unusedVariables false
set_option linter.unusedSimpArgs false
namespace Go.Rv

theorem lsum_tab : ((List.range 5).all fun k => laws_FnLengthsSum_n6 ((k + 1 : Nat) : Int) == some (((factN (k + 1) : Nat) : Int), chainL (k + 1), starL (k + 1))) = true := by decide +kernel
theorem lsum_made {n : Nat} (n1 : 1 ≤ n) (n5 : n ≤ 5) : laws_FnLengthsSum_n6 (n : Int) = some (((factN n : Nat) : Int), chainL n, starL n) := by
  have := all_lt lsum_tab (i := n - 1) (by omega)
  rw [beq_iff_eq, show n - 1 + 1 = n by omega] at this
  exact this

theorem lsum_order {n a : Nat} (n8 : n ≤ 8) (ha : a ≤ 1000000) : laws_FnLengthsSum_n13 (n : Int) (a : Int) = some (orderAt n a) := by
  unfold laws_FnLengthsSum_n13
  have lp := nloop_to (body := fun (s : Int × Int × (List Int)) => ((laws_FnLengthsSum_n12 (n : Int) s.1 s.2.1 s.2.2).map (Sum.elim (fun (t : Int × Int × (List Int)) => Sum.inl (t.1, t.2.1, t.2.2)) (fun (t : (List Int)) => Sum.inr t)) : Option ((Int × Int × (List Int)) ⊕ (((List Int))))))
    (fun k => ((((ordK a k).2 : Nat) : Int), ((k + 1 : Nat) : Int), (ordK a k).1)) n (orderAt n a)
    (by
      intro k hk
      have w : IntKind.wrap .i64 (((k + 1 : Nat) : Int) + 1) = ((k + 1 + 1 : Nat) : Int) := by rw [wrap64 (by omega) (by omega)]; omega
      simp only [laws_FnLengthsSum_n12]
      rw [decide_eq_true (show ((k + 1 : Nat) : Int) ≤ (n : Int) by omega), w]
      simp only [cond_true]
      rw [order_step ha (by omega) (fun q l => some (Sum.inl (q, ((k + 1 + 1 : Nat) : Int), l)))]
      rfl)
    (by
      simp only [laws_FnLengthsSum_n12]
      rw [decide_eq_false (show ¬ ((n + 1 : Nat) : Int) ≤ (n : Int) by omega)]
      rfl) LL (by simp only [LL]; omega)
  exact lp

theorem two_trees : ((List.range 5).all fun k => treeB (chainL (k + 1)) && treeB (starL (k + 1))) = true := by decide +kernel

theorem lsum_loop (hL : ∀ h, h.length ≤ 1048576 → impl_LengthOf h = some (lenI h)) {n : Nat} (n1 : 1 ≤ n) (n5 : n ≤ 5) :
    laws_FnLengthsSum_n23 (n : Int) ((factN n : Nat) : Int) (chainL n) (starL n) = some (((sumR (fun a => lenN (putRow (chainL n) (orderAt n a))) (factN n) : Nat) : Int), ((sumR (fun a => lenN (putRow (starL n) (orderAt n a))) (factN n) : Nat) : Int)) := by
  unfold laws_FnLengthsSum_n23
  have f8 := fact_le (n := n) (by omega)
  have tt := all_lt two_trees (i := n - 1) (by omega)
  rw [show n - 1 + 1 = n by omega, Bool.and_eq_true] at tt
  have lc : (chainL n).length = n := by unfold chainL; simp
  have ls : (starL n).length = n := by unfold starL; simp
  have one : ∀ {h : List Int}, Tree h → h.length = n → ∀ a, impl_PutInOrder h (orderAt n a) = some (true, putRow h (orderAt n a)) ∧ impl_LengthOf (putRow h (orderAt n a)) = some ((lenN (putRow h (orderAt n a)) : Nat) : Int) ∧ lenN (putRow h (orderAt n a)) ≤ 64 := by
    intro h T e a
    subst e
    refine ⟨implPut_at T a, ?_, len_le (putAt_tree T a)⟩
    rw [hL _ (by rw [putAt_len]; omega)]
    unfold lenI
    rw [(tree_iff _).mpr (putAt_tree T a)]
    rfl
  have one1 := one ((tree_iff _).mp tt.1) lc
  have one2 := one ((tree_iff _).mp tt.2) ls
  have sb : ∀ {f : Nat → Nat}, (∀ a, f a ≤ 64) → ∀ k, k ≤ factN n → sumR f k ≤ 40320 * 64 := fun {f} hf k hk => by
    have := sumR_le (f := f) (g := fun _ => 64) (n := k) fun a _ => hf a
    rw [sumR_const] at this
    omega
  have lp := nloop_to (body := fun (s : Int × Int × Int) => ((laws_FnLengthsSum_n22 (n : Int) ((factN n : Nat) : Int) s.1 s.2.1 s.2.2 (chainL n) (starL n)).map (Sum.elim (fun (t : Int × Int × Int) => Sum.inl (t.1, t.2.1, t.2.2)) (fun (t : Int × Int) => Sum.inr t)) : Option ((Int × Int × Int) ⊕ ((Int × Int)))))
    (fun k => (((sumR (fun a => lenN (putRow (chainL n) (orderAt n a))) k : Nat) : Int), ((sumR (fun a => lenN (putRow (starL n) (orderAt n a))) k : Nat) : Int), (k : Int))) (factN n) (((sumR (fun a => lenN (putRow (chainL n) (orderAt n a))) (factN n) : Nat) : Int), ((sumR (fun a => lenN (putRow (starL n) (orderAt n a))) (factN n) : Nat) : Int))
    (by
      intro k hk
      obtain ⟨p1, q1, r1⟩ := one1 k
      obtain ⟨p2, q2, r2⟩ := one2 k
      have b1 := sb (fun a => (one1 a).2.2) k (by omega)
      have b2 := sb (fun a => (one2 a).2.2) k (by omega)
      have w : IntKind.wrap .i64 ((k : Int) + 1) = ((k + 1 : Nat) : Int) := by rw [wrap64 (by omega) (by omega)]; omega
      simp only [laws_FnLengthsSum_n22, laws_FnLengthsSum_n9, laws_FnLengthsSum_n21, laws_FnLengthsSum_n19, laws_FnLengthsSum_n18, laws_FnLengthsSum_n10, laws_FnLengthsSum_n17, laws_FnLengthsSum_n15, laws_FnLengthsSum_n11, laws_FnLengthsSum_n14, laws_FnLengthsSum_n20]
      rw [decide_eq_true (show (k : Int) < ((factN n : Nat) : Int) by omega), lsum_order (by omega) (by omega), w]
      simp only [cond_true, Option.bind_some, Option.map_some, Sum.elim_inl, laws_FnLengthsSum_n16, p1, p2, q1, q2]
      rw [sumR, sumR]
      rw [wrap64 (by omega) (by omega), wrap64 (by omega) (by omega)]
      rfl)
    (by
      simp only [laws_FnLengthsSum_n22, laws_FnLengthsSum_n9]
      rw [decide_eq_false (show ¬ ((factN n : Nat) : Int) < ((factN n : Nat) : Int) by omega)]
      rfl) LL (by simp only [LL]; omega)
  exact lp

theorem core_FnLengthsSum (hI : ∀ n, impl_LengthsSum n = some (lsumI n)) (hL : ∀ h, h.length ≤ 1048576 → impl_LengthOf h = some (lenI h)) (x : List Int) (w : ∀ n ∈ x, (Lit.int .u8 n).wf = true) (l : x.length ≤ maxLen) : laws_FnLengthsSum x = some true := by
  unfold laws_FnLengthsSum laws_FnLengthsSum_n30 laws_FnLengthsSum_n1
  by_cases hx : x.length ≤ 1048576
  · rw [show decide (((x.length : Nat) : Int) > 1048576) = false from decide_eq_false (by omega)]
    obtain ⟨b, hb, hB⟩ := open_ok x w l
    obtain ⟨v, hv, va, vb, _⟩ := pick_ok hB 11 (by omega) (p := 0) (by omega) (by omega)
    have hd' : spec_DrawLengthsSum x = some (v - 1) := by
      unfold spec_DrawLengthsSum spec_DrawLengthsSum_n1
      rw [hb]
      simp only [Option.bind_some, hv]
      rw [wrap64 (by omega) (by omega)]
    simp only [hd', cond_false, Option.bind_some, hI, specSum_eq, bne_self_eq_false, alive_eq]
    generalize hn : v - 1 = n
    by_cases h : 1 ≤ n ∧ n ≤ 8
    · obtain ⟨m, rfl⟩ : ∃ m : Nat, n = (m : Int) := ⟨n.toNat, by omega⟩
      have e0 : lsumI (m : Int) = ((lsumN m : Nat) : Int) := by unfold lsumI; rw [if_pos h]; rfl
      rw [e0, decide_eq_false (show ¬ ((lsumN m : Nat) : Int) < 0 by omega)]
      simp only [cond_false]
      by_cases h5 : m ≤ 5
      · rw [decide_eq_false (show ¬ ((m : Nat) : Int) > 5 by omega)]
        simp only [cond_false, Option.bind_some, Sum.elim_inl, laws_FnLengthsSum_n29, lsum_made (show 1 ≤ m by omega) h5, laws_FnLengthsSum_n28, laws_FnLengthsSum_n7, laws_FnLengthsSum_n27, laws_FnLengthsSum_n25, laws_FnLengthsSum_n8, laws_FnLengthsSum_n24, lsum_loop hL (show 1 ≤ m by omega) h5, Option.map_some, laws_FnLengthsSum_n26]
        have tb := all_lt chain_star_tab (i := m) (by omega)
        simp only [Bool.and_eq_true, beq_iff_eq] at tb
        rw [tb.1, tb.2]
        simp [lsumN]
      · rw [decide_eq_true (show ((m : Nat) : Int) > 5 by omega)]
        have : m = 6 ∨ m = 7 ∨ m = 8 := by omega
        rcases this with rfl | rfl | rfl <;> rfl
    · have e0 : lsumI n = -1 := by unfold lsumI; rw [if_neg h]
      rw [e0]
      by_cases h1 : n < 1
      · rw [decide_eq_true h1]
        rfl
      · rw [decide_eq_false h1, decide_eq_true (show n > 8 by omega)]
        rfl
  · rw [show decide (((x.length : Nat) : Int) > 1048576) = true from decide_eq_true (by omega)]
    rfl

theorem same_FnLengthsSum (x : List Int) (w : ∀ n ∈ x, (Lit.int .u8 n).wf = true) (l : x.length ≤ maxLen) : laws_FnLengthsSum x = some true :=
  core_FnLengthsSum implSum_eq (fun h _ => implLen_eq h) x w l

end Go.Rv
