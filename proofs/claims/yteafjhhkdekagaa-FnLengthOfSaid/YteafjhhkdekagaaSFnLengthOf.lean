/-
  The law FnLengthOf, in plain words: it is true of every argument. Conditions: none.
-/
import Derived.Test.YteafjhhkdekagaaHFnLengthOf
set_option linter.unusedVariables false
set_option linter.unusedSimpArgs false
namespace Go.Rv

theorem over_loop {h : List Int} (T : Tree h) {s g : Nat} (hs : s ≤ 64) : laws_FnLengthOf_n6 (s : Int) (g : Int) h = some ((s + overN h g : Nat) : Int) := by
  unfold laws_FnLengthOf_n6
  have l8 := T.le
  have ob : ∀ k, k ≤ h.length → sumR (fun i => ind (overB h g (i + 1))) k ≤ 8 := fun k hk => by
    have := sumR_le (f := fun i => ind (overB h g (i + 1))) (g := fun _ => 1) (n := k) fun i _ => ind_le _
    rw [sumR_const] at this
    omega
  have lp := nloop_to (body := fun (s : Int × Int) => ((laws_FnLengthOf_n5 s.1 (g : Int) s.2 h).map (Sum.elim (fun (t : Int × Int) => Sum.inl (t.1, t.2)) (fun (t : Int) => Sum.inr t)) : Option ((Int × Int) ⊕ (Int))))
    (fun k => (((s + sumR (fun i => ind (overB h g (i + 1))) k : Nat) : Int), ((k + 1 : Nat) : Int))) h.length ((s + overN h g : Nat) : Int)
    (by
      intro k hk
      have ge := T.get (w := k + 1) (by omega) (by omega)
      rw [Nat.add_sub_cancel] at ge
      have b := ob k (by omega)
      have hle := T.hd_le (w := k + 1) (by omega) (by omega)
      simp only [laws_FnLengthOf_n5]
      have i0 : inb (IntKind.wrap .i64 (((k + 1 : Nat) : Int) - 1)) h.length = some k := by
        rw [wrap64 (by omega) (by omega), show ((k + 1 : Nat) : Int) - 1 = (k : Int) by omega]
        exact inb_nat hk
      have w : IntKind.wrap .i64 (((k + 1 : Nat) : Int) + 1) = ((k + 1 + 1 : Nat) : Int) := by rw [wrap64 (by omega) (by omega)]; omega
      have w2 : IntKind.wrap .i64 (((s + sumR (fun i => ind (overB h g (i + 1))) k : Nat) : Int) + 1) = ((s + sumR (fun i => ind (overB h g (i + 1))) k + 1 : Nat) : Int) := by rw [wrap64 (by omega) (by omega)]; omega
      rw [decide_eq_true (show ((k + 1 : Nat) : Int) ≤ ((h.length : Nat) : Int) by omega), i0, w, w2]
      simp only [cond_true, Option.bind_some, ge]
      rw [imaxN, iminN, sumR]
      have fin : ∀ b : Bool, overB h g (k + 1) = b → ((s + (sumR (fun i => ind (overB h g (i + 1))) k + ind (overB h g (k + 1))) : Nat) : Int) = if b = true then ((s + sumR (fun i => ind (overB h g (i + 1))) k + 1 : Nat) : Int) else ((s + sumR (fun i => ind (overB h g (i + 1))) k : Nat) : Int) := fun b e => by
        rw [e]
        cases b <;> simp [ind] <;> omega
      by_cases z : hd h (k + 1) = 0
      · rw [decide_eq_false (show ¬ ((hd h (k + 1) : Nat) : Int) > 0 by omega)]
        have e0 : overB h g (k + 1) = false := by unfold overB; rw [decide_eq_false_iff_not]; exact fun q => q.1 z
        rw [fin false e0]
        rfl
      · rw [decide_eq_true (show ((hd h (k + 1) : Nat) : Int) > 0 by omega)]
        by_cases q1 : min (k + 1) (hd h (k + 1)) ≤ g
        · rw [decide_eq_true (show ((min (k + 1) (hd h (k + 1)) : Nat) : Int) ≤ (g : Int) by omega)]
          by_cases q2 : g < max (k + 1) (hd h (k + 1))
          · rw [decide_eq_true (show ((max (k + 1) (hd h (k + 1)) : Nat) : Int) > (g : Int) by omega)]
            have e0 : overB h g (k + 1) = true := by unfold overB; rw [decide_eq_true_eq]; exact ⟨z, q1, q2⟩
            rw [fin true e0]
            rfl
          · rw [decide_eq_false (show ¬ ((max (k + 1) (hd h (k + 1)) : Nat) : Int) > (g : Int) by omega)]
            have e0 : overB h g (k + 1) = false := by unfold overB; rw [decide_eq_false_iff_not]; exact fun q => q2 q.2.2
            rw [fin false e0]
            rfl
        · rw [decide_eq_false (show ¬ ((min (k + 1) (hd h (k + 1)) : Nat) : Int) ≤ (g : Int) by omega)]
          have e0 : overB h g (k + 1) = false := by unfold overB; rw [decide_eq_false_iff_not]; exact fun q => q1 q.2.1
          rw [fin false e0]
          rfl)
    (by
      simp only [laws_FnLengthOf_n5]
      rw [decide_eq_false (show ¬ ((h.length + 1 : Nat) : Int) ≤ ((h.length : Nat) : Int) by omega)]
      rfl) LL (by simp only [LL]; omega)
  have lp' := lp
  rw [show s + sumR (fun i => ind (overB h g (i + 1))) 0 = s from rfl, show ((0 + 1 : Nat) : Int) = 1 from rfl] at lp'
  exact lp'

theorem gaps_loop {h : List Int} (T : Tree h) : laws_FnLengthOf_n13 h = some ((lenN h : Nat) : Int) := by
  unfold laws_FnLengthOf_n13
  have l8 := T.le
  have hp := T.pos
  have l64 := len_le T
  rw [len_gaps T] at l64 ⊢
  have lp := nloop_to (body := fun (s : Int × Int) => ((laws_FnLengthOf_n12 s.1 s.2 h).map (Sum.elim (fun (t : Int × Int) => Sum.inl (t.1, t.2)) (fun (t : Int) => Sum.inr t)) : Option ((Int × Int) ⊕ (Int))))
    (fun k => (((sumR (fun g => overN h (g + 1)) k : Nat) : Int), ((k + 1 : Nat) : Int))) (h.length - 1) ((sumR (fun g => overN h (g + 1)) (h.length - 1) : Nat) : Int)
    (by
      intro k hk
      have b := sum_part (fun g => overN h (g + 1)) (show k ≤ h.length - 1 by omega)
      have w : IntKind.wrap .i64 (((k + 1 : Nat) : Int) + 1) = ((k + 1 + 1 : Nat) : Int) := by rw [wrap64 (by omega) (by omega)]; omega
      simp only [laws_FnLengthOf_n12, laws_FnLengthOf_n3, laws_FnLengthOf_n11, laws_FnLengthOf_n9, laws_FnLengthOf_n8, laws_FnLengthOf_n4, laws_FnLengthOf_n7, laws_FnLengthOf_n10]
      rw [decide_eq_true (show ((k + 1 : Nat) : Int) < ((h.length : Nat) : Int) by omega)]
      simp only [cond_true, Option.bind_some, Sum.elim_inl]
      rw [over_loop T (by omega), w]
      rfl)
    (by
      simp only [laws_FnLengthOf_n12, laws_FnLengthOf_n3]
      rw [decide_eq_false (show ¬ ((h.length - 1 + 1 : Nat) : Int) < ((h.length : Nat) : Int) by omega)]
      rfl) LL (by simp only [LL]; omega)
  have lp' := lp
  rw [show sumR (fun g => overN h (g + 1)) 0 = 0 from rfl, show ((0 + 1 : Nat) : Int) = 1 from rfl, show ((0 : Nat) : Int) = 0 from rfl] at lp'
  exact lp'

theorem core_FnLengthOf (hL : ∀ h, h.length ≤ 1048576 → impl_LengthOf h = some (lenI h)) (x : List Int) (w : ∀ n ∈ x, (Lit.int .u8 n).wf = true) (l : x.length ≤ maxLen) : laws_FnLengthOf x = some true := by
  unfold laws_FnLengthOf laws_FnLengthOf_n18 laws_FnLengthOf_n1
  by_cases hx : x.length ≤ 1048576
  · rw [show decide (((x.length : Nat) : Int) > 1048576) = false from decide_eq_false (by omega)]
    obtain ⟨h, h8, hdr⟩ := drawn_wild x w l 9 (by omega)
    have hd' : spec_DrawLengthOf x = some h := by unfold spec_DrawLengthOf spec_DrawLengthOf_n1; exact hdr
    simp only [hd', cond_false, Option.bind_some, hL h (by omega), specLen_eq, bne_self_eq_false, alive_eq, implTree_eq]
    unfold lenI
    cases t : treeB h with
    | false => rfl
    | true =>
      have T := (tree_iff h).mpr |> fun _ => (tree_iff h).mp t
      have hp := T.pos
      have bk : backI h = backL h := by unfold backI; rw [t]; rfl
      have bt : treeB (backL h) = true := (tree_iff _).mpr (back_tree T)
      have le := len_least T
      simp only [if_true]
      rw [decide_eq_false (show ¬ ((lenN h : Nat) : Int) < 0 by omega)]
      simp only [cond_false, Option.bind_some, Sum.elim_inl, laws_FnLengthOf_n17, laws_FnLengthOf_n15, laws_FnLengthOf_n2, laws_FnLengthOf_n14]
      rw [gaps_loop T]
      simp only [Option.map_some, Option.bind_some, laws_FnLengthOf_n16, beq_self_eq_true, cond_true]
      rw [wrap64 (x := ((h.length : Nat) : Int) - 1) (by omega) (by omega), decide_eq_true (show ((lenN h : Nat) : Int) ≥ ((h.length : Nat) : Int) - 1 by omega), implBack_eq, bk]
      simp only [cond_true, Option.bind_some, hL (backL h) (by rw [backL_length]; omega)]
      unfold lenI
      rw [bt, if_pos rfl, back_len T]
      simp
  · rw [show decide (((x.length : Nat) : Int) > 1048576) = true from decide_eq_true (by omega)]
    rfl

theorem same_FnLengthOf (x : List Int) (w : ∀ n ∈ x, (Lit.int .u8 n).wf = true) (l : x.length ≤ maxLen) : laws_FnLengthOf x = some true :=
  core_FnLengthOf (fun h _ => implLen_eq h) x w l

end Go.Rv
