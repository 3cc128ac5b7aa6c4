/-
  The law FnEndsOf, in plain words: it is true of every argument. Conditions: none.
-/
import Derived.Test.YtcidinfpacpdaaaHFnEndsOf
set_option linter.unusedVariables false
set_option linter.unusedSimpArgs false
namespace Go.Rv

theorem endsLaw_loop {h : List Int} (T : Tree h) : laws_FnEndsOf_n4 h (endsI h) (endsI (backL h)) = some (Sum.inr ((2 * (h.length - 1) : Nat) : Int)) := by
  unfold laws_FnEndsOf_n4
  have t := (tree_iff h).mpr T
  have l8 := T.le
  have hp := T.pos
  have el := endsI_length t
  have bl : (endsI (backL h)).length = h.length := by rw [endsI_length (back_treeB T), backL_length]
  have tot := ends_total T
  have lp := nloop_to (body := fun (s : Int × Int) => ((laws_FnEndsOf_n3 s.1 s.2 h (endsI h) (endsI (backL h))).map (Sum.elim (fun (t : Int × Int) => Sum.inl (t.1, t.2)) (Sum.elim (fun (t : Bool) => Sum.inr (Sum.inl t)) (fun (t : Int) => Sum.inr (Sum.inr t)))) : Option ((Int × Int) ⊕ (Bool ⊕ Int))))
    (fun k => (((sumR (fun i => endsW h (i + 1)) k : Nat) : Int), (k : Int))) h.length (Sum.inr ((2 * (h.length - 1) : Nat) : Int))
    (by
      intro k hk
      have b := sum_part (fun i => endsW h (i + 1)) (show k + 1 ≤ h.length by omega)
      rw [sumR] at b
      have g := endsI_get t hk
      have gb := endsI_back T hk
      have w : IntKind.wrap .i64 ((k : Int) + 1) = ((k + 1 : Nat) : Int) := by rw [wrap64 (by omega) (by omega)]; omega
      have wl : IntKind.wrap .i64 (IntKind.wrap .i64 (((h.length : Nat) : Int) - 1) - (k : Int)) = ((h.length - 1 - k : Nat) : Int) := by
        rw [wrap64 (x := ((h.length : Nat) : Int) - 1) (by omega) (by omega), wrap64 (by omega) (by omega)]
        omega
      have w2 : IntKind.wrap .i64 (((sumR (fun i => endsW h (i + 1)) k : Nat) : Int) + ((endsW h (k + 1) : Nat) : Int)) = ((sumR (fun i => endsW h (i + 1)) k + endsW h (k + 1) : Nat) : Int) := by rw [wrap64 (by omega) (by omega)]; omega
      simp only [laws_FnEndsOf_n3]
      rw [el, bl, decide_eq_true (show (k : Int) < ((h.length : Nat) : Int) by omega), inb_nat hk, wl, inb_nat (show h.length - 1 - k < h.length by omega), w]
      simp only [cond_true, Option.bind_some, g, gb, w2, bne_self_eq_false, cond_false]
      by_cases q : 1 < h.length
      · have ep := endsW_pos T (show 2 ≤ h.length by omega) (show 1 ≤ k + 1 by omega) (show k + 1 ≤ h.length by omega)
        rw [decide_eq_true (show ((h.length : Nat) : Int) > 1 by omega), decide_eq_false (show ¬ ((endsW h (k + 1) : Nat) : Int) < 1 by omega)]
        rfl
      · rw [decide_eq_false (show ¬ ((h.length : Nat) : Int) > 1 by omega)]
        rfl)
    (by
      simp only [laws_FnEndsOf_n3]
      rw [el, decide_eq_false (show ¬ ((h.length : Nat) : Int) < ((h.length : Nat) : Int) by omega), tot]
      rfl) LL (by simp only [LL]; omega)
  have lp' := lp
  rw [show sumR (fun i => endsW h (i + 1)) 0 = 0 from rfl, show ((0 : Nat) : Int) = 0 from rfl] at lp'
  exact lp'

theorem core_FnEndsOf (hE : ∀ h, h.length ≤ 1048576 → impl_EndsOf h = some (endsI h)) (x : List Int) (w : ∀ n ∈ x, (Lit.int .u8 n).wf = true) (l : x.length ≤ maxLen) : laws_FnEndsOf x = some true := by
  unfold laws_FnEndsOf laws_FnEndsOf_n9 laws_FnEndsOf_n1
  by_cases hx : x.length ≤ 1048576
  · rw [show decide (((x.length : Nat) : Int) > 1048576) = false from decide_eq_false (by omega)]
    obtain ⟨h, h8, hdr⟩ := drawn_wild x w l 9 (by omega)
    have hd' : spec_DrawEndsOf x = some h := by unfold spec_DrawEndsOf spec_DrawEndsOf_n1; exact hdr
    simp only [hd', cond_false, Option.bind_some, hE h (by omega), specEnds_eq, alive_eq, implTree_eq, implBack_eq]
    cases t : treeB h with
    | false =>
      have e0 : endsI h = [] := by unfold endsI; rw [t]; rfl
      rw [e0, sameInts_eq [] [] (by simp)]
      rfl
    | true =>
      have T := (tree_iff h).mp t
      have hp := T.pos
      have el := endsI_length t
      have bk : backI h = backL h := by unfold backI; rw [t]; rfl
      have bl : (endsI (backL h)).length = h.length := by rw [endsI_length (back_treeB T), backL_length]
      rw [sameInts_eq _ _ (by omega), bk, hE (backL h) (by rw [backL_length]; omega)]
      simp only [beq_self_eq_true, Option.bind_some, Bool.not_true, cond_false]
      rw [el, bl, show (((h.length : Nat) : Int) == 0) = false from beq_eq_false_iff_ne.mpr (by omega)]
      simp only [cond_false, bne_self_eq_false, Option.bind_some, Sum.elim_inl, laws_FnEndsOf_n8, laws_FnEndsOf_n6, laws_FnEndsOf_n2, laws_FnEndsOf_n5]
      rw [endsLaw_loop T]
      simp only [Option.map_some, Sum.elim_inr, Option.bind_some, Sum.elim_inl, laws_FnEndsOf_n7]
      rw [wrap64 (x := ((h.length : Nat) : Int) - 1) (by omega) (by omega), wrap64 (by omega) (by omega)]
      congr 1
      rw [beq_iff_eq]
      omega
  · rw [show decide (((x.length : Nat) : Int) > 1048576) = true from decide_eq_true (by omega)]
    rfl

theorem same_FnEndsOf (x : List Int) (w : ∀ n ∈ x, (Lit.int .u8 n).wf = true) (l : x.length ≤ maxLen) : laws_FnEndsOf x = some true :=
  core_FnEndsOf (fun h _ => implEnds_eq h) x w l

end Go.Rv
