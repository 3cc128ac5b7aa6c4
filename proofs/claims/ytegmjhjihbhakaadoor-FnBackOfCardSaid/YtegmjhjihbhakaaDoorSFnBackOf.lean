/-
  The law FnBackOf, in plain words: it is true of every argument. Conditions: none.
-/
import Derived.Test.YtegmjhjihbhakaaDoorMce
import Derived.Test.YtegmjhjihbhakaaDoorMcd
import Derived.Test.YtegmjhjihbhakaaDoorMo
import Derived.Test.YtegmjhjihbhakaaDoorMf
set_option linter.unusedVariables false
set_option linter.unusedSimpArgs false
namespace Go.Rv

theorem same_FnBackOf (x : List Int) (w : ∀ n ∈ x, (Lit.int .u8 n).wf = true) (l : x.length ≤ maxLen) : laws_FnBackOf x = some true := by
  unfold laws_FnBackOf laws_FnBackOf_n9 laws_FnBackOf_n1
  by_cases hx : x.length ≤ 1048576
  · rw [show decide (((x.length : Nat) : Int) > 1048576) = false from decide_eq_false (by omega)]
    obtain ⟨h, h8, hdr⟩ := drawn_flat x w l 9 (by omega)
    have hd' : spec_DrawBackOf x = some h := by unfold spec_DrawBackOf spec_DrawBackOf_n1; exact hdr
    have hbl := backI_length h
    simp only [cond_false, hd', Option.bind_some, implBack_eq, specBack_eq, sameInts_eq (backI h) (backI h) (by omega), beq_self_eq_true, Bool.not_true, implTree_eq, alive_eq, implDepth_eq]
    cases hT : treeB h with
    | false => simp [backI, hT]
    | true =>
      have T := (tree_iff h).1 hT
      have T' := back_tree T
      have hT' : treeB (backL h) = true := (tree_iff _).2 T'
      have hb : backI h = backL h := by unfold backI; rw [hT]; rfl
      have hlen := backL_length h
      have hp := T.pos
      rw [hb, show ((((backL h).length : Nat) : Int) == 0) = false from beq_eq_false_iff_ne.2 (by omega)]
      have d1 : depthsI h = depRow h := by unfold depthsI; rw [hT]; rfl
      have d2 : depthsI (backL h) = depRow (backL h) := by unfold depthsI; rw [hT']; rfl
      rw [d1, d2, depRow_length, depRow_length, hlen, bne_self_eq_false]
      simp only [cond_false, Option.bind_some, Sum.elim_inl]
      unfold laws_FnBackOf_n8 laws_FnBackOf_n6 laws_FnBackOf_n2 laws_FnBackOf_n5 laws_FnBackOf_n4 laws_FnBackOf_n7
      have hloop := nloop_to (body := fun (s : Int) => ((laws_FnBackOf_n3 s (depRow h) (depRow (backL h))).map (Sum.elim (fun (t : Int) => Sum.inl t) (Sum.elim (fun (t : Bool) => Sum.inr (Sum.inl t)) (fun (t : Unit) => Sum.inr (Sum.inr t)))) : Option ((Int) ⊕ (Bool ⊕ Unit))))
        (fun k => (k : Int)) h.length (.inr ())
        (by
          intro k hk
          have g1 : (depRow (backL h))[k]? = some ((dep (backL h) (k + 1) : Nat) : Int) := by rw [List.getElem?_eq_getElem (by rw [depRow_length]; omega), depRow_get _ (by omega)]
          have g2 : (depRow h)[h.length - 1 - k]? = some ((dep h (h.length - 1 - k + 1) : Nat) : Int) := by rw [List.getElem?_eq_getElem (by rw [depRow_length]; omega), depRow_get _ (by omega)]
          have hd2 : dep (backL h) (k + 1) = dep h (h.length - k) := by
            have := put_dep T (lastL_length h.length) (lastL_order h.length) (k := k) (by rw [lastL_length]; exact hk)
            rw [lastL_get _ hk, Int.toNat_natCast] at this
            exact this
          simp only [laws_FnBackOf_n3, depRow_length, hlen]
          rw [show decide ((k : Int) < ((h.length : Nat) : Int)) = true from decide_eq_true (by omega), inb_nat hk, wrap64 (x := ((h.length : Nat) : Int) - 1) (by omega) (by omega), wrap64 (x := ((h.length : Nat) : Int) - 1 - (k : Int)) (by omega) (by omega),
            show ((h.length : Nat) : Int) - 1 - (k : Int) = ((h.length - 1 - k : Nat) : Int) by omega, inb_nat (show h.length - 1 - k < h.length by omega), wrap64 (by omega) (by omega)]
          simp only [cond_true, Option.bind_some, g1, g2]
          rw [hd2, show h.length - 1 - k + 1 = h.length - k by omega, bne_self_eq_false]
          rfl)
        (by
          simp only [laws_FnBackOf_n3, depRow_length]
          rw [show decide (((h.length : Nat) : Int) < ((h.length : Nat) : Int)) = false from decide_eq_false (by omega)]
          rfl)
      simp only [Option.bind_some]
      rw [show (0 : Int) = ((0 : Nat) : Int) from rfl, hloop LL (by simp only [LL]; omega), implTree_eq, hT', implBack_eq, implFlat_eq, implFlat_eq]
      have hbb : backI (backL h) = h := by unfold backI; rw [hT', if_pos rfl]; exact back_back T
      rw [hbb]
      simp only [Option.map_some, Sum.elim_inr, Option.bind_some, Sum.elim_inl, cond_true, sameInts_eq h h (by omega), beq_self_eq_true, flatI, hT, hT', back_flat T]
  · rw [show decide (((x.length : Nat) : Int) > 1048576) = true from decide_eq_true (by omega)]
    rfl

end Go.Rv
