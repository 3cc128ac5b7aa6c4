/-
  The law FnDepthOf, in plain words: it is true of every argument. Conditions: none.
-/
import Derived.Test.YtenenhmofmdcbaaMo
set_option linter.unusedVariables false
set_option linter.unusedSimpArgs false
namespace Go.Rv

theorem same_FnDepthOf (x : List Int) (w : ∀ n ∈ x, (Lit.int .u8 n).wf = true) (l : x.length ≤ maxLen) : laws_FnDepthOf x = some true := by
  unfold laws_FnDepthOf laws_FnDepthOf_n9 laws_FnDepthOf_n1
  by_cases hx : x.length ≤ 1048576
  · rw [show decide (((x.length : Nat) : Int) > 1048576) = false from decide_eq_false (by omega)]
    obtain ⟨h, h8, hdr⟩ := drawn_tree x w l 9 (by omega)
    have hd' : spec_DrawDepthOf x = some h := by unfold spec_DrawDepthOf spec_DrawDepthOf_n1; exact hdr
    have hlen := depthsI_length h
    simp only [cond_false, hd', Option.bind_some, implDepth_eq, specDepth_eq h (by omega), sameInts_eq (depthsI h) (depthsI h) (by omega), beq_self_eq_true, Bool.not_true, implTree_eq]
    unfold depthsI
    cases hT : treeB h with
    | false => simp [alive_eq]
    | true =>
      have T := (tree_iff h).1 hT
      have hpos := T.top_lt
      simp only [if_true]
      rw [show ((((depRow h).length : Nat) : Int) == 0) = false from beq_eq_false_iff_ne.2 (by rw [depRow_length]; omega)]
      simp only [cond_false, Option.bind_some, Sum.elim_inl]
      unfold laws_FnDepthOf_n8 laws_FnDepthOf_n6 laws_FnDepthOf_n2 laws_FnDepthOf_n5 laws_FnDepthOf_n4 laws_FnDepthOf_n7
      have hloop := nloop_run (body := fun (s : Int) => ((laws_FnDepthOf_n3 s h (depRow h)).map (Sum.elim (fun (t : Int) => Sum.inl t) (Sum.elim (fun (t : Bool) => Sum.inr (Sum.inl t)) (fun (t : Unit) => Sum.inr (Sum.inr t)))) : Option ((Int) ⊕ (Bool ⊕ Unit))))
        (I := fun s => ∃ k : Nat, s = (k : Int) ∧ k ≤ h.length) (μ := fun s => h.length - s.toNat) (f := fun _ => .inr ())
        (by
          rintro _ ⟨k, rfl, hk⟩
          simp only [laws_FnDepthOf_n3]
          by_cases hlt : k < h.length
          · left
            have hg := T.get (w := k + 1) (by omega) (by omega)
            rw [show k + 1 - 1 = k by omega] at hg
            have hdl : k < (depRow h).length := by rw [depRow_length]; exact hlt
            have z3 := T.dep_lt (w := k + 1) (by omega) (by omega)
            have hgd : (depRow h)[k]? = some ((dep h (k + 1) : Nat) : Int) := by rw [List.getElem?_eq_getElem hdl, depRow_get h hlt]
            rw [show decide ((k : Int) < ((h.length : Nat) : Int)) = true from decide_eq_true (by omega), inb_nat hlt, inb_nat hdl, wrap64 (x := (k : Int) + 1) (by omega) (by omega)]
            simp only [cond_true, Option.bind_some, hg, hgd]
            rw [show decide (((dep h (k + 1) : Nat) : Int) ≥ ((h.length : Nat) : Int)) = false from decide_eq_false (by omega)]
            simp only [cond_false]
            by_cases hz : hd h (k + 1) = 0
            · have d0 : dep h (k + 1) = 0 := (T.dep_zero (by omega) (by omega)).2 ((T.hd_zero (by omega) (by omega)).1 hz)
              rw [hz, d0]
              exact ⟨((k + 1 : Nat) : Int), by simp, ⟨k + 1, rfl, hlt⟩, by omega, trivial⟩
            · have hle := T.hd_le (w := k + 1) (by omega) (by omega)
              have hs := T.dep_step (w := k + 1) (by omega) (by omega) hz
              have hml : hd h (k + 1) - 1 < (depRow h).length := by rw [depRow_length]; omega
              have hgm : (depRow h)[hd h (k + 1) - 1]? = some ((dep h (hd h (k + 1)) : Nat) : Int) := by
                rw [List.getElem?_eq_getElem hml, depRow_get h (by omega), show hd h (k + 1) - 1 + 1 = hd h (k + 1) by omega]
              rw [show decide (((hd h (k + 1) : Nat) : Int) > 0) = true from decide_eq_true (by omega), wrap64 (x := ((hd h (k + 1) : Nat) : Int) - 1) (by omega) (by omega),
                show ((hd h (k + 1) : Nat) : Int) - 1 = ((hd h (k + 1) - 1 : Nat) : Int) by omega, inb_nat hml]
              have dl2 := T.dep_lt (w := hd h (k + 1)) (by omega) (by omega)
              simp only [cond_true, Option.bind_some, hgm]
              rw [wrap64 (x := ((dep h (hd h (k + 1)) : Nat) : Int) + 1) (by omega) (by omega), show (((dep h (k + 1) : Nat) : Int) != ((dep h (hd h (k + 1)) : Nat) : Int) + 1) = false from by rw [hs]; simp,
                show (((hd h (k + 1) : Nat) : Int) == 0) = false from beq_eq_false_iff_ne.2 (by omega)]
              exact ⟨((k + 1 : Nat) : Int), by simp, ⟨k + 1, rfl, hlt⟩, by omega, trivial⟩
          · right
            have e : k = h.length := by omega
            subst e
            rw [show decide (((h.length : Nat) : Int) < ((h.length : Nat) : Int)) = false from decide_eq_false (by omega)]
            rfl)
      simp only [Option.bind_some]
      rw [hloop LL 0 ⟨0, rfl, by omega⟩ (by simp only [LL]; simp; omega)]
      simp [depRow_length]
  · rw [show decide (((x.length : Nat) : Int) > 1048576) = true from decide_eq_true (by omega)]
    rfl

end Go.Rv
