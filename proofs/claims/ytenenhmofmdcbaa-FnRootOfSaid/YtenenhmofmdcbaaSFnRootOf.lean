/-
  The law FnRootOf, in plain words: it is true of every argument. Conditions: none.
-/
import Derived.Test.YtenenhmofmdcbaaMo
set_option linter.unusedVariables false
set_option linter.unusedSimpArgs false
namespace Go.Rv

theorem same_FnRootOf (x : List Int) (w : ∀ n ∈ x, (Lit.int .u8 n).wf = true) (l : x.length ≤ maxLen) : laws_FnRootOf x = some true := by
  unfold laws_FnRootOf laws_FnRootOf_n9 laws_FnRootOf_n1
  by_cases hx : x.length ≤ 1048576
  · rw [show decide (((x.length : Nat) : Int) > 1048576) = false from decide_eq_false (by omega)]
    obtain ⟨h, h8, hdr⟩ := drawn_tree x w l 9 (by omega)
    have hd' : spec_DrawRootOf x = some h := by unfold spec_DrawRootOf spec_DrawRootOf_n1; exact hdr
    simp only [cond_false, hd', Option.bind_some, implRoot_eq, specRoot_eq h (by omega), bne_self_eq_false, implTree_eq, implDepth_eq]
    unfold rootI depthsI
    cases hT : treeB h with
    | false => simp [alive_eq]
    | true =>
      have T := (tree_iff h).1 hT
      simp only [if_true]
      rw [show decide ((top h : Int) < 0) = false from decide_eq_false (by omega), show ((((depRow h).length : Nat) : Int) != ((h.length : Nat) : Int)) = false by simp [depRow_length]]
      simp only [cond_false, Option.bind_some, Sum.elim_inl]
      unfold laws_FnRootOf_n8 laws_FnRootOf_n6 laws_FnRootOf_n2 laws_FnRootOf_n5 laws_FnRootOf_n4 laws_FnRootOf_n7
      have hloop := nloop_run (body := fun (s : Int) => ((laws_FnRootOf_n3 (top h) s h (depRow h)).map (Sum.elim (fun (t : Int) => Sum.inl t) (Sum.elim (fun (t : Bool) => Sum.inr (Sum.inl t)) (fun (t : Unit) => Sum.inr (Sum.inr t)))) : Option ((Int) ⊕ (Bool ⊕ Unit))))
        (I := fun s => ∃ k : Nat, s = (k : Int) ∧ k ≤ h.length) (μ := fun s => h.length - s.toNat) (f := fun _ => .inr ())
        (by
          rintro _ ⟨k, rfl, hk⟩
          simp only [laws_FnRootOf_n3]
          by_cases hlt : k < h.length
          · left
            have hg := T.get (w := k + 1) (by omega) (by omega)
            rw [show k + 1 - 1 = k by omega] at hg
            have hdl : k < (depRow h).length := by rw [depRow_length]; exact hlt
            rw [show decide ((k : Int) < ((h.length : Nat) : Int)) = true from decide_eq_true (by omega), inb_nat hlt, inb_nat hdl, wrap64 (by omega) (by omega)]
            simp only [cond_true, Option.bind_some, hg, List.getElem?_eq_getElem hdl, depRow_get h hlt]
            have z1 := T.hd_zero (w := k + 1) (by omega) (by omega)
            have z2 := T.dep_zero (w := k + 1) (by omega) (by omega)
            have e1 : ((((hd h (k + 1) : Nat) : Int) == 0) != ((k : Int) + 1 == (top h : Int))) = false := by
              by_cases e : k + 1 = top h
              · have a1 : (((hd h (k + 1) : Nat) : Int) == 0) = true := by rw [beq_iff_eq]; have := z1.2 e; omega
                have a2 : ((k : Int) + 1 == (top h : Int)) = true := by rw [beq_iff_eq]; omega
                rw [a1, a2]; rfl
              · have a1 : (((hd h (k + 1) : Nat) : Int) == 0) = false := by rw [beq_eq_false_iff_ne]; intro hh; exact e (z1.1 (by omega))
                have a2 : ((k : Int) + 1 == (top h : Int)) = false := by rw [beq_eq_false_iff_ne]; omega
                rw [a1, a2]; rfl
            have e2 : ((((dep h (k + 1) : Nat) : Int) == 0) != ((k : Int) + 1 == (top h : Int))) = false := by
              by_cases e : k + 1 = top h
              · have a1 : (((dep h (k + 1) : Nat) : Int) == 0) = true := by rw [beq_iff_eq]; have := z2.2 e; omega
                have a2 : ((k : Int) + 1 == (top h : Int)) = true := by rw [beq_iff_eq]; omega
                rw [a1, a2]; rfl
              · have a1 : (((dep h (k + 1) : Nat) : Int) == 0) = false := by rw [beq_eq_false_iff_ne]; intro hh; exact e (z2.1 (by omega))
                have a2 : ((k : Int) + 1 == (top h : Int)) = false := by rw [beq_eq_false_iff_ne]; omega
                rw [a1, a2]; rfl
            rw [e1, e2]
            exact ⟨((k + 1 : Nat) : Int), by simp, ⟨k + 1, rfl, hlt⟩, by omega, trivial⟩
          · right
            have e : k = h.length := by omega
            subst e
            rw [show decide (((h.length : Nat) : Int) < ((h.length : Nat) : Int)) = false from decide_eq_false (by omega)]
            rfl)
      simp only [Option.bind_some]
      rw [hloop LL 0 ⟨0, rfl, by omega⟩ (by simp only [LL]; simp; omega)]
      rfl
  · rw [show decide (((x.length : Nat) : Int) > 1048576) = true from decide_eq_true (by omega)]
    rfl

end Go.Rv
