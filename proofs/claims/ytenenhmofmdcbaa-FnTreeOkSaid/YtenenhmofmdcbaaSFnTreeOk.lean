/-
  The law FnTreeOk, in plain words: it is true of every argument. Conditions: none.
-/
import Derived.Test.YtenenhmofmdcbaaMo
set_option linter.unusedVariables false
set_option linter.unusedSimpArgs false
namespace Go.Rv

theorem same_FnTreeOk (x : List Int) (w : ∀ n ∈ x, (Lit.int .u8 n).wf = true) (l : x.length ≤ maxLen) : laws_FnTreeOk x = some true := by
  unfold laws_FnTreeOk laws_FnTreeOk_n9 laws_FnTreeOk_n1
  by_cases hx : x.length ≤ 1048576
  · rw [show decide (((x.length : Nat) : Int) > 1048576) = false from decide_eq_false (by omega)]
    obtain ⟨h, h8, hdr⟩ := drawn_tree x w l 2 (by omega)
    have hd' : spec_DrawTreeOk x = some h := by unfold spec_DrawTreeOk spec_DrawTreeOk_n1; exact hdr
    simp only [cond_false, hd', Option.bind_some, implTree_eq, specTree_eq, bne_self_eq_false, Sum.elim_inl]
    unfold laws_FnTreeOk_n8 laws_FnTreeOk_n6 laws_FnTreeOk_n2 laws_FnTreeOk_n5 laws_FnTreeOk_n4
    have hloop := nloop_run (body := fun (s : Int) => ((laws_FnTreeOk_n3 (treeB h) s h).map (Sum.elim (fun (t : Int) => Sum.inl t) (Sum.elim (fun (t : Bool) => Sum.inr (Sum.inl t)) (fun (t : Unit) => Sum.inr (Sum.inr t)))) : Option ((Int) ⊕ (Bool ⊕ Unit))))
      (I := fun s => ∃ k : Nat, s = ((k + 1 : Nat) : Int) ∧ k ≤ h.length) (μ := fun s => h.length + 1 - s.toNat) (f := fun _ => .inr ())
      (by
        rintro _ ⟨k, rfl, hk⟩
        simp only [laws_FnTreeOk_n3]
        by_cases hlt : k < h.length
        · rw [show decide (((k + 1 : Nat) : Int) ≤ ((h.length : Nat) : Int)) = true from decide_eq_true (by omega)]
          cases hT : treeB h with
          | false => right; rfl
          | true =>
            have T := (tree_iff h).1 hT
            by_cases h7 : h.length < 8
            · left
              rw [show decide (((h.length : Nat) : Int) < 8) = true from decide_eq_true (by omega), wrap64 (by omega) (by omega)]
              have ht : treeB (h ++ [((k + 1 : Nat) : Int)]) = true := (tree_iff _).2 (T.add h7 (by omega) (by omega))
              refine ⟨((k + 1 + 1 : Nat) : Int), ?_, ⟨k + 1, rfl, hlt⟩, by omega, trivial⟩
              simp only [cond_true, room_le (show (List.length ([] : List Int)) + List.length h ≤ 1099511627776 by simp; omega), List.nil_append, room_le (show h.length + List.length ([((k + 1 : Nat) : Int)]) ≤ 1099511627776 by simp; omega), Option.bind_some, implTree_eq, ht, Bool.not_true, cond_false]
              rfl
            · right
              rw [show decide (((h.length : Nat) : Int) < 8) = false from decide_eq_false (by omega)]
              rfl
        · right
          rw [show decide (((k + 1 : Nat) : Int) ≤ ((h.length : Nat) : Int)) = false from decide_eq_false (by omega)]
          rfl)
    simp only [Option.bind_some]
    rw [hloop LL 1 ⟨0, rfl, by omega⟩ (by simp only [LL]; omega)]
    simp [laws_FnTreeOk_n7, implTree_eq, tree0, tree21, alive_eq]
  · rw [show decide (((x.length : Nat) : Int) > 1048576) = true from decide_eq_true (by omega)]
    rfl

end Go.Rv
