/-
  The law FnPutInOrder, in plain words: it is true of every argument. Conditions: none.
-/
import Derived.Test.YtenenhmofmdcbaaMq
set_option linter.unusedVariables false
set_option linter.unusedSimpArgs false
namespace Go.Rv

theorem same_FnPutInOrder (x : List Int) (w : ∀ n ∈ x, (Lit.int .u8 n).wf = true) (l : x.length ≤ maxLen) : laws_FnPutInOrder x = some true := by
  unfold laws_FnPutInOrder laws_FnPutInOrder_n9 laws_FnPutInOrder_n1
  by_cases hx : x.length ≤ 1048576
  · rw [show decide (((x.length : Nat) : Int) > 1048576) = false from decide_eq_false (by omega)]
    obtain ⟨h, o, hd, h8, o8⟩ := drawn_put x w l
    simp only [cond_false, hd, Option.bind_some, implPut_eq, specPut_eq h o (by omega)]
    cases hTO : (treeB h && orderB o h.length) with
    | false => simp [sameInts_eq, alive_eq]
    | true =>
      simp only [Bool.and_eq_true] at hTO
      obtain ⟨hT, hO⟩ := hTO
      have T := (tree_iff h).1 hT
      obtain ⟨_, _, hl, hP⟩ := (orderB_iff o _).1 hO
      have hl' : o.length = h.length := by omega
      rw [← hl] at hP
      have hpl := putRow_length h o
      have T' := put_tree T hl' hP
      have hT' := (tree_iff _).2 T'
      simp only [if_true, sameInts_eq (putRow h o) (putRow h o) (by omega), implDepth_eq, depthsI, hT, hT', beq_self_eq_true, bne_self_eq_false, Bool.not_true, cond_false, Option.bind_some]
      rw [show ((((depRow h).length : Nat) : Int) != ((h.length : Nat) : Int)) = false by simp [depRow_length],
        show ((((depRow (putRow h o)).length : Nat) : Int) != ((h.length : Nat) : Int)) = false by simp [depRow_length, hpl, hl'],
        mk_nat (by omega)]
      simp only [cond_false, Option.bind_some, Sum.elim_inl]
      unfold laws_FnPutInOrder_n8 laws_FnPutInOrder_n6 laws_FnPutInOrder_n2 laws_FnPutInOrder_n5 laws_FnPutInOrder_n4
      have hloop := nloop_run (body := fun (s : Int × (List Int)) => ((laws_FnPutInOrder_n3 s.1 o (depRow h) (depRow (putRow h o)) s.2).map (Sum.elim (fun (t : Int × (List Int)) => Sum.inl (t.1, t.2)) (Sum.elim (fun (t : Bool) => Sum.inr (Sum.inl t)) (fun (t : (List Int)) => Sum.inr (Sum.inr t)))) : Option ((Int × (List Int)) ⊕ (Bool ⊕ ((List Int))))))
        (I := fun s => ∃ k : Nat, s = ((k : Int), (placesK o k).tail) ∧ k ≤ o.length) (μ := fun s => o.length - s.1.toNat) (f := fun _ => .inr (invO o))
        (by
          rintro _ ⟨k, rfl, hk⟩
          simp only [laws_FnPutInOrder_n3]
          by_cases hlt : k < o.length
          · left
            have hr := hP.1 k hlt
            obtain ⟨v, hv⟩ : ∃ v : Nat, o[k] = ((v + 1 : Nat) : Int) := ⟨o[k].toNat - 1, by omega⟩
            have hd1 : k < (depRow (putRow h o)).length := by rw [depRow_length]; omega
            have hd2 : v < (depRow h).length := by rw [depRow_length]; omega
            have g1 : (depRow (putRow h o))[k]? = some ((dep h (v + 1) : Nat) : Int) := by
              rw [List.getElem?_eq_getElem hd1, depRow_get _ (by omega), put_dep T hl' hP hlt, hv, Int.toNat_natCast]
            have g2 : (depRow h)[v]? = some ((dep h (v + 1) : Nat) : Int) := by
              rw [List.getElem?_eq_getElem hd2, depRow_get _ (by omega)]
            rw [show decide ((k : Int) < ((o.length : Nat) : Int)) = true from decide_eq_true (by omega), inb_nat hlt, inb_nat hd1]
            simp only [cond_true, Option.bind_some, g1, List.getElem?_eq_getElem hlt, hv]
            rw [wrap64 (x := ((v + 1 : Nat) : Int) - 1) (by omega) (by omega), show ((v + 1 : Nat) : Int) - 1 = (v : Int) by omega, inb_nat hd2, wrap64 (by omega) (by omega)]
            simp only [Option.bind_some, g2, bne_self_eq_false, cond_false]
            rw [inb_nat (show v < (placesK o k).tail.length by rw [List.length_tail, placesK_length]; omega)]
            refine ⟨(((k + 1 : Nat) : Int), (placesK o (k + 1)).tail), ?_, ⟨k + 1, rfl, hlt⟩, by simp; omega, trivial⟩
            rw [← placesK_step hP hlt hv, tail_set]
            simp
          · right
            have e : k = o.length := by omega
            subst e
            rw [show decide (((o.length : Nat) : Int) < ((o.length : Nat) : Int)) = false from decide_eq_false (by omega)]
            rfl)
      simp only [Option.bind_some]
      rw [show List.replicate o.length (0 : Int) = (placesK o 0).tail by rw [placesK_zero]; simp]
      rw [hloop LL (0, (placesK o 0).tail) ⟨0, rfl, by omega⟩ (by simp only [LL]; simp; omega)]
      have hlen := invO_length o
      have hO' : orderB (invO o) (putRow h o).length = true := (orderB_iff _ _).2 ⟨by omega, by omega, by omega, by rw [hpl]; exact invO_order hP⟩
      simp only [Option.map_some, Sum.elim_inr, Sum.elim_inl, Option.bind_some]
      unfold laws_FnPutInOrder_n7
      simp only [implPut_eq, hT', hO', Bool.and_self, if_true, Option.bind_some, implTree_eq, cond_true, invO_put T hl' hP, sameInts_eq h h (by omega), beq_self_eq_true]
  · rw [show decide (((x.length : Nat) : Int) > 1048576) = true from decide_eq_true (by omega)]
    rfl

end Go.Rv
