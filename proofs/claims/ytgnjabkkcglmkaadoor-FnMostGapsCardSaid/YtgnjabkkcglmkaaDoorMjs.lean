/-
  Trees put in an order, as the model does it. Conditions: none.
-/
import Derived.Test.YtgnjabkkcglmkaaDoorMj
import Derived.Test.YtgnjabkkcglmkaaDoorMis
set_option linter.unusedVariables false
set_option linter.unusedSimpArgs false
namespace Go.Rv

theorem places_loopS (o : List Int) (hl : o.length ≤ 8) (hP : OrderP o (o.length : Nat)) :
    nloop (fun (s : Int × (List Int)) => ((spec_PutInOrder_n3 o s.1 s.2).map (Sum.elim (fun (t : Int × (List Int)) => Sum.inl (t.1, t.2)) (fun (t : (List Int)) => Sum.inr t)) : Option ((Int × (List Int)) ⊕ (((List Int)))))) LL (0, List.replicate (o.length + 1) 0) = some (placesL o) := places_loop o hl hP

theorem specPut_eq (h o : List Int) (hlo : o.length ≤ 1048576) : spec_PutInOrder h o = some (if treeB h && orderB o h.length then (true, putRow h o) else (false, [])) := by
  unfold spec_PutInOrder spec_PutInOrder_n17 spec_PutInOrder_n1
  rw [specTree_eq, specOrder_eq o _ hlo]
  cases hT : treeB h with
  | false => simp
  | true =>
    cases hO : orderB o h.length with
    | false => simp
    | true =>
      have T := (tree_iff h).1 hT
      unfold orderB at hO
      simp only [Bool.and_eq_true, decide_eq_true_eq, beq_iff_eq] at hO
      obtain ⟨⟨_, hlen⟩, hA⟩ := hO
      have hl : o.length = h.length := by omega
      have hle := T.le
      have hP : OrderP o (o.length : Nat) := by rw [hl]; exact (orderAll_iff o _).1 hA
      rw [wrap64 (by omega) (by omega), show ((h.length : Nat) : Int) + 1 = ((o.length + 1 : Nat) : Int) by omega, mk_nat (by omega)]
      simp only [Option.bind_some, Bool.not_true, cond_false, Sum.elim_inl, Bool.and_self, if_true]
      unfold spec_PutInOrder_n16 spec_PutInOrder_n6 spec_PutInOrder_n2 spec_PutInOrder_n5 spec_PutInOrder_n4
      rw [places_loopS o (by omega) hP]
      unfold spec_PutInOrder_n15 spec_PutInOrder_n7 spec_PutInOrder_n14 spec_PutInOrder_n12 spec_PutInOrder_n8 spec_PutInOrder_n11 spec_PutInOrder_n10 spec_PutInOrder_n13
      simp only [Option.bind_some, Option.map_some]
      have hloop := nloop_run (body := fun (s : Int × (List Int)) => ((spec_PutInOrder_n9 h o s.1 (placesL o) s.2).map (Sum.elim (fun (t : Int × (List Int)) => Sum.inl (t.1, t.2)) (fun (t : (List Int)) => Sum.inr t)) : Option ((Int × (List Int)) ⊕ (((List Int))))))
        (I := fun s => ∃ k : Nat, s.1 = (k : Int) ∧ k ≤ o.length ∧ s.2.length ≤ k) (μ := fun s => o.length - s.1.toNat) (f := fun s => s.2 ++ (putRow h o).drop s.1.toNat)
        (by
          rintro ⟨_, out⟩ ⟨k, rfl, hk, ho⟩
          simp only at ho
          simp only [spec_PutInOrder_n9]
          by_cases hlt : k < o.length
          · left
            obtain ⟨w, x, h1, hw, h2, h3, h4⟩ := put_reads T hl hP hlt
            refine ⟨(((k + 1 : Nat) : Int), out ++ [newHd h o k]), ?_, ⟨k + 1, rfl, hlt, by simp; omega⟩, by simp; omega, ?_⟩
            · rw [show decide ((k : Int) < ((o.length : Nat) : Int)) = true from decide_eq_true (by omega), idx_lt hlt]
              simp only [cond_true, Option.bind_some]
              rw [h1, wrap64 (x := ((w + 1 : Nat) : Int) - 1) (by omega) (by omega), show ((w + 1 : Nat) : Int) - 1 = (w : Int) by omega, idx_nat, h2, wrap64 (by omega) (by omega)]
              simp only [Option.bind_some]
              rw [inb_nat (by rw [placesL, placesK_length]; exact h3)]
              simp only [Option.bind_some, h4, room_le (show out.length + [newHd h o k].length ≤ 1099511627776 by simp; omega)]
              simp
            · simp only [Int.toNat_natCast]
              rw [putRow_drop h o hlt]
              simp
          · right
            have e : k = o.length := by omega
            subst e
            rw [show decide (((o.length : Nat) : Int) < ((o.length : Nat) : Int)) = false from decide_eq_false (by omega)]
            simp [List.drop_of_length_le (Nat.le_of_eq (putRow_length h o))])
      rw [hloop LL (0, []) ⟨0, by simp, by omega, by simp⟩ (by simp only [LL]; simp; omega)]
      simp

end Go.Rv
