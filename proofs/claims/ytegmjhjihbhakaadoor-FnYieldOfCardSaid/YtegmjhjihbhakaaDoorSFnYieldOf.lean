/-
  The law FnYieldOf, in plain words: it is true of every argument. Conditions: none.
-/
import Derived.Test.YtegmjhjihbhakaaDoorMzb
import Derived.Test.YtegmjhjihbhakaaDoorMz
import Derived.Test.YtegmjhjihbhakaaDoorMo
import Derived.Test.YtegmjhjihbhakaaDoorMh
import Derived.Test.YtegmjhjihbhakaaDoorMha
set_option linter.unusedVariables false
set_option linter.unusedSimpArgs false
namespace Go.Rv

theorem same_FnYieldOf (x : List Int) (w : ∀ n ∈ x, (Lit.int .u8 n).wf = true) (l : x.length ≤ maxLen) : laws_FnYieldOf x = some true := by
  unfold laws_FnYieldOf laws_FnYieldOf_n22 laws_FnYieldOf_n1
  by_cases hx : x.length ≤ 1048576
  · rw [show decide (((x.length : Nat) : Int) > 1048576) = false from decide_eq_false (by omega)]
    obtain ⟨v, h, hdr, h8, v1, v2⟩ := drawn_yield x w l
    have hdr' : spec_DrawYieldOf x = some (v, h) := by
      unfold spec_DrawYieldOf spec_DrawYieldOf_n1
      exact hdr
    have hlen := yieldI_length h v
    simp only [cond_false, hdr', Option.bind_some, implYield_eq, specYield_eq, sameInts_eq (yieldI h v) (yieldI h v) (by omega), beq_self_eq_true, Bool.not_true, alive_eq]
    cases hw : wordB h v with
    | false =>
      have : yieldI h v = [] := by unfold yieldI; rw [hw]; rfl
      rw [this]; rfl
    | true =>
      obtain ⟨u, rfl, T, u1, u2⟩ := wordB_iff.1 hw
      have hT : treeB h = true := (tree_iff h).2 T
      have yl := yield_length T u1 u2
      have hpos := under_pos u1 u2
      rw [show ((((yieldI h (u : Int)).length : Nat) : Int) == 0) = false from beq_eq_false_iff_ne.2 (by omega)]
      simp only [cond_false, Option.bind_some, Sum.elim_inl]
      unfold laws_FnYieldOf_n21 laws_FnYieldOf_n19 laws_FnYieldOf_n2 laws_FnYieldOf_n18 laws_FnYieldOf_n17 laws_FnYieldOf_n20
      have hinner : ∀ k, 1 ≤ k → k ≤ h.length → laws_FnYieldOf_n9 (yieldI h (u : Int)) (yieldI h (k : Int)) = some (((yieldI h (k : Int)).countP (fun x => decide (x ∈ yieldI h (u : Int))) : Nat) : Int) := fun k k1 k2 => by
        unfold laws_FnYieldOf_n9 laws_FnYieldOf_n5 laws_FnYieldOf_n8 laws_FnYieldOf_n7
        have hk8 := yieldI_length h (k : Int)
        generalize hys : yieldI h (k : Int) = ys at hk8 ⊢
        have hloop := nloop_to (body := fun (s : Int × Int) => ((laws_FnYieldOf_n6 s.1 s.2 (yieldI h (u : Int)) ys).map (Sum.elim (fun (t : Int × Int) => Sum.inl (t.1, t.2)) (fun (t : Int) => Sum.inr t)) : Option ((Int × Int) ⊕ (Int))))
          (fun j => ((((ys.take j).countP (fun x => decide (x ∈ yieldI h (u : Int))) : Nat) : Int), (j : Int))) ys.length ((ys.countP (fun x => decide (x ∈ yieldI h (u : Int))) : Nat) : Int)
          (by
            intro j hj
            have hc : (ys.take j).countP (fun x => decide (x ∈ yieldI h (u : Int))) ≤ j := Nat.le_trans List.countP_le_length (by simp; omega)
            simp only [laws_FnYieldOf_n6]
            rw [show decide ((j : Int) < ((ys.length : Nat) : Int)) = true from decide_eq_true (by omega), inb_nat hj]
            simp only [cond_true, Option.bind_some, List.getElem?_eq_getElem hj, hasInt_eq _ _ (show (yieldI h (u : Int)).length ≤ 1048576 by omega)]
            rw [wrap64 (x := (j : Int) + 1) (by omega) (by omega), wrap64 (by omega) (by omega), List.take_add_one, List.getElem?_eq_getElem hj]
            simp only [Option.toList_some, List.countP_append, List.countP_cons, List.countP_nil]
            cases decide (ys[j] ∈ yieldI h (u : Int)) <;> rfl)
          (by
            simp only [laws_FnYieldOf_n6]
            rw [show decide (((ys.length : Nat) : Int) < ((ys.length : Nat) : Int)) = false from decide_eq_false (by omega), List.take_length]
            rfl)
        have hl := hloop LL (by simp only [LL]; omega)
        rw [List.take_zero, List.countP_nil] at hl
        simp only [Option.bind_some]
        rw [show ((0 : Int), (0 : Int)) = (((0 : Nat) : Int), ((0 : Nat) : Int)) from rfl, hl]
        rfl
      have hloop := nloop_to (body := fun (s : Int) => ((laws_FnYieldOf_n16 s h (yieldI h (u : Int))).map (Sum.elim (fun (t : Int) => Sum.inl t) (Sum.elim (fun (t : Bool) => Sum.inr (Sum.inl t)) (fun (t : Unit) => Sum.inr (Sum.inr t)))) : Option ((Int) ⊕ (Bool ⊕ Unit))))
        (fun k => ((k + 1 : Nat) : Int)) h.length (.inr ())
        (by
          intro k hk
          simp only [laws_FnYieldOf_n16, laws_FnYieldOf_n3]
          rw [show decide (((k + 1 : Nat) : Int) ≤ ((h.length : Nat) : Int)) = true from decide_eq_true (by omega)]
          simp only [cond_true, Option.bind_some, Sum.elim_inl]
          unfold laws_FnYieldOf_n15 laws_FnYieldOf_n13 laws_FnYieldOf_n12 laws_FnYieldOf_n4 laws_FnYieldOf_n11 laws_FnYieldOf_n14
          rw [implYield_eq]
          simp only [Option.bind_some]
          rw [hinner (k + 1) (by omega) (by omega), wrap64 (by omega) (by omega)]
          simp only [Option.bind_some]
          unfold laws_FnYieldOf_n10
          have hc := yield_common T u1 u2 (k := k + 1) (by omega) (by omega)
          have hn := yield_nested T (w := u) (k := k + 1)
          have yk := yield_length T (w := k + 1) (by omega) (by omega)
          rw [← hc] at hn
          generalize (yieldI h ((k + 1 : Nat) : Int)).countP (fun x => decide (x ∈ yieldI h (u : Int))) = c at hn ⊢
          have key : (cond ((c : Int) != 0) (cond ((c : Int) != (((yieldI h (u : Int)).length : Nat) : Int)) (cond ((c : Int) != (((yieldI h ((k + 1 : Nat) : Int)).length : Nat) : Int)) (some (Sum.inr false)) (some (Sum.inl ()))) (some (Sum.inl ()))) (some (Sum.inl ())) : Option (Unit ⊕ Bool)) = some (Sum.inl ()) := by
            rcases hn with e | e | e
            · subst e; rfl
            · have : ((c : Int) != (((yieldI h (u : Int)).length : Nat) : Int)) = false := by rw [bne_eq_false_iff_eq]; omega
              rw [this]; cases ((c : Int) != 0) <;> rfl
            · have : ((c : Int) != (((yieldI h ((k + 1 : Nat) : Int)).length : Nat) : Int)) = false := by rw [bne_eq_false_iff_eq]; omega
              rw [this]; cases ((c : Int) != 0) <;> cases ((c : Int) != (((yieldI h (u : Int)).length : Nat) : Int)) <;> rfl
          rw [key]
          rfl)
        (by
          simp only [laws_FnYieldOf_n16, laws_FnYieldOf_n3]
          rw [show decide (((h.length + 1 : Nat) : Int) ≤ ((h.length : Nat) : Int)) = false from decide_eq_false (by omega)]
          rfl)
      simp only [Option.bind_some]
      rw [show (1 : Int) = ((0 + 1 : Nat) : Int) from rfl, hloop LL (by simp only [LL]; omega), ascend_true _ (by omega) (yield_asc h (u : Int)), hasInt_eq _ _ (by omega), decide_eq_true ((mem_yield T u1 u2).2 ⟨u, rfl, .refl u1 u2⟩), implRoot_eq]
      simp only [Option.map_some, Sum.elim_inr, Option.bind_some, Sum.elim_inl, cond_true, rootI, hT, if_true]
      congr 1
      have ua := under_all T u1 u2
      rw [yl]
      by_cases e : u = top h
      · have e2 := ua.2 e
        rw [beq_iff_eq, show (((underN h u : Nat) : Int) == ((h.length : Nat) : Int)) = true by rw [beq_iff_eq]; omega, show ((top h : Int) == (u : Int)) = true by rw [beq_iff_eq]; omega]
      · rw [beq_iff_eq, show (((underN h u : Nat) : Int) == ((h.length : Nat) : Int)) = false from beq_eq_false_iff_ne.2 (fun y => e (ua.1 (by omega))), show ((top h : Int) == (u : Int)) = false from beq_eq_false_iff_ne.2 (by omega)]
  · rw [show decide (((x.length : Nat) : Int) > 1048576) = true from decide_eq_true (by omega)]
    rfl

end Go.Rv
