/-
  The law FnDependsOf, in plain words: it is true of every argument. Conditions: none.
-/
import Derived.Test.YtegmjhjihbhakaaDoorMzc
import Derived.Test.YtegmjhjihbhakaaDoorMz
import Derived.Test.YtegmjhjihbhakaaDoorMo
import Derived.Test.YtegmjhjihbhakaaDoorMh
import Derived.Test.YtegmjhjihbhakaaDoorMha
set_option linter.unusedVariables false
set_option linter.unusedSimpArgs false
namespace Go.Rv

theorem same_FnDependsOf (x : List Int) (w : ∀ n ∈ x, (Lit.int .u8 n).wf = true) (l : x.length ≤ maxLen) : laws_FnDependsOf x = some true := by
  unfold laws_FnDependsOf laws_FnDependsOf_n22 laws_FnDependsOf_n1
  by_cases hx : x.length ≤ 1048576
  · rw [show decide (((x.length : Nat) : Int) > 1048576) = false from decide_eq_false (by omega)]
    obtain ⟨v0, h, hdr, h8, v1, v2⟩ := drawn_yield x w l
    have hdr' : spec_DrawDependsOf x = some (v0 - 1, h) := by
      unfold spec_DrawDependsOf spec_DrawDependsOf_n1
      cases ho : spec_l20Open x with
      | none => rw [ho] at hdr; cases hdr
      | some b =>
        rw [ho] at hdr
        simp only [Option.bind_some] at hdr ⊢
        cases hq : spec_l20Word b 0 with
        | none => rw [hq] at hdr; cases hdr
        | some t =>
          rw [hq] at hdr
          simp only [Option.bind_some, Option.some.injEq, Prod.mk.injEq] at hdr ⊢
          rw [hdr.1, hdr.2, wrap64 (by omega) (by omega)]
          exact ⟨rfl, rfl⟩
    generalize hv : v0 - 1 = v at hdr'
    have hlen := depsI_length h v
    simp only [cond_false, hdr', Option.bind_some, implDeps_eq, specDeps_eq h v (by omega), sameInts_eq (depsI h v) (depsI h v) (by omega), beq_self_eq_true, Bool.not_true, specTree_eq, alive_eq]
    cases hT : treeB h with
    | false => simp [depsI, hT]
    | true =>
      have T := (tree_iff h).1 hT
      simp only [Bool.not_true, cond_false]
      by_cases h1 : v < 0
      · rw [decide_eq_true h1, deps_same, deps2I, decide_eq_false (show ¬ 0 ≤ v by omega)]
        simp
      · rw [decide_eq_false h1]
        by_cases h2 : v > ((h.length : Nat) : Int)
        · rw [decide_eq_true h2, deps_same, deps2I, decide_eq_false (show ¬ v ≤ ((h.length : Nat) : Int) by omega)]
          simp
        · rw [decide_eq_false h2]
          obtain ⟨u, rfl⟩ : ∃ u : Nat, v = (u : Int) := ⟨v.toNat, by omega⟩
          have u2 : u ≤ h.length := by omega
          rw [deps_kids T u2]
          simp only [cond_false]
          by_cases hu : u = 0
          · subst hu
            rw [kids_zero T]
            simp [implRoot_eq, rootI, hT, inb]
          · have u1 : 1 ≤ u := by omega
            rw [show ((u : Int) == 0) = false from beq_eq_false_iff_ne.2 (by omega)]
            simp only [cond_false, implYield_eq, Option.bind_some, Sum.elim_inl]
            unfold laws_FnDependsOf_n21 laws_FnDependsOf_n19 laws_FnDependsOf_n2 laws_FnDependsOf_n18 laws_FnDependsOf_n17 laws_FnDependsOf_n20
            have y8 := yieldI_length h (u : Int)
            have k8 := kids_length h u
            have hinner : ∀ c, 1 ≤ c → c ≤ h.length → hd h c = u → laws_FnDependsOf_n9 (u : Int) (yieldI h (u : Int)) (yieldI h (c : Int)) = some (.inl ()) := fun c c1 c2 c3 => by
              unfold laws_FnDependsOf_n9 laws_FnDependsOf_n5 laws_FnDependsOf_n8 laws_FnDependsOf_n7
              have hk8 := yieldI_length h (c : Int)
              have hmem : ∀ z ∈ yieldI h (c : Int), z ∈ yieldI h (u : Int) ∧ z ≠ (u : Int) := fun z hz => by
                obtain ⟨a, rfl, ua⟩ := (mem_yield T c1 c2).1 hz
                have hcu : Und h c u := by rw [← c3]; exact T.und_hd c1 c2 (by omega)
                refine ⟨(mem_yield T u1 u2).2 ⟨a, rfl, T.und_trans ua hcu⟩, fun e => ?_⟩
                have ea : a = u := by omega
                rw [ea] at ua
                have h3 := T.und_dep ua
                have h4 := T.dep_step c1 c2 (by omega)
                rw [c3] at h4
                omega
              generalize yieldI h (c : Int) = ys at hk8 hmem ⊢
              have hloop := nloop_to (body := fun (s : Int) => ((laws_FnDependsOf_n6 u s (yieldI h (u : Int)) ys).map (Sum.elim (fun (t : Int) => Sum.inl t) (Sum.elim (fun (t : Bool) => Sum.inr (Sum.inl t)) (fun (t : Unit) => Sum.inr (Sum.inr t)))) : Option ((Int) ⊕ (Bool ⊕ Unit))))
                (fun j => (j : Int)) ys.length (.inr ())
                (by
                  intro j hj
                  obtain ⟨m1, m2⟩ := hmem ys[j] (List.getElem_mem hj)
                  simp only [laws_FnDependsOf_n6]
                  rw [show decide ((j : Int) < ((ys.length : Nat) : Int)) = true from decide_eq_true (by omega), inb_nat hj]
                  simp only [cond_true, Option.bind_some, List.getElem?_eq_getElem hj, hasInt_eq _ _ (show (yieldI h (u : Int)).length ≤ 1048576 by omega), decide_eq_true m1, Bool.not_true, cond_false]
                  rw [show (ys[j] == (u : Int)) = false from beq_eq_false_iff_ne.2 m2, wrap64 (by omega) (by omega)]
                  rfl)
                (by
                  simp only [laws_FnDependsOf_n6]
                  rw [show decide (((ys.length : Nat) : Int) < ((ys.length : Nat) : Int)) = false from decide_eq_false (by omega)]
                  rfl)
              simp only [Option.bind_some]
              rw [show (0 : Int) = ((0 : Nat) : Int) from rfl, hloop LL (by simp only [LL]; omega)]
              rfl
            have hpn : ∀ cs, partN h u cs ≤ 8 := fun cs => by
              have : (List.range h.length).countP (partB h u cs) ≤ h.length := by simpa using List.countP_le_length (p := partB h u cs) (l := List.range h.length)
              unfold partN
              omega
            have hloop := nloop_to (body := fun (s : Int × Int) => ((laws_FnDependsOf_n16 u s.1 s.2 h (kidsL h u) (yieldI h (u : Int))).map (Sum.elim (fun (t : Int × Int) => Sum.inl (t.1, t.2)) (Sum.elim (fun (t : Bool) => Sum.inr (Sum.inl t)) (fun (t : Int) => Sum.inr (Sum.inr t)))) : Option ((Int × Int) ⊕ (Bool ⊕ Int))))
              (fun j => (((partN h u ((kidsL h u).take j) : Nat) : Int), (j : Int))) (kidsL h u).length (.inr (((yieldI h (u : Int)).length : Nat) : Int))
              (by
                intro j hj
                obtain ⟨c, c1, c2, c3, hc⟩ := (mem_kids T).1 (List.getElem_mem hj)
                have hst := partN_step T u1 u2 hj
                have hb := hpn ((kidsL h u).take (j + 1))
                simp only [laws_FnDependsOf_n16, laws_FnDependsOf_n3]
                rw [show decide ((j : Int) < (((kidsL h u).length : Nat) : Int)) = true from decide_eq_true (by omega)]
                simp only [cond_true, Option.bind_some, Sum.elim_inl]
                unfold laws_FnDependsOf_n15 laws_FnDependsOf_n13 laws_FnDependsOf_n12 laws_FnDependsOf_n4 laws_FnDependsOf_n11 laws_FnDependsOf_n10 laws_FnDependsOf_n14
                rw [inb_nat hj]
                simp only [Option.bind_some, List.getElem?_eq_getElem hj, implYield_eq]
                rw [hc] at hst ⊢
                rw [hinner c c1 c2 c3]
                simp only [Option.bind_some, Sum.elim_inl, Option.map_some]
                rw [wrap64 (x := (j : Int) + 1) (by omega) (by omega), wrap64 (by omega) (by omega), hst]
                rfl)
              (by
                simp only [laws_FnDependsOf_n16, laws_FnDependsOf_n3]
                rw [show decide ((((kidsL h u).length : Nat) : Int) < (((kidsL h u).length : Nat) : Int)) = false from decide_eq_false (by omega), List.take_length, partN_all T u1 u2]
                rfl)
            have hl := hloop LL (by simp only [LL]; omega)
            rw [List.take_zero, partN_nil u1 u2] at hl
            simp only [Option.bind_some]
            rw [show ((1 : Int), (0 : Int)) = (((1 : Nat) : Int), ((0 : Nat) : Int)) from rfl, hl, ascend_true _ (by omega) (kids_asc h u)]
            simp
  · rw [show decide (((x.length : Nat) : Int) > 1048576) = true from decide_eq_true (by omega)]
    rfl

end Go.Rv
