/-
  The law FnCoveredOk, in plain words: it is true of every argument. Conditions: none.
-/
import Derived.Test.YtegmjhjihbhakaaMch
import Derived.Test.YtegmjhjihbhakaaMcd
import Derived.Test.YtegmjhjihbhakaaMoa
set_option linter.unusedVariables false
set_option linter.unusedSimpArgs false
namespace Go.Rv

theorem same_FnCoveredOk (x : List Int) (w : ∀ n ∈ x, (Lit.int .u8 n).wf = true) (l : x.length ≤ maxLen) : laws_FnCoveredOk x = some true := by
  unfold laws_FnCoveredOk laws_FnCoveredOk_n9 laws_FnCoveredOk_n1
  by_cases hx : x.length ≤ 1048576
  · rw [show decide (((x.length : Nat) : Int) > 1048576) = false from decide_eq_false (by omega)]
    have hdr : ∃ (v : Int) (h : List Int), spec_DrawCoveredOk x = some (v, h) ∧ h.length ≤ 8 := by
      have e : spec_DrawCoveredOk x = spec_DrawCoveredOk_n1 x := by unfold spec_DrawCoveredOk; rfl
      obtain ⟨b, hb, hB⟩ := open_ok x w l
      obtain ⟨q, h, hq, _, _, h8⟩ := flat_ok hB 9 (by omega) (p := 0) (by omega) (by omega)
      obtain ⟨c, hc, _⟩ := pick_ok hB (((h.length : Nat) : Int) + 2) (by omega) (p := q) (by omega) (by omega)
      refine ⟨c, h, ?_, h8⟩
      rw [e]
      unfold spec_DrawCoveredOk_n1
      simp only [hb, hq, Option.bind_some]
      rw [wrap64 (by omega) (by omega)]
      simp only [hc, Option.bind_some]
    obtain ⟨v, h, hd', h8⟩ := hdr
    simp only [cond_false, hd', Option.bind_some, implCovered_eq, specCovered_eq h v (by omega), bne_self_eq_false, specTree_eq, alive_eq]
    cases hT : treeB h with
    | false => simp [coveredI, wordB, hT]
    | true =>
      have T := (tree_iff h).1 hT
      have hp := T.pos
      simp only [Bool.not_true, cond_false, Option.bind_some, Sum.elim_inl]
      unfold laws_FnCoveredOk_n8 laws_FnCoveredOk_n6 laws_FnCoveredOk_n2 laws_FnCoveredOk_n5 laws_FnCoveredOk_n4 laws_FnCoveredOk_n7
      have hloop := nloop_to (body := fun (s : Int) => ((laws_FnCoveredOk_n3 s h).map (Sum.elim (fun (t : Int) => Sum.inl t) (Sum.elim (fun (t : Bool) => Sum.inr (Sum.inl t)) (fun (t : Unit) => Sum.inr (Sum.inr t)))) : Option ((Int) ⊕ (Bool ⊕ Unit))))
        (fun k => ((k + 2 : Nat) : Int)) (h.length - 1) (.inr ())
        (by
          intro k hk
          have hg := T.get (w := k + 2) (by omega) (by omega)
          simp only [laws_FnCoveredOk_n3]
          rw [show decide (((k + 2 : Nat) : Int) ≤ ((h.length : Nat) : Int)) = true from decide_eq_true (by omega), wrap64 (x := ((k + 2 : Nat) : Int) - 1) (by omega) (by omega), show ((k + 2 : Nat) : Int) - 1 = ((k + 1 : Nat) : Int) by omega, inb_nat (show k + 1 < h.length by omega), wrap64 (by omega) (by omega)]
          have hg' : h[k + 1]? = some ((hd h (k + 2) : Nat) : Int) := hg
          simp only [cond_true, Option.bind_some, hg', implCovered_eq]
          by_cases e1 : hd h (k + 2) = 0
          · rw [e1]; rfl
          · rw [show decide (((hd h (k + 2) : Nat) : Int) > 0) = true from decide_eq_true (by omega)]
            by_cases e2 : hd h (k + 2) < k + 1
            · have hc : coveredI h ((k + 1 : Nat) : Int) = true := by
                unfold coveredI
                rw [wordB_iff.2 ⟨k + 1, rfl, T, by omega, by omega⟩, (covB_iff T).2 ⟨k + 2, by omega, by omega, e1, .inr ⟨e2, by omega⟩⟩]
                rfl
              rw [show decide (((hd h (k + 2) : Nat) : Int) < ((k + 1 : Nat) : Int)) = true from decide_eq_true (by omega), hc]
              rfl
            · rw [show decide (((hd h (k + 2) : Nat) : Int) < ((k + 1 : Nat) : Int)) = false from decide_eq_false (by omega)]
              rfl)
        (by
          simp only [laws_FnCoveredOk_n3]
          rw [show decide (((h.length - 1 + 2 : Nat) : Int) ≤ ((h.length : Nat) : Int)) = false from decide_eq_false (by omega)]
          rfl)
      have c1 : coveredI h 1 = false := by
        have : covB h ((1 : Nat) : Int) = false := by
          cases hc : covB h ((1 : Nat) : Int) with
          | false => rfl
          | true =>
            obtain ⟨w, w1, w2, w3, hw⟩ := (covB_iff T).1 hc
            omega
        unfold coveredI
        rw [show (1 : Int) = ((1 : Nat) : Int) from rfl, this, Bool.and_false]
      have c2 : coveredI h ((h.length : Nat) : Int) = false := by
        have : covB h ((h.length : Nat) : Int) = false := by
          cases hc : covB h ((h.length : Nat) : Int) with
          | false => rfl
          | true =>
            obtain ⟨w, w1, w2, w3, hw⟩ := (covB_iff T).1 hc
            have := T.hd_le w1 w2
            omega
        unfold coveredI
        rw [this, Bool.and_false]
      simp only [Option.bind_some]
      rw [show (2 : Int) = ((0 + 2 : Nat) : Int) from rfl, hloop LL (by simp only [LL]; omega)]
      simp only [Option.map_some, Sum.elim_inr, Option.bind_some, Sum.elim_inl, implCovered_eq, c1, c2, alive_eq]
      rfl
  · rw [show decide (((x.length : Nat) : Int) > 1048576) = true from decide_eq_true (by omega)]
    rfl

end Go.Rv
