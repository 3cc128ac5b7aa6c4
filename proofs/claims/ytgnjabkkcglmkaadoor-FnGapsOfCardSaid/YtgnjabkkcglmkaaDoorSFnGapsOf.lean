/-
  The law FnGapsOf, in plain words: it is true of every argument. Conditions: none.
-/
import Derived.Test.YtgnjabkkcglmkaaDoorMge
import Derived.Test.YtgnjabkkcglmkaaDoorMcs
import Derived.Test.YtgnjabkkcglmkaaDoorMgb
import Derived.Test.YtgnjabkkcglmkaaDoorMoa
set_option linter.unusedVariables false
set_option linter.unusedSimpArgs false
namespace Go.Rv

theorem core_FnGapsOf (hG : ∀ h v, impl_GapsOf h v = some (gapsI h v)) (x : List Int) (w : ∀ n ∈ x, (Lit.int .u8 n).wf = true) (l : x.length ≤ maxLen) : laws_FnGapsOf x = some true := by
  unfold laws_FnGapsOf laws_FnGapsOf_n1
  by_cases hx : x.length ≤ 1048576
  · rw [show decide (((x.length : Nat) : Int) > 1048576) = false from decide_eq_false (by omega)]
    obtain ⟨v, h, hd', h8, v0, v9⟩ := drawn_gaps x w l
    simp only [hd', cond_false, Option.bind_some, hG, specGaps_eq, bne_self_eq_false, alive_eq, implDeps_eq, implYield_eq, implBack_eq, implRoot_eq]
    cases hw : wordB h v with
    | false =>
      have g : gapsI h v = -1 := by unfold gapsI; rw [hw]; rfl
      rw [g]
      rfl
    | true =>
      obtain ⟨k, rfl, T, k1, k2⟩ := wordB_iff.1 hw
      have hT := (tree_iff h).mpr T
      have b : backI h = backL h := by unfold backI; rw [hT]; rfl
      have r : rootI h = (top h : Int) := by unfold rootI; rw [hT]; rfl
      have y : yieldI h (k : Int) = wordsL (ymask h k) := by unfold yieldI; rw [hw, Int.toNat_natCast]; rfl
      have gb := gaps_back T k1 k2
      have g := gaps_at T k1 k2
      have p := ends_pos (ymask_lt T.le k) (ymask_pos T k1 k2)
      have le := endsN_le (ymask h k)
      rw [wrap64 (x := ((h.length : Nat) : Int) + 1) (by omega) (by omega), wrap64 (x := ((h.length : Nat) : Int) + 1 - (k : Int)) (by omega) (by omega), b, gb, y, r, g]
      rw [decide_eq_false (show ¬ (endsN (ymask h k) : Int) - 1 < 0 by omega), decide_eq_true (show (endsN (ymask h k) : Int) - 1 < (((wordsL (ymask h k)).length : Nat) : Int) by omega)]
      simp only [cond_false, cond_true, Bool.not_true, beq_self_eq_true]
      have top1 : (((top h : Nat) : Int) == (k : Int)) = true → ((endsN (ymask h k) : Int) - 1 == 0) = true := by
        intro e
        have e : top h = k := by
          have := beq_iff_eq.mp e
          omega
        have := ends_top T
        rw [e] at this
        exact beq_iff_eq.mpr (by omega)
      have leaf : ((((depsI h (k : Int)).length : Nat) : Int) == 0) = true → ((endsN (ymask h k) : Int) - 1 == 0) = true := by
        intro e
        have e : (depsI h (k : Int)).length = 0 := by
          have := beq_iff_eq.mp e
          omega
        have := ends_leaf T k1 k2 (by
          intro c c1 c2 hc
          have m : ((c - 1 + 1 : Nat) : Int) ∈ depsI h (k : Int) := by
            unfold depsI depsK
            rw [hT, if_pos rfl]
            refine List.mem_map.mpr ⟨c - 1, ?_, rfl⟩
            have g := T.get c1 c2
            rw [List.mem_filter, List.mem_range]
            refine ⟨by omega, ?_⟩
            simp [List.getD, g, hc]
          rw [List.eq_nil_of_length_eq_zero e] at m
          cases m)
        exact beq_iff_eq.mpr (by omega)
      cases e1 : ((((depsI h (k : Int)).length : Nat) : Int) == 0) with
      | true =>
        rw [leaf e1]
        rfl
      | false =>
        cases e2 : (((top h : Nat) : Int) == (k : Int)) with
        | true =>
          rw [top1 e2]
          rfl
        | false => rfl
  · rw [show decide (((x.length : Nat) : Int) > 1048576) = true from decide_eq_true (by omega)]
    rfl

theorem same_FnGapsOf (x : List Int) (w : ∀ n ∈ x, (Lit.int .u8 n).wf = true) (l : x.length ≤ maxLen) : laws_FnGapsOf x = some true :=
  core_FnGapsOf implGaps_eq x w l

end Go.Rv
