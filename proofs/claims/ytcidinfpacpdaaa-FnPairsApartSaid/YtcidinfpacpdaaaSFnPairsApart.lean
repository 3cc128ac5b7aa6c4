/-
  The law FnPairsApart, in plain words: it is true of every argument. Conditions: none.
-/
import Derived.Test.YtcidinfpacpdaaaHFnPairsApart
set_option linter.unusedVariables false
set_option linter.unusedSimpArgs false
namespace Go.Rv

theorem core_FnPairsApart (hP : ∀ h, h.length ≤ 1048576 → impl_PairsApart h = some (apartI h)) (hS : ∀ h, h.length ≤ 1048576 → impl_StarOk h = some (starB h)) (x : List Int) (w : ∀ n ∈ x, (Lit.int .u8 n).wf = true) (l : x.length ≤ maxLen) : laws_FnPairsApart x = some true := by
  unfold laws_FnPairsApart laws_FnPairsApart_n1
  by_cases hx : x.length ≤ 1048576
  · rw [show decide (((x.length : Nat) : Int) > 1048576) = false from decide_eq_false (by omega)]
    obtain ⟨h, h8, hdr⟩ := drawn_wild x w l 9 (by omega)
    have hd' : spec_DrawPairsApart x = some h := by unfold spec_DrawPairsApart spec_DrawPairsApart_n1; exact hdr
    simp only [hd', cond_false, Option.bind_some, hP h (by omega), hS h (by omega), specApart_eq, bne_self_eq_false, alive_eq, implTree_eq, implBack_eq, implCrossings_eq]
    cases t : treeB h with
    | false =>
      have e0 : apartI h = -1 := by unfold apartI; rw [t]; rfl
      rw [e0]
      rfl
    | true =>
      have T := (tree_iff h).mp t
      have bk : backI h = backL h := by unfold backI; rw [t]; rfl
      have e0 : apartI h = ((apartN h : Nat) : Int) := by unfold apartI; rw [t]; rfl
      have e1 : apartI (backL h) = ((apartN h : Nat) : Int) := by unfold apartI; rw [back_treeB T, if_pos rfl, back_apart T]
      have e2 : crossingsI h = ((crossN h : Nat) : Int) := by unfold crossingsI; rw [t]; rfl
      have ca := cross_apart T
      have sb : (((apartN h : Nat) : Int) == 0) = starB h := by
        rw [Bool.eq_iff_iff, beq_iff_eq, starB_iff T, ← star_apart T]
        omega
      rw [bk, e0, e2, hP (backL h) (by rw [backL_length]; omega), e1, sb, decide_eq_false (show ¬ ((apartN h : Nat) : Int) < 0 by omega), decide_eq_true (show ((apartN h : Nat) : Int) ≥ ((crossN h : Nat) : Int) by omega)]
      simp
  · rw [show decide (((x.length : Nat) : Int) > 1048576) = true from decide_eq_true (by omega)]
    rfl

theorem same_FnPairsApart (x : List Int) (w : ∀ n ∈ x, (Lit.int .u8 n).wf = true) (l : x.length ≤ maxLen) : laws_FnPairsApart x = some true :=
  core_FnPairsApart (fun h _ => implApart_eq h) (fun h hl => implStar_eq h hl) x w l

end Go.Rv
