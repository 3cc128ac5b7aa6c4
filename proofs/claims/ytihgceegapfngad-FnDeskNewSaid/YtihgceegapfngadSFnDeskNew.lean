/-
  The law FnDeskNew, in plain words: it is true of every argument. Conditions: what the program's DeskNew and DeskOk say.
-/
import Derived.Test.YtihgceegapfngadHFnDeskNew
set_option linter.unusedVariables false
set_option linter.unusedSimpArgs false
namespace Go.Rv

theorem core_FnDeskNew (hI : ∀ h, h.length ≤ 1048576 → impl_DeskNew h = some ((newDk h).1, (newDk h).2, ([] : List (List Int)))) (hO : ∀ n p, n.length + szT p ≤ 1048576 → impl_DeskOk n p = some (okDk (n, p))) (x : List Int) (w : ∀ n ∈ x, (Lit.int .u8 n).wf = true) (l : x.length ≤ maxLen) : laws_FnDeskNew x = some true := by
  unfold laws_FnDeskNew laws_FnDeskNew_n1
  by_cases c : ((x.length : Nat) : Int) > 1048576
  · rw [decide_eq_true c]
    rfl
  · rw [decide_eq_false c]
    obtain ⟨h, h8, hd⟩ := drawn_wild x w l 3 (by omega)
    have dr : spec_DrawDeskNew x = some h := by
      unfold spec_DrawDeskNew spec_DrawDeskNew_n1
      exact hd
    have rows : laws_sameRows ([] : List (List Int)) ([] : List (List Int)) = some true := by
      unfold laws_sameRows laws_sameRows_n9 laws_sameRows_n1 laws_sameRows_n8 laws_sameRows_n6 laws_sameRows_n2 laws_sameRows_n5 laws_sameRows_n4 laws_sameRows_n7
      rw [show LL = (LL - 1) + 1 from rfl, nloop]
      rfl
    have e1 := hI h (by omega)
    have e2 := specNew_eq h
    have z : (newDk h).2.length ≤ 8 := by
      unfold newDk
      cases t : treeB h with
      | true => exact h8
      | false => simp
    have sd : laws_sameDesk (newDk h).2 [] (newDk h).2 = some true := by
      unfold laws_sameDesk laws_sameDesk_n1
      simp [sameInts_eq _ _ (show (newDk h).2.length ≤ 1048576 by omega), rows]
    simp only [cond_false, dr, Option.bind_some, e1, e2, sd, Bool.not_true, bne_self_eq_false, implTree_eq]
    cases t : treeB h with
    | false =>
      have e : newDk h = (false, []) := by unfold newDk; rw [t]; rfl
      have nd : laws_noDesk [] [] = some true := by
        unfold laws_noDesk laws_noDesk_n1 laws_sameDesk_v2 laws_sameDesk_v2_n1
        simp [sameInts_eq [] [] (by simp), rows]
      simp only [e, Bool.not_false, cond_true, nd, Option.bind_some, alive_eq]
    | true =>
      have e : newDk h = (true, h) := by unfold newDk; rw [t]; rfl
      have o : okDk (h, []) = true := okDk_mk t (by simp) (by simp)
      have e4 := hO h [] (by simp [szT, tot]; omega)
      simp only [e, Bool.not_true, cond_false, e4, o, Option.bind_some, cond_true, sameInts_eq h h (by omega), beq_self_eq_true]
      rfl

theorem same_FnDeskNew (x : List Int) (w : ∀ n ∈ x, (Lit.int .u8 n).wf = true) (l : x.length ≤ maxLen) : laws_FnDeskNew x = some true :=
  core_FnDeskNew (fun h _ => implDeskNew_eq h) (fun n p _ => implDeskOk_eq n p) x w l

end Go.Rv
