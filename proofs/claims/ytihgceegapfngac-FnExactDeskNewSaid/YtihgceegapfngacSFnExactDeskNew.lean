/-
  The law FnExactDeskNew, in plain words: it is true of every argument. Conditions: what the program's DeskNew says.
-/
import Derived.Test.YtihgceegapfngacHFnExactDeskNew
set_option linter.unusedVariables false
set_option linter.unusedSimpArgs false
namespace Go.Rv

theorem core_FnExactDeskNew (hI : ∀ h, h.length ≤ 1048576 → impl_DeskNew h = some ((newDk h).1, (newDk h).2, ([] : List (List Int)))) (x : List Int) (l : x.length ≤ maxLen) : laws_FnExactDeskNew x = some true := by
  unfold laws_FnExactDeskNew laws_FnExactDeskNew_n1
  by_cases c : ((x.length : Nat) : Int) > 1048576
  · rw [decide_eq_true c]
    rfl
  · rw [decide_eq_false c]
    have z : (newDk x).2.length ≤ 8 := by
      unfold newDk
      cases t : treeB x with
      | true => exact (tree_len t).2
      | false => simp
    have im := hI x (by omega)
    have sp := specNew_eq x
    generalize newDk x = q at im sp z
    have e2 : laws_eqDesk_v2 q.2 [] q.2 = some true := by
      unfold laws_eqDesk_v2 laws_eqDesk_v2_n1
      rw [eqIntS_eq _ _ (by omega), Option.bind_some, eqIntSS_refl (by decide)]
      simp
    have m := markIntS_eq 1 x (by omega) (by omega)
    have m' : laws_markIntS 1 x = some (((1 + x.length : Nat) : Int), marks 1 x.length) := m
    have m2 := markIntS_eq 1 q.2 (by omega) (by omega)
    have m2' : laws_markIntS 1 q.2 = some (((1 + q.2.length : Nat) : Int), marks 1 q.2.length) := m2
    have mk : laws_markDesk 1 q.2 [] = some (((1 + q.2.length : Nat) : Int), marks 1 q.2.length, ([] : List (List Int))) := by
      unfold laws_markDesk laws_markDesk_n1
      rw [m2', Option.bind_some, markIntSSm_eq (S := []) (by decide) (1 + q.2.length) (by omega)]
      rfl
    have h := heldIntS_eq 1 q.2.length (by omega) (by omega)
    have h' : laws_heldIntS (marks 1 q.2.length) 1 = some ((1 + q.2.length : Nat) : Int) := h
    have hs := heldIntSSm_eq (S := []) (by decide) (1 + q.2.length) (by omega)
    have hs' : laws_heldIntSS ([] : List (List Int)) ((1 + q.2.length : Nat) : Int) = some ((1 + q.2.length : Nat) : Int) := hs
    have hd : laws_heldDesk (marks 1 q.2.length) [] 1 = some ((1 + q.2.length : Nat) : Int) := by
      unfold laws_heldDesk laws_heldDesk_n1
      rw [h', Option.bind_some, decide_eq_false (by omega), cond_false, hs', Option.bind_some, decide_eq_false (by omega), cond_false]
    simp only [cond_false, Option.bind_some, toIntS_eq x (by omega), sp, im, e2, Bool.not_true, bne_self_eq_false, eqIntS_eq x x (by omega), beq_self_eq_true, m', mk, hd]
    simp only [decide_eq_false (show ¬ ((1 + x.length : Nat) : Int) < 0 by omega), decide_eq_false (show ¬ ((1 + q.2.length : Nat) : Int) < 0 by omega), cond_false, bne_self_eq_false, decide_true, Bool.not_true]

theorem same_FnExactDeskNew (x : List Int) (w : ∀ n ∈ x, (Lit.int .i64 n).wf = true) (l : x.length ≤ maxLen) : laws_FnExactDeskNew x = some true :=
  core_FnExactDeskNew (fun h _ => implDeskNew_eq h) x l

end Go.Rv
