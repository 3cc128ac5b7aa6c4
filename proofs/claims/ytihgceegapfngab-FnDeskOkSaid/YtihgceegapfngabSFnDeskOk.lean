/-
  The law FnDeskOk, in plain words: it is true of every argument. Conditions: what the program's DeskOk says.
-/
import Derived.Test.YtihgceegapfngabHFnDeskOk
set_option linter.unusedVariables false
set_option linter.unusedSimpArgs false
namespace Go.Rv

theorem core_FnDeskOk (hI : ∀ n p, n.length + szT p ≤ 1048576 → impl_DeskOk n p = some (okDk (n, p))) (x : List Int) (w : ∀ n ∈ x, (Lit.int .u8 n).wf = true) (l : x.length ≤ maxLen) : laws_FnDeskOk x = some true := by
  unfold laws_FnDeskOk laws_FnDeskOk_n1
  by_cases c : ((x.length : Nat) : Int) > 1048576
  · rw [decide_eq_true c]
    rfl
  · rw [decide_eq_false c]
    obtain ⟨b, hb, hB⟩ := open_ok x w l
    obtain ⟨q, d, hq, _, _, sm⟩ := desk_ok hB 2 (by omega) (p := 0) (by omega) (by omega)
    have dr : spec_DrawDeskOk x = some d := by
      unfold spec_DrawDeskOk spec_DrawDeskOk_n1
      simp only [hb, hq, Option.bind_some]
    have sz := small_sz sm
    have no : okDk ([], []) = false := by decide
    have e1 := hI d.1 d.2 (by omega)
    have e2 := specDeskOk_eq d.1 d.2 (by have := sm.2.1; omega)
    have e3 := hI [] [] (by decide)
    have e4 := hI d.1 [] (by have := sm.1; simp [szT, tot]; omega)
    simp only [cond_false, dr, Option.bind_some, e1, e2, e3, no, bne_self_eq_false, alive_eq]
    cases o : okDk d with
    | false =>
      have o' : okDk (d.1, d.2) = false := o
      simp only [Bool.not_false, cond_true]
    | true =>
      have y : okDk (d.1, []) = true := okDk_mk (okDk_and o).1 (by simp) (by simp)
      simp only [Bool.not_true, cond_false, e4, y, Option.bind_some, cond_true, Bool.not_false]

theorem same_FnDeskOk (x : List Int) (w : ∀ n ∈ x, (Lit.int .u8 n).wf = true) (l : x.length ≤ maxLen) : laws_FnDeskOk x = some true :=
  core_FnDeskOk (fun n p _ => implDeskOk_eq n p) x w l

end Go.Rv
