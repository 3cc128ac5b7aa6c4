/-
  The law FnCrossOk, in plain words: it is true of every argument. Conditions: none.
-/
import Derived.Test.YtegmjhjihbhakaaMca
import Derived.Test.YtegmjhjihbhakaaMm
set_option linter.unusedVariables false
set_option linter.unusedSimpArgs false
namespace Go.Rv

theorem same_FnCrossOk (x : List Int) (w : ∀ n ∈ x, (Lit.int .u8 n).wf = true) (l : x.length ≤ maxLen) : laws_FnCrossOk x = some true := by
  unfold laws_FnCrossOk laws_FnCrossOk_n1
  by_cases hx : x.length ≤ 1048576
  · rw [show decide (((x.length : Nat) : Int) > 1048576) = false from decide_eq_false (by omega)]
    have hdr : ∃ a b c d : Int, spec_DrawCrossOk x = some (a, b, c, d) := by
      have e : spec_DrawCrossOk x = spec_DrawCrossOk_n1 x := by unfold spec_DrawCrossOk; rfl
      obtain ⟨b, hb, hB⟩ := open_ok x w l
      obtain ⟨v1, h1, _⟩ := pick_ok hB 8 (by omega) (p := 0) (by omega) (by omega)
      obtain ⟨v2, h2, _⟩ := pick_ok hB 8 (by omega) (p := 0 + 1) (by omega) (by omega)
      obtain ⟨v3, h3, _⟩ := pick_ok hB 8 (by omega) (p := 0 + 1 + 1) (by omega) (by omega)
      obtain ⟨v4, h4, _⟩ := pick_ok hB 8 (by omega) (p := 0 + 1 + 1 + 1) (by omega) (by omega)
      rw [e]
      unfold spec_DrawCrossOk_n1
      simp only [hb, h1, h2, h3, h4, Option.bind_some]
      exact ⟨_, _, _, _, rfl⟩
    obtain ⟨a, b, c, d, hd⟩ := hdr
    simp only [cond_false, hd, Option.bind_some, implCross_eq, specCross_eq, bne_self_eq_false, crossI_swap a b c d, crossI_turn a b c d, beq_self_eq_true, cond_true]
    have t1 : crossI 1 3 2 4 = true := by decide
    have t2 : crossI 1 4 2 3 = false := by decide
    rw [t1, t2]
    cases h : crossI a b c d with
    | false => rfl
    | true =>
      obtain ⟨h1, h2, h3, h4⟩ := crossI_apart h
      rw [show (a != c) = true by simpa using h1, show (a != d) = true by simpa using h2, show (b != c) = true by simpa using h3, show (b != d) = true by simpa using h4]
      rfl
  · rw [show decide (((x.length : Nat) : Int) > 1048576) = true from decide_eq_true (by omega)]
    rfl

end Go.Rv
