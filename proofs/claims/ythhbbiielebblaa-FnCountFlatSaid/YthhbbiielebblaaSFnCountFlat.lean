/-
  The law FnCountFlat, in plain words: it is true of every argument. Conditions: none.
-/
import Derived.Test.YthhbbiielebblaaMo
set_option linter.unusedVariables false
set_option linter.unusedSimpArgs false
namespace Go.Rv

theorem same_FnCountFlat (x : List Int) (w : ∀ n ∈ x, (Lit.int .u8 n).wf = true) (l : x.length ≤ maxLen) : laws_FnCountFlat x = some true := by
  unfold laws_FnCountFlat laws_FnCountFlat_n9 laws_FnCountFlat_n1
  by_cases hx : x.length ≤ 1048576
  · rw [show decide (((x.length : Nat) : Int) > 1048576) = false from decide_eq_false (by omega)]
    obtain ⟨b, hb, hB⟩ := open_ok x w l
    obtain ⟨v, hv, va, vb, _⟩ := pick_ok hB 9 (by omega) (p := 0) (by omega) (by omega)
    have vb' := vb (by omega)
    have hd : spec_DrawCountFlat x = some (v - 1) := by
      unfold spec_DrawCountFlat spec_DrawCountFlat_n1
      simp only [hb, Option.bind_some, hv]
      rw [wrap64 (by omega) (by omega)]
    simp only [hd, cond_false, Option.bind_some]
    have h11 : v = 0 ∨ v = 1 ∨ v = 2 ∨ v = 3 ∨ v = 4 ∨ v = 5 ∨ v = 6 ∨ v = 7 ∨ v = 8 := by omega
    clear hd hv va vb vb' hb hB hx l w
    rcases h11 with rfl | rfl | rfl | rfl | rfl | rfl | rfl | rfl | rfl <;> decide +kernel
  · rw [show decide (((x.length : Nat) : Int) > 1048576) = true from decide_eq_true (by omega)]
    rfl

end Go.Rv
