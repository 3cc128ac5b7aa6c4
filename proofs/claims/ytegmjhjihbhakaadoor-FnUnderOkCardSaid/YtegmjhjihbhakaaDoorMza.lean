/-
  Plain mathematics: a tree and two words that are drawn. Conditions: none.
-/
import Derived.Test.YtegmjhjihbhakaaDoorMz
set_option linter.unusedVariables false
set_option linter.unusedSimpArgs false
namespace Go.Rv

theorem drawn_under (x : List Int) (w : ∀ n ∈ x, (Lit.int .u8 n).wf = true) (l : x.length ≤ maxLen) :
    ∃ (a b : Int) (h : List Int), spec_DrawUnderOk x = some (a, b, h) ∧ h.length ≤ 8 ∧ 1 ≤ a ∧ (1 ≤ h.length → a ≤ (h.length : Nat)) ∧ -1000 ≤ b ∧ b ≤ 1000 := by
  have e : spec_DrawUnderOk x = spec_DrawUnderOk_n1 x := by unfold spec_DrawUnderOk; rfl
  obtain ⟨b, hb, hB⟩ := open_ok x w l
  obtain ⟨v, q, h, hq, qa, qb, h8, v1, v2⟩ := word_ok hB (p := 0) (by omega) (by omega)
  have hmax : 1 ≤ imax ((h.length : Nat) : Int) 1 ∧ imax ((h.length : Nat) : Int) 1 ≤ 8 ∧ (1 ≤ h.length → imax ((h.length : Nat) : Int) 1 = (h.length : Nat)) := by
    unfold imax; split <;> omega
  obtain ⟨c, hc, ca, cb, _⟩ := pick_ok hB (imax ((h.length : Nat) : Int) 1) (by omega) (p := q) (by omega) (by omega)
  have cb' := cb hmax.1
  refine ⟨1 + c, v, h, ?_, h8, by omega, fun hh => by have := hmax.2.2 hh; omega, v1, v2⟩
  rw [e]
  unfold spec_DrawUnderOk_n1
  simp only [hb, hq, hc, Option.bind_some]
  rw [wrap64 (by omega) (by omega)]

end Go.Rv
