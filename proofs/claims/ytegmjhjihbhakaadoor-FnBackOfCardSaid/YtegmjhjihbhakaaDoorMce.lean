/-
  Plain mathematics: read from the last word a tree is flat just if it is. Conditions: none.
-/
import Derived.Test.YtegmjhjihbhakaaDoorMcb
import Derived.Test.YtegmjhjihbhakaaDoorMcc
set_option linter.unusedVariables false
set_option linter.unusedSimpArgs false
namespace Go.Rv

theorem back_flat {h : List Int} (T : Tree h) : flatB (backL h) = flatB h := by
  have key : ∀ {g : List Int} (T : Tree g), FlatP g → FlatP (backL g) := by
    intro g T F k a b c h1 h2 u v
    have T' := back_tree T
    have ru := T'.und_rng u
    have rv := T'.und_rng v
    rw [backL_length] at ru rv
    have e : ∀ x, 1 ≤ x → x ≤ g.length → g.length + 1 - (g.length + 1 - x) = x := fun x _ _ => by omega
    have u' : Und g (g.length + 1 - a) (g.length + 1 - k) := by
      rw [← back_und T (by omega) (by omega) (by omega) (by omega), e a ru.1.1 ru.1.2, e k ru.2.1 ru.2.2]; exact u
    have v' : Und g (g.length + 1 - c) (g.length + 1 - k) := by
      rw [← back_und T (by omega) (by omega) (by omega) (by omega), e c rv.1.1 rv.1.2, e k ru.2.1 ru.2.2]; exact v
    have := F (g.length + 1 - k) (g.length + 1 - c) (g.length + 1 - b) (g.length + 1 - a) (by omega) (by omega) v' u'
    rw [← back_und T (by omega) (by omega) (by omega) (by omega), e b (by omega) (by omega), e k ru.2.1 ru.2.2] at this
    exact this
  rw [Bool.eq_iff_iff, flatB_iff, flatB_iff]
  refine ⟨fun F => ?_, key T⟩
  have := key (back_tree T) F
  rw [back_back T] at this
  exact this

end Go.Rv
