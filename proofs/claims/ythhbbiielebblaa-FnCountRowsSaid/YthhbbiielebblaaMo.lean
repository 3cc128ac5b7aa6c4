/-
  What the first chapter's laws share. Conditions: none.
-/
import Derived.Test.YthhbbiielebblaaMn
import Derived.Test.YthhbbiielebblaaMoa
import Derived.Test.YthhbbiielebblaaMos
import Derived.Test.YthhbbiielebblaaMe
set_option linter.unusedVariables false
set_option linter.unusedSimpArgs false
namespace Go.Rv

theorem climb_app {h : List Int} (hr : inRange h = true) (k : Int) : ∀ (f w : Nat), 1 ≤ w → w ≤ h.length → climb (h ++ [k]) f w = climb h f w
  | 0, w, _, _ => rfl
  | f + 1, w, h1, h2 => by
    have hlt : w - 1 < h.length := by omega
    simp only [climb]
    rw [List.getElem?_append_left hlt, List.getElem?_eq_getElem hlt]
    have := inRange_get hr hlt
    simp only
    split
    · rfl
    · rename_i hne
      rw [climb_app hr k f _ (by omega) (by omega)]

/-- A further word may depend on any word. -/
theorem Tree.add {h : List Int} (T : Tree h) (h7 : h.length < 8) {k : Nat} (hk1 : 1 ≤ k) (hk2 : k ≤ h.length) : Tree (h ++ [(k : Int)]) := by
  refine ⟨by simp, by simp; omega, ?_, ?_, fun j hj => ?_⟩
  · rw [inRange, List.all_eq_true]
    intro x hx
    simp only [List.mem_append, List.mem_singleton] at hx
    simp only [okHead, List.length_append, List.length_cons, List.length_nil, Bool.and_eq_true, decide_eq_true_eq]
    rcases hx with hx | rfl
    · have := List.all_eq_true.1 T.rng x hx
      simp only [okHead, Bool.and_eq_true, decide_eq_true_eq] at this
      omega
    · omega
  · rw [List.count_append, T.one, List.count_singleton]
    have : ((k : Int) == 0) = false := by simp; omega
    simp [this]
  · simp only [List.length_append, List.length_cons, List.length_nil] at hj ⊢
    by_cases e : j < h.length
    · rw [climb_app T.rng _ _ _ (by omega) (by omega), climb_mono (T.climb_some (by omega) (by omega))]
      rfl
    · have e : j = h.length := by omega
      subst e
      simp only [climb]
      rw [show h.length + 1 - 1 = h.length by omega, List.getElem?_append_right (by omega)]
      simp only [Nat.sub_self, List.getElem?_cons_zero]
      rw [if_neg (by omega)]
      simp only [Int.toNat_natCast]
      rw [climb_app T.rng _ _ _ hk1 hk2, T.climb_some hk1 hk2]
      rfl

end Go.Rv
