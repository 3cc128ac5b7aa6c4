/-
  Plain mathematics: words that lie under arcs. Conditions: none.
-/
import Derived.Test.YtiokdplogigiaaaMcf
import Derived.Test.YtiokdplogigiaaaMwa
set_option linter.unusedVariables false
set_option linter.unusedSimpArgs false
namespace Go.Rv

def coveredI (h : List Int) (v : Int) : Bool := wordB h v && covB h v

theorem any_all {α : Type} (l : List α) (p : α → Bool) : (List.range l.length).all (fun i => !((l[i]?).map p).getD false) = !l.any p := by
  rw [Bool.eq_iff_iff]
  simp only [List.all_eq_true, List.mem_range, Bool.not_eq_true', List.any_eq_false]
  constructor
  · intro h x hx
    obtain ⟨i, hi, rfl⟩ := List.getElem_of_mem hx
    have := h i hi
    rw [List.getElem?_eq_getElem hi] at this
    simpa using this
  · intro h i hi
    rw [List.getElem?_eq_getElem hi]
    simpa using h l[i] (List.getElem_mem hi)

theorem covB_iff {h : List Int} (T : Tree h) {v : Nat} : covB h (v : Int) = true ↔ ∃ w, 1 ≤ w ∧ w ≤ h.length ∧ hd h w ≠ 0 ∧ ((w < v ∧ v < hd h w) ∨ (hd h w < v ∧ v < w)) := by
  unfold covB
  rw [List.any_eq_true]
  constructor
  · rintro ⟨p, hp, hc⟩
    obtain ⟨w, h1, h2, h3, rfl⟩ := (mem_arcs T).1 hp
    rw [decide_eq_true_eq] at hc
    refine ⟨w, h1, h2, h3, ?_⟩
    revert hc
    unfold imin imax
    simp only
    split <;> split <;> omega
  · rintro ⟨w, h1, h2, h3, hc⟩
    refine ⟨_, (mem_arcs T).2 ⟨w, h1, h2, h3, rfl⟩, ?_⟩
    rw [decide_eq_true_eq]
    unfold imin imax
    simp only
    split <;> split <;> omega

end Go.Rv
