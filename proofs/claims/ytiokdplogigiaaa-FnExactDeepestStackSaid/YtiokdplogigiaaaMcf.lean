/-
  Plain mathematics: the arcs of a tree. Conditions: none.
-/
import Derived.Test.YtiokdplogigiaaaMca
import Derived.Test.YtiokdplogigiaaaMe
import Derived.Test.YtiokdplogigiaaaMt
set_option linter.unusedVariables false
set_option linter.unusedSimpArgs false
namespace Go.Rv

/-- The arcs of the first k words, the lesser end first. -/
def arcsK (h : List Int) (k : Nat) : List (Int × Int) := ((List.range k).filter fun i => decide (h.getD i 0 > 0)).map fun (i : Nat) => (imin ((i : Int) + 1) (h.getD i 0), imax ((i : Int) + 1) (h.getD i 0))
def arcsP (h : List Int) : List (Int × Int) := arcsK h h.length

theorem arcsK_length (h : List Int) (k : Nat) : (arcsK h k).length ≤ k := by
  unfold arcsK
  rw [List.length_map]
  exact Nat.le_trans (List.length_filter_le _ _) (by simp)

theorem arcsK_succ (h : List Int) (k : Nat) : arcsK h (k + 1) = if h.getD k 0 > 0 then arcsK h k ++ [(imin ((k : Int) + 1) (h.getD k 0), imax ((k : Int) + 1) (h.getD k 0))] else arcsK h k := by
  unfold arcsK
  have hf : List.filter (fun i => decide (h.getD i 0 > 0)) [k] = if decide (h.getD k 0 > 0) = true then [k] else [] := by simp only [List.filter_cons, List.filter_nil]
  rw [List.range_succ, List.filter_append, List.map_append, hf]
  by_cases e : h.getD k 0 > 0
  · rw [if_pos e, if_pos (decide_eq_true e)]; rfl
  · rw [if_neg e, if_neg (fun x => e (of_decide_eq_true x))]
    exact List.append_nil _

def asRow (p : Int × Int) : List Int := [p.1, p.2]
def asArc (p : Int × Int) : Int × Int × Unit := (p.1, p.2, ())

theorem Tree.getD_hd {h : List Int} (T : Tree h) {k : Nat} (hk : k < h.length) : h.getD k 0 = ((hd h (k + 1) : Nat) : Int) := by
  have hg := T.get (w := k + 1) (by omega) (by omega)
  rw [Nat.add_sub_cancel] at hg
  rw [List.getD_eq_getElem?_getD, hg]; rfl

/-- No word is its own head. -/
theorem Tree.hd_other {h : List Int} (T : Tree h) {w : Nat} (h1 : 1 ≤ w) (h2 : w ≤ h.length) : hd h w ≠ w := by
  intro e
  have := T.dep_step h1 h2 (by omega)
  rw [e] at this
  omega

/-- The arc of a word that has a head. -/
theorem mem_arcs {h : List Int} (T : Tree h) {p : Int × Int} : p ∈ arcsP h ↔ ∃ w, 1 ≤ w ∧ w ≤ h.length ∧ hd h w ≠ 0 ∧ p = (imin (w : Int) ((hd h w : Nat) : Int), imax (w : Int) ((hd h w : Nat) : Int)) := by
  unfold arcsP arcsK
  rw [List.mem_map]
  constructor
  · rintro ⟨i, hi, rfl⟩
    rw [List.mem_filter, List.mem_range, decide_eq_true_eq] at hi
    rw [T.getD_hd hi.1] at hi ⊢
    refine ⟨i + 1, by omega, by omega, by omega, ?_⟩
    rw [show ((i + 1 : Nat) : Int) = (i : Int) + 1 by omega]
  · rintro ⟨w, h1, h2, h3, rfl⟩
    refine ⟨w - 1, ?_, ?_⟩
    · rw [List.mem_filter, List.mem_range, decide_eq_true_eq, T.getD_hd (by omega), show w - 1 + 1 = w by omega]
      omega
    · rw [T.getD_hd (show w - 1 < h.length by omega), show w - 1 + 1 = w by omega, show ((w - 1 : Nat) : Int) + 1 = (w : Int) by omega]

theorem arc_ends {h : List Int} (T : Tree h) {p : Int × Int} (hp : p ∈ arcsP h) : 1 ≤ p.1 ∧ p.1 < p.2 ∧ p.2 ≤ (h.length : Nat) := by
  obtain ⟨w, h1, h2, h3, rfl⟩ := (mem_arcs T).1 hp
  have hh := T.hd_le h1 h2
  have hne := T.hd_other h1 h2
  unfold imin imax
  simp only
  split <;> split <;> omega

/-! Words under arcs -/

def covB (h : List Int) (v : Int) : Bool := (arcsP h).any fun p => decide (p.1 < v ∧ v < p.2)

end Go.Rv
