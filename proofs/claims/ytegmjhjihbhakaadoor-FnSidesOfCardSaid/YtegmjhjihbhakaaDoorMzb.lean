/-
  Plain mathematics: yields as rows of words. Conditions: none.
-/
import Derived.Test.YtegmjhjihbhakaaDoorMw
set_option linter.unusedVariables false
set_option linter.unusedSimpArgs false
namespace Go.Rv

theorem wordsL_asc (m : Nat) : (wordsL m).Pairwise (· < ·) := by
  unfold wordsL
  rw [List.pairwise_map]
  refine List.Pairwise.imp ?_ (List.Pairwise.filter _ List.pairwise_lt_range)
  intro a b hab
  omega

theorem countP_or {α : Type} (p q : α → Bool) : ∀ l : List α, (∀ x ∈ l, ¬ (p x = true ∧ q x = true)) → l.countP (fun x => p x || q x) = l.countP p + l.countP q
  | [], _ => rfl
  | a :: r, h => by
    rw [List.countP_cons, List.countP_cons, List.countP_cons, countP_or p q r (fun x hx => h x (List.mem_cons_of_mem _ hx))]
    have := h a List.mem_cons_self
    cases hp : p a <;> cases hq : q a <;> simp [hp, hq] at this ⊢ <;> omega

/-- How many words are under a word. -/
noncomputable def underN (h : List Int) (w : Nat) : Nat := (List.range h.length).countP fun i => undB h (i + 1) w

theorem yieldW {h : List Int} (T : Tree h) {w : Nat} (h1 : 1 ≤ w) (h2 : w ≤ h.length) : yieldI h (w : Int) = ((List.range h.length).filter fun i => undB h (i + 1) w).map fun i => ((i + 1 : Nat) : Int) := by
  unfold yieldI ymask
  rw [wordB_iff.2 ⟨w, rfl, T, h1, h2⟩, if_pos rfl, Int.toNat_natCast, wordsL_mask _ T.le]

theorem yield_length {h : List Int} (T : Tree h) {w : Nat} (h1 : 1 ≤ w) (h2 : w ≤ h.length) : (yieldI h (w : Int)).length = underN h w := by
  rw [yieldW T h1 h2, List.length_map, ← List.countP_eq_length_filter]; rfl

theorem mem_yield {h : List Int} (T : Tree h) {w : Nat} (h1 : 1 ≤ w) (h2 : w ≤ h.length) {x : Int} : x ∈ yieldI h (w : Int) ↔ ∃ a : Nat, x = (a : Int) ∧ Und h a w := by
  rw [yieldW T h1 h2, List.mem_map]
  constructor
  · rintro ⟨i, hi, e⟩
    rw [List.mem_filter, List.mem_range, undB_iff] at hi
    exact ⟨i + 1, e.symm, hi.2⟩
  · rintro ⟨a, rfl, u⟩
    have := T.und_rng u
    refine ⟨a - 1, ?_, by omega⟩
    rw [List.mem_filter, List.mem_range, undB_iff, show a - 1 + 1 = a by omega]
    exact ⟨by omega, u⟩

theorem yield_asc (h : List Int) (v : Int) : (yieldI h v).Pairwise (· < ·) := by
  unfold yieldI
  split
  · exact wordsL_asc _
  · exact List.Pairwise.nil

/-- How many words of one yield are in another one. -/
theorem yield_common {h : List Int} (T : Tree h) {w k : Nat} (h1 : 1 ≤ w) (h2 : w ≤ h.length) (k1 : 1 ≤ k) (k2 : k ≤ h.length) :
    (yieldI h (k : Int)).countP (fun x => decide (x ∈ yieldI h (w : Int))) = (List.range h.length).countP fun i => undB h (i + 1) w && undB h (i + 1) k := by
  rw [yieldW T k1 k2, List.countP_map, List.countP_filter]
  apply List.countP_congr
  intro i hi
  rw [List.mem_range] at hi
  simp only [Function.comp, Bool.and_eq_true, decide_eq_true_eq, undB_iff, mem_yield T h1 h2]
  constructor
  · rintro ⟨⟨a, e, u⟩, v⟩
    rw [show i + 1 = a by omega] at v ⊢
    exact ⟨u, v⟩
  · rintro ⟨u, v⟩
    exact ⟨⟨i + 1, rfl, u⟩, v⟩

/-- Yields are within each other, or apart. -/
theorem yield_nested {h : List Int} (T : Tree h) {w k : Nat} : ((List.range h.length).countP fun i => undB h (i + 1) w && undB h (i + 1) k) = 0 ∨
    ((List.range h.length).countP fun i => undB h (i + 1) w && undB h (i + 1) k) = underN h w ∨ ((List.range h.length).countP fun i => undB h (i + 1) w && undB h (i + 1) k) = underN h k := by
  by_cases hc : ∃ a, Und h a w ∧ Und h a k
  · obtain ⟨a, u, v⟩ := hc
    rcases T.und_lin u v with x | x
    · right; left
      apply List.countP_congr
      intro i _
      simp only [Bool.and_eq_true, undB_iff]
      exact ⟨fun y => y.1, fun y => ⟨y, T.und_trans y x⟩⟩
    · right; right
      apply List.countP_congr
      intro i _
      simp only [Bool.and_eq_true, undB_iff]
      exact ⟨fun y => y.2, fun y => ⟨T.und_trans y x, y⟩⟩
  · left
    rw [List.countP_eq_zero]
    intro i _
    simp only [Bool.and_eq_true, undB_iff]
    exact fun y => hc ⟨_, y⟩

theorem under_all {h : List Int} (T : Tree h) {w : Nat} (h1 : 1 ≤ w) (h2 : w ≤ h.length) : underN h w = h.length ↔ w = top h := by
  have hlen : (List.range h.length).length = h.length := List.length_range
  constructor
  · intro e
    have e2 : (List.range h.length).countP (fun i => undB h (i + 1) w) = (List.range h.length).length := by rw [hlen]; exact e
    rw [List.countP_eq_length] at e2
    have ht := T.top_le
    have := e2 (top h - 1) (by rw [List.mem_range]; have := top_pos h; omega)
    rw [undB_iff, show top h - 1 + 1 = top h by have := top_pos h; omega] at this
    exact T.und_of_top this
  · intro e
    have e2 : (List.range h.length).countP (fun i => undB h (i + 1) w) = (List.range h.length).length := by
      rw [List.countP_eq_length]
      intro i hi
      rw [List.mem_range] at hi
      rw [undB_iff, e]
      exact T.und_top (by omega) (by omega)
    rw [hlen] at e2
    exact e2

theorem under_pos {h : List Int} {w : Nat} (h1 : 1 ≤ w) (h2 : w ≤ h.length) : 0 < underN h w := by
  unfold underN
  rw [List.countP_pos_iff]
  refine ⟨w - 1, by rw [List.mem_range]; omega, ?_⟩
  rw [undB_iff, show w - 1 + 1 = w by omega]
  exact .refl h1 h2

end Go.Rv
