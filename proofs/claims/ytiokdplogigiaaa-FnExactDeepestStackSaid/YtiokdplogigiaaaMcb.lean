/-
  Plain mathematics: yields that are rows. Conditions: none.
-/
import Derived.Test.YtiokdplogigiaaaMw
set_option linter.unusedVariables false
set_option linter.unusedSimpArgs false
namespace Go.Rv

/-- Whether a set is a row: what is between two of its words is in it. -/
def rowN (m : Nat) : Bool := (List.range 8).all fun c => (List.range c).all fun b => (List.range b).all fun a => !(m.testBit a && m.testBit c) || m.testBit b

theorem rowN_iff (m : Nat) : rowN m = true ↔ ∀ a b c, a < b → b < c → c < 8 → m.testBit a = true → m.testBit c = true → m.testBit b = true := by
  unfold rowN
  simp only [List.all_eq_true, List.mem_range, Bool.or_eq_true, Bool.not_eq_true', Bool.and_eq_false_iff]
  constructor
  · intro h a b c h1 h2 h3 h4 h5
    rcases h c h3 b h2 a h1 with (e | e) | e
    · rw [h4] at e; cases e
    · rw [h5] at e; cases e
    · exact e
  · intro h c h3 b h2 a h1
    cases x : m.testBit a with
    | false => exact .inl (.inl rfl)
    | true =>
      cases y : m.testBit c with
      | false => exact .inl (.inr rfl)
      | true => exact .inr (h a b c h1 h2 h3 x y)

/-- A tree is flat: each yield is a row. -/
def FlatP (h : List Int) : Prop := ∀ k a b c, a < b → b < c → Und h a k → Und h c k → Und h b k

noncomputable def flatB (h : List Int) : Bool := @decide (FlatP h) (Classical.propDecidable _)
theorem flatB_iff {h : List Int} : flatB h = true ↔ FlatP h := by simp [flatB]
noncomputable def flatI (h : List Int) : Bool := treeB h && flatB h

theorem row_iff {h : List Int} (T : Tree h) (k : Nat) : rowN (ymask h k) = true ↔ ∀ a b c, a < b → b < c → Und h a k → Und h c k → Und h b k := by
  rw [rowN_iff]
  simp only [ymask_bit T, undB_iff]
  have hle := T.le
  constructor
  · intro x a b c h1 h2 u v
    have ru := T.und_rng u
    have rv := T.und_rng v
    have := x (a - 1) (b - 1) (c - 1) (by omega) (by omega) (by omega) (by rw [show a - 1 + 1 = a by omega]; exact u) (by rw [show c - 1 + 1 = c by omega]; exact v)
    rw [show b - 1 + 1 = b by omega] at this
    exact this
  · intro x a b c h1 h2 _ u v
    exact x (a + 1) (b + 1) (c + 1) (by omega) (by omega) u v

theorem flat_rows {h : List Int} (T : Tree h) : flatB h = (List.range h.length).all fun i => rowN (ymask h (i + 1)) := by
  rw [Bool.eq_iff_iff, flatB_iff, List.all_eq_true]
  constructor
  · intro F i hi
    exact (row_iff T (i + 1)).2 (F (i + 1))
  · intro x k a b c h1 h2 u v
    have ru := T.und_rng u
    have := (row_iff T (k - 1 + 1)).1 (x (k - 1) (by rw [List.mem_range]; omega))
    rw [show k - 1 + 1 = k by omega] at this
    exact this a b c h1 h2 u v

end Go.Rv
