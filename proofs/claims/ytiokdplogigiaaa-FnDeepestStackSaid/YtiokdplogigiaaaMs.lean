/-
  Plain mathematics: who is under whom in a tree. Conditions: none.
-/
import Derived.Test.YtiokdplogigiaaaMe
set_option linter.unusedVariables false
set_option linter.unusedSimpArgs false
namespace Go.Rv

/-- A word is under another one: from head to head one comes to it. -/
inductive Und (h : List Int) : Nat → Nat → Prop
  | refl {a : Nat} (h1 : 1 ≤ a) (h2 : a ≤ h.length) : Und h a a
  | step {a b : Nat} (h1 : 1 ≤ a) (h2 : a ≤ h.length) (h3 : hd h a ≠ 0) (u : Und h (hd h a) b) : Und h a b

theorem Tree.climbInd {h : List Int} (T : Tree h) {P : Nat → Prop} (h0 : P (top h)) (hs : ∀ w, 1 ≤ w → w ≤ h.length → hd h w ≠ 0 → P (hd h w) → P w) : ∀ w, 1 ≤ w → w ≤ h.length → P w := by
  have key : ∀ (d w : Nat), dep h w = d → 1 ≤ w → w ≤ h.length → P w := by
    intro d
    induction d with
    | zero =>
      intro w e h1 h2
      rw [(T.dep_zero h1 h2).1 e]; exact h0
    | succ d ih =>
      intro w e h1 h2
      have hne : hd h w ≠ 0 := fun e0 => by
        have := (T.dep_zero h1 h2).2 ((T.hd_zero h1 h2).1 e0)
        omega
      have := T.dep_step h1 h2 hne
      exact hs w h1 h2 hne (ih _ (by omega) (by omega) (T.hd_le h1 h2))
  intro w
  exact key _ w rfl

theorem Tree.fallInd {h : List Int} (T : Tree h) {P : Nat → Prop} (hs : ∀ w, 1 ≤ w → w ≤ h.length → (∀ c, 1 ≤ c → c ≤ h.length → hd h c = w → P c) → P w) : ∀ w, 1 ≤ w → w ≤ h.length → P w := by
  have key : ∀ (d w : Nat), h.length - dep h w ≤ d → 1 ≤ w → w ≤ h.length → P w := by
    intro d
    induction d with
    | zero =>
      intro w e h1 h2
      have := T.dep_lt h1 h2
      omega
    | succ d ih =>
      intro w e h1 h2
      refine hs w h1 h2 fun c hc1 hc2 hc => ih c ?_ hc1 hc2
      have := T.dep_step hc1 hc2 (by omega)
      rw [hc] at this
      have := T.dep_lt h1 h2
      omega
  intro w
  exact key _ w (Nat.le_refl _)

theorem Tree.hd_ne_top {h : List Int} (T : Tree h) {w : Nat} (h1 : 1 ≤ w) (h2 : w ≤ h.length) : hd h w ≠ 0 ↔ w ≠ top h := not_congr (T.hd_zero h1 h2)

theorem Tree.und_rng {h : List Int} (T : Tree h) {a b : Nat} (u : Und h a b) : (1 ≤ a ∧ a ≤ h.length) ∧ (1 ≤ b ∧ b ≤ h.length) := by
  induction u with
  | refl h1 h2 => exact ⟨⟨h1, h2⟩, h1, h2⟩
  | step h1 h2 h3 u ih => exact ⟨⟨h1, h2⟩, ih.2⟩

theorem Tree.und_hd {h : List Int} (T : Tree h) {a : Nat} (h1 : 1 ≤ a) (h2 : a ≤ h.length) (h3 : hd h a ≠ 0) : Und h a (hd h a) :=
  .step h1 h2 h3 (.refl (by omega) (T.hd_le h1 h2))

theorem Tree.und_top {h : List Int} (T : Tree h) {a : Nat} (h1 : 1 ≤ a) (h2 : a ≤ h.length) : Und h a (top h) :=
  T.climbInd (P := fun w => Und h w (top h)) (.refl (top_pos h) T.top_le) (fun w a b c d => .step a b c d) a h1 h2

theorem Tree.und_trans {h : List Int} (T : Tree h) {a b c : Nat} (u : Und h a b) (v : Und h b c) : Und h a c := by
  induction u with
  | refl => exact v
  | step h1 h2 h3 u ih => exact .step h1 h2 h3 (ih v)

theorem Tree.und_dep {h : List Int} (T : Tree h) {a b : Nat} (u : Und h a b) : dep h b ≤ dep h a ∧ (dep h b = dep h a → a = b) := by
  induction u with
  | refl => exact ⟨Nat.le_refl _, fun _ => rfl⟩
  | step h1 h2 h3 u ih =>
    have := T.dep_step h1 h2 h3
    exact ⟨by omega, fun e => by omega⟩

theorem Tree.und_anti {h : List Int} (T : Tree h) {a b : Nat} (u : Und h a b) (v : Und h b a) : a = b := by
  have h1 := T.und_dep u
  have h2 := T.und_dep v
  exact h1.2 (by omega)

theorem Tree.und_iff {h : List Int} (T : Tree h) {a b : Nat} (h1 : 1 ≤ a) (h2 : a ≤ h.length) : Und h a b ↔ a = b ∨ (hd h a ≠ 0 ∧ Und h (hd h a) b) := by
  constructor
  · intro u
    cases u with
    | refl => exact .inl rfl
    | step _ _ h3 u => exact .inr ⟨h3, u⟩
  · rintro (rfl | ⟨h3, u⟩)
    · exact .refl h1 h2
    · exact .step h1 h2 h3 u

theorem Tree.und_of_top {h : List Int} (T : Tree h) {b : Nat} (u : Und h (top h) b) : b = top h := by
  rcases (T.und_iff (top_pos h) T.top_le).1 u with e | ⟨e, _⟩
  · exact e.symm
  · exact absurd ((T.hd_zero (top_pos h) T.top_le).2 rfl) e

theorem Tree.und_lin {h : List Int} (T : Tree h) {a b c : Nat} (u : Und h a b) (v : Und h a c) : Und h b c ∨ Und h c b := by
  induction u with
  | refl => exact .inl v
  | step h1 h2 h3 u ih =>
    rcases (T.und_iff h1 h2).1 v with rfl | ⟨_, v'⟩
    · exact .inr (.step h1 h2 h3 u)
    · exact ih v'

theorem Tree.und_child {h : List Int} (T : Tree h) {a b : Nat} : Und h a b ↔ (a = b ∧ 1 ≤ a ∧ a ≤ h.length) ∨ (b ≠ 0 ∧ ∃ c, 1 ≤ c ∧ c ≤ h.length ∧ hd h c = b ∧ Und h a c) := by
  constructor
  · intro u
    induction u with
    | refl h1 h2 => exact .inl ⟨rfl, h1, h2⟩
    | step h1 h2 h3 u ih =>
      rcases ih with ⟨e, e2, _⟩ | ⟨hb, c, c1, c2, c3, c4⟩
      · exact .inr ⟨by omega, _, h1, h2, e, .refl h1 h2⟩
      · exact .inr ⟨hb, c, c1, c2, c3, .step h1 h2 h3 c4⟩
  · rintro (⟨rfl, h1, h2⟩ | ⟨hb, c, c1, c2, rfl, c4⟩)
    · exact .refl h1 h2
    · exact T.und_trans c4 (T.und_hd c1 c2 hb)

/-- A word is under just one of those that depend on another one. -/
theorem Tree.und_child_unique {h : List Int} (T : Tree h) {a b c d : Nat} (hb : b ≠ 0) (hc : hd h c = b) (hd' : hd h d = b) (u : Und h a c) (v : Und h a d) : c = d := by
  have one : ∀ c d, hd h c = b → hd h d = b → Und h c d → c = d := by
    intro c d hc hd' u
    have hr := T.und_rng u
    rcases (T.und_iff hr.1.1 hr.1.2).1 u with e | ⟨_, u'⟩
    · exact e
    · have h1 := T.und_dep u'
      have h2 := T.dep_step hr.2.1 hr.2.2 (by omega)
      rw [hd'] at h2
      rw [hc] at h1
      omega
  rcases T.und_lin u v with h1 | h1
  · exact one c d hc hd' h1
  · exact (one d c hd' hc h1).symm

end Go.Rv
