/-
  Plain mathematics: the machine with a stack, its runs, and the run by the rule. Conditions: none.
-/
import Derived.Test.YtiokdplogigiaaaMgj
set_option linter.unusedVariables false
set_option linter.unusedSimpArgs false
namespace Go.Rv

abbrev Conf := Nat × List Nat × List Int

/-- One move, by its letter. -/
def stepM (n m : Nat) (c : Conf) : Option Conf :=
  if m = 83 then (if c.1 ≤ n then some (c.1 + 1, c.1 :: c.2.1, c.2.2) else none) else
  match c.2.1 with
  | s :: t :: rest => if m = 76 then some (c.1, s :: rest, c.2.2.set (t - 1) (s : Int)) else if m = 82 then some (c.1, t :: rest, c.2.2.set (s - 1) (t : Int)) else none
  | _ => none

def runM (n : Nat) : List Nat → Conf → Option Conf
  | [], c => some c
  | m :: ms, c => (stepM n m c).bind (runM n ms)

/-- What holds of a state of the machine. -/
structure RInv (n : Nat) (c : Conf) : Prop where
  base : MInv n c.1 c.2.1 c.2.2
  unread : ∀ w, c.1 ≤ w → w ≤ n → hd c.2.2 w = 0

theorem RInv.start (n : Nat) : RInv n (1, [], List.replicate n 0) where
  base := MInv.start n
  unread := fun w h1 h2 => by
    unfold hd
    simp [List.getD, List.getElem?_replicate]
    split <;> simp

theorem RInv.push {n i : Nat} {st : List Nat} {h : List Int} (R : RInv n (i, st, h)) (hi : i ≤ n) : RInv n (i + 1, i :: st, h) where
  base := R.base.shift hi (R.unread i (Nat.le_refl _) hi)
  unread := fun w h1 h2 => R.unread w (by simp only at h1 ⊢; omega) h2

theorem RInv.arc {n i s t : Nat} {rest : List Nat} {h : List Int} (R : RInv n (i, s :: t :: rest, h)) {a g : Nat} (c : (a = t ∧ g = s) ∨ (a = s ∧ g = t)) : RInv n (i, g :: rest, h.set (a - 1) (g : Int)) where
  base := R.base.arc c
  unread := fun w h1 h2 => by
    have M := R.base
    have rs := M.rng s (List.mem_cons_self ..)
    have rt := M.rng t (List.mem_cons_of_mem _ (List.mem_cons_self ..))
    have hl := M.len
    have hi := M.hi
    simp only at rs rt hl hi h1 ⊢
    have ra : 1 ≤ a ∧ a < i := by rcases c with ⟨rfl, _⟩ | ⟨rfl, _⟩ <;> omega
    rw [hd_set ra.1 (by omega) g w (by omega), if_neg (by omega)]
    exact R.unread w h1 h2

theorem step_ok {n m : Nat} {c c' : Conf} (R : RInv n c) (e : stepM n m c = some c') : RInv n c' ∧ 2 * c'.1 + c.2.1.length = 2 * c.1 + c'.2.1.length + 1 := by
  obtain ⟨i, st, h⟩ := c
  unfold stepM at e
  simp only at e
  by_cases m1 : m = 83
  · rw [if_pos m1] at e
    by_cases hi : i ≤ n
    · rw [if_pos hi] at e
      injection e with e
      subst e
      exact ⟨R.push hi, by simp only [List.length_cons]; omega⟩
    · rw [if_neg hi] at e
      cases e
  · rw [if_neg m1] at e
    split at e
    · rename_i s t rest
      by_cases m2 : m = 76
      · rw [if_pos m2] at e
        injection e with e
        subst e
        exact ⟨R.arc (.inl ⟨rfl, rfl⟩), by simp only [List.length_cons]; omega⟩
      · rw [if_neg m2] at e
        by_cases m3 : m = 82
        · rw [if_pos m3] at e
          injection e with e
          subst e
          exact ⟨R.arc (.inr ⟨rfl, rfl⟩), by simp only [List.length_cons]; omega⟩
        · rw [if_neg m3] at e
          cases e
    · cases e

theorem run_inv {n : Nat} : ∀ {ms : List Nat} {c c' : Conf}, RInv n c → runM n ms c = some c' → RInv n c' ∧ 2 * c'.1 + c.2.1.length = 2 * c.1 + c'.2.1.length + ms.length
  | [], c, c', R, e => by
    unfold runM at e
    injection e with e
    subst e
    exact ⟨R, by simp only [List.length_nil]; omega⟩
  | m :: ms, c, c', R, e => by
    unfold runM at e
    obtain ⟨d, e1, e2⟩ := Option.bind_eq_some_iff.mp e
    have a := step_ok R e1
    have b := run_inv a.1 e2
    exact ⟨b.1, by simp only [List.length_cons]; omega⟩

/-- A way of the machine tells a flat tree, and how many moves it has. -/
theorem run_flat {n r : Nat} {ms : List Nat} {h : List Int} (n8 : n ≤ 8) (e : runM n ms (1, [], List.replicate n 0) = some (n + 1, [r], h)) :
    Tree h ∧ FlatP h ∧ top h = r ∧ h.length = n ∧ ms.length + 1 = 2 * n := by
  have a := run_inv (RInv.start n) e
  have b := a.1.base.tree n8
  have c := a.2
  simp only [List.length_nil, List.length_cons] at c
  exact ⟨b.1, b.2.1, b.2.2, a.1.base.len, by omega⟩

/-! The rule -/

open Classical in
/-- The move by the rule. -/
noncomputable def ruleM (H : List Int) (i : Nat) (st : List Nat) : Nat :=
  match st with
  | s :: t :: rest => if hd H t = s ∧ LeafU H i (s :: t :: rest) t then 76 else if hd H s = t ∧ LeafU H i (s :: t :: rest) s then 82 else 83
  | _ => 83

/-- So many moves by the rule. -/
noncomputable def goM (H : List Int) : Nat → Conf → Option (List Nat × Conf)
  | 0, c => some ([], c)
  | k + 1, c => (stepM H.length (ruleM H c.1 c.2.1) c).bind fun d => (goM H k d).map fun r => (ruleM H c.1 c.2.1 :: r.1, r.2)

theorem go_run {H : List Int} : ∀ {k : Nat} {c c' : Conf} {ms : List Nat}, goM H k c = some (ms, c') → runM H.length ms c = some c' ∧ ms.length = k
  | 0, c, c', ms, e => by
    unfold goM at e
    injection e with e
    injection e with e1 e2
    subst e1 e2
    exact ⟨rfl, rfl⟩
  | k + 1, c, c', ms, e => by
    unfold goM at e
    obtain ⟨d, e1, e2⟩ := Option.bind_eq_some_iff.mp e
    obtain ⟨r, e3, e4⟩ := Option.map_eq_some_iff.mp e2
    injection e4 with e5 e6
    subst e5 e6
    have := go_run e3
    refine ⟨?_, by simp [this.2]⟩
    unfold runM
    rw [e1]
    exact this.1

structure ORInv (H : List Int) (c : Conf) : Prop where
  o : OInv H c.1 c.2.1 c.2.2
  unread : ∀ w, c.1 ≤ w → w ≤ H.length → hd c.2.2 w = 0

theorem ORInv.done {H : List Int} (T : Tree H) {r : Nat} {h : List Int} (O : ORInv H (H.length + 1, [r], h)) : h = H := by
  have M := O.o.base
  have hl := M.len
  have rr := M.rng r (List.mem_cons_self ..)
  simp only at rr hl
  have r0 : hd H r = 0 := by
    refine Classical.byContradiction fun z => ?_
    have := O.o.clos r rr.1 (by omega) (.inl (List.mem_cons_self ..)) z
    have hle := T.hd_le rr.1 (by omega)
    rcases this with q | q
    · rw [List.mem_singleton] at q
      exact T.hd_other rr.1 (by omega) q
    · simp only at q
      omega
  apply List.ext_getElem hl
  intro k h1 h2
  have g1 := M.get (w := k + 1) (by omega) (by omega)
  have g2 := T.get (w := k + 1) (by omega) (by omega)
  rw [show k + 1 - 1 = k by omega, List.getElem?_eq_getElem h1] at g1
  rw [show k + 1 - 1 = k by omega, List.getElem?_eq_getElem h2] at g2
  injection g1 with g1
  injection g2 with g2
  rw [g1, g2]
  by_cases e : k + 1 = r
  · rw [e, r0, rr.2.2]
  · rw [O.o.agree (k + 1) (by omega) (by simp only; omega) (by simpa using e)]

theorem rule_step {H : List Int} (T : Tree H) (F : FlatP H) {c : Conf} (O : ORInv H c) (nf : ¬ (c.1 = H.length + 1 ∧ c.2.1.length = 1)) :
    ∃ d, stepM H.length (ruleM H c.1 c.2.1) c = some d ∧ ORInv H d ∧ 2 * d.1 + c.2.1.length = 2 * c.1 + d.2.1.length + 1 := by
  obtain ⟨i, st, h⟩ := c
  have R : RInv H.length (i, st, h) := ⟨O.o.base, O.unread⟩
  have hi := O.o.base.hi
  have hp := T.pos
  simp only at hi nf
  have push : i ≤ H.length → (∀ y x q, st = y :: x :: q → Stuck H i st y x) → ∃ d, stepM H.length 83 (i, st, h) = some d ∧ ORInv H d ∧ 2 * d.1 + st.length = 2 * i + d.2.1.length + 1 := by
    intro le b
    refine ⟨(i + 1, i :: st, h), by simp [stepM, le], ⟨O.o.shift le (O.unread i (Nat.le_refl _) le) b, (R.push le).unread⟩, by simp only [List.length_cons]; omega⟩
  match st, O, R, nf, push with
  | [], O, R, nf, push =>
    have : i = 1 := O.o.base.ne rfl
    exact push (by omega) (fun y x q e => by cases e)
  | [s], O, R, nf, push =>
    refine push ?_ (fun y x q e => by cases e)
    refine Classical.byContradiction fun z => ?_
    exact nf ⟨by omega, rfl⟩
  | s :: t :: rest, O, R, nf, push =>
    simp only [ruleM]
    by_cases c1 : hd H t = s ∧ LeafU H i (s :: t :: rest) t
    · rw [if_pos c1]
      exact ⟨(i, s :: rest, h.set (t - 1) (s : Int)), by simp [stepM], ⟨O.o.arc (.inl ⟨rfl, rfl⟩) c1.1 c1.2, (R.arc (.inl ⟨rfl, rfl⟩)).unread⟩, by simp only [List.length_cons]; omega⟩
    · rw [if_neg c1]
      by_cases c2 : hd H s = t ∧ LeafU H i (s :: t :: rest) s
      · rw [if_pos c2]
        exact ⟨(i, t :: rest, h.set (s - 1) (t : Int)), by simp [stepM], ⟨O.o.arc (.inr ⟨rfl, rfl⟩) c2.1 c2.2, (R.arc (.inr ⟨rfl, rfl⟩)).unread⟩, by simp only [List.length_cons]; omega⟩
      · rw [if_neg c2]
        refine push ?_ ?_
        · refine Classical.byContradiction fun q => ?_
          have e : i = H.length + 1 := by omega
          subst e
          rcases O.o.move T F with z | z
          · exact c1 z
          · exact c2 z
        · intro y x q e
          rw [List.cons.injEq, List.cons.injEq] at e
          obtain ⟨e1, e2, e3⟩ := e
          subst e1 e2 e3
          exact ⟨c1, c2⟩

theorem rule_all {H : List Int} (T : Tree H) (F : FlatP H) : ∀ (k : Nat) (c : Conf), ORInv H c → 2 * c.1 + k = 2 * H.length + 1 + c.2.1.length → ∃ ms, goM H k c = some (ms, (H.length + 1, [top H], H))
  | 0, c, O, e => by
    obtain ⟨i, st, h⟩ := c
    have hi := O.o.base.hi
    have hp := T.pos
    simp only at e hi
    obtain ⟨m, ρ, em, _⟩ := O.o.base.rank
    simp only at em
    have hne : st ≠ [] := fun z => by
      have := O.o.base.ne z
      simp only at this
      rw [z] at e
      simp only [List.length_nil] at e
      omega
    have lp : 1 ≤ st.length := List.length_pos_iff.mpr hne
    have e1 : i = H.length + 1 := by omega
    have e2 : st.length = 1 := by omega
    obtain ⟨r, rfl⟩ := List.length_eq_one_iff.mp e2
    subst e1
    have eH := O.done T
    subst eH
    have := O.o.base.tree T.le
    exact ⟨[], by rw [goM, this.2.2]⟩
  | k + 1, c, O, e => by
    have nf : ¬ (c.1 = H.length + 1 ∧ c.2.1.length = 1) := by
      rintro ⟨a, b⟩
      omega
    obtain ⟨d, e1, O', e2⟩ := rule_step T F O nf
    obtain ⟨ms, e3⟩ := rule_all T F k d O' (by omega)
    refine ⟨ruleM H c.1 c.2.1 :: ms, ?_⟩
    unfold goM
    rw [e1]
    simp only [Option.bind_some, e3, Option.map_some]

/-- The rule tells each flat tree. -/
theorem rule_flat {H : List Int} (T : Tree H) (F : FlatP H) : ∃ ms, goM H (2 * H.length - 1) (1, [], List.replicate H.length 0) = some (ms, (H.length + 1, [top H], H)) :=
  rule_all T F _ _ ⟨OInv.start H T, (RInv.start H.length).unread⟩ (by
    have := T.pos
    simp only [List.length_nil]
    omega)

end Go.Rv
