/-
  Plain mathematics: the most gaps, and yields that go by turns, as the model has them. Conditions: none.
-/
import Derived.Test.YtgnjabkkcglmkaaDoorMgc
import Derived.Test.YtgnjabkkcglmkaaDoorMci
set_option linter.unusedVariables false
set_option linter.unusedSimpArgs false
namespace Go.Rv

noncomputable def mostK (h : List Int) (k : Nat) : Nat := (List.range k).foldl (fun m i => max m (endsN (ymask h (i + 1)))) 0
noncomputable def mostI (h : List Int) : Int := if treeB h then (mostK h h.length : Int) - 1 else -1

theorem mostK_succ (h : List Int) (k : Nat) : mostK h (k + 1) = max (mostK h k) (endsN (ymask h (k + 1))) := by
  simp [mostK, List.range_succ]

theorem mostK_le (h : List Int) : ∀ k, mostK h k ≤ 8
  | 0 => by simp [mostK]
  | k + 1 => by
    have := mostK_le h k
    have := endsN_le8 (ymask h (k + 1))
    rw [mostK_succ]
    omega

theorem mostK_iff (h : List Int) (b : Nat) : ∀ k, mostK h k ≤ b ↔ ∀ i, i < k → endsN (ymask h (i + 1)) ≤ b
  | 0 => by simp [mostK]
  | k + 1 => by
    rw [mostK_succ, Nat.max_le, mostK_iff h b k]
    constructor
    · rintro ⟨h1, h2⟩ i hi
      by_cases e : i = k
      · rw [e]
        exact h2
      · exact h1 i (by omega)
    · intro x
      exact ⟨fun i hi => x i (by omega), x k (by omega)⟩

theorem specMost_eq (h : List Int) : spec_MostGaps h = some (mostI h) := by
  have e : spec_MostGaps h = spec_MostGaps_n9 h := by unfold spec_MostGaps; rfl
  rw [e]
  unfold spec_MostGaps_n9 spec_MostGaps_n1 spec_MostGaps_n8 spec_MostGaps_n6 spec_MostGaps_n2 spec_MostGaps_n5 spec_MostGaps_n4 mostI
  simp only [Option.bind_some]
  cases hT : treeB h with
  | false =>
    have hloop := nloop_to (body := fun (s : Int × Int) => ((spec_MostGaps_n3 h s.1 s.2).map (Sum.elim (fun (t : Int × Int) => Sum.inl (t.1, t.2)) (fun (t : Int) => Sum.inr t)) : Option ((Int × Int) ⊕ (Int))))
      (fun _ => ((-1 : Int), (1 : Int))) 0 (-1) (fun k hk => by omega)
      (by
        simp only [spec_MostGaps_n3, specTree_eq, hT]
        cases decide ((1 : Int) ≤ ((h.length : Nat) : Int)) <;> rfl) LL (by simp only [LL]; omega)
    rw [hloop]
    rfl
  | true =>
    have T := (tree_iff h).mp hT
    have hle := T.le
    have hloop := nloop_to (body := fun (s : Int × Int) => ((spec_MostGaps_n3 h s.1 s.2).map (Sum.elim (fun (t : Int × Int) => Sum.inl (t.1, t.2)) (fun (t : Int) => Sum.inr t)) : Option ((Int × Int) ⊕ (Int))))
      (fun k => ((mostK h k : Int) - 1, ((k + 1 : Nat) : Int))) h.length ((mostK h h.length : Int) - 1)
      (by
        intro k hk
        have g : gapsI h ((k + 1 : Nat) : Int) = (endsN (ymask h (k + 1)) : Int) - 1 := by
          unfold gapsI
          rw [if_pos (wordB_iff.2 ⟨k + 1, rfl, T, by omega, by omega⟩), Int.toNat_natCast]
        have m : imax ((mostK h k : Int) - 1) ((endsN (ymask h (k + 1)) : Int) - 1) = (mostK h (k + 1) : Int) - 1 := by
          rw [mostK_succ]
          unfold imax
          split <;> omega
        simp only [spec_MostGaps_n3, specTree_eq, hT, specGaps_eq, g, Option.bind_some, m]
        rw [decide_eq_true (show ((k + 1 : Nat) : Int) ≤ ((h.length : Nat) : Int) by omega), wrap64 (by omega) (by omega)]
        rfl)
      (by
        simp only [spec_MostGaps_n3]
        rw [decide_eq_false (show ¬ ((h.length + 1 : Nat) : Int) ≤ ((h.length : Nat) : Int) by omega)]
        rfl) LL (by simp only [LL]; omega)
    have hloop' := hloop
    rw [show ((mostK h 0 : Int) - 1) = -1 from rfl, show ((0 + 1 : Nat) : Int) = 1 from rfl] at hloop'
    rw [hloop']
    rfl

/-! The most gaps, and what they say -/

theorem most_flat {h : List Int} (T : Tree h) : mostK h h.length ≤ 1 ↔ FlatP h := by
  rw [← flatB_iff, flat_rows T, mostK_iff, List.all_eq_true]
  constructor
  · intro x i hi
    exact (ends_row (ymask_lt T.le _)).mpr (x i (by simpa using hi))
  · intro x i hi
    exact (ends_row (ymask_lt T.le _)).mp (x i (by simpa using hi))

theorem most_pos {h : List Int} (T : Tree h) : 1 ≤ mostK h h.length := by
  have hp := T.pos
  have := (mostK_iff h 0 h.length).mp
  by_cases e : mostK h h.length ≤ 0
  · have := this e 0 (by omega)
    have := ends_pos (ymask_lt T.le (0 + 1)) (ymask_pos T (by omega) (by omega))
    omega
  · omega

theorem most_two {h : List Int} (T : Tree h) (N : crossN h = 0) : mostK h h.length ≤ 2 := by
  rw [mostK_iff]
  intro i hi
  refine Classical.byContradiction fun c => ?_
  obtain ⟨a, x, b, y, d, h1, h2, h3, h4, h5, ta, tx, tb, ty, td⟩ := ends_three (ymask_lt T.le _) c
  rw [ymask_bit T] at ta tx tb ty td
  have td' := T.und_rng (undB_iff.mp td)
  have nt : i + 1 ≠ top h := by
    intro e
    have := T.und_top (a := x + 1) (by omega) (by omega)
    rw [← e] at this
    rw [undB_iff.mpr this] at tx
    cases tx
  have nx : ¬ Und h (x + 1) (i + 1) := fun u => by
    rw [undB_iff.mpr u] at tx
    cases tx
  have ny : ¬ Und h (y + 1) (i + 1) := fun u => by
    rw [undB_iff.mpr u] at ty
    cases ty
  exact no_turns T ((arcs_pairs T).mp N) (T.conn_und (k := i + 1) (by omega) (by omega)) (T.conn_rest nt) (fun w u v => v.2.2 u)
    (undB_iff.mp ta) ⟨by omega, by omega, nx⟩ (undB_iff.mp tb) ⟨by omega, by omega, ny⟩ (by omega) (by omega) (by omega)

/-! Yields by turns -/

noncomputable def nestK (h : List Int) (i : Nat) : Bool := (List.range i).all fun j => !turnsI h ((i + 1 : Nat) : Int) ((j + 1 : Nat) : Int)
noncomputable def nestI (h : List Int) : Bool := (List.range h.length).all (nestK h) && treeB h

theorem specNested_eq (h : List Int) (hl : h.length ≤ 1048576) : spec_NestedOk h = some (nestI h) := by
  have e : spec_NestedOk h = spec_NestedOk_n18 h := by unfold spec_NestedOk; rfl
  rw [e]
  unfold spec_NestedOk_n18 spec_NestedOk_n1 spec_NestedOk_n17 spec_NestedOk_n15 spec_NestedOk_n2 spec_NestedOk_n14 spec_NestedOk_n13 spec_NestedOk_n16 nestI
  simp only [Option.bind_some]
  have inner : ∀ i, i < h.length → spec_NestedOk_n6 h ((i + 1 : Nat) : Int) = some (if nestK h i then Sum.inr () else Sum.inl false) := by
    intro i hi
    unfold spec_NestedOk_n6
    have := nloop_while (body := fun (s : Int) => ((spec_NestedOk_n5 h ((i + 1 : Nat) : Int) s).map (Sum.elim (fun (t : Int) => Sum.inl t) (Sum.elim (fun (t : Bool) => Sum.inr (Sum.inl t)) (fun (t : Unit) => Sum.inr (Sum.inr t)))) : Option ((Int) ⊕ (Bool ⊕ Unit))))
      (fun k => ((k + 1 : Nat) : Int)) i (fun j => !turnsI h ((i + 1 : Nat) : Int) ((j + 1 : Nat) : Int)) (fun b => if b then Sum.inr () else Sum.inl false)
      (by
        intro k hk p
        have p : turnsI h ((i + 1 : Nat) : Int) ((k + 1 : Nat) : Int) = false := by simpa using p
        simp only [spec_NestedOk_n5, specTurns_eq, p]
        rw [decide_eq_true (show ((k + 1 : Nat) : Int) < ((i + 1 : Nat) : Int) by omega), wrap64 (by omega) (by omega)]
        rfl)
      (by
        intro k hk p
        have p : turnsI h ((i + 1 : Nat) : Int) ((k + 1 : Nat) : Int) = true := by simpa using p
        simp only [spec_NestedOk_n5, specTurns_eq, p]
        rw [decide_eq_true (show ((k + 1 : Nat) : Int) < ((i + 1 : Nat) : Int) by omega)]
        rfl)
      (by
        simp only [spec_NestedOk_n5]
        rw [decide_eq_false (show ¬ ((i + 1 : Nat) : Int) < ((i + 1 : Nat) : Int) by omega)]
        rfl) LL (by simp only [LL]; omega)
    exact this
  have outer := nloop_while (body := fun (s : Int) => ((spec_NestedOk_n12 h s).map (Sum.elim (fun (t : Int) => Sum.inl t) (Sum.elim (fun (t : Bool) => Sum.inr (Sum.inl t)) (fun (t : Unit) => Sum.inr (Sum.inr t)))) : Option ((Int) ⊕ (Bool ⊕ Unit))))
    (fun k => ((k + 1 : Nat) : Int)) h.length (nestK h) (fun b => if b then Sum.inr () else Sum.inl false)
    (by
      intro k hk p
      simp only [spec_NestedOk_n12, spec_NestedOk_n3]
      rw [decide_eq_true (show ((k + 1 : Nat) : Int) ≤ ((h.length : Nat) : Int) by omega)]
      simp only [cond_true, Option.bind_some, Sum.elim_inl]
      unfold spec_NestedOk_n11 spec_NestedOk_n9 spec_NestedOk_n8 spec_NestedOk_n4 spec_NestedOk_n7 spec_NestedOk_n10
      simp only [Option.bind_some]
      rw [inner k hk, p, wrap64 (by omega) (by omega)]
      rfl)
    (by
      intro k hk p
      simp only [spec_NestedOk_n12, spec_NestedOk_n3]
      rw [decide_eq_true (show ((k + 1 : Nat) : Int) ≤ ((h.length : Nat) : Int) by omega)]
      simp only [cond_true, Option.bind_some, Sum.elim_inl]
      unfold spec_NestedOk_n11 spec_NestedOk_n9 spec_NestedOk_n8 spec_NestedOk_n4 spec_NestedOk_n7
      simp only [Option.bind_some]
      rw [inner k hk, p]
      rfl)
    (by
      simp only [spec_NestedOk_n12, spec_NestedOk_n3]
      rw [decide_eq_false (show ¬ ((h.length + 1 : Nat) : Int) ≤ ((h.length : Nat) : Int) by omega)]
      rfl) LL (by simp only [LL]; omega)
  have outer' := outer
  rw [show ((0 + 1 : Nat) : Int) = 1 from rfl] at outer'
  rw [outer', specTree_eq]
  cases (List.range h.length).all (nestK h) <;> rfl

end Go.Rv
