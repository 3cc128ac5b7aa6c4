/-
  Plain mathematics: what the model of chapter 4 says. Conditions: none.
-/
import Derived.Test.YthhbbiielebblaaDoorMcn
import Derived.Test.YthhbbiielebblaaDoorMcd
import Derived.Test.YthhbbiielebblaaDoorMk
set_option linter.unusedVariables false
set_option linter.unusedSimpArgs false
namespace Go.Rv

theorem specIn_eq (a b c : Int) : spec_l1In a b c = some (decide (b ≤ a) && decide (a ≤ c)) := by
  unfold spec_l1In spec_l1In_n1
  by_cases h : b ≤ a
  · rw [decide_eq_true (show a ≥ b from h)]
    rfl
  · rw [decide_eq_false (show ¬ a ≥ b from h)]
    rfl

/-- How many flat trees there are, and rows; -1 for none. -/
def cntI (n : Int) : Int := if 1 ≤ n ∧ n ≤ 6 then (flatT n.toNat : Int) else -1
def rowI (n : Int) : Int := if 0 ≤ n ∧ n ≤ 6 then (rowsT n.toNat : Int) else -1

theorem specFlatN {n : Nat} (h : n ≤ 6) : spec_l4Flat (n : Int) = some (flatT n : Int) := by
  have := List.all_eq_true.mp specFlatT n (by simp only [List.mem_range]; omega)
  simpa using this
theorem specRowsN {n : Nat} (h : n ≤ 6) : spec_l4Rows (n : Int) = some (rowsT n : Int) := by
  have := List.all_eq_true.mp specRowsT n (by simp only [List.mem_range]; omega)
  simpa using this

theorem specCountFlat_eq (n : Int) : spec_CountFlat n = some (cntI n) := by
  unfold spec_CountFlat spec_CountFlat_n1 cntI
  rw [specIn_eq]
  by_cases h : 1 ≤ n ∧ n ≤ 6
  · obtain ⟨k, rfl⟩ : ∃ k : Nat, n = (k : Int) := ⟨n.toNat, by omega⟩
    rw [decide_eq_true h.1, decide_eq_true h.2, if_pos h]
    simp only [Option.bind_some, Bool.and_self, Bool.not_true, cond_false, specFlatN (n := k) (by omega), Int.toNat_natCast]
  · rw [if_neg h]
    have : (decide (1 ≤ n) && decide (n ≤ 6)) = false := by
      rw [Bool.eq_false_iff]
      intro x
      simp only [Bool.and_eq_true, decide_eq_true_eq] at x
      exact h x
    rw [this]
    rfl

/-- Whether there is a flat tree of that many words with that number. -/
def atB (n k : Int) : Prop := (1 ≤ n ∧ n ≤ 6) ∧ 0 ≤ k ∧ k < (flatT n.toNat : Int)
instance (n k : Int) : Decidable (atB n k) := by unfold atB; infer_instance
def atS (n k : Int) : Bool × List Int := if atB n k then (true, (treeS n.toNat k.toNat).getD []) else (false, [])

theorem flatT_le (n : Nat) : flatT n ≤ 728 := by unfold flatT; split <;> omega

theorem specAt_eq (n k : Int) : spec_FlatAt n k = some (atS n k) := by
  unfold spec_FlatAt spec_FlatAt_n1 atS
  rw [specIn_eq]
  by_cases h : 1 ≤ n ∧ n ≤ 6
  · obtain ⟨m, rfl⟩ : ∃ k : Nat, n = (k : Int) := ⟨n.toNat, by omega⟩
    have := flatT_le m
    rw [decide_eq_true h.1, decide_eq_true h.2]
    simp only [Option.bind_some, Bool.and_self, Bool.not_true, cond_false, specFlatN (n := m) (by omega), specIn_eq]
    rw [wrap64 (by omega) (by omega)]
    by_cases hk : 0 ≤ k ∧ k ≤ (flatT m : Int) - 1
    · obtain ⟨j, rfl⟩ : ∃ j : Nat, k = (j : Int) := ⟨k.toNat, by omega⟩
      have b : atB (m : Int) (j : Int) := ⟨h, hk.1, by simp only [Int.toNat_natCast]; omega⟩
      obtain ⟨t, ht, _⟩ := at_ok (n := m) (k := j) (by omega) (by omega) (by omega)
      rw [decide_eq_true hk.1, decide_eq_true hk.2, if_pos b]
      simp only [Bool.and_self, Bool.not_true, cond_false, Int.toNat_natCast, ht, Option.getD_some]
      have hm : mk (m : Int) (m : Int) = some m := by unfold mk; rw [if_pos (by omega)]; rfl
      rw [hm, spec4Tree_eq]
      simp only [Option.bind_some]
      unfold treeS at ht
      rw [ht]
      rfl
    · have b : ¬ atB (m : Int) k := by
        rintro ⟨_, h1, h2⟩
        simp only [Int.toNat_natCast] at h2
        exact hk ⟨h1, by omega⟩
      rw [if_neg b]
      have : (decide (0 ≤ k) && decide (k ≤ (flatT m : Int) - 1)) = false := by
        rw [Bool.eq_false_iff]
        intro x
        simp only [Bool.and_eq_true, decide_eq_true_eq] at x
        exact hk x
      rw [this]
      rfl
  · have b : ¬ atB n k := fun x => h x.1
    rw [if_neg b]
    have : (decide (1 ≤ n) && decide (n ≤ 6)) = false := by
      rw [Bool.eq_false_iff]
      intro x
      simp only [Bool.and_eq_true, decide_eq_true_eq] at x
      exact h x
    rw [this]
    rfl

/-- The number of a flat tree; -1 for none. -/
noncomputable def placeI (h : List Int) : Int := if flatI h = true ∧ h.length ≤ 6 then (rankS h).getD 0 else -1

theorem flatI_iff {h : List Int} : flatI h = true ↔ Tree h ∧ FlatP h := by
  unfold flatI
  rw [Bool.and_eq_true, tree_iff, flatB_iff]

theorem specPlace_eq (h : List Int) (hl : h.length ≤ 1048576) : spec_PlaceOf h = some (placeI h) := by
  unfold spec_PlaceOf spec_PlaceOf_n1 placeI
  rw [specFlat_eq h hl]
  cases f : flatI h with
  | false => simp
  | true =>
    obtain ⟨T, F⟩ := flatI_iff.mp f
    simp only [Option.bind_some, Bool.not_true, cond_false, true_and]
    by_cases l : h.length ≤ 6
    · obtain ⟨k, hk, hr, _⟩ := place_ok T F l
      rw [decide_eq_false (by omega), if_pos l, specRoot_eq h hl, spec4Rank_eq]
      unfold rankS at hr ⊢
      have : rootI h = (top h : Int) := by unfold rootI; rw [(tree_iff h).mpr T]; rfl
      simp only [cond_false, Option.bind_some, this, hr, Option.getD_some]
    · rw [decide_eq_true (by omega), if_neg l]
      rfl

/-- The draw. -/
theorem drawn_at (x : List Int) (w : ∀ n ∈ x, (Lit.int .u8 n).wf = true) (l : x.length ≤ maxLen) :
    ∃ n k : Int, spec_DrawFlatAt x = some (n, k) ∧ -100 ≤ n ∧ n ≤ 100 ∧ -100000 ≤ k ∧ k ≤ 100000 := by
  obtain ⟨b, hb, hB⟩ := open_ok x w l
  obtain ⟨v1, h1, a1, b1, _⟩ := pick_ok hB 5 (by omega) (p := 0) (by omega) (by omega)
  obtain ⟨v2, h2, a2, b2, _⟩ := pick_ok hB 20 (by omega) (p := 0 + 1) (by omega) (by omega)
  obtain ⟨q2, hq2, c2, d2⟩ := quo_ok (a := v2) (b := 19) (by omega) a2 (by omega)
  have e1 : IntKind.wrap .i64 (IntKind.wrap .i64 (1 + v1) + IntKind.wrap .i64 (q2 * 2)) = 1 + v1 + q2 * 2 := by
    rw [wrap64 (x := 1 + v1) (by omega) (by omega), wrap64 (x := q2 * 2) (by omega) (by omega), wrap64 (by omega) (by omega)]
  have hc := specCountFlat_eq (1 + v1 + q2 * 2)
  have hc1 : -1 ≤ cntI (1 + v1 + q2 * 2) ∧ cntI (1 + v1 + q2 * 2) ≤ 728 := by
    unfold cntI
    have := flatT_le (1 + v1 + q2 * 2).toNat
    split <;> omega
  have hm : imax (cntI (1 + v1 + q2 * 2)) 1 ≤ 728 ∧ 1 ≤ imax (cntI (1 + v1 + q2 * 2)) 1 := by unfold imax; split <;> omega
  obtain ⟨v3, h3, a3, b3, _⟩ := pick_ok hB (imax (cntI (1 + v1 + q2 * 2)) 1) (by omega) (p := 0 + 1 + 1) (by omega) (by omega)
  obtain ⟨v4, h4, a4, b4, _⟩ := pick_ok hB 30 (by omega) (p := 0 + 1 + 1 + 1) (by omega) (by omega)
  obtain ⟨q4, hq4, c4, d4⟩ := quo_ok (a := v4) (b := 29) (by omega) a4 (by omega)
  obtain ⟨v5, h5, a5, b5, _⟩ := pick_ok hB 30 (by omega) (p := 0 + 1 + 1 + 1 + 1) (by omega) (by omega)
  obtain ⟨q5, hq5, c5, d5⟩ := quo_ok (a := v5) (b := 29) (by omega) a5 (by omega)
  have b1 := b1 (by omega)
  have b2 := b2 (by omega)
  have b3 := b3 (by omega)
  have b4 := b4 (by omega)
  have b5 := b5 (by omega)
  refine ⟨1 + v1 + q2 * 2, v3 - q4 * 200 + q5 * 900, ?_, by omega, by omega, by omega, by omega⟩
  unfold spec_DrawFlatAt spec_DrawFlatAt_n1
  simp only [hb, Option.bind_some, h1, h2, hq2, e1, hc, h3, h4, hq4, h5, hq5]
  rw [wrap64 (x := q4 * 200) (by omega) (by omega), wrap64 (x := q5 * 900) (by omega) (by omega), wrap64 (x := v3 - q4 * 200) (by omega) (by omega), wrap64 (by omega) (by omega)]

end Go.Rv
